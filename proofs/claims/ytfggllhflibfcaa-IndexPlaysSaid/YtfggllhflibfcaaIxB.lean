/- index: move. -/
import Derived.Test.YtfggllhflibfcaaIxA
namespace Go.Proofs.Ytfggllhflibfcaa
open Go.RowKit Go.Maps

theorem wp_delete_own {H : Type} {P : Program} {w : World} {o : Oper} {a : Act} {K : Act → World → Prop} {Q : Exit → Act → World → Prop} (m x : Operand) (t k : TypeId) (hop : o.op = Op.call { callee := Callee.builtin Builtin.delete, args := #[m, x], argTypes := #[t, k] })
    (e : TypeId) (K' : Keyed P k) (ht : P.underlying t = some (.map k e)) (R : Value → Option (DataW H × List MemPlace)) (b n : Nat) (D : DataW H)
    (hm : a.eval m = .map (some b)) (hown : w.ownsMap P k R b n D) (key : Value) (kl : Lit) (hx : a.eval x = key) (hkey : keyOf P k key = some kl)
    (hK : ∀ w', w'.ownsMap P k R b n (D.del kl) → w.mapTurned w' b → K (a.put o.dst (.tuple #[])) w') : o.wp P a w K Q := by
  obtain ⟨w', hrun, r1, r2⟩ := hown.drop K' ht hkey o.type
  unfold Oper.wp
  simp [execOp, hop, resolve, invoke, builtin, hm, hx, hrun, Result.andThen]
  exact hK _ r1 r2
theorem wp_update_own {H : Type} {P : Program} {w : World} {o : Oper} {a : Act} {K : Act → World → Prop} {Q : Exit → Act → World → Prop} (m x v : Operand) (t : TypeId) (hop : o.op = Op.mapUpdate t m x v)
    (k e : TypeId) (K' : Keyed P k) (ht : P.underlying t = some (.map k e)) (R : Value → Option (DataW H × List MemPlace)) (b n : Nat) (D : DataW H)
    (hm : a.eval m = .map (some b)) (hown : w.ownsMap P k R b n D) (hn : n < maxLen) (key val : Value) (kl : Lit) (hx : a.eval x = key) (hv : a.eval v = val) (hkey : keyOf P k key = some kl)
    (d : DataW H) (ps : List MemPlace) (hval : R val = some (d, ps))
    (hK : ∀ w', w'.ownsMap P k R b (n + 1) (D.put kl d) → w.mapTurned w' b → K (a.put o.dst undef) w') : o.wp P a w K Q := by
  obtain ⟨w', hrun, r1, r2⟩ := hown.store K' ht hn hkey hval
  unfold Oper.wp
  simp [execOp, hop, hm, hx, hv, hrun, Result.andThen]
  exact hK _ r1 r2
/-- behind move's writes: the index, moved -/
theorem ix_moved {w w5 w6 : World} {p g b cp m c : Nat} {S : Nat → Prop} {L : List Pl} {D : DataW Unit} {i : Nat} {p0 q : Pl} (h : IxV w p g b cp L m c D) (hSp : S p) (hSg : S g) (hSb : S b) (hSl : ∀ k, S k → k < w.heap.size) (hi : i < L.length) (ho : L[i]? = some p0)
    (hq : ∀ (x : Nat) (d : Bool), q = some (x, d) → ∀ (j : Nat) (e : Bool), L[j]? = some (some (x, e)) → j = i) (hm : ∀ (x : Nat) (d : Bool), q = some (x, d) → x < m) (hc : c < 100000) (hpg : ¬ p = g) (hgb : ¬ g = b) (hpb : ¬ p = b)
    (F5 : Fr (fun k => k = b) w w5) (hM : MapIn w5 b (c + 1) (mvPut (mvDel D p0) i q)) (h6 : w6 = ((w5.setCell ⟨g, i * 2, none⟩ (.int .i64 (plS q))).setCell ⟨g, i * 2 + 1, none⟩ (.bool (plD q))).drew) : Ix w6 p S (L.set i q) m (c + 1) ∧ Fr S w w6 := by
  have hrow := own_frk h.row F5 (fun k hk => by simp only [Value.ownBlock, Option.some.injEq] at hk; subst hk; exact hgb)
  obtain ⟨ho1, ho2⟩ := own_set hrow (fun x _ => plV_len x) q (plV_len q) i hi
  have h6' : w6 = (w5.setCells g (i * 2) (plV q)).drew := by rw [h6, plV_eq]; rfl
  have F6 : Fr (fun k => k = g) w5 w6 := by rw [h6']; exact ho2.drew
  have hgw : b < w5.heap.size := hM.lt
  have hll : (L.set i q).length = L.length := List.length_set
  refine ⟨⟨g, b, cp, _, ⟨?_, ?_, MapIn.blk hM (F6.block b hgw (fun e => hgb e.symm)), h.rep.move h.map.isMap h.uniq i p0 q ho hq, h.uniq.set i q hq, ?_, by rw [hll]; exact h.len, h.most, by omega⟩, hSp, hSg, hSb, fun k hk => F6.lt (F5.lt (hSl k hk))⟩, ?_⟩
  · rw [hll]
    exact (F6.block p (F5.lt (lt_of_block h.blk)) hpg).trans ((F5.block p (lt_of_block h.blk) hpb).trans h.blk)
  · rw [h6']; exact own_frk ho1 (Fr.refl No _).drew (fun _ _ => id)
  · intro j x d hj
    rw [List.getElem?_set] at hj
    split at hj
    · rename_i e
      try rw [if_pos (by omega)] at hj
      exact hm x d (by simpa using hj)
    · exact h.slot j x d hj
  · refine (F5.mono (fun k _ e => ?_)).trans (F6.mono (fun k _ e => ?_)) <;> (rw [e]; assumption)
theorem turned_fr {w w' : World} {b : Nat} (h : w.mapTurned w' b) : Fr (fun k => k = b) w w' := (Fr.refl (fun k => k = b) w).grown h.grown (fun k e _ => by cases e; rfl)

set_option maxRecDepth 100000 in
set_option maxHeartbeats 1000000 in
theorem ix_move_none_none (w : World) (p m c : Nat) (S : Nat → Prop) (L : List Pl) (h : Ix w p S L m c) (i : Nat) (hi : i < L.length) (ho : L[i] = none) (hc : c < 100000) :
    Calls Try.prog 41 #[.pointer (some ⟨p, 0, none⟩), .int .i64 (i : Int), .agg #[.int .i64 (-1), .bool false]] w fun e w' => e = .returned (.agg #[.int .i64 (-1), .bool false]) ∧ Ix w' p S (L.set i none) m (c + 1) ∧ Fr S w w' := by
  obtain ⟨g, b, cp, D, hV, hSp, hSg, hSb, hSl⟩ := h
  have HV := hid hV
  have hlen := hV.len.2
  have hmm := hV.most
  have hcnt := hV.cnt
  obtain ⟨c0, c1, _⟩ := hV.cells
  obtain ⟨a0, a1⟩ := hV.at i hi
  rw [ho] at a0 a1
  have HO : Hid (L[i]? = some (none)) := by unfold Hid; rw [List.getElem?_eq_getElem hi, ho]
  have hgl : g < w.heap.size := by obtain ⟨cs, hc⟩ := own_ty hV.row (by rfl); exact lt_of_block hc
  have hpl := lt_of_block hV.blk
  have HM := hid hV.map
  have HIL := hid hi
  have hbl := hV.map.lt
  clear hV ho
  obtain ⟨n, hn⟩ : ∃ n, L.length = n := ⟨_, rfl⟩
  have HN := hid hn
  rw [hn] at c0 hi hlen
  clear hn
  have hin : (i : Int) < (n : Int) := by omega
  simp only [plS, plD] at a0 a1
  have k0 := heap_new w (.cells #[.int .i64 (-1), .bool false] 44)
  have k1 := heap_new (w.alloc (.cells #[.int .i64 (-1), .bool false] 44)) (.cells #[.int .i64 0, .bool false] 44)
  have k2 := heap_new ((w.alloc (.cells #[.int .i64 (-1), .bool false] 44)).alloc (.cells #[.int .i64 0, .bool false] 44)) (.cells #[.int .i64 (-1), .bool false] 44)
  have hf1 := (Fr.refl No (w.alloc (.cells #[.int .i64 (-1), .bool false] 44))).alloc (.cells #[.int .i64 0, .bool false] 44)
  have hf2 := hf1.alloc (.cells #[.int .i64 (-1), .bool false] 44)
  have hf3 := (Fr.refl No ((w.alloc (.cells #[.int .i64 (-1), .bool false] 44)).alloc (.cells #[.int .i64 0, .bool false] 44))).alloc (.cells #[.int .i64 (-1), .bool false] 44)
  have k0' := (hf2.block w.heap.size (by simp) id).trans k0
  have k1' := (hf3.block _ (by simp) id).trans k1
  have hfa := ((Fr.refl No w).alloc (.cells #[.int .i64 (-1), .bool false] 44)).trans hf2
  simp only [World.size_alloc] at k1' k2
  clear k0 k1 hf1 hf2 hf3
  go_enter Try.func41, Try.ntmps41
  go_wp2_with fail
  generalize hWA : ((w.alloc (.cells #[.int .i64 (-1), .bool false] 44)).alloc (.cells #[.int .i64 0, .bool false] 44)).alloc (.cells #[.int .i64 (-1), .bool false] 44) = WA at k0' k1' k2 hfa ⊢
  generalize hB : w.heap.size = B at k0' k1' k2 ⊢
  have HB := hid hB
  clear hWA hB
  have HFA := hid hfa
  have HK0 := hid k0'
  have HK1 := hid k1'
  have HK2 := hid k2
  obtain ⟨s0, s1, _, _⟩ := blk2 k2
  clear hfa k0' k1' k2
  refine wp_region_held_drew (S := fun W => W.cell? ⟨B + 1 + 1, 0, none⟩ = some (.int .i64 (-1)) ∧ W.cell? ⟨B + 1 + 1, 1, none⟩ = some (.bool false)) (by kernel_rfl) ⟨s0, s1⟩ (fun hHeld => ?_)
  clear s0 s1
  refine wpAnyH_take (i := 0) (v := ?_) rfl (by kernel_rfl) (by kernel_rfl) (by kernel_rfl) (fun _ _ _ h => h) (Or.inl ⟨by rfl, ?_⟩) hHeld ?_
  rotate_left
  · intro w hSw; obtain ⟨s0, s1⟩ := hSw
    go_simp
    with_reducible rfl
  try simp only [Act.put, List.getElem_toArray, List.getElem_cons_zero, List.getElem_cons_succ, List.setIfInBounds_toArray, List.set_cons_zero, List.set_cons_succ]
  refine wpAnyH_ready (rs := [1]) (by kernel_rfl) (by simp) ?_
  refine AllReadyH.cons rfl (fun K hK => ?_) AllReadyH.nil
  rw [if_pos (by rfl)]
  go_simp
  refine (ix_nowhere _).mono ?_
  rintro e w2 ⟨rfl, hF⟩
  have HF2 := hid ((Fr.refl No WA).drew.trans hF)
  have HL2 := hid ((HF2.out.block (B + 1 + 1) (lt_of_block HK2.out) id).trans HK2.out)
  obtain ⟨s0, s1, _, _⟩ := blk2 HL2.out
  refine hK.out _ _ ⟨s0, s1⟩ (fun hHeld => ?_)
  clear hK K hF
  try simp only [Act.put, List.getElem_toArray, List.getElem_cons_zero, List.getElem_cons_succ, List.setIfInBounds_toArray, List.set_cons_zero, List.set_cons_succ]
  refine wpAnyH_take (i := 2) (v := ?_) rfl (by kernel_rfl) (by kernel_rfl) (by kernel_rfl) (fun _ _ _ h => h) (Or.inl ⟨by rfl, ?_⟩) hHeld ?_
  rotate_left
  · intro w hSw
    go_simp
    with_reducible rfl
  try simp only [Act.put, List.getElem_toArray, List.getElem_cons_zero, List.getElem_cons_succ, List.setIfInBounds_toArray, List.set_cons_zero, List.set_cons_succ]
  refine wpAnyH_done (by kernel_rfl) ?_ _
  have HL0 := hid ((HF2.out.block B (lt_of_block HK0.out) id).trans HK0.out)
  have HL1 := hid ((HF2.out.block (B + 1) (lt_of_block HK1.out) id).trans HK1.out)
  have HFW := hid (HFA.out.trans HF2.out)
  have d0 := (HFW.out.cell (p := ⟨p, 0, none⟩) hpl id).trans c0
  have d1 := (HFW.out.cell (p := ⟨p, 1, none⟩) hpl id).trans c1
  have HM2 := hid (HM.out.blk (HFW.out.block b hbl id))
  clear c0 c1
  have HM3 := HM2
  have HF3 := hid (Fr.refl (fun k => k = b) w2)
  have hBB := HB.out
  have HL0' := HL0
  have HL1' := HL1
  have HL2' := HL2
  have hpb : ¬ p = b := fun e => by have h1 := HV.out.blk; obtain ⟨es, ck, h2, _⟩ := HM.out; rw [e, h2] at h1; cases h1
  have hgb : ¬ g = b := fun e => by obtain ⟨cs, h1⟩ := own_ty HV.out.row (by rfl); obtain ⟨es, ck, h2, _⟩ := HM.out; rw [e, h2] at h1; cases h1
  have HFW3 := hid (HFW.out.mono (T := fun k => k = b) (fun _ _ e => e.elim))
  have d0' := d0
  have d1' := d1
  obtain ⟨s0', s1', _, _⟩ := blk2 HL2'.out
  clear d0 d1 s0 s1 HL0 HL1 HL2
  go_wp2_with fail
  clear s0' s1'
  obtain ⟨s0, s1, _, _⟩ := blk2 HL0'.out
  refine wp_region_held_drew (S := fun W => W.cell? ⟨B, 0, none⟩ = some (.int .i64 (-1)) ∧ W.cell? ⟨B, 1, none⟩ = some (.bool false)) (by kernel_rfl) ⟨s0, s1⟩ (fun hHeld => ?_)
  clear s0 s1
  refine wpAnyH_take (i := 0) (v := ?_) rfl (by kernel_rfl) (by kernel_rfl) (by kernel_rfl) (fun _ _ _ h => h) (Or.inl ⟨by rfl, ?_⟩) hHeld ?_
  rotate_left
  · intro w hSw; obtain ⟨s0, s1⟩ := hSw
    go_simp
    with_reducible rfl
  try simp only [Act.put, List.getElem_toArray, List.getElem_cons_zero, List.getElem_cons_succ, List.setIfInBounds_toArray, List.set_cons_zero, List.set_cons_succ]
  refine wpAnyH_ready (rs := [1]) (by kernel_rfl) (by simp) ?_
  refine AllReadyH.cons rfl (fun K hK => ?_) AllReadyH.nil
  rw [if_pos (by rfl)]
  go_simp
  refine (ix_nowhere _).mono ?_
  rintro e w4 ⟨rfl, hF⟩
  have HF4 := hid ((Fr.refl No _).drew.trans hF)
  have HN0 := hid ((HF4.out.block B (lt_of_block HL0'.out) id).trans HL0'.out)
  obtain ⟨s0, s1, _, _⟩ := blk2 HN0.out
  refine hK.out _ _ ⟨s0, s1⟩ (fun hHeld => ?_)
  clear hK K hF
  try simp only [Act.put, List.getElem_toArray, List.getElem_cons_zero, List.getElem_cons_succ, List.setIfInBounds_toArray, List.set_cons_zero, List.set_cons_succ]
  refine wpAnyH_take (i := 2) (v := ?_) rfl (by kernel_rfl) (by kernel_rfl) (by kernel_rfl) (fun _ _ _ h => h) (Or.inl ⟨by rfl, ?_⟩) hHeld ?_
  rotate_left
  · intro w hSw
    go_simp
    with_reducible rfl
  try simp only [Act.put, List.getElem_toArray, List.getElem_cons_zero, List.getElem_cons_succ, List.setIfInBounds_toArray, List.set_cons_zero, List.set_cons_succ]
  refine wpAnyH_done (by kernel_rfl) ?_ _
  have HN1 := hid ((HF4.out.block (B + 1) (lt_of_block HL1'.out) id).trans HL1'.out)
  have HN2 := hid ((HF4.out.block (B + 1 + 1) (lt_of_block HL2'.out) id).trans HL2'.out)
  have HFW4 := hid (HFW3.out.trans (HF4.out.mono (T := fun k => k = b) (fun _ _ e => e.elim)))
  have hp4 := HFW3.out.lt hpl
  have d0 := (HF4.out.cell (p := ⟨p, 0, none⟩) hp4 id).trans d0'
  have d1 := (HF4.out.cell (p := ⟨p, 1, none⟩) hp4 id).trans d1'
  have HM4 := hid (MapIn.blk HM3.out (HF4.out.block b (HFW3.out.lt hbl) id))
  clear d0' d1' HL0' HL1' HL2' HM3
  go_wp2_with fail
  have HM5 := hid (HM4.out.mono (Nat.le_succ c))
  have HP0 := HN0
  have HP1 := HN1
  have HP2 := HN2
  have HFW5 := HFW4
  have d0' := d0
  have d1' := d1
  clear d0 d1 HN0 HN1 HN2
  have hown5 := own_frk HV.out.row HFW5.out (fun k hk => by simp only [Value.ownBlock, Option.some.injEq] at hk; subst hk; exact hgb)
  have HOW := hid hown5
  obtain ⟨gg, cc, hgv, _, _, hrg, hth⟩ := own_at hown5 (fun x _ => plV_len x) i HIL.out
  obtain rfl : g = gg := by injection hgv with e; injection e with e; injection e
  have t0 := hrg 0 _ (by rw [plV_eq]; rfl)
  have t1 := hrg 1 _ (by rw [plV_eq]; rfl)
  obtain ⟨_, f0⟩ := hth 0 (by omega)
  obtain ⟨_, f1⟩ := hth 1 (by omega)
  rw [Nat.add_zero] at t0 f0
  have hpg : ¬ p = g := fun e => by obtain ⟨cs, h1⟩ := own_ty HV.out.row (by rfl); have h2 := HV.out.blk; rw [e, h1] at h2; cases h2
  have hGB := HB.out
  clear hrg hth hgv hown5
  refine wp_region_held_drew (S := fun W => W.cell? ⟨p, 0, none⟩ = some (.slice (some ⟨g, 0, none⟩) n cp) ∧ W.cell? ⟨B, 0, none⟩ = some (.int .i64 (-1)) ∧ W.cell? ⟨B, 1, none⟩ = some (.bool false)) (by kernel_rfl) ⟨d0', s0, s1⟩ (fun hHeld => ?_)
  refine wpAnyH_take (i := 0) (v := ?_) rfl (by kernel_rfl) (by kernel_rfl) (by kernel_rfl) (fun _ _ _ h => h) (Or.inl ⟨by rfl, ?_⟩) hHeld ?_
  rotate_left
  · intro w hSw
    go_simp
    with_reducible rfl
  try simp only [Act.put, List.getElem_toArray, List.getElem_cons_zero, List.getElem_cons_succ, List.setIfInBounds_toArray, List.set_cons_zero, List.set_cons_succ]
  refine wpAnyH_take (i := 1) (v := ?_) rfl (by kernel_rfl) (by kernel_rfl) (by kernel_rfl) (fun _ _ _ h => h) (Or.inl ⟨by rfl, ?_⟩) hHeld ?_
  rotate_left
  · intro w hSw
    go_simp
    with_reducible rfl
  try simp only [Act.put, List.getElem_toArray, List.getElem_cons_zero, List.getElem_cons_succ, List.setIfInBounds_toArray, List.set_cons_zero, List.set_cons_succ]
  refine wpAnyH_take (i := 2) (v := ?_) rfl (by kernel_rfl) (by kernel_rfl) (by kernel_rfl) (fun _ _ _ h => h) (Or.inl ⟨by rfl, ?_⟩) hHeld ?_
  rotate_left
  · intro w hSw
    go_simp
    with_reducible rfl
  try simp only [Act.put, List.getElem_toArray, List.getElem_cons_zero, List.getElem_cons_succ, List.setIfInBounds_toArray, List.set_cons_zero, List.set_cons_succ]
  refine wpAnyH_take (i := 3) (v := ?_) rfl (by kernel_rfl) (by kernel_rfl) (by kernel_rfl) (fun _ _ _ h => h) (Or.inl ⟨by rfl, ?_⟩) hHeld ?_
  rotate_left
  · intro w hSw; obtain ⟨u0, u1, u2⟩ := hSw
    go_simp
    with_reducible rfl
  try simp only [Act.put, List.getElem_toArray, List.getElem_cons_zero, List.getElem_cons_succ, List.setIfInBounds_toArray, List.set_cons_zero, List.set_cons_succ]
  refine wpAnyH_take (i := 4) (v := ?_) rfl (by kernel_rfl) (by kernel_rfl) (by kernel_rfl) (fun _ _ _ h => h) (Or.inl ⟨by rfl, ?_⟩) hHeld ?_
  rotate_left
  · intro w hSw
    go_simp
    with_reducible rfl
  try simp only [Act.put, List.getElem_toArray, List.getElem_cons_zero, List.getElem_cons_succ, List.setIfInBounds_toArray, List.set_cons_zero, List.set_cons_succ]
  refine wpAnyH_take (i := 5) (v := ?_) rfl (by kernel_rfl) (by kernel_rfl) (by kernel_rfl) (fun _ _ _ h => h) (Or.inl ⟨by rfl, ?_⟩) hHeld ?_
  rotate_left
  · intro w hSw; obtain ⟨u0, u1, u2⟩ := hSw
    go_simp
    with_reducible rfl
  try simp only [Act.put, List.getElem_toArray, List.getElem_cons_zero, List.getElem_cons_succ, List.setIfInBounds_toArray, List.set_cons_zero, List.set_cons_succ]
  refine wpAnyH_take (i := 6) (v := ?_) rfl (by kernel_rfl) (by kernel_rfl) (by kernel_rfl) (fun _ _ _ h => h) (Or.inl ⟨by rfl, ?_⟩) hHeld ?_
  rotate_left
  · intro w hSw
    go_simp
    with_reducible rfl
  try simp only [Act.put, List.getElem_toArray, List.getElem_cons_zero, List.getElem_cons_succ, List.setIfInBounds_toArray, List.set_cons_zero, List.set_cons_succ]
  refine wpAnyH_ready (rs := [7]) (by kernel_rfl) (by simp) ?_
  refine AllReadyH.cons rfl (fun K hK => ?_) AllReadyH.nil
  rw [if_pos (by rfl)]
  go_simp
  have HFS := hid (((Fr.set1 w4 g (i * 2) (.int .i64 (-1))).trans (Fr.set1 (w4.setCell ⟨g, i * 2, none⟩ (.int .i64 (-1))) g (i * 2 + 1) (.bool false))).drew)
  have hBg : ¬ B = g := by omega
  have hlB := lt_of_block HP0.out
  have HSS := hid (And.intro ((HFS.out.cell (p := ⟨p, 0, none⟩) (HFW5.out.lt hpl) hpg).trans d0') (And.intro ((HFS.out.cell (p := ⟨B, 0, none⟩) hlB hBg).trans s0) ((HFS.out.cell (p := ⟨B, 1, none⟩) hlB hBg).trans s1)))
  refine hK.out _ _ HSS.out (fun hHeld => ?_)
  clear hK K
  try simp only [Act.put, List.getElem_toArray, List.getElem_cons_zero, List.getElem_cons_succ, List.setIfInBounds_toArray, List.set_cons_zero, List.set_cons_succ]
  refine wpAnyH_done (by kernel_rfl) ?_ _
  have HR2 := hid ((HFS.out.block (B + 1 + 1) (lt_of_block HP2.out) (by show ¬ B + 1 + 1 = g; omega)).trans HP2.out)
  have HR1 := hid ((HFS.out.block (B + 1) (lt_of_block HP1.out) (by show ¬ B + 1 = g; omega)).trans HP1.out)
  clear s0 s1 d0' d1' HSS HP1 HP2 hHeld
  generalize hW6 : ((World.setCell w4 ⟨g, i * 2, none⟩ (.int .i64 (-1))).setCell ⟨g, i * 2 + 1, none⟩ (.bool false)).drew = w6 at HFS HR1 HR2 ⊢
  have HW6 := hid hW6
  clear hW6
  obtain ⟨s0, s1, _, _⟩ := blk2 HR2.out
  obtain ⟨q0, q1, f0, f1⟩ := blk2 HR1.out
  go_wp2_with fail
  clear s0 s1 q0 q1 f0 f1 hHeld
  have h6 := HW6.out
  obtain ⟨r1, r2⟩ := ix_moved (q := none) HV.out hSp hSg hSb hSl HIL.out HO.out (fun _ _ h => by cases h) (fun _ _ h => by cases h) hc hpg hgb hpb HFW5.out HM5.out HW6.out.symm
  have hFT := (Fr.set1 w6 (B + 1) 0 (.int .i64 (-1))).trans (Fr.set1 (w6.setCell ⟨B + 1, 0, none⟩ (.int .i64 (-1))) (B + 1) 1 (.bool false))
  exact bodyPost_ret (res_pl rfl rfl (put2 HR1.out _ _)) rfl ⟨rfl, r1.fr hFT (fun k hk => by have := hSl k hk; show ¬ k = B + 1; omega), fr_put2 r2 (by omega) _ _⟩

set_option maxRecDepth 100000 in
set_option maxHeartbeats 1000000 in
theorem ix_move_none_some (w : World) (p m c : Nat) (S : Nat → Prop) (L : List Pl) (h : Ix w p S L m c) (i : Nat) (hi : i < L.length) (y : Nat) (yd : Bool) (ho : L[i] = none) (hym : y < m) (hyf : ∀ (j : Nat) (e : Bool), L[j]? = some (some (y, e)) → j = i) (hc : c < 100000) :
    Calls Try.prog 41 #[.pointer (some ⟨p, 0, none⟩), .int .i64 (i : Int), .agg #[.int .i64 (y : Int), .bool yd]] w fun e w' => e = .returned (.agg #[.int .i64 (-1), .bool false]) ∧ Ix w' p S (L.set i (some (y, yd))) m (c + 1) ∧ Fr S w w' := by
  obtain ⟨g, b, cp, D, hV, hSp, hSg, hSb, hSl⟩ := h
  have HV := hid hV
  have hlen := hV.len.2
  have hmm := hV.most
  have hcnt := hV.cnt
  obtain ⟨c0, c1, _⟩ := hV.cells
  obtain ⟨a0, a1⟩ := hV.at i hi
  rw [ho] at a0 a1
  have HO : Hid (L[i]? = some (none)) := by unfold Hid; rw [List.getElem?_eq_getElem hi, ho]
  have hgl : g < w.heap.size := by obtain ⟨cs, hc⟩ := own_ty hV.row (by rfl); exact lt_of_block hc
  have hpl := lt_of_block hV.blk
  have HM := hid hV.map
  have HIL := hid hi
  have hbl := hV.map.lt
  have hyne : ((y : Int) == -1) = false := by simp
  have HKY := hid (keyOf_int_mk Try.underlying3 (WalkArith.wf_i64 (n := (y : Int)) (by omega)))
  have HYM := hid hym
  have HYF := hid hyf
  clear hyf
  clear hV ho
  obtain ⟨n, hn⟩ : ∃ n, L.length = n := ⟨_, rfl⟩
  have HN := hid hn
  rw [hn] at c0 hi hlen
  clear hn
  have hin : (i : Int) < (n : Int) := by omega
  simp only [plS, plD] at a0 a1
  have k0 := heap_new w (.cells #[.int .i64 (y : Int), .bool yd] 44)
  have k1 := heap_new (w.alloc (.cells #[.int .i64 (y : Int), .bool yd] 44)) (.cells #[.int .i64 0, .bool false] 44)
  have k2 := heap_new ((w.alloc (.cells #[.int .i64 (y : Int), .bool yd] 44)).alloc (.cells #[.int .i64 0, .bool false] 44)) (.cells #[.int .i64 (-1), .bool false] 44)
  have hf1 := (Fr.refl No (w.alloc (.cells #[.int .i64 (y : Int), .bool yd] 44))).alloc (.cells #[.int .i64 0, .bool false] 44)
  have hf2 := hf1.alloc (.cells #[.int .i64 (-1), .bool false] 44)
  have hf3 := (Fr.refl No ((w.alloc (.cells #[.int .i64 (y : Int), .bool yd] 44)).alloc (.cells #[.int .i64 0, .bool false] 44))).alloc (.cells #[.int .i64 (-1), .bool false] 44)
  have k0' := (hf2.block w.heap.size (by simp) id).trans k0
  have k1' := (hf3.block _ (by simp) id).trans k1
  have hfa := ((Fr.refl No w).alloc (.cells #[.int .i64 (y : Int), .bool yd] 44)).trans hf2
  simp only [World.size_alloc] at k1' k2
  clear k0 k1 hf1 hf2 hf3
  go_enter Try.func41, Try.ntmps41
  go_wp2_with fail
  generalize hWA : ((w.alloc (.cells #[.int .i64 (y : Int), .bool yd] 44)).alloc (.cells #[.int .i64 0, .bool false] 44)).alloc (.cells #[.int .i64 (-1), .bool false] 44) = WA at k0' k1' k2 hfa ⊢
  generalize hB : w.heap.size = B at k0' k1' k2 ⊢
  have HB := hid hB
  clear hWA hB
  have HFA := hid hfa
  have HK0 := hid k0'
  have HK1 := hid k1'
  have HK2 := hid k2
  obtain ⟨s0, s1, _, _⟩ := blk2 k2
  clear hfa k0' k1' k2
  refine wp_region_held_drew (S := fun W => W.cell? ⟨B + 1 + 1, 0, none⟩ = some (.int .i64 (-1)) ∧ W.cell? ⟨B + 1 + 1, 1, none⟩ = some (.bool false)) (by kernel_rfl) ⟨s0, s1⟩ (fun hHeld => ?_)
  clear s0 s1
  refine wpAnyH_take (i := 0) (v := ?_) rfl (by kernel_rfl) (by kernel_rfl) (by kernel_rfl) (fun _ _ _ h => h) (Or.inl ⟨by rfl, ?_⟩) hHeld ?_
  rotate_left
  · intro w hSw; obtain ⟨s0, s1⟩ := hSw
    go_simp
    with_reducible rfl
  try simp only [Act.put, List.getElem_toArray, List.getElem_cons_zero, List.getElem_cons_succ, List.setIfInBounds_toArray, List.set_cons_zero, List.set_cons_succ]
  refine wpAnyH_ready (rs := [1]) (by kernel_rfl) (by simp) ?_
  refine AllReadyH.cons rfl (fun K hK => ?_) AllReadyH.nil
  rw [if_pos (by rfl)]
  go_simp
  refine (ix_nowhere _).mono ?_
  rintro e w2 ⟨rfl, hF⟩
  have HF2 := hid ((Fr.refl No WA).drew.trans hF)
  have HL2 := hid ((HF2.out.block (B + 1 + 1) (lt_of_block HK2.out) id).trans HK2.out)
  obtain ⟨s0, s1, _, _⟩ := blk2 HL2.out
  refine hK.out _ _ ⟨s0, s1⟩ (fun hHeld => ?_)
  clear hK K hF
  try simp only [Act.put, List.getElem_toArray, List.getElem_cons_zero, List.getElem_cons_succ, List.setIfInBounds_toArray, List.set_cons_zero, List.set_cons_succ]
  refine wpAnyH_take (i := 2) (v := ?_) rfl (by kernel_rfl) (by kernel_rfl) (by kernel_rfl) (fun _ _ _ h => h) (Or.inl ⟨by rfl, ?_⟩) hHeld ?_
  rotate_left
  · intro w hSw
    go_simp
    with_reducible rfl
  try simp only [Act.put, List.getElem_toArray, List.getElem_cons_zero, List.getElem_cons_succ, List.setIfInBounds_toArray, List.set_cons_zero, List.set_cons_succ]
  refine wpAnyH_done (by kernel_rfl) ?_ _
  have HL0 := hid ((HF2.out.block B (lt_of_block HK0.out) id).trans HK0.out)
  have HL1 := hid ((HF2.out.block (B + 1) (lt_of_block HK1.out) id).trans HK1.out)
  have HFW := hid (HFA.out.trans HF2.out)
  have d0 := (HFW.out.cell (p := ⟨p, 0, none⟩) hpl id).trans c0
  have d1 := (HFW.out.cell (p := ⟨p, 1, none⟩) hpl id).trans c1
  have HM2 := hid (HM.out.blk (HFW.out.block b hbl id))
  clear c0 c1
  have HM3 := HM2
  have HF3 := hid (Fr.refl (fun k => k = b) w2)
  have hBB := HB.out
  have HL0' := HL0
  have HL1' := HL1
  have HL2' := HL2
  have hpb : ¬ p = b := fun e => by have h1 := HV.out.blk; obtain ⟨es, ck, h2, _⟩ := HM.out; rw [e, h2] at h1; cases h1
  have hgb : ¬ g = b := fun e => by obtain ⟨cs, h1⟩ := own_ty HV.out.row (by rfl); obtain ⟨es, ck, h2, _⟩ := HM.out; rw [e, h2] at h1; cases h1
  have HFW3 := hid (HFW.out.mono (T := fun k => k = b) (fun _ _ e => e.elim))
  have d0' := d0
  have d1' := d1
  obtain ⟨s0', s1', _, _⟩ := blk2 HL2'.out
  clear d0 d1 s0 s1 HL0 HL1 HL2
  go_wp2_with fail
  clear s0' s1'
  obtain ⟨s0, s1, _, _⟩ := blk2 HL0'.out
  refine wp_region_held_drew (S := fun W => W.cell? ⟨B, 0, none⟩ = some (.int .i64 (y : Int)) ∧ W.cell? ⟨B, 1, none⟩ = some (.bool yd)) (by kernel_rfl) ⟨s0, s1⟩ (fun hHeld => ?_)
  clear s0 s1
  refine wpAnyH_take (i := 0) (v := ?_) rfl (by kernel_rfl) (by kernel_rfl) (by kernel_rfl) (fun _ _ _ h => h) (Or.inl ⟨by rfl, ?_⟩) hHeld ?_
  rotate_left
  · intro w hSw; obtain ⟨s0, s1⟩ := hSw
    go_simp
    with_reducible rfl
  try simp only [Act.put, List.getElem_toArray, List.getElem_cons_zero, List.getElem_cons_succ, List.setIfInBounds_toArray, List.set_cons_zero, List.set_cons_succ]
  refine wpAnyH_ready (rs := [1]) (by kernel_rfl) (by simp) ?_
  refine AllReadyH.cons rfl (fun K hK => ?_) AllReadyH.nil
  rw [if_pos (by rfl)]
  go_simp
  refine (ix_nowhere _).mono ?_
  rintro e w4 ⟨rfl, hF⟩
  have HF4 := hid ((Fr.refl No _).drew.trans hF)
  have HN0 := hid ((HF4.out.block B (lt_of_block HL0'.out) id).trans HL0'.out)
  obtain ⟨s0, s1, _, _⟩ := blk2 HN0.out
  refine hK.out _ _ ⟨s0, s1⟩ (fun hHeld => ?_)
  clear hK K hF
  try simp only [Act.put, List.getElem_toArray, List.getElem_cons_zero, List.getElem_cons_succ, List.setIfInBounds_toArray, List.set_cons_zero, List.set_cons_succ]
  refine wpAnyH_take (i := 2) (v := ?_) rfl (by kernel_rfl) (by kernel_rfl) (by kernel_rfl) (fun _ _ _ h => h) (Or.inl ⟨by rfl, ?_⟩) hHeld ?_
  rotate_left
  · intro w hSw
    go_simp
    with_reducible rfl
  try simp only [Act.put, List.getElem_toArray, List.getElem_cons_zero, List.getElem_cons_succ, List.setIfInBounds_toArray, List.set_cons_zero, List.set_cons_succ]
  refine wpAnyH_done (by kernel_rfl) ?_ _
  have HN1 := hid ((HF4.out.block (B + 1) (lt_of_block HL1'.out) id).trans HL1'.out)
  have HN2 := hid ((HF4.out.block (B + 1 + 1) (lt_of_block HL2'.out) id).trans HL2'.out)
  have HFW4 := hid (HFW3.out.trans (HF4.out.mono (T := fun k => k = b) (fun _ _ e => e.elim)))
  have hp4 := HFW3.out.lt hpl
  have d0 := (HF4.out.cell (p := ⟨p, 0, none⟩) hp4 id).trans d0'
  have d1 := (HF4.out.cell (p := ⟨p, 1, none⟩) hp4 id).trans d1'
  have HM4 := hid (MapIn.blk HM3.out (HF4.out.block b (HFW3.out.lt hbl) id))
  clear d0' d1' HL0' HL1' HL2' HM3
  go_wp2_with fail
  refine wp_region_held_drew (S := fun W => W.cell? ⟨p, 1, none⟩ = some (.map (some b)) ∧ W.cell? ⟨B, 0, none⟩ = some (.int .i64 (y : Int))) (by kernel_rfl) ⟨d1, s0⟩ (fun hHeld => ?_)
  refine wpAnyH_take (i := 0) (v := ?_) rfl (by kernel_rfl) (by kernel_rfl) (by kernel_rfl) (fun _ _ _ h => h) (Or.inl ⟨by rfl, ?_⟩) hHeld ?_
  rotate_left
  · intro w hSw
    go_simp
    with_reducible rfl
  try simp only [Act.put, List.getElem_toArray, List.getElem_cons_zero, List.getElem_cons_succ, List.setIfInBounds_toArray, List.set_cons_zero, List.set_cons_succ]
  refine wpAnyH_take (i := 1) (v := ?_) rfl (by kernel_rfl) (by kernel_rfl) (by kernel_rfl) (fun _ _ _ h => h) (Or.inl ⟨by rfl, ?_⟩) hHeld ?_
  rotate_left
  · intro w hSw
    go_simp
    with_reducible rfl
  try simp only [Act.put, List.getElem_toArray, List.getElem_cons_zero, List.getElem_cons_succ, List.setIfInBounds_toArray, List.set_cons_zero, List.set_cons_succ]
  refine wpAnyH_take (i := 2) (v := ?_) rfl (by kernel_rfl) (by kernel_rfl) (by kernel_rfl) (fun _ _ _ h => h) (Or.inl ⟨by rfl, ?_⟩) hHeld ?_
  rotate_left
  · intro w hSw
    go_simp
    with_reducible rfl
  try simp only [Act.put, List.getElem_toArray, List.getElem_cons_zero, List.getElem_cons_succ, List.setIfInBounds_toArray, List.set_cons_zero, List.set_cons_succ]
  refine wpAnyH_take (i := 3) (v := ?_) rfl (by kernel_rfl) (by kernel_rfl) (by kernel_rfl) (fun _ _ _ h => h) (Or.inl ⟨by rfl, ?_⟩) hHeld ?_
  rotate_left
  · intro w hSw; obtain ⟨u0, u1⟩ := hSw
    go_simp
    with_reducible rfl
  try simp only [Act.put, List.getElem_toArray, List.getElem_cons_zero, List.getElem_cons_succ, List.setIfInBounds_toArray, List.set_cons_zero, List.set_cons_succ]
  refine wpAnyH_take (i := 4) (v := ?_) rfl (by kernel_rfl) (by kernel_rfl) (by kernel_rfl) (fun _ _ _ h => h) (Or.inl ⟨by rfl, ?_⟩) hHeld ?_
  rotate_left
  · intro w hSw
    go_simp
    with_reducible rfl
  try simp only [Act.put, List.getElem_toArray, List.getElem_cons_zero, List.getElem_cons_succ, List.setIfInBounds_toArray, List.set_cons_zero, List.set_cons_succ]
  refine wpAnyH_take (i := 5) (v := ?_) rfl (by kernel_rfl) (by kernel_rfl) (by kernel_rfl) (fun _ _ _ h => h) (Or.inl ⟨by rfl, ?_⟩) hHeld ?_
  rotate_left
  · intro w hSw; obtain ⟨u0, u1⟩ := hSw
    go_simp
    with_reducible rfl
  try simp only [Act.put, List.getElem_toArray, List.getElem_cons_zero, List.getElem_cons_succ, List.setIfInBounds_toArray, List.set_cons_zero, List.set_cons_succ]
  refine wpAnyH_take (i := 6) (v := ?_) rfl (by kernel_rfl) (by kernel_rfl) (by kernel_rfl) (fun _ _ _ h => h) (Or.inl ⟨by rfl, ?_⟩) hHeld ?_
  rotate_left
  · intro w hSw
    go_simp
    with_reducible rfl
  try simp only [Act.put, List.getElem_toArray, List.getElem_cons_zero, List.getElem_cons_succ, List.setIfInBounds_toArray, List.set_cons_zero, List.set_cons_succ]
  refine wpAnyH_ready (rs := [7]) (by kernel_rfl) (by simp) ?_
  refine AllReadyH.cons rfl (fun K hK => ?_) AllReadyH.nil
  rw [if_pos (by rfl)]
  refine wp_update_own _ _ _ 62 rfl 3 3 law_int Try.underlying62 _ b c _ rfl (HM4.out.drew) (by unfold maxLen; omega) _ _ _ rfl rfl HKY.out _ [] (plainElem_int Try.underlying3 (WalkArith.wf_i64 (n := (i : Int)) (by omega))) (fun w5 hown1 hturn1 => ?_)
  have hfd := (turned_fr hturn1)
  have HF5 := hid ((Fr.refl (fun k => k = b) w4).drew.trans hfd)
  have HM5 := hid hown1
  have HP0 := hid ((HF5.out.block B (lt_of_block HN0.out) (by show ¬ B = b; omega)).trans HN0.out)
  have HP1 := hid ((HF5.out.block (B + 1) (lt_of_block HN1.out) (by show ¬ B + 1 = b; omega)).trans HN1.out)
  have HP2 := hid ((HF5.out.block (B + 1 + 1) (lt_of_block HN2.out) (by show ¬ B + 1 + 1 = b; omega)).trans HN2.out)
  have HFW5 := hid (HFW4.out.trans HF5.out)
  have hp5 := HFW4.out.lt hpl
  have d0' := (HF5.out.cell (p := ⟨p, 0, none⟩) hp5 hpb).trans d0
  have d1' := (HF5.out.cell (p := ⟨p, 1, none⟩) hp5 hpb).trans d1
  clear s0 s1
  obtain ⟨s0, s1, _, _⟩ := blk2 HP0.out
  refine hK.out _ _ ⟨d1', s0⟩ (fun hHeld => ?_)
  clear hK K d0 d1 HN0 HN1 HN2 hown1 hturn1 hfd
  try simp only [Act.put, List.getElem_toArray, List.getElem_cons_zero, List.getElem_cons_succ, List.setIfInBounds_toArray, List.set_cons_zero, List.set_cons_succ]
  refine wpAnyH_done (by kernel_rfl) ?_ _
  go_wp2_with fail
  have hown5 := own_frk HV.out.row HFW5.out (fun k hk => by simp only [Value.ownBlock, Option.some.injEq] at hk; subst hk; exact hgb)
  have HOW := hid hown5
  obtain ⟨gg, cc, hgv, _, _, hrg, hth⟩ := own_at hown5 (fun x _ => plV_len x) i HIL.out
  obtain rfl : g = gg := by injection hgv with e; injection e with e; injection e
  have t0 := hrg 0 _ (by rw [plV_eq]; rfl)
  have t1 := hrg 1 _ (by rw [plV_eq]; rfl)
  obtain ⟨_, f0⟩ := hth 0 (by omega)
  obtain ⟨_, f1⟩ := hth 1 (by omega)
  rw [Nat.add_zero] at t0 f0
  have hpg : ¬ p = g := fun e => by obtain ⟨cs, h1⟩ := own_ty HV.out.row (by rfl); have h2 := HV.out.blk; rw [e, h1] at h2; cases h2
  have hGB := HB.out
  clear hrg hth hgv hown5
  refine wp_region_held_drew (S := fun W => W.cell? ⟨p, 0, none⟩ = some (.slice (some ⟨g, 0, none⟩) n cp) ∧ W.cell? ⟨B, 0, none⟩ = some (.int .i64 (y : Int)) ∧ W.cell? ⟨B, 1, none⟩ = some (.bool yd)) (by kernel_rfl) ⟨d0', s0, s1⟩ (fun hHeld => ?_)
  refine wpAnyH_take (i := 0) (v := ?_) rfl (by kernel_rfl) (by kernel_rfl) (by kernel_rfl) (fun _ _ _ h => h) (Or.inl ⟨by rfl, ?_⟩) hHeld ?_
  rotate_left
  · intro w hSw
    go_simp
    with_reducible rfl
  try simp only [Act.put, List.getElem_toArray, List.getElem_cons_zero, List.getElem_cons_succ, List.setIfInBounds_toArray, List.set_cons_zero, List.set_cons_succ]
  refine wpAnyH_take (i := 1) (v := ?_) rfl (by kernel_rfl) (by kernel_rfl) (by kernel_rfl) (fun _ _ _ h => h) (Or.inl ⟨by rfl, ?_⟩) hHeld ?_
  rotate_left
  · intro w hSw
    go_simp
    with_reducible rfl
  try simp only [Act.put, List.getElem_toArray, List.getElem_cons_zero, List.getElem_cons_succ, List.setIfInBounds_toArray, List.set_cons_zero, List.set_cons_succ]
  refine wpAnyH_take (i := 2) (v := ?_) rfl (by kernel_rfl) (by kernel_rfl) (by kernel_rfl) (fun _ _ _ h => h) (Or.inl ⟨by rfl, ?_⟩) hHeld ?_
  rotate_left
  · intro w hSw
    go_simp
    with_reducible rfl
  try simp only [Act.put, List.getElem_toArray, List.getElem_cons_zero, List.getElem_cons_succ, List.setIfInBounds_toArray, List.set_cons_zero, List.set_cons_succ]
  refine wpAnyH_take (i := 3) (v := ?_) rfl (by kernel_rfl) (by kernel_rfl) (by kernel_rfl) (fun _ _ _ h => h) (Or.inl ⟨by rfl, ?_⟩) hHeld ?_
  rotate_left
  · intro w hSw; obtain ⟨u0, u1, u2⟩ := hSw
    go_simp
    with_reducible rfl
  try simp only [Act.put, List.getElem_toArray, List.getElem_cons_zero, List.getElem_cons_succ, List.setIfInBounds_toArray, List.set_cons_zero, List.set_cons_succ]
  refine wpAnyH_take (i := 4) (v := ?_) rfl (by kernel_rfl) (by kernel_rfl) (by kernel_rfl) (fun _ _ _ h => h) (Or.inl ⟨by rfl, ?_⟩) hHeld ?_
  rotate_left
  · intro w hSw
    go_simp
    with_reducible rfl
  try simp only [Act.put, List.getElem_toArray, List.getElem_cons_zero, List.getElem_cons_succ, List.setIfInBounds_toArray, List.set_cons_zero, List.set_cons_succ]
  refine wpAnyH_take (i := 5) (v := ?_) rfl (by kernel_rfl) (by kernel_rfl) (by kernel_rfl) (fun _ _ _ h => h) (Or.inl ⟨by rfl, ?_⟩) hHeld ?_
  rotate_left
  · intro w hSw; obtain ⟨u0, u1, u2⟩ := hSw
    go_simp
    with_reducible rfl
  try simp only [Act.put, List.getElem_toArray, List.getElem_cons_zero, List.getElem_cons_succ, List.setIfInBounds_toArray, List.set_cons_zero, List.set_cons_succ]
  refine wpAnyH_take (i := 6) (v := ?_) rfl (by kernel_rfl) (by kernel_rfl) (by kernel_rfl) (fun _ _ _ h => h) (Or.inl ⟨by rfl, ?_⟩) hHeld ?_
  rotate_left
  · intro w hSw
    go_simp
    with_reducible rfl
  try simp only [Act.put, List.getElem_toArray, List.getElem_cons_zero, List.getElem_cons_succ, List.setIfInBounds_toArray, List.set_cons_zero, List.set_cons_succ]
  refine wpAnyH_ready (rs := [7]) (by kernel_rfl) (by simp) ?_
  refine AllReadyH.cons rfl (fun K hK => ?_) AllReadyH.nil
  rw [if_pos (by rfl)]
  go_simp
  have HFS := hid (((Fr.set1 w5 g (i * 2) (.int .i64 (y : Int))).trans (Fr.set1 (w5.setCell ⟨g, i * 2, none⟩ (.int .i64 (y : Int))) g (i * 2 + 1) (.bool yd))).drew)
  have hBg : ¬ B = g := by omega
  have hlB := lt_of_block HP0.out
  have HSS := hid (And.intro ((HFS.out.cell (p := ⟨p, 0, none⟩) (HFW5.out.lt hpl) hpg).trans d0') (And.intro ((HFS.out.cell (p := ⟨B, 0, none⟩) hlB hBg).trans s0) ((HFS.out.cell (p := ⟨B, 1, none⟩) hlB hBg).trans s1)))
  refine hK.out _ _ HSS.out (fun hHeld => ?_)
  clear hK K
  try simp only [Act.put, List.getElem_toArray, List.getElem_cons_zero, List.getElem_cons_succ, List.setIfInBounds_toArray, List.set_cons_zero, List.set_cons_succ]
  refine wpAnyH_done (by kernel_rfl) ?_ _
  have HR2 := hid ((HFS.out.block (B + 1 + 1) (lt_of_block HP2.out) (by show ¬ B + 1 + 1 = g; omega)).trans HP2.out)
  have HR1 := hid ((HFS.out.block (B + 1) (lt_of_block HP1.out) (by show ¬ B + 1 = g; omega)).trans HP1.out)
  clear s0 s1 d0' d1' HSS HP1 HP2 hHeld
  generalize hW6 : ((World.setCell w5 ⟨g, i * 2, none⟩ (.int .i64 (y : Int))).setCell ⟨g, i * 2 + 1, none⟩ (.bool yd)).drew = w6 at HFS HR1 HR2 ⊢
  have HW6 := hid hW6
  clear hW6
  obtain ⟨s0, s1, _, _⟩ := blk2 HR2.out
  obtain ⟨q0, q1, f0, f1⟩ := blk2 HR1.out
  go_wp2_with fail
  clear s0 s1 q0 q1 f0 f1 hHeld
  have h6 := HW6.out
  obtain ⟨r1, r2⟩ := ix_moved (q := some (y, yd)) HV.out hSp hSg hSb hSl HIL.out HO.out (fun x d h j e hj => by cases h; exact HYF.out j e hj) (fun x d h => by cases h; exact HYM.out) hc hpg hgb hpb HFW5.out HM5.out HW6.out.symm
  have hFT := (Fr.set1 w6 (B + 1) 0 (.int .i64 (-1))).trans (Fr.set1 (w6.setCell ⟨B + 1, 0, none⟩ (.int .i64 (-1))) (B + 1) 1 (.bool false))
  exact bodyPost_ret (res_pl rfl rfl (put2 HR1.out _ _)) rfl ⟨rfl, r1.fr hFT (fun k hk => by have := hSl k hk; show ¬ k = B + 1; omega), fr_put2 r2 (by omega) _ _⟩

set_option maxRecDepth 100000 in
set_option maxHeartbeats 1000000 in
theorem ix_move_some_none (w : World) (p m c : Nat) (S : Nat → Prop) (L : List Pl) (h : Ix w p S L m c) (i : Nat) (hi : i < L.length) (x : Nat) (xd : Bool) (ho : L[i] = some (x, xd)) (hc : c < 100000) :
    Calls Try.prog 41 #[.pointer (some ⟨p, 0, none⟩), .int .i64 (i : Int), .agg #[.int .i64 (-1), .bool false]] w fun e w' => e = .returned (.agg #[.int .i64 (x : Int), .bool xd]) ∧ Ix w' p S (L.set i none) m (c + 1) ∧ Fr S w w' := by
  obtain ⟨g, b, cp, D, hV, hSp, hSg, hSb, hSl⟩ := h
  have HV := hid hV
  have hlen := hV.len.2
  have hmm := hV.most
  have hcnt := hV.cnt
  obtain ⟨c0, c1, _⟩ := hV.cells
  obtain ⟨a0, a1⟩ := hV.at i hi
  rw [ho] at a0 a1
  have HO : Hid (L[i]? = some (some (x, xd))) := by unfold Hid; rw [List.getElem?_eq_getElem hi, ho]
  have hgl : g < w.heap.size := by obtain ⟨cs, hc⟩ := own_ty hV.row (by rfl); exact lt_of_block hc
  have hpl := lt_of_block hV.blk
  have HM := hid hV.map
  have HIL := hid hi
  have hbl := hV.map.lt
  have hxm : x < m := hV.slot i x xd HO.out
  have hxne : ((x : Int) == -1) = false := by simp
  have HKX := hid (keyOf_int_mk Try.underlying3 (WalkArith.wf_i64 (n := (x : Int)) (by omega)))
  clear hV ho
  obtain ⟨n, hn⟩ : ∃ n, L.length = n := ⟨_, rfl⟩
  have HN := hid hn
  rw [hn] at c0 hi hlen
  clear hn
  have hin : (i : Int) < (n : Int) := by omega
  simp only [plS, plD] at a0 a1
  have k0 := heap_new w (.cells #[.int .i64 (-1), .bool false] 44)
  have k1 := heap_new (w.alloc (.cells #[.int .i64 (-1), .bool false] 44)) (.cells #[.int .i64 0, .bool false] 44)
  have k2 := heap_new ((w.alloc (.cells #[.int .i64 (-1), .bool false] 44)).alloc (.cells #[.int .i64 0, .bool false] 44)) (.cells #[.int .i64 (x : Int), .bool xd] 44)
  have hf1 := (Fr.refl No (w.alloc (.cells #[.int .i64 (-1), .bool false] 44))).alloc (.cells #[.int .i64 0, .bool false] 44)
  have hf2 := hf1.alloc (.cells #[.int .i64 (x : Int), .bool xd] 44)
  have hf3 := (Fr.refl No ((w.alloc (.cells #[.int .i64 (-1), .bool false] 44)).alloc (.cells #[.int .i64 0, .bool false] 44))).alloc (.cells #[.int .i64 (x : Int), .bool xd] 44)
  have k0' := (hf2.block w.heap.size (by simp) id).trans k0
  have k1' := (hf3.block _ (by simp) id).trans k1
  have hfa := ((Fr.refl No w).alloc (.cells #[.int .i64 (-1), .bool false] 44)).trans hf2
  simp only [World.size_alloc] at k1' k2
  clear k0 k1 hf1 hf2 hf3
  go_enter Try.func41, Try.ntmps41
  go_wp2_with fail
  generalize hWA : ((w.alloc (.cells #[.int .i64 (-1), .bool false] 44)).alloc (.cells #[.int .i64 0, .bool false] 44)).alloc (.cells #[.int .i64 (x : Int), .bool xd] 44) = WA at k0' k1' k2 hfa ⊢
  generalize hB : w.heap.size = B at k0' k1' k2 ⊢
  have HB := hid hB
  clear hWA hB
  have HFA := hid hfa
  have HK0 := hid k0'
  have HK1 := hid k1'
  have HK2 := hid k2
  obtain ⟨s0, s1, _, _⟩ := blk2 k2
  clear hfa k0' k1' k2
  refine wp_region_held_drew (S := fun W => W.cell? ⟨B + 1 + 1, 0, none⟩ = some (.int .i64 (x : Int)) ∧ W.cell? ⟨B + 1 + 1, 1, none⟩ = some (.bool xd)) (by kernel_rfl) ⟨s0, s1⟩ (fun hHeld => ?_)
  clear s0 s1
  refine wpAnyH_take (i := 0) (v := ?_) rfl (by kernel_rfl) (by kernel_rfl) (by kernel_rfl) (fun _ _ _ h => h) (Or.inl ⟨by rfl, ?_⟩) hHeld ?_
  rotate_left
  · intro w hSw; obtain ⟨s0, s1⟩ := hSw
    go_simp
    with_reducible rfl
  try simp only [Act.put, List.getElem_toArray, List.getElem_cons_zero, List.getElem_cons_succ, List.setIfInBounds_toArray, List.set_cons_zero, List.set_cons_succ]
  refine wpAnyH_ready (rs := [1]) (by kernel_rfl) (by simp) ?_
  refine AllReadyH.cons rfl (fun K hK => ?_) AllReadyH.nil
  rw [if_pos (by rfl)]
  go_simp
  refine (ix_nowhere _).mono ?_
  rintro e w2 ⟨rfl, hF⟩
  have HF2 := hid ((Fr.refl No WA).drew.trans hF)
  have HL2 := hid ((HF2.out.block (B + 1 + 1) (lt_of_block HK2.out) id).trans HK2.out)
  obtain ⟨s0, s1, _, _⟩ := blk2 HL2.out
  refine hK.out _ _ ⟨s0, s1⟩ (fun hHeld => ?_)
  clear hK K hF
  try simp only [Act.put, List.getElem_toArray, List.getElem_cons_zero, List.getElem_cons_succ, List.setIfInBounds_toArray, List.set_cons_zero, List.set_cons_succ]
  refine wpAnyH_take (i := 2) (v := ?_) rfl (by kernel_rfl) (by kernel_rfl) (by kernel_rfl) (fun _ _ _ h => h) (Or.inl ⟨by rfl, ?_⟩) hHeld ?_
  rotate_left
  · intro w hSw
    go_simp
    with_reducible rfl
  try simp only [Act.put, List.getElem_toArray, List.getElem_cons_zero, List.getElem_cons_succ, List.setIfInBounds_toArray, List.set_cons_zero, List.set_cons_succ]
  refine wpAnyH_done (by kernel_rfl) ?_ _
  have HL0 := hid ((HF2.out.block B (lt_of_block HK0.out) id).trans HK0.out)
  have HL1 := hid ((HF2.out.block (B + 1) (lt_of_block HK1.out) id).trans HK1.out)
  have HFW := hid (HFA.out.trans HF2.out)
  have d0 := (HFW.out.cell (p := ⟨p, 0, none⟩) hpl id).trans c0
  have d1 := (HFW.out.cell (p := ⟨p, 1, none⟩) hpl id).trans c1
  have HM2 := hid (HM.out.blk (HFW.out.block b hbl id))
  clear c0 c1
  go_wp2_with fail
  refine wp_region_held_drew (S := fun W => W.cell? ⟨p, 1, none⟩ = some (.map (some b)) ∧ W.cell? ⟨B + 1 + 1, 0, none⟩ = some (.int .i64 (x : Int))) (by kernel_rfl) ⟨d1, s0⟩ (fun hHeld => ?_)
  refine wpAnyH_take (i := 0) (v := ?_) rfl (by kernel_rfl) (by kernel_rfl) (by kernel_rfl) (fun _ _ _ h => h) (Or.inl ⟨by rfl, ?_⟩) hHeld ?_
  rotate_left
  · intro w hSw
    go_simp
    with_reducible rfl
  try simp only [Act.put, List.getElem_toArray, List.getElem_cons_zero, List.getElem_cons_succ, List.setIfInBounds_toArray, List.set_cons_zero, List.set_cons_succ]
  refine wpAnyH_take (i := 1) (v := ?_) rfl (by kernel_rfl) (by kernel_rfl) (by kernel_rfl) (fun _ _ _ h => h) (Or.inl ⟨by rfl, ?_⟩) hHeld ?_
  rotate_left
  · intro w hSw
    go_simp
    with_reducible rfl
  try simp only [Act.put, List.getElem_toArray, List.getElem_cons_zero, List.getElem_cons_succ, List.setIfInBounds_toArray, List.set_cons_zero, List.set_cons_succ]
  refine wpAnyH_take (i := 2) (v := ?_) rfl (by kernel_rfl) (by kernel_rfl) (by kernel_rfl) (fun _ _ _ h => h) (Or.inl ⟨by rfl, ?_⟩) hHeld ?_
  rotate_left
  · intro w hSw
    go_simp
    with_reducible rfl
  try simp only [Act.put, List.getElem_toArray, List.getElem_cons_zero, List.getElem_cons_succ, List.setIfInBounds_toArray, List.set_cons_zero, List.set_cons_succ]
  refine wpAnyH_take (i := 3) (v := ?_) rfl (by kernel_rfl) (by kernel_rfl) (by kernel_rfl) (fun _ _ _ h => h) (Or.inl ⟨by rfl, ?_⟩) hHeld ?_
  rotate_left
  · intro w hSw; obtain ⟨u0, u1⟩ := hSw
    go_simp
    with_reducible rfl
  try simp only [Act.put, List.getElem_toArray, List.getElem_cons_zero, List.getElem_cons_succ, List.setIfInBounds_toArray, List.set_cons_zero, List.set_cons_succ]
  refine wpAnyH_take (i := 4) (v := ?_) rfl (by kernel_rfl) (by kernel_rfl) (by kernel_rfl) (fun _ _ _ h => h) (Or.inl ⟨by rfl, ?_⟩) hHeld ?_
  rotate_left
  · intro w hSw
    go_simp
    with_reducible rfl
  try simp only [Act.put, List.getElem_toArray, List.getElem_cons_zero, List.getElem_cons_succ, List.setIfInBounds_toArray, List.set_cons_zero, List.set_cons_succ]
  refine wpAnyH_take (i := 5) (v := ?_) rfl (by kernel_rfl) (by kernel_rfl) (by kernel_rfl) (fun _ _ _ h => h) (Or.inl ⟨by rfl, ?_⟩) hHeld ?_
  rotate_left
  · intro w hSw; obtain ⟨u0, u1⟩ := hSw
    go_simp
    with_reducible rfl
  try simp only [Act.put, List.getElem_toArray, List.getElem_cons_zero, List.getElem_cons_succ, List.setIfInBounds_toArray, List.set_cons_zero, List.set_cons_succ]
  refine wpAnyH_ready (rs := [6]) (by kernel_rfl) (by simp) ?_
  refine AllReadyH.cons rfl (fun K hK => ?_) AllReadyH.nil
  rw [if_pos (by rfl)]
  refine wp_delete_own _ _ 62 3 rfl 3 law_int Try.underlying62 _ b c D rfl (HM2.out.drew) _ _ rfl HKX.out (fun w3 hown1 hturn1 => ?_)
  have hfd := (turned_fr hturn1)
  have HF3 := hid ((Fr.refl (fun k => k = b) w2).drew.trans hfd)
  have HM3 := hid hown1
  have hBB := HB.out
  have HL0' := hid ((HF3.out.block B (lt_of_block HL0.out) (by show ¬ B = b; omega)).trans HL0.out)
  have HL1' := hid ((HF3.out.block (B + 1) (lt_of_block HL1.out) (by show ¬ B + 1 = b; omega)).trans HL1.out)
  have HL2' := hid ((HF3.out.block (B + 1 + 1) (lt_of_block HL2.out) (by show ¬ B + 1 + 1 = b; omega)).trans HL2.out)
  have hpb : ¬ p = b := fun e => by have h1 := HV.out.blk; obtain ⟨es, ck, h2, _⟩ := HM.out; rw [e, h2] at h1; cases h1
  have hgb : ¬ g = b := fun e => by obtain ⟨cs, h1⟩ := own_ty HV.out.row (by rfl); obtain ⟨es, ck, h2, _⟩ := HM.out; rw [e, h2] at h1; cases h1
  have HFW3 := hid ((HFW.out.mono (T := fun k => k = b) (fun _ _ e => e.elim)).trans HF3.out)
  have hp3 := HFW.out.lt hpl
  have d0' := (HF3.out.cell (p := ⟨p, 0, none⟩) hp3 hpb).trans d0
  have d1' := (HF3.out.cell (p := ⟨p, 1, none⟩) hp3 hpb).trans d1
  obtain ⟨s0', s1', _, _⟩ := blk2 HL2'.out
  refine hK.out _ _ ⟨d1', s0'⟩ (fun hHeld => ?_)
  clear hK K d0 d1 s0 s1 HL0 HL1 HL2 hown1 hturn1 hfd
  try simp only [Act.put, List.getElem_toArray, List.getElem_cons_zero, List.getElem_cons_succ, List.setIfInBounds_toArray, List.set_cons_zero, List.set_cons_succ]
  refine wpAnyH_done (by kernel_rfl) ?_ _
  go_wp2_with fail
  clear s0' s1'
  obtain ⟨s0, s1, _, _⟩ := blk2 HL0'.out
  refine wp_region_held_drew (S := fun W => W.cell? ⟨B, 0, none⟩ = some (.int .i64 (-1)) ∧ W.cell? ⟨B, 1, none⟩ = some (.bool false)) (by kernel_rfl) ⟨s0, s1⟩ (fun hHeld => ?_)
  clear s0 s1
  refine wpAnyH_take (i := 0) (v := ?_) rfl (by kernel_rfl) (by kernel_rfl) (by kernel_rfl) (fun _ _ _ h => h) (Or.inl ⟨by rfl, ?_⟩) hHeld ?_
  rotate_left
  · intro w hSw; obtain ⟨s0, s1⟩ := hSw
    go_simp
    with_reducible rfl
  try simp only [Act.put, List.getElem_toArray, List.getElem_cons_zero, List.getElem_cons_succ, List.setIfInBounds_toArray, List.set_cons_zero, List.set_cons_succ]
  refine wpAnyH_ready (rs := [1]) (by kernel_rfl) (by simp) ?_
  refine AllReadyH.cons rfl (fun K hK => ?_) AllReadyH.nil
  rw [if_pos (by rfl)]
  go_simp
  refine (ix_nowhere _).mono ?_
  rintro e w4 ⟨rfl, hF⟩
  have HF4 := hid ((Fr.refl No _).drew.trans hF)
  have HN0 := hid ((HF4.out.block B (lt_of_block HL0'.out) id).trans HL0'.out)
  obtain ⟨s0, s1, _, _⟩ := blk2 HN0.out
  refine hK.out _ _ ⟨s0, s1⟩ (fun hHeld => ?_)
  clear hK K hF
  try simp only [Act.put, List.getElem_toArray, List.getElem_cons_zero, List.getElem_cons_succ, List.setIfInBounds_toArray, List.set_cons_zero, List.set_cons_succ]
  refine wpAnyH_take (i := 2) (v := ?_) rfl (by kernel_rfl) (by kernel_rfl) (by kernel_rfl) (fun _ _ _ h => h) (Or.inl ⟨by rfl, ?_⟩) hHeld ?_
  rotate_left
  · intro w hSw
    go_simp
    with_reducible rfl
  try simp only [Act.put, List.getElem_toArray, List.getElem_cons_zero, List.getElem_cons_succ, List.setIfInBounds_toArray, List.set_cons_zero, List.set_cons_succ]
  refine wpAnyH_done (by kernel_rfl) ?_ _
  have HN1 := hid ((HF4.out.block (B + 1) (lt_of_block HL1'.out) id).trans HL1'.out)
  have HN2 := hid ((HF4.out.block (B + 1 + 1) (lt_of_block HL2'.out) id).trans HL2'.out)
  have HFW4 := hid (HFW3.out.trans (HF4.out.mono (T := fun k => k = b) (fun _ _ e => e.elim)))
  have hp4 := HFW3.out.lt hpl
  have d0 := (HF4.out.cell (p := ⟨p, 0, none⟩) hp4 id).trans d0'
  have d1 := (HF4.out.cell (p := ⟨p, 1, none⟩) hp4 id).trans d1'
  have HM4 := hid (MapIn.blk HM3.out (HF4.out.block b (HFW3.out.lt hbl) id))
  clear d0' d1' HL0' HL1' HL2' HM3
  go_wp2_with fail
  have HM5 := hid (HM4.out.mono (Nat.le_succ c))
  have HP0 := HN0
  have HP1 := HN1
  have HP2 := HN2
  have HFW5 := HFW4
  have d0' := d0
  have d1' := d1
  clear d0 d1 HN0 HN1 HN2
  have hown5 := own_frk HV.out.row HFW5.out (fun k hk => by simp only [Value.ownBlock, Option.some.injEq] at hk; subst hk; exact hgb)
  have HOW := hid hown5
  obtain ⟨gg, cc, hgv, _, _, hrg, hth⟩ := own_at hown5 (fun x _ => plV_len x) i HIL.out
  obtain rfl : g = gg := by injection hgv with e; injection e with e; injection e
  have t0 := hrg 0 _ (by rw [plV_eq]; rfl)
  have t1 := hrg 1 _ (by rw [plV_eq]; rfl)
  obtain ⟨_, f0⟩ := hth 0 (by omega)
  obtain ⟨_, f1⟩ := hth 1 (by omega)
  rw [Nat.add_zero] at t0 f0
  have hpg : ¬ p = g := fun e => by obtain ⟨cs, h1⟩ := own_ty HV.out.row (by rfl); have h2 := HV.out.blk; rw [e, h1] at h2; cases h2
  have hGB := HB.out
  clear hrg hth hgv hown5
  refine wp_region_held_drew (S := fun W => W.cell? ⟨p, 0, none⟩ = some (.slice (some ⟨g, 0, none⟩) n cp) ∧ W.cell? ⟨B, 0, none⟩ = some (.int .i64 (-1)) ∧ W.cell? ⟨B, 1, none⟩ = some (.bool false)) (by kernel_rfl) ⟨d0', s0, s1⟩ (fun hHeld => ?_)
  refine wpAnyH_take (i := 0) (v := ?_) rfl (by kernel_rfl) (by kernel_rfl) (by kernel_rfl) (fun _ _ _ h => h) (Or.inl ⟨by rfl, ?_⟩) hHeld ?_
  rotate_left
  · intro w hSw
    go_simp
    with_reducible rfl
  try simp only [Act.put, List.getElem_toArray, List.getElem_cons_zero, List.getElem_cons_succ, List.setIfInBounds_toArray, List.set_cons_zero, List.set_cons_succ]
  refine wpAnyH_take (i := 1) (v := ?_) rfl (by kernel_rfl) (by kernel_rfl) (by kernel_rfl) (fun _ _ _ h => h) (Or.inl ⟨by rfl, ?_⟩) hHeld ?_
  rotate_left
  · intro w hSw
    go_simp
    with_reducible rfl
  try simp only [Act.put, List.getElem_toArray, List.getElem_cons_zero, List.getElem_cons_succ, List.setIfInBounds_toArray, List.set_cons_zero, List.set_cons_succ]
  refine wpAnyH_take (i := 2) (v := ?_) rfl (by kernel_rfl) (by kernel_rfl) (by kernel_rfl) (fun _ _ _ h => h) (Or.inl ⟨by rfl, ?_⟩) hHeld ?_
  rotate_left
  · intro w hSw
    go_simp
    with_reducible rfl
  try simp only [Act.put, List.getElem_toArray, List.getElem_cons_zero, List.getElem_cons_succ, List.setIfInBounds_toArray, List.set_cons_zero, List.set_cons_succ]
  refine wpAnyH_take (i := 3) (v := ?_) rfl (by kernel_rfl) (by kernel_rfl) (by kernel_rfl) (fun _ _ _ h => h) (Or.inl ⟨by rfl, ?_⟩) hHeld ?_
  rotate_left
  · intro w hSw; obtain ⟨u0, u1, u2⟩ := hSw
    go_simp
    with_reducible rfl
  try simp only [Act.put, List.getElem_toArray, List.getElem_cons_zero, List.getElem_cons_succ, List.setIfInBounds_toArray, List.set_cons_zero, List.set_cons_succ]
  refine wpAnyH_take (i := 4) (v := ?_) rfl (by kernel_rfl) (by kernel_rfl) (by kernel_rfl) (fun _ _ _ h => h) (Or.inl ⟨by rfl, ?_⟩) hHeld ?_
  rotate_left
  · intro w hSw
    go_simp
    with_reducible rfl
  try simp only [Act.put, List.getElem_toArray, List.getElem_cons_zero, List.getElem_cons_succ, List.setIfInBounds_toArray, List.set_cons_zero, List.set_cons_succ]
  refine wpAnyH_take (i := 5) (v := ?_) rfl (by kernel_rfl) (by kernel_rfl) (by kernel_rfl) (fun _ _ _ h => h) (Or.inl ⟨by rfl, ?_⟩) hHeld ?_
  rotate_left
  · intro w hSw; obtain ⟨u0, u1, u2⟩ := hSw
    go_simp
    with_reducible rfl
  try simp only [Act.put, List.getElem_toArray, List.getElem_cons_zero, List.getElem_cons_succ, List.setIfInBounds_toArray, List.set_cons_zero, List.set_cons_succ]
  refine wpAnyH_take (i := 6) (v := ?_) rfl (by kernel_rfl) (by kernel_rfl) (by kernel_rfl) (fun _ _ _ h => h) (Or.inl ⟨by rfl, ?_⟩) hHeld ?_
  rotate_left
  · intro w hSw
    go_simp
    with_reducible rfl
  try simp only [Act.put, List.getElem_toArray, List.getElem_cons_zero, List.getElem_cons_succ, List.setIfInBounds_toArray, List.set_cons_zero, List.set_cons_succ]
  refine wpAnyH_ready (rs := [7]) (by kernel_rfl) (by simp) ?_
  refine AllReadyH.cons rfl (fun K hK => ?_) AllReadyH.nil
  rw [if_pos (by rfl)]
  go_simp
  have HFS := hid (((Fr.set1 w4 g (i * 2) (.int .i64 (-1))).trans (Fr.set1 (w4.setCell ⟨g, i * 2, none⟩ (.int .i64 (-1))) g (i * 2 + 1) (.bool false))).drew)
  have hBg : ¬ B = g := by omega
  have hlB := lt_of_block HP0.out
  have HSS := hid (And.intro ((HFS.out.cell (p := ⟨p, 0, none⟩) (HFW5.out.lt hpl) hpg).trans d0') (And.intro ((HFS.out.cell (p := ⟨B, 0, none⟩) hlB hBg).trans s0) ((HFS.out.cell (p := ⟨B, 1, none⟩) hlB hBg).trans s1)))
  refine hK.out _ _ HSS.out (fun hHeld => ?_)
  clear hK K
  try simp only [Act.put, List.getElem_toArray, List.getElem_cons_zero, List.getElem_cons_succ, List.setIfInBounds_toArray, List.set_cons_zero, List.set_cons_succ]
  refine wpAnyH_done (by kernel_rfl) ?_ _
  have HR2 := hid ((HFS.out.block (B + 1 + 1) (lt_of_block HP2.out) (by show ¬ B + 1 + 1 = g; omega)).trans HP2.out)
  have HR1 := hid ((HFS.out.block (B + 1) (lt_of_block HP1.out) (by show ¬ B + 1 = g; omega)).trans HP1.out)
  clear s0 s1 d0' d1' HSS HP1 HP2 hHeld
  generalize hW6 : ((World.setCell w4 ⟨g, i * 2, none⟩ (.int .i64 (-1))).setCell ⟨g, i * 2 + 1, none⟩ (.bool false)).drew = w6 at HFS HR1 HR2 ⊢
  have HW6 := hid hW6
  clear hW6
  obtain ⟨s0, s1, _, _⟩ := blk2 HR2.out
  obtain ⟨q0, q1, f0, f1⟩ := blk2 HR1.out
  go_wp2_with fail
  clear s0 s1 q0 q1 f0 f1 hHeld
  have h6 := HW6.out
  obtain ⟨r1, r2⟩ := ix_moved (q := none) HV.out hSp hSg hSb hSl HIL.out HO.out (fun _ _ h => by cases h) (fun _ _ h => by cases h) hc hpg hgb hpb HFW5.out HM5.out HW6.out.symm
  have hFT := (Fr.set1 w6 (B + 1) 0 (.int .i64 (x : Int))).trans (Fr.set1 (w6.setCell ⟨B + 1, 0, none⟩ (.int .i64 (x : Int))) (B + 1) 1 (.bool xd))
  exact bodyPost_ret (res_pl rfl rfl (put2 HR1.out _ _)) rfl ⟨rfl, r1.fr hFT (fun k hk => by have := hSl k hk; show ¬ k = B + 1; omega), fr_put2 r2 (by omega) _ _⟩

set_option maxRecDepth 100000 in
set_option maxHeartbeats 1000000 in
theorem ix_move_some_some (w : World) (p m c : Nat) (S : Nat → Prop) (L : List Pl) (h : Ix w p S L m c) (i : Nat) (hi : i < L.length) (x : Nat) (xd : Bool) (y : Nat) (yd : Bool) (ho : L[i] = some (x, xd)) (hym : y < m) (hyf : ∀ (j : Nat) (e : Bool), L[j]? = some (some (y, e)) → j = i) (hc : c < 100000) :
    Calls Try.prog 41 #[.pointer (some ⟨p, 0, none⟩), .int .i64 (i : Int), .agg #[.int .i64 (y : Int), .bool yd]] w fun e w' => e = .returned (.agg #[.int .i64 (x : Int), .bool xd]) ∧ Ix w' p S (L.set i (some (y, yd))) m (c + 1) ∧ Fr S w w' := by
  obtain ⟨g, b, cp, D, hV, hSp, hSg, hSb, hSl⟩ := h
  have HV := hid hV
  have hlen := hV.len.2
  have hmm := hV.most
  have hcnt := hV.cnt
  obtain ⟨c0, c1, _⟩ := hV.cells
  obtain ⟨a0, a1⟩ := hV.at i hi
  rw [ho] at a0 a1
  have HO : Hid (L[i]? = some (some (x, xd))) := by unfold Hid; rw [List.getElem?_eq_getElem hi, ho]
  have hgl : g < w.heap.size := by obtain ⟨cs, hc⟩ := own_ty hV.row (by rfl); exact lt_of_block hc
  have hpl := lt_of_block hV.blk
  have HM := hid hV.map
  have HIL := hid hi
  have hbl := hV.map.lt
  have hxm : x < m := hV.slot i x xd HO.out
  have hxne : ((x : Int) == -1) = false := by simp
  have HKX := hid (keyOf_int_mk Try.underlying3 (WalkArith.wf_i64 (n := (x : Int)) (by omega)))
  have hyne : ((y : Int) == -1) = false := by simp
  have HKY := hid (keyOf_int_mk Try.underlying3 (WalkArith.wf_i64 (n := (y : Int)) (by omega)))
  have HYM := hid hym
  have HYF := hid hyf
  clear hyf
  clear hV ho
  obtain ⟨n, hn⟩ : ∃ n, L.length = n := ⟨_, rfl⟩
  have HN := hid hn
  rw [hn] at c0 hi hlen
  clear hn
  have hin : (i : Int) < (n : Int) := by omega
  simp only [plS, plD] at a0 a1
  have k0 := heap_new w (.cells #[.int .i64 (y : Int), .bool yd] 44)
  have k1 := heap_new (w.alloc (.cells #[.int .i64 (y : Int), .bool yd] 44)) (.cells #[.int .i64 0, .bool false] 44)
  have k2 := heap_new ((w.alloc (.cells #[.int .i64 (y : Int), .bool yd] 44)).alloc (.cells #[.int .i64 0, .bool false] 44)) (.cells #[.int .i64 (x : Int), .bool xd] 44)
  have hf1 := (Fr.refl No (w.alloc (.cells #[.int .i64 (y : Int), .bool yd] 44))).alloc (.cells #[.int .i64 0, .bool false] 44)
  have hf2 := hf1.alloc (.cells #[.int .i64 (x : Int), .bool xd] 44)
  have hf3 := (Fr.refl No ((w.alloc (.cells #[.int .i64 (y : Int), .bool yd] 44)).alloc (.cells #[.int .i64 0, .bool false] 44))).alloc (.cells #[.int .i64 (x : Int), .bool xd] 44)
  have k0' := (hf2.block w.heap.size (by simp) id).trans k0
  have k1' := (hf3.block _ (by simp) id).trans k1
  have hfa := ((Fr.refl No w).alloc (.cells #[.int .i64 (y : Int), .bool yd] 44)).trans hf2
  simp only [World.size_alloc] at k1' k2
  clear k0 k1 hf1 hf2 hf3
  go_enter Try.func41, Try.ntmps41
  go_wp2_with fail
  generalize hWA : ((w.alloc (.cells #[.int .i64 (y : Int), .bool yd] 44)).alloc (.cells #[.int .i64 0, .bool false] 44)).alloc (.cells #[.int .i64 (x : Int), .bool xd] 44) = WA at k0' k1' k2 hfa ⊢
  generalize hB : w.heap.size = B at k0' k1' k2 ⊢
  have HB := hid hB
  clear hWA hB
  have HFA := hid hfa
  have HK0 := hid k0'
  have HK1 := hid k1'
  have HK2 := hid k2
  obtain ⟨s0, s1, _, _⟩ := blk2 k2
  clear hfa k0' k1' k2
  refine wp_region_held_drew (S := fun W => W.cell? ⟨B + 1 + 1, 0, none⟩ = some (.int .i64 (x : Int)) ∧ W.cell? ⟨B + 1 + 1, 1, none⟩ = some (.bool xd)) (by kernel_rfl) ⟨s0, s1⟩ (fun hHeld => ?_)
  clear s0 s1
  refine wpAnyH_take (i := 0) (v := ?_) rfl (by kernel_rfl) (by kernel_rfl) (by kernel_rfl) (fun _ _ _ h => h) (Or.inl ⟨by rfl, ?_⟩) hHeld ?_
  rotate_left
  · intro w hSw; obtain ⟨s0, s1⟩ := hSw
    go_simp
    with_reducible rfl
  try simp only [Act.put, List.getElem_toArray, List.getElem_cons_zero, List.getElem_cons_succ, List.setIfInBounds_toArray, List.set_cons_zero, List.set_cons_succ]
  refine wpAnyH_ready (rs := [1]) (by kernel_rfl) (by simp) ?_
  refine AllReadyH.cons rfl (fun K hK => ?_) AllReadyH.nil
  rw [if_pos (by rfl)]
  go_simp
  refine (ix_nowhere _).mono ?_
  rintro e w2 ⟨rfl, hF⟩
  have HF2 := hid ((Fr.refl No WA).drew.trans hF)
  have HL2 := hid ((HF2.out.block (B + 1 + 1) (lt_of_block HK2.out) id).trans HK2.out)
  obtain ⟨s0, s1, _, _⟩ := blk2 HL2.out
  refine hK.out _ _ ⟨s0, s1⟩ (fun hHeld => ?_)
  clear hK K hF
  try simp only [Act.put, List.getElem_toArray, List.getElem_cons_zero, List.getElem_cons_succ, List.setIfInBounds_toArray, List.set_cons_zero, List.set_cons_succ]
  refine wpAnyH_take (i := 2) (v := ?_) rfl (by kernel_rfl) (by kernel_rfl) (by kernel_rfl) (fun _ _ _ h => h) (Or.inl ⟨by rfl, ?_⟩) hHeld ?_
  rotate_left
  · intro w hSw
    go_simp
    with_reducible rfl
  try simp only [Act.put, List.getElem_toArray, List.getElem_cons_zero, List.getElem_cons_succ, List.setIfInBounds_toArray, List.set_cons_zero, List.set_cons_succ]
  refine wpAnyH_done (by kernel_rfl) ?_ _
  have HL0 := hid ((HF2.out.block B (lt_of_block HK0.out) id).trans HK0.out)
  have HL1 := hid ((HF2.out.block (B + 1) (lt_of_block HK1.out) id).trans HK1.out)
  have HFW := hid (HFA.out.trans HF2.out)
  have d0 := (HFW.out.cell (p := ⟨p, 0, none⟩) hpl id).trans c0
  have d1 := (HFW.out.cell (p := ⟨p, 1, none⟩) hpl id).trans c1
  have HM2 := hid (HM.out.blk (HFW.out.block b hbl id))
  clear c0 c1
  go_wp2_with fail
  refine wp_region_held_drew (S := fun W => W.cell? ⟨p, 1, none⟩ = some (.map (some b)) ∧ W.cell? ⟨B + 1 + 1, 0, none⟩ = some (.int .i64 (x : Int))) (by kernel_rfl) ⟨d1, s0⟩ (fun hHeld => ?_)
  refine wpAnyH_take (i := 0) (v := ?_) rfl (by kernel_rfl) (by kernel_rfl) (by kernel_rfl) (fun _ _ _ h => h) (Or.inl ⟨by rfl, ?_⟩) hHeld ?_
  rotate_left
  · intro w hSw
    go_simp
    with_reducible rfl
  try simp only [Act.put, List.getElem_toArray, List.getElem_cons_zero, List.getElem_cons_succ, List.setIfInBounds_toArray, List.set_cons_zero, List.set_cons_succ]
  refine wpAnyH_take (i := 1) (v := ?_) rfl (by kernel_rfl) (by kernel_rfl) (by kernel_rfl) (fun _ _ _ h => h) (Or.inl ⟨by rfl, ?_⟩) hHeld ?_
  rotate_left
  · intro w hSw
    go_simp
    with_reducible rfl
  try simp only [Act.put, List.getElem_toArray, List.getElem_cons_zero, List.getElem_cons_succ, List.setIfInBounds_toArray, List.set_cons_zero, List.set_cons_succ]
  refine wpAnyH_take (i := 2) (v := ?_) rfl (by kernel_rfl) (by kernel_rfl) (by kernel_rfl) (fun _ _ _ h => h) (Or.inl ⟨by rfl, ?_⟩) hHeld ?_
  rotate_left
  · intro w hSw
    go_simp
    with_reducible rfl
  try simp only [Act.put, List.getElem_toArray, List.getElem_cons_zero, List.getElem_cons_succ, List.setIfInBounds_toArray, List.set_cons_zero, List.set_cons_succ]
  refine wpAnyH_take (i := 3) (v := ?_) rfl (by kernel_rfl) (by kernel_rfl) (by kernel_rfl) (fun _ _ _ h => h) (Or.inl ⟨by rfl, ?_⟩) hHeld ?_
  rotate_left
  · intro w hSw; obtain ⟨u0, u1⟩ := hSw
    go_simp
    with_reducible rfl
  try simp only [Act.put, List.getElem_toArray, List.getElem_cons_zero, List.getElem_cons_succ, List.setIfInBounds_toArray, List.set_cons_zero, List.set_cons_succ]
  refine wpAnyH_take (i := 4) (v := ?_) rfl (by kernel_rfl) (by kernel_rfl) (by kernel_rfl) (fun _ _ _ h => h) (Or.inl ⟨by rfl, ?_⟩) hHeld ?_
  rotate_left
  · intro w hSw
    go_simp
    with_reducible rfl
  try simp only [Act.put, List.getElem_toArray, List.getElem_cons_zero, List.getElem_cons_succ, List.setIfInBounds_toArray, List.set_cons_zero, List.set_cons_succ]
  refine wpAnyH_take (i := 5) (v := ?_) rfl (by kernel_rfl) (by kernel_rfl) (by kernel_rfl) (fun _ _ _ h => h) (Or.inl ⟨by rfl, ?_⟩) hHeld ?_
  rotate_left
  · intro w hSw; obtain ⟨u0, u1⟩ := hSw
    go_simp
    with_reducible rfl
  try simp only [Act.put, List.getElem_toArray, List.getElem_cons_zero, List.getElem_cons_succ, List.setIfInBounds_toArray, List.set_cons_zero, List.set_cons_succ]
  refine wpAnyH_ready (rs := [6]) (by kernel_rfl) (by simp) ?_
  refine AllReadyH.cons rfl (fun K hK => ?_) AllReadyH.nil
  rw [if_pos (by rfl)]
  refine wp_delete_own _ _ 62 3 rfl 3 law_int Try.underlying62 _ b c D rfl (HM2.out.drew) _ _ rfl HKX.out (fun w3 hown1 hturn1 => ?_)
  have hfd := (turned_fr hturn1)
  have HF3 := hid ((Fr.refl (fun k => k = b) w2).drew.trans hfd)
  have HM3 := hid hown1
  have hBB := HB.out
  have HL0' := hid ((HF3.out.block B (lt_of_block HL0.out) (by show ¬ B = b; omega)).trans HL0.out)
  have HL1' := hid ((HF3.out.block (B + 1) (lt_of_block HL1.out) (by show ¬ B + 1 = b; omega)).trans HL1.out)
  have HL2' := hid ((HF3.out.block (B + 1 + 1) (lt_of_block HL2.out) (by show ¬ B + 1 + 1 = b; omega)).trans HL2.out)
  have hpb : ¬ p = b := fun e => by have h1 := HV.out.blk; obtain ⟨es, ck, h2, _⟩ := HM.out; rw [e, h2] at h1; cases h1
  have hgb : ¬ g = b := fun e => by obtain ⟨cs, h1⟩ := own_ty HV.out.row (by rfl); obtain ⟨es, ck, h2, _⟩ := HM.out; rw [e, h2] at h1; cases h1
  have HFW3 := hid ((HFW.out.mono (T := fun k => k = b) (fun _ _ e => e.elim)).trans HF3.out)
  have hp3 := HFW.out.lt hpl
  have d0' := (HF3.out.cell (p := ⟨p, 0, none⟩) hp3 hpb).trans d0
  have d1' := (HF3.out.cell (p := ⟨p, 1, none⟩) hp3 hpb).trans d1
  obtain ⟨s0', s1', _, _⟩ := blk2 HL2'.out
  refine hK.out _ _ ⟨d1', s0'⟩ (fun hHeld => ?_)
  clear hK K d0 d1 s0 s1 HL0 HL1 HL2 hown1 hturn1 hfd
  try simp only [Act.put, List.getElem_toArray, List.getElem_cons_zero, List.getElem_cons_succ, List.setIfInBounds_toArray, List.set_cons_zero, List.set_cons_succ]
  refine wpAnyH_done (by kernel_rfl) ?_ _
  go_wp2_with fail
  clear s0' s1'
  obtain ⟨s0, s1, _, _⟩ := blk2 HL0'.out
  refine wp_region_held_drew (S := fun W => W.cell? ⟨B, 0, none⟩ = some (.int .i64 (y : Int)) ∧ W.cell? ⟨B, 1, none⟩ = some (.bool yd)) (by kernel_rfl) ⟨s0, s1⟩ (fun hHeld => ?_)
  clear s0 s1
  refine wpAnyH_take (i := 0) (v := ?_) rfl (by kernel_rfl) (by kernel_rfl) (by kernel_rfl) (fun _ _ _ h => h) (Or.inl ⟨by rfl, ?_⟩) hHeld ?_
  rotate_left
  · intro w hSw; obtain ⟨s0, s1⟩ := hSw
    go_simp
    with_reducible rfl
  try simp only [Act.put, List.getElem_toArray, List.getElem_cons_zero, List.getElem_cons_succ, List.setIfInBounds_toArray, List.set_cons_zero, List.set_cons_succ]
  refine wpAnyH_ready (rs := [1]) (by kernel_rfl) (by simp) ?_
  refine AllReadyH.cons rfl (fun K hK => ?_) AllReadyH.nil
  rw [if_pos (by rfl)]
  go_simp
  refine (ix_nowhere _).mono ?_
  rintro e w4 ⟨rfl, hF⟩
  have HF4 := hid ((Fr.refl No _).drew.trans hF)
  have HN0 := hid ((HF4.out.block B (lt_of_block HL0'.out) id).trans HL0'.out)
  obtain ⟨s0, s1, _, _⟩ := blk2 HN0.out
  refine hK.out _ _ ⟨s0, s1⟩ (fun hHeld => ?_)
  clear hK K hF
  try simp only [Act.put, List.getElem_toArray, List.getElem_cons_zero, List.getElem_cons_succ, List.setIfInBounds_toArray, List.set_cons_zero, List.set_cons_succ]
  refine wpAnyH_take (i := 2) (v := ?_) rfl (by kernel_rfl) (by kernel_rfl) (by kernel_rfl) (fun _ _ _ h => h) (Or.inl ⟨by rfl, ?_⟩) hHeld ?_
  rotate_left
  · intro w hSw
    go_simp
    with_reducible rfl
  try simp only [Act.put, List.getElem_toArray, List.getElem_cons_zero, List.getElem_cons_succ, List.setIfInBounds_toArray, List.set_cons_zero, List.set_cons_succ]
  refine wpAnyH_done (by kernel_rfl) ?_ _
  have HN1 := hid ((HF4.out.block (B + 1) (lt_of_block HL1'.out) id).trans HL1'.out)
  have HN2 := hid ((HF4.out.block (B + 1 + 1) (lt_of_block HL2'.out) id).trans HL2'.out)
  have HFW4 := hid (HFW3.out.trans (HF4.out.mono (T := fun k => k = b) (fun _ _ e => e.elim)))
  have hp4 := HFW3.out.lt hpl
  have d0 := (HF4.out.cell (p := ⟨p, 0, none⟩) hp4 id).trans d0'
  have d1 := (HF4.out.cell (p := ⟨p, 1, none⟩) hp4 id).trans d1'
  have HM4 := hid (MapIn.blk HM3.out (HF4.out.block b (HFW3.out.lt hbl) id))
  clear d0' d1' HL0' HL1' HL2' HM3
  go_wp2_with fail
  refine wp_region_held_drew (S := fun W => W.cell? ⟨p, 1, none⟩ = some (.map (some b)) ∧ W.cell? ⟨B, 0, none⟩ = some (.int .i64 (y : Int))) (by kernel_rfl) ⟨d1, s0⟩ (fun hHeld => ?_)
  refine wpAnyH_take (i := 0) (v := ?_) rfl (by kernel_rfl) (by kernel_rfl) (by kernel_rfl) (fun _ _ _ h => h) (Or.inl ⟨by rfl, ?_⟩) hHeld ?_
  rotate_left
  · intro w hSw
    go_simp
    with_reducible rfl
  try simp only [Act.put, List.getElem_toArray, List.getElem_cons_zero, List.getElem_cons_succ, List.setIfInBounds_toArray, List.set_cons_zero, List.set_cons_succ]
  refine wpAnyH_take (i := 1) (v := ?_) rfl (by kernel_rfl) (by kernel_rfl) (by kernel_rfl) (fun _ _ _ h => h) (Or.inl ⟨by rfl, ?_⟩) hHeld ?_
  rotate_left
  · intro w hSw
    go_simp
    with_reducible rfl
  try simp only [Act.put, List.getElem_toArray, List.getElem_cons_zero, List.getElem_cons_succ, List.setIfInBounds_toArray, List.set_cons_zero, List.set_cons_succ]
  refine wpAnyH_take (i := 2) (v := ?_) rfl (by kernel_rfl) (by kernel_rfl) (by kernel_rfl) (fun _ _ _ h => h) (Or.inl ⟨by rfl, ?_⟩) hHeld ?_
  rotate_left
  · intro w hSw
    go_simp
    with_reducible rfl
  try simp only [Act.put, List.getElem_toArray, List.getElem_cons_zero, List.getElem_cons_succ, List.setIfInBounds_toArray, List.set_cons_zero, List.set_cons_succ]
  refine wpAnyH_take (i := 3) (v := ?_) rfl (by kernel_rfl) (by kernel_rfl) (by kernel_rfl) (fun _ _ _ h => h) (Or.inl ⟨by rfl, ?_⟩) hHeld ?_
  rotate_left
  · intro w hSw; obtain ⟨u0, u1⟩ := hSw
    go_simp
    with_reducible rfl
  try simp only [Act.put, List.getElem_toArray, List.getElem_cons_zero, List.getElem_cons_succ, List.setIfInBounds_toArray, List.set_cons_zero, List.set_cons_succ]
  refine wpAnyH_take (i := 4) (v := ?_) rfl (by kernel_rfl) (by kernel_rfl) (by kernel_rfl) (fun _ _ _ h => h) (Or.inl ⟨by rfl, ?_⟩) hHeld ?_
  rotate_left
  · intro w hSw
    go_simp
    with_reducible rfl
  try simp only [Act.put, List.getElem_toArray, List.getElem_cons_zero, List.getElem_cons_succ, List.setIfInBounds_toArray, List.set_cons_zero, List.set_cons_succ]
  refine wpAnyH_take (i := 5) (v := ?_) rfl (by kernel_rfl) (by kernel_rfl) (by kernel_rfl) (fun _ _ _ h => h) (Or.inl ⟨by rfl, ?_⟩) hHeld ?_
  rotate_left
  · intro w hSw; obtain ⟨u0, u1⟩ := hSw
    go_simp
    with_reducible rfl
  try simp only [Act.put, List.getElem_toArray, List.getElem_cons_zero, List.getElem_cons_succ, List.setIfInBounds_toArray, List.set_cons_zero, List.set_cons_succ]
  refine wpAnyH_take (i := 6) (v := ?_) rfl (by kernel_rfl) (by kernel_rfl) (by kernel_rfl) (fun _ _ _ h => h) (Or.inl ⟨by rfl, ?_⟩) hHeld ?_
  rotate_left
  · intro w hSw
    go_simp
    with_reducible rfl
  try simp only [Act.put, List.getElem_toArray, List.getElem_cons_zero, List.getElem_cons_succ, List.setIfInBounds_toArray, List.set_cons_zero, List.set_cons_succ]
  refine wpAnyH_ready (rs := [7]) (by kernel_rfl) (by simp) ?_
  refine AllReadyH.cons rfl (fun K hK => ?_) AllReadyH.nil
  rw [if_pos (by rfl)]
  refine wp_update_own _ _ _ 62 rfl 3 3 law_int Try.underlying62 _ b c _ rfl (HM4.out.drew) (by unfold maxLen; omega) _ _ _ rfl rfl HKY.out _ [] (plainElem_int Try.underlying3 (WalkArith.wf_i64 (n := (i : Int)) (by omega))) (fun w5 hown1 hturn1 => ?_)
  have hfd := (turned_fr hturn1)
  have HF5 := hid ((Fr.refl (fun k => k = b) w4).drew.trans hfd)
  have HM5 := hid hown1
  have HP0 := hid ((HF5.out.block B (lt_of_block HN0.out) (by show ¬ B = b; omega)).trans HN0.out)
  have HP1 := hid ((HF5.out.block (B + 1) (lt_of_block HN1.out) (by show ¬ B + 1 = b; omega)).trans HN1.out)
  have HP2 := hid ((HF5.out.block (B + 1 + 1) (lt_of_block HN2.out) (by show ¬ B + 1 + 1 = b; omega)).trans HN2.out)
  have HFW5 := hid (HFW4.out.trans HF5.out)
  have hp5 := HFW4.out.lt hpl
  have d0' := (HF5.out.cell (p := ⟨p, 0, none⟩) hp5 hpb).trans d0
  have d1' := (HF5.out.cell (p := ⟨p, 1, none⟩) hp5 hpb).trans d1
  clear s0 s1
  obtain ⟨s0, s1, _, _⟩ := blk2 HP0.out
  refine hK.out _ _ ⟨d1', s0⟩ (fun hHeld => ?_)
  clear hK K d0 d1 HN0 HN1 HN2 hown1 hturn1 hfd
  try simp only [Act.put, List.getElem_toArray, List.getElem_cons_zero, List.getElem_cons_succ, List.setIfInBounds_toArray, List.set_cons_zero, List.set_cons_succ]
  refine wpAnyH_done (by kernel_rfl) ?_ _
  go_wp2_with fail
  have hown5 := own_frk HV.out.row HFW5.out (fun k hk => by simp only [Value.ownBlock, Option.some.injEq] at hk; subst hk; exact hgb)
  have HOW := hid hown5
  obtain ⟨gg, cc, hgv, _, _, hrg, hth⟩ := own_at hown5 (fun x _ => plV_len x) i HIL.out
  obtain rfl : g = gg := by injection hgv with e; injection e with e; injection e
  have t0 := hrg 0 _ (by rw [plV_eq]; rfl)
  have t1 := hrg 1 _ (by rw [plV_eq]; rfl)
  obtain ⟨_, f0⟩ := hth 0 (by omega)
  obtain ⟨_, f1⟩ := hth 1 (by omega)
  rw [Nat.add_zero] at t0 f0
  have hpg : ¬ p = g := fun e => by obtain ⟨cs, h1⟩ := own_ty HV.out.row (by rfl); have h2 := HV.out.blk; rw [e, h1] at h2; cases h2
  have hGB := HB.out
  clear hrg hth hgv hown5
  refine wp_region_held_drew (S := fun W => W.cell? ⟨p, 0, none⟩ = some (.slice (some ⟨g, 0, none⟩) n cp) ∧ W.cell? ⟨B, 0, none⟩ = some (.int .i64 (y : Int)) ∧ W.cell? ⟨B, 1, none⟩ = some (.bool yd)) (by kernel_rfl) ⟨d0', s0, s1⟩ (fun hHeld => ?_)
  refine wpAnyH_take (i := 0) (v := ?_) rfl (by kernel_rfl) (by kernel_rfl) (by kernel_rfl) (fun _ _ _ h => h) (Or.inl ⟨by rfl, ?_⟩) hHeld ?_
  rotate_left
  · intro w hSw
    go_simp
    with_reducible rfl
  try simp only [Act.put, List.getElem_toArray, List.getElem_cons_zero, List.getElem_cons_succ, List.setIfInBounds_toArray, List.set_cons_zero, List.set_cons_succ]
  refine wpAnyH_take (i := 1) (v := ?_) rfl (by kernel_rfl) (by kernel_rfl) (by kernel_rfl) (fun _ _ _ h => h) (Or.inl ⟨by rfl, ?_⟩) hHeld ?_
  rotate_left
  · intro w hSw
    go_simp
    with_reducible rfl
  try simp only [Act.put, List.getElem_toArray, List.getElem_cons_zero, List.getElem_cons_succ, List.setIfInBounds_toArray, List.set_cons_zero, List.set_cons_succ]
  refine wpAnyH_take (i := 2) (v := ?_) rfl (by kernel_rfl) (by kernel_rfl) (by kernel_rfl) (fun _ _ _ h => h) (Or.inl ⟨by rfl, ?_⟩) hHeld ?_
  rotate_left
  · intro w hSw
    go_simp
    with_reducible rfl
  try simp only [Act.put, List.getElem_toArray, List.getElem_cons_zero, List.getElem_cons_succ, List.setIfInBounds_toArray, List.set_cons_zero, List.set_cons_succ]
  refine wpAnyH_take (i := 3) (v := ?_) rfl (by kernel_rfl) (by kernel_rfl) (by kernel_rfl) (fun _ _ _ h => h) (Or.inl ⟨by rfl, ?_⟩) hHeld ?_
  rotate_left
  · intro w hSw; obtain ⟨u0, u1, u2⟩ := hSw
    go_simp
    with_reducible rfl
  try simp only [Act.put, List.getElem_toArray, List.getElem_cons_zero, List.getElem_cons_succ, List.setIfInBounds_toArray, List.set_cons_zero, List.set_cons_succ]
  refine wpAnyH_take (i := 4) (v := ?_) rfl (by kernel_rfl) (by kernel_rfl) (by kernel_rfl) (fun _ _ _ h => h) (Or.inl ⟨by rfl, ?_⟩) hHeld ?_
  rotate_left
  · intro w hSw
    go_simp
    with_reducible rfl
  try simp only [Act.put, List.getElem_toArray, List.getElem_cons_zero, List.getElem_cons_succ, List.setIfInBounds_toArray, List.set_cons_zero, List.set_cons_succ]
  refine wpAnyH_take (i := 5) (v := ?_) rfl (by kernel_rfl) (by kernel_rfl) (by kernel_rfl) (fun _ _ _ h => h) (Or.inl ⟨by rfl, ?_⟩) hHeld ?_
  rotate_left
  · intro w hSw; obtain ⟨u0, u1, u2⟩ := hSw
    go_simp
    with_reducible rfl
  try simp only [Act.put, List.getElem_toArray, List.getElem_cons_zero, List.getElem_cons_succ, List.setIfInBounds_toArray, List.set_cons_zero, List.set_cons_succ]
  refine wpAnyH_take (i := 6) (v := ?_) rfl (by kernel_rfl) (by kernel_rfl) (by kernel_rfl) (fun _ _ _ h => h) (Or.inl ⟨by rfl, ?_⟩) hHeld ?_
  rotate_left
  · intro w hSw
    go_simp
    with_reducible rfl
  try simp only [Act.put, List.getElem_toArray, List.getElem_cons_zero, List.getElem_cons_succ, List.setIfInBounds_toArray, List.set_cons_zero, List.set_cons_succ]
  refine wpAnyH_ready (rs := [7]) (by kernel_rfl) (by simp) ?_
  refine AllReadyH.cons rfl (fun K hK => ?_) AllReadyH.nil
  rw [if_pos (by rfl)]
  go_simp
  have HFS := hid (((Fr.set1 w5 g (i * 2) (.int .i64 (y : Int))).trans (Fr.set1 (w5.setCell ⟨g, i * 2, none⟩ (.int .i64 (y : Int))) g (i * 2 + 1) (.bool yd))).drew)
  have hBg : ¬ B = g := by omega
  have hlB := lt_of_block HP0.out
  have HSS := hid (And.intro ((HFS.out.cell (p := ⟨p, 0, none⟩) (HFW5.out.lt hpl) hpg).trans d0') (And.intro ((HFS.out.cell (p := ⟨B, 0, none⟩) hlB hBg).trans s0) ((HFS.out.cell (p := ⟨B, 1, none⟩) hlB hBg).trans s1)))
  refine hK.out _ _ HSS.out (fun hHeld => ?_)
  clear hK K
  try simp only [Act.put, List.getElem_toArray, List.getElem_cons_zero, List.getElem_cons_succ, List.setIfInBounds_toArray, List.set_cons_zero, List.set_cons_succ]
  refine wpAnyH_done (by kernel_rfl) ?_ _
  have HR2 := hid ((HFS.out.block (B + 1 + 1) (lt_of_block HP2.out) (by show ¬ B + 1 + 1 = g; omega)).trans HP2.out)
  have HR1 := hid ((HFS.out.block (B + 1) (lt_of_block HP1.out) (by show ¬ B + 1 = g; omega)).trans HP1.out)
  clear s0 s1 d0' d1' HSS HP1 HP2 hHeld
  generalize hW6 : ((World.setCell w5 ⟨g, i * 2, none⟩ (.int .i64 (y : Int))).setCell ⟨g, i * 2 + 1, none⟩ (.bool yd)).drew = w6 at HFS HR1 HR2 ⊢
  have HW6 := hid hW6
  clear hW6
  obtain ⟨s0, s1, _, _⟩ := blk2 HR2.out
  obtain ⟨q0, q1, f0, f1⟩ := blk2 HR1.out
  go_wp2_with fail
  clear s0 s1 q0 q1 f0 f1 hHeld
  have h6 := HW6.out
  obtain ⟨r1, r2⟩ := ix_moved (q := some (y, yd)) HV.out hSp hSg hSb hSl HIL.out HO.out (fun x d h j e hj => by cases h; exact HYF.out j e hj) (fun x d h => by cases h; exact HYM.out) hc hpg hgb hpb HFW5.out HM5.out HW6.out.symm
  have hFT := (Fr.set1 w6 (B + 1) 0 (.int .i64 (x : Int))).trans (Fr.set1 (w6.setCell ⟨B + 1, 0, none⟩ (.int .i64 (x : Int))) (B + 1) 1 (.bool xd))
  exact bodyPost_ret (res_pl rfl rfl (put2 HR1.out _ _)) rfl ⟨rfl, r1.fr hFT (fun k hk => by have := hSl k hk; show ¬ k = B + 1; omega), fr_put2 r2 (by omega) _ _⟩
end Go.Proofs.Ytfggllhflibfcaa
