/- index: Clone, Copy. -/
import Derived.Test.YtfggllhflibfcaaIxG
import Derived.Shelf.SlMaps.Clone
namespace Go.Proofs.Ytfggllhflibfcaa
open Go.RowKit Go.Maps
theorem map_clone (w : World) (b : Nat) (es : Array MapEntry) (clock : Nat) (hb : w.heap[b]? = some (.map es clock)) :
    Calls Try.prog 40 #[.map (some b)] w fun e w' => e = .returned (.map (some w.heap.size)) ∧ w' = w.alloc (.map es clock) := by
  have hq := fun w => run_eql_map_nil_sl (P := Try.prog) w 62 _ _ (some b) Try.underlying62
  go_enter Try.func40, Try.ntmps40
  go_wp2
  rw [run_callFunc_extern Try.func43 (by kernel_rfl) (by kernel_rfl) (by kernel_rfl) (e := Extern.MapsClone.clone) (by kernel_rfl), run_maps_clone_sl w 62 hb]
  simp only [Result.andThen]
  rw [Oper.upon_value]
  go_wp2
  rw [run_typeAssert_map_sl _ 62 20 _ _ _ Try.underlying62]
  simp only [Result.andThen]
  rw [Oper.upon_value]
  go_wp2
  go_ret
  exact ⟨rfl, rfl⟩
theorem map_clone_in (w : World) (b c : Nat) (D : DataW Unit) (h : MapIn w b c D) :
    Calls Try.prog 40 #[.map (some b)] w fun e w' => e = .returned (.map (some w.heap.size)) ∧ MapIn w' w.heap.size c D ∧ Fr No w w' := by
  obtain ⟨es, clock, hb, F, hs, hD⟩ := h
  refine (map_clone w b es clock hb).mono fun e w' ⟨he, hw⟩ => ?_
  subst hw
  exact ⟨he, ⟨es, clock, heap_new w _, F, hs, hD⟩, (Fr.refl No w).alloc _⟩
set_option maxRecDepth 100000 in
set_option maxHeartbeats 1000000 in
theorem pl_clone (w : World) (g o n c : Nat) (xs : List Value) (hl : xs.length = n * 2) (hx : ∀ j u, xs[j]? = some u → w.cell? ⟨g, o + j, none⟩ = some u) (h1 : ∀ u ∈ xs, u.oneCell' = true) (hn : n ≤ 2000000) :
    Calls Try.prog 34 #[.slice (some ⟨g, o, none⟩) n c] w fun e w' => ∃ v, e = .returned v ∧ w'.ownsRow w.heap.size 44 2 v n xs ∧ Fr No w w' := by
  obtain ⟨i0, hi, hz0, hz1, hz2⟩ := info_parts pl_info
  have HN : Hid (∀ j u, xs[j]? = some u → (w.alloc (.cells #[] 44)).cell? ((⟨g, o, none⟩ : Addr).add j) = some u) := fun j u hu => by
    rw [Addr.add_mid]; exact cell_allocd (.cells #[] 44) (hx j u hu)
  have HO : Hid ((w.alloc (.cells #[] 44)).ownsRow w.heap.size 44 2 (.slice (some ⟨w.heap.size, 0, none⟩) 0 0) 0 []) := ⟨by simp, .inr ⟨w.heap.size, 0, #[], rfl, Nat.le_refl _, heap_new w _, Nat.le_refl _, Nat.zero_le _, by simp, by simp⟩⟩
  have hne : ∀ W, (binOp .eql 58 (.slice (some ⟨g, o, none⟩) n c) (.slice none 0 0)).run Try.prog W = .ok (.bool false) W := fun W => rfl
  have H1 := hid h1
  have HL := hid hl
  clear hx h1 hl
  go_enter Try.func34, Try.ntmps34
  go_wp2_with (at_builtin; refine wpList_append_own _ rfl (.tmp 5) (.tmp 6) 58 rfl w.heap.size 44 i0 (.agg #[.int .i64 0, .bool false]) 2 16 Try.underlying58 hi hz0 hz1 hz2 (by kernel_rfl) (by decide) _ 0 [] rfl HO.out ⟨g, o, none⟩ n c xs rfl HL.out HN.out H1.out (by unfold maxLen; omega) (by omega) (by simp) ?_; intro v' w1 hown hgrow hnone; clear hnone; have HF1 := hid (((Fr.refl No w).alloc (.cells #[] 44)).grown hgrow (fun k h hk => by cases h; exact absurd hk (Nat.lt_irrefl _))); clear hgrow; rw [Nat.zero_add, List.nil_append] at hown; have HW := hid hown; clear hown)
  go_ret
  exact ⟨_, rfl, HW.out, HF1.out⟩
theorem pl_clone_own (w : World) (g cp : Nat) (L : List Pl) (h : w.ownsRow 0 44 2 (.slice (some ⟨g, 0, none⟩) L.length cp) L.length (L.flatMap plV)) (hn : 1 ≤ L.length ∧ L.length ≤ 4096) :
    Calls Try.prog 34 #[.slice (some ⟨g, 0, none⟩) L.length cp] w fun e w' => ∃ g' cp', e = .returned (.slice (some ⟨g', 0, none⟩) L.length cp') ∧ w.heap.size ≤ g' ∧ w'.ownsRow 0 44 2 (.slice (some ⟨g', 0, none⟩) L.length cp') L.length (L.flatMap plV) ∧ Fr No w w' := by
  have hc := own_cells h
  refine (pl_clone w g 0 L.length cp _ (flatP_l L) (fun j u hu => by rw [Nat.zero_add]; exact hc.1 j u hu) (flat_one plV_one _) (by omega)).mono ?_
  rintro e w' ⟨v, rfl, ho, hF⟩
  obtain ⟨h1, ⟨rfl, hz⟩ | ⟨g', cap, cur, rfl, hg, hb, h4, h5, h6, h7⟩⟩ := id ho
  · omega
  · exact ⟨g', cap, rfl, hg, own_mono ho, hF⟩
theorem ix_Copy_nil (w : World) : Calls Try.prog 20 #[.pointer none] w fun e w' => e = .returned (.pointer none) ∧ w' = w := by
  go_enter Try.func20, Try.ntmps20
  go_wp2_with fail
  go_ret
  exact ⟨rfl, rfl⟩
set_option maxRecDepth 100000 in
set_option maxHeartbeats 1000000 in
theorem ix_Copy (w : World) (p m c : Nat) (S : Nat → Prop) (L : List Pl) (h : Ix w p S L m c) : Calls Try.prog 20 #[.pointer (some ⟨p, 0, none⟩)] w fun e w' => ∃ p' S', e = .returned (.pointer (some ⟨p', 0, none⟩)) ∧ Ix w' p' S' L m c ∧ (∀ k, S' k → w.heap.size ≤ k) ∧ Fr No w w' := by
  obtain ⟨g, b, cp, D, hV, hSp, hSg, hSb, hSl⟩ := h
  have HV := hid hV
  have hlen := hV.len
  have hpl := lt_of_block hV.blk
  obtain ⟨c0, c1, c2⟩ := hV.cells
  have HC := hid (pl_clone_own w.drew g cp L hV.row.drew hV.len)
  obtain ⟨n, hn⟩ : ∃ n, L.length = n := ⟨_, rfl⟩
  have HN := hid hn
  rw [hn] at c0 HC hlen
  clear hV hn
  have HCC := hid (And.intro c0 (And.intro c1 c2))
  go_enter Try.func20, Try.ntmps20
  go_wp2_with fail
  refine wp_region_held_drew (S := fun W => W.cell? ⟨p, 0, none⟩ = some (.slice (some ⟨g, 0, none⟩) n cp) ∧ W.cell? ⟨p, 1, none⟩ = some (.map (some b)) ∧ W.cell? ⟨p, 2, none⟩ = some (.int .i64 (m : Int))) (by kernel_rfl) ⟨c0, c1, c2⟩ (fun hHeld => ?_)
  refine wpAnyH_take (i := 0) (v := ?_) rfl (by kernel_rfl) (by kernel_rfl) (by kernel_rfl) (fun _ _ _ h => h) (Or.inl ⟨by rfl, ?_⟩) hHeld ?_
  rotate_left
  · intro w hSw
    go_simp
    with_reducible rfl
  try simp only [Act.put, List.getElem_toArray, List.getElem_cons_zero, List.getElem_cons_succ, List.setIfInBounds_toArray, List.set_cons_zero, List.set_cons_succ]
  refine wpAnyH_take (i := 1) (v := ?_) rfl (by kernel_rfl) (by kernel_rfl) (by kernel_rfl) (fun _ _ _ h => h) (Or.inl ⟨by rfl, ?_⟩) hHeld ?_
  rotate_left
  · intro w hSw
    go_simp
    with_reducible rfl
  try simp only [Act.put, List.getElem_toArray, List.getElem_cons_zero, List.getElem_cons_succ, List.setIfInBounds_toArray, List.set_cons_zero, List.set_cons_succ]
  refine wpAnyH_take (i := 2) (v := ?_) rfl (by kernel_rfl) (by kernel_rfl) (by kernel_rfl) (fun _ _ _ h => h) (Or.inl ⟨by rfl, ?_⟩) hHeld ?_
  rotate_left
  · intro w hSw
    go_simp
    with_reducible rfl
  try simp only [Act.put, List.getElem_toArray, List.getElem_cons_zero, List.getElem_cons_succ, List.setIfInBounds_toArray, List.set_cons_zero, List.set_cons_succ]
  refine wpAnyH_take (i := 3) (v := ?_) rfl (by kernel_rfl) (by kernel_rfl) (by kernel_rfl) (fun _ _ _ h => h) (Or.inl ⟨by rfl, ?_⟩) hHeld ?_
  rotate_left
  · intro w hSw; obtain ⟨u0, u1, u2⟩ := hSw
    go_simp
    with_reducible rfl
  try simp only [Act.put, List.getElem_toArray, List.getElem_cons_zero, List.getElem_cons_succ, List.setIfInBounds_toArray, List.set_cons_zero, List.set_cons_succ]
  refine wpAnyH_take (i := 5) (v := ?_) rfl (by kernel_rfl) (by kernel_rfl) (by kernel_rfl) (fun _ _ _ h => h) (Or.inl ⟨by rfl, ?_⟩) hHeld ?_
  rotate_left
  · intro w hSw
    go_simp
    with_reducible rfl
  try simp only [Act.put, List.getElem_toArray, List.getElem_cons_zero, List.getElem_cons_succ, List.setIfInBounds_toArray, List.set_cons_zero, List.set_cons_succ]
  refine wpAnyH_take (i := 6) (v := ?_) rfl (by kernel_rfl) (by kernel_rfl) (by kernel_rfl) (fun _ _ _ h => h) (Or.inl ⟨by rfl, ?_⟩) hHeld ?_
  rotate_left
  · intro w hSw
    go_simp
    with_reducible rfl
  try simp only [Act.put, List.getElem_toArray, List.getElem_cons_zero, List.getElem_cons_succ, List.setIfInBounds_toArray, List.set_cons_zero, List.set_cons_succ]
  refine wpAnyH_take (i := 7) (v := ?_) rfl (by kernel_rfl) (by kernel_rfl) (by kernel_rfl) (fun _ _ _ h => h) (Or.inl ⟨by rfl, ?_⟩) hHeld ?_
  rotate_left
  · intro w hSw
    go_simp
    with_reducible rfl
  try simp only [Act.put, List.getElem_toArray, List.getElem_cons_zero, List.getElem_cons_succ, List.setIfInBounds_toArray, List.set_cons_zero, List.set_cons_succ]
  refine wpAnyH_take (i := 8) (v := ?_) rfl (by kernel_rfl) (by kernel_rfl) (by kernel_rfl) (fun _ _ _ h => h) (Or.inl ⟨by rfl, ?_⟩) hHeld ?_
  rotate_left
  · intro w hSw; obtain ⟨u0, u1, u2⟩ := hSw
    go_simp
    with_reducible rfl
  try simp only [Act.put, List.getElem_toArray, List.getElem_cons_zero, List.getElem_cons_succ, List.setIfInBounds_toArray, List.set_cons_zero, List.set_cons_succ]
  refine wpAnyH_take (i := 10) (v := ?_) rfl (by kernel_rfl) (by kernel_rfl) (by kernel_rfl) (fun _ _ _ h => h) (Or.inl ⟨by rfl, ?_⟩) hHeld ?_
  rotate_left
  · intro w hSw
    go_simp
    with_reducible rfl
  try simp only [Act.put, List.getElem_toArray, List.getElem_cons_zero, List.getElem_cons_succ, List.setIfInBounds_toArray, List.set_cons_zero, List.set_cons_succ]
  refine wpAnyH_take (i := 11) (v := ?_) rfl (by kernel_rfl) (by kernel_rfl) (by kernel_rfl) (fun _ _ _ h => h) (Or.inl ⟨by rfl, ?_⟩) hHeld ?_
  rotate_left
  · intro w hSw
    go_simp
    with_reducible rfl
  try simp only [Act.put, List.getElem_toArray, List.getElem_cons_zero, List.getElem_cons_succ, List.setIfInBounds_toArray, List.set_cons_zero, List.set_cons_succ]
  refine wpAnyH_take (i := 12) (v := ?_) rfl (by kernel_rfl) (by kernel_rfl) (by kernel_rfl) (fun _ _ _ h => h) (Or.inl ⟨by rfl, ?_⟩) hHeld ?_
  rotate_left
  · intro w hSw
    go_simp
    with_reducible rfl
  try simp only [Act.put, List.getElem_toArray, List.getElem_cons_zero, List.getElem_cons_succ, List.setIfInBounds_toArray, List.set_cons_zero, List.set_cons_succ]
  refine wpAnyH_take (i := 13) (v := ?_) rfl (by kernel_rfl) (by kernel_rfl) (by kernel_rfl) (fun _ _ _ h => h) (Or.inl ⟨by rfl, ?_⟩) hHeld ?_
  rotate_left
  · intro w hSw; obtain ⟨u0, u1, u2⟩ := hSw
    go_simp
    with_reducible rfl
  try simp only [Act.put, List.getElem_toArray, List.getElem_cons_zero, List.getElem_cons_succ, List.setIfInBounds_toArray, List.set_cons_zero, List.set_cons_succ]
  refine wpAnyH_ready (rs := [4]) (by kernel_rfl) (by simp) ?_
  refine AllReadyH.cons rfl (fun K hK => ?_) AllReadyH.nil
  rw [if_pos (by rfl)]
  go_simp
  refine HC.out.mono ?_
  rintro e w1 ⟨g', cp', rfl, hg', ho, hF⟩
  have HG' := hid hg'
  have HO := hid ho
  have HF := hid ((Fr.refl No w).drew.trans hF)
  refine hK.out _ _ ⟨(HF.out.cell (p := ⟨p, 0, none⟩) hpl id).trans c0, (HF.out.cell (p := ⟨p, 1, none⟩) hpl id).trans c1, (HF.out.cell (p := ⟨p, 2, none⟩) hpl id).trans c2⟩ (fun hHeld => ?_)
  clear hK K hF ho hg' HC
  try simp only [Act.put, List.getElem_toArray, List.getElem_cons_zero, List.getElem_cons_succ, List.setIfInBounds_toArray, List.set_cons_zero, List.set_cons_succ]
  refine wpAnyH_ready (rs := [9]) (by kernel_rfl) (by simp) ?_
  refine AllReadyH.cons rfl (fun K hK => ?_) AllReadyH.nil
  rw [if_pos (by rfl)]
  go_simp
  refine (map_clone_in w1 b c D (MapIn.blk HV.out.map (HF.out.block b HV.out.map.lt id))).mono ?_
  rintro e w2 ⟨rfl, hM, hF⟩
  have HM := hid hM
  have HF1 := hid hF
  have HF2 := hid (HF.out.trans hF)
  refine hK.out _ _ ⟨(HF2.out.cell (p := ⟨p, 0, none⟩) hpl id).trans c0, (HF2.out.cell (p := ⟨p, 1, none⟩) hpl id).trans c1, (HF2.out.cell (p := ⟨p, 2, none⟩) hpl id).trans c2⟩ (fun hHeld => ?_)
  clear hK K hF hM
  try simp only [Act.put, List.getElem_toArray, List.getElem_cons_zero, List.getElem_cons_succ, List.setIfInBounds_toArray, List.set_cons_zero, List.set_cons_succ]
  refine wpAnyH_take (i := 14) (v := ?_) rfl (by kernel_rfl) (by kernel_rfl) (by kernel_rfl) (fun _ _ _ h => h) (Or.inl ⟨by rfl, ?_⟩) hHeld ?_
  rotate_left
  · intro w hSw
    go_simp
    with_reducible rfl
  try simp only [Act.put, List.getElem_toArray, List.getElem_cons_zero, List.getElem_cons_succ, List.setIfInBounds_toArray, List.set_cons_zero, List.set_cons_succ]
  refine wpAnyH_ready (rs := [15]) (by kernel_rfl) (by simp) ?_
  refine AllReadyH.cons rfl (fun K hK => ?_) AllReadyH.nil
  rw [if_pos (by rfl)]
  go_simp
  have hFA : Fr No w2 (w2.alloc (.cells #[.slice (some ⟨g', 0, none⟩) n cp', .map (some w1.heap.size), .int .i64 (m : Int)] 64)) := (Fr.refl No w2).alloc _
  have hF3 := HF2.out.trans hFA
  refine hK.out _ _ ⟨(hF3.cell (p := ⟨p, 0, none⟩) hpl id).trans c0, (hF3.cell (p := ⟨p, 1, none⟩) hpl id).trans c1, (hF3.cell (p := ⟨p, 2, none⟩) hpl id).trans c2⟩ (fun hHeld => ?_)
  clear hK K
  try simp only [Act.put, List.getElem_toArray, List.getElem_cons_zero, List.getElem_cons_succ, List.setIfInBounds_toArray, List.set_cons_zero, List.set_cons_succ]
  refine wpAnyH_take (i := 16) (v := ?_) rfl (by kernel_rfl) (by kernel_rfl) (by kernel_rfl) (fun _ _ _ h => h) (Or.inl ⟨by rfl, ?_⟩) hHeld ?_
  rotate_left
  · intro w hSw
    go_simp
    with_reducible rfl
  try simp only [Act.put, List.getElem_toArray, List.getElem_cons_zero, List.getElem_cons_succ, List.setIfInBounds_toArray, List.set_cons_zero, List.set_cons_succ]
  refine wpAnyH_done (by kernel_rfl) ?_ _
  go_wp2_with fail
  go_ret
  have hs1 := HF.out.size
  have hs2 := HF1.out.size
  have hg' : w.heap.size ≤ g' := HG'.out
  have hgl : g' < w1.heap.size := by obtain ⟨cs, hc⟩ := own_ty HO.out (by rfl); exact lt_of_block hc
  have hbl := HM.out.lt
  have hsz : w2.heap.size < (w2.alloc (.cells #[.slice (some ⟨g', 0, none⟩) n cp', .map (some w1.heap.size), .int .i64 (m : Int)] 64)).heap.size := by simp
  refine ⟨w2.heap.size, fun k => k = g' ∨ k = w1.heap.size ∨ k = w2.heap.size, rfl, ⟨g', w1.heap.size, cp', D, ⟨by rw [HN.out]; exact heap_new w2 _, ?_, MapIn.blk HM.out (hFA.block _ hbl id), HV.out.rep, HV.out.uniq, HV.out.slot, HV.out.len, HV.out.most, HV.out.cnt⟩, .inr (.inr rfl), .inl rfl, .inr (.inl rfl), ?_⟩, ?_, hF3⟩
  · have := own_frk HO.out (HF1.out.trans hFA) (fun _ _ => id)
    rw [HN.out]; exact this
  · intro k hk
    omega
  · intro k hk
    omega
end Go.Proofs.Ytfggllhflibfcaa
