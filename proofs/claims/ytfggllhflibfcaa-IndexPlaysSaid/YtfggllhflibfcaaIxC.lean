/- index: move in one; Put, Drop, Clean. -/
import Derived.Test.YtfggllhflibfcaaIxB
namespace Go.Proofs.Ytfggllhflibfcaa
open Go.RowKit Go.Maps

theorem ix_move (w : World) (p m c : Nat) (S : Nat → Prop) (L : List Pl) (h : Ix w p S L m c) (i : Nat) (hi : i < L.length) (q : Pl) (hm : ∀ (x : Nat) (d : Bool), q = some (x, d) → x < m) (hq : ∀ (x : Nat) (d : Bool), q = some (x, d) → ∀ (j : Nat) (e : Bool), L[j]? = some (some (x, e)) → j = i) (hc : c < 100000) :
    Calls Try.prog 41 #[.pointer (some ⟨p, 0, none⟩), .int .i64 (i : Int), plA q] w fun e w' => e = .returned (plA L[i]) ∧ Ix w' p S (L.set i q) m (c + 1) ∧ Fr S w w' := by
  obtain ⟨o, ho⟩ : ∃ o, L[i] = o := ⟨_, rfl⟩
  rw [ho]
  cases o with
  | none =>
    cases q with
    | none => exact ix_move_none_none w p m c S L h i hi ho hc
    | some q => obtain ⟨y, yd⟩ := q; exact ix_move_none_some w p m c S L h i hi y yd ho (hm y yd rfl) (hq y yd rfl) hc
  | some o =>
    obtain ⟨x, xd⟩ := o
    cases q with
    | none => exact ix_move_some_none w p m c S L h i hi x xd ho hc
    | some q => obtain ⟨y, yd⟩ := q; exact ix_move_some_some w p m c S L h i hi x xd y yd ho (hm y yd rfl) (hq y yd rfl) hc
theorem Ix.mono {S : Nat → Prop} {w : World} {p m c c' : Nat} {L : List Pl} (h : Ix w p S L m c) (hc : c ≤ c') (hm : c' ≤ 100000) : Ix w p S L m c' := by
  obtain ⟨g, b, cp, D, h1, h2, h3, h4, h5⟩ := h
  exact ⟨g, b, cp, D, ⟨h1.blk, h1.row, h1.map.mono hc, h1.rep, h1.uniq, h1.slot, h1.len, h1.most, hm⟩, h2, h3, h4, h5⟩
theorem wp_lookup_own_ok_int {H : Type} {P : Program} {w : World} {o : Oper} {a : Act} {K : Act → World → Prop} {Q : Exit → Act → World → Prop} (m x : Operand) (t : TypeId) (hop : o.op = Op.lookup t m x true)
    (k e : TypeId) (q : IntKind) (K' : Keyed P k) (ht : P.underlying t = some (.map k e)) (he : P.underlying e = some (.int q)) (hz : (zeroValue e).run P w = .ok (.int q 0) w) (b n : Nat) (D : DataW H)
    (hm : a.eval m = .map (some b)) (hown : w.ownsMap P k (plainElem P e) b n D) (key : Value) (kl : Lit) (hx : a.eval x = key) (hkey : keyOf P k key = some kl)
    (hK : ∀ c : Int, D.atKey kl (.lit (.int q 0)) = .lit (.int q c) → (Lit.int q c).wf = true → K (a.put o.dst (.tuple #[.int q c, .bool (Maps.has D kl)])) w) : o.wp P a w K Q := by
  obtain ⟨v, ps, hrun, hv⟩ := hown.look_ok K' ht hz (zd := .lit (.int q 0)) (zp := []) (plainElem_int he (by cases q <;> decide)) hkey
  unfold Oper.wp
  simp [execOp, hop, hm, hx, hrun, Result.andThen]
  obtain ⟨c, rfl, hc, hwc⟩ := plainElem_int_inv he hv
  exact hK c (congrArg Prod.fst hc) hwc
theorem two_a {w w1 : World} {o1 o2 : Obj} (h : Fr No ((w.alloc o1).alloc o2) w1) : w1.heap[w.heap.size]? = some o1 :=
  (((Fr.refl No _).alloc o2).trans h).block _ (by simp) id |>.trans (heap_new w o1)
theorem two_b {w w1 : World} {o1 o2 : Obj} (h : Fr No ((w.alloc o1).alloc o2) w1) : w1.heap[w.heap.size + 1]? = some o2 := by
  have := (h.block _ (by simp) id).trans (heap_new (w.alloc o1) o2)
  simpa using this
theorem heap_more {w : World} {q : Nat} {o o' : Obj} (h : w.heap[q]? = some o) : (w.alloc o').heap[q]? = some o := (((Fr.refl No w).alloc o').block q (lt_of_block h) id).trans h
theorem ix_Put_nil (w : World) (x s : Int) (d : Bool) : Calls Try.prog 21 #[.pointer none, .int .i64 x, .agg #[.int .i64 s, .bool d]] w fun e w' => e = .returned (.tuple #[.agg #[.int .i64 0, .bool false], .int .i64 2]) ∧ Fr No w w' := by
  have HA := hid (((Fr.refl No w).alloc (.cells #[.int .i64 s, .bool d] 44)).alloc (.cells #[.int .i64 0, .bool false] 44))
  go_enter Try.func21, Try.ntmps21
  go_wp2_with (go_at_call 36; refine (ix_there_nil _ x).mono ?_; rintro e w1 ⟨rfl, hF⟩; have HQ := hid (two_b hF); have HF := hid (HA.out.trans hF); obtain ⟨q0, q1, f0, f1⟩ := blk2 HQ.out; clear hF)
  exact bodyPost_ret (res_pl2 rfl rfl (put2 HQ.out _ _)) rfl ⟨rfl, fr_put2 HF.out (by omega) _ _⟩
theorem ix_Drop_nil (w : World) (x : Int) : Calls Try.prog 22 #[.pointer none, .int .i64 x] w fun e w' => e = .returned (.tuple #[.agg #[.int .i64 0, .bool false], .int .i64 2]) ∧ Fr No w w' := by
  have HA := hid ((Fr.refl No w).alloc (.cells #[.int .i64 0, .bool false] 44))
  go_enter Try.func22, Try.ntmps22
  go_wp2_with (go_at_call 16; refine (ix_Get_nil _ x).mono ?_; rintro e w1 ⟨rfl, hF⟩; have HQ := hid (heap_more (o' := .cells #[.int .i64 0, .bool false] 44) (made2 _ _ _ _ hF)); have HF := hid ((HA.out.trans hF).alloc (.cells #[.int .i64 0, .bool false] 44)); obtain ⟨q0, q1, f0, f1⟩ := blk2 HQ.out; clear hF)
  exact bodyPost_ret (res_pl2 rfl rfl (put2 HQ.out _ _)) rfl ⟨rfl, fr_put2 HF.out (by omega) _ _⟩
theorem ix_Clean_nil (w : World) (x : Int) : Calls Try.prog 23 #[.pointer none, .int .i64 x] w fun e w' => e = .returned (.int .i64 2) ∧ Fr No w w' := by
  go_enter Try.func23, Try.ntmps23
  go_wp2_with (go_at_call 16; refine (ix_Get_nil _ x).mono ?_; rintro e w1 ⟨rfl, hF⟩; have HF := hid (hF.alloc (.cells #[.int .i64 0, .bool false] 44)); clear hF)
  go_ret
  exact ⟨rfl, HF.out⟩
/-- has another block the slot? -/
def takenI (L : List Pl) (s x : Int) : Bool := match atS L s with | some j => decide ((j : Int) ≠ x) | none => false
/-- what Put answers, and leaves -/
def putI (L : List Pl) (m : Nat) (x s : Int) (d : Bool) : Pl × Int × List Pl := if (0 ≤ x ∧ x < L.length) ∧ (0 ≤ s ∧ s < m) then if takenI L s x then (some (0, false), 15, L) else (L.getD x.toNat none, 0, L.set x.toNat (some (s.toNat, d))) else (some (0, false), 10, L)
/-- what Drop answers, and leaves -/
def dropI (L : List Pl) (x : Int) : Pl × Int × List Pl := if (getI L x).2 = 0 then ((getI L x).1, 0, L.set x.toNat none) else (some (0, false), (getI L x).2, L)
/-- what Clean answers, and leaves -/
def cleanI (L : List Pl) (x : Int) : Int × List Pl := if (getI L x).2 = 0 then (0, L.set x.toNat ((getI L x).1.map fun q => (q.1, false))) else ((getI L x).2, L)
set_option maxHeartbeats 1000000 in
theorem ix_Put (w : World) (p m c : Nat) (S : Nat → Prop) (L : List Pl) (h : Ix w p S L m c) (x s : Int) (d : Bool) (hs : (Lit.int .i64 s).wf = true) (hc : c < 100000) : Calls Try.prog 21 #[.pointer (some ⟨p, 0, none⟩), .int .i64 x, .agg #[.int .i64 s, .bool d]] w fun e w' => e = .returned (.tuple #[plA (putI L m x s d).1, .int .i64 (putI L m x s d).2.1]) ∧ Ix w' p S (putI L m x s d).2.2 m (c + 1) ∧ Fr S w w' := by
  have HI := hid h
  have HA := hid (((Fr.refl No w).alloc (.cells #[.int .i64 s, .bool d] 44)).alloc (.cells #[.int .i64 0, .bool false] 44))
  have hE : thereI L x = if 0 ≤ x ∧ x < L.length then 0 else 10 := rfl
  have hT : putI L m x s d = if (0 ≤ x ∧ x < L.length) ∧ (0 ≤ s ∧ s < m) then if takenI L s x then (some (0, false), 15, L) else (L.getD x.toNat none, 0, L.set x.toNat (some (s.toNat, d))) else (some (0, false), 10, L) := rfl
  by_cases hx : 0 ≤ x ∧ x < L.length
  · rw [if_pos hx] at hE
    have HE := hid hE
    clear hE
    obtain ⟨g, b, cp, D, hV, hSp, hSg, hSb, hSl⟩ := h
    have HV := hid hV
    have hpl := lt_of_block hV.blk
    have hbl := hV.map.lt
    have hmm := hV.most
    obtain ⟨c0, c1, c2⟩ := hV.cells
    clear hV
    obtain ⟨i, rfl⟩ : ∃ i : Nat, x = i := ⟨x.toNat, by omega⟩
    have hi : i < L.length := by omega
    have HIL := hid hi
    clear hi
    by_cases h0 : 0 ≤ s
    · by_cases h1 : s < m
      · obtain ⟨k, rfl⟩ : ∃ k : Nat, s = k := ⟨s.toNat, by omega⟩
        rw [if_pos ⟨hx, h0, h1⟩] at hT
        have HT := hid hT
        clear hT hx
        go_enter Try.func21, Try.ntmps21
        go_wp2_with (go_at_call 36; refine (ix_there _ p m c S L (HI.out.no HA.out) i).mono ?_; rw [HE.out]; rintro e w1 ⟨rfl, hF⟩; have HQ0 := hid (two_a hF); have HQ := hid (two_b hF); have HF := hid (HA.out.trans hF); obtain ⟨q0, q1, f0, f1⟩ := blk2 HQ.out; obtain ⟨r0, r1, _, _⟩ := blk2 HQ0.out; have d1 := (HF.out.cell (p := ⟨p, 1, none⟩) hpl id).trans c1; have d2 := (HF.out.cell (p := ⟨p, 2, none⟩) hpl id).trans c2; clear hF)
        have hs0 : decide ((k : Int) < 0) = false := by simp
        have hs1 : decide ((k : Int) ≥ (m : Int)) = false := by simp; omega
        refine wp_region_held_drew (S := fun W => W.cell? ⟨w.heap.size, 0, none⟩ = some (.int .i64 (k : Int)) ∧ W.cell? ⟨p, 2, none⟩ = some (.int .i64 (m : Int))) (by kernel_rfl) ⟨r0, d2⟩ (fun hHeld => ?_)
        refine wpAnyH_take (i := 0) (v := ?_) rfl (by kernel_rfl) (by kernel_rfl) (by kernel_rfl) (fun _ _ _ h => h) (Or.inl ⟨by rfl, ?_⟩) hHeld ?_
        rotate_left
        · intro w hSw
          go_simp
          with_reducible rfl
        try simp only [Act.put, List.getElem_toArray, List.getElem_cons_zero, List.getElem_cons_succ, List.setIfInBounds_toArray, List.set_cons_zero, List.set_cons_succ]
        refine wpAnyH_take (i := 1) (v := ?_) rfl (by kernel_rfl) (by kernel_rfl) (by kernel_rfl) (fun _ _ _ h => h) (Or.inl ⟨by rfl, ?_⟩) hHeld ?_
        rotate_left
        · intro w hSw; obtain ⟨u0, u1⟩ := hSw
          go_simp
          with_reducible rfl
        try simp only [Act.put, List.getElem_toArray, List.getElem_cons_zero, List.getElem_cons_succ, List.setIfInBounds_toArray, List.set_cons_zero, List.set_cons_succ]
        refine wpAnyH_take (i := 2) (v := ?_) rfl (by kernel_rfl) (by kernel_rfl) (by kernel_rfl) (fun _ _ _ h => h) (Or.inl ⟨by rfl, ?_⟩) hHeld ?_
        rotate_left
        · intro w hSw
          go_simp
          with_reducible rfl
        try simp only [Act.put, List.getElem_toArray, List.getElem_cons_zero, List.getElem_cons_succ, List.setIfInBounds_toArray, List.set_cons_zero, List.set_cons_succ]
        refine wpAnyH_take (i := 3) (v := ?_) rfl (by kernel_rfl) (by kernel_rfl) (by kernel_rfl) (fun _ _ _ h => h) (Or.inl ⟨by rfl, ?_⟩) hHeld ?_
        rotate_left
        · intro w hSw
          go_simp
          with_reducible rfl
        try simp only [Act.put, List.getElem_toArray, List.getElem_cons_zero, List.getElem_cons_succ, List.setIfInBounds_toArray, List.set_cons_zero, List.set_cons_succ]
        refine wpAnyH_take (i := 4) (v := ?_) rfl (by kernel_rfl) (by kernel_rfl) (by kernel_rfl) (fun _ _ _ h => h) (Or.inl ⟨by rfl, ?_⟩) hHeld ?_
        rotate_left
        · intro w hSw
          go_simp
          with_reducible rfl
        try simp only [Act.put, List.getElem_toArray, List.getElem_cons_zero, List.getElem_cons_succ, List.setIfInBounds_toArray, List.set_cons_zero, List.set_cons_succ]
        refine wpAnyH_take (i := 5) (v := ?_) rfl (by kernel_rfl) (by kernel_rfl) (by kernel_rfl) (fun _ _ _ h => h) (Or.inl ⟨by rfl, ?_⟩) hHeld ?_
        rotate_left
        · intro w hSw; obtain ⟨u0, u1⟩ := hSw
          go_simp
          with_reducible rfl
        try simp only [Act.put, List.getElem_toArray, List.getElem_cons_zero, List.getElem_cons_succ, List.setIfInBounds_toArray, List.set_cons_zero, List.set_cons_succ]
        refine wpAnyH_take (i := 6) (v := ?_) rfl (by kernel_rfl) (by kernel_rfl) (by kernel_rfl) (fun _ _ _ h => h) (Or.inl ⟨by rfl, ?_⟩) hHeld ?_
        rotate_left
        · intro w hSw
          go_simp
          with_reducible rfl
        try simp only [Act.put, List.getElem_toArray, List.getElem_cons_zero, List.getElem_cons_succ, List.setIfInBounds_toArray, List.set_cons_zero, List.set_cons_succ]
        refine wpAnyH_take (i := 7) (v := ?_) rfl (by kernel_rfl) (by kernel_rfl) (by kernel_rfl) (fun _ _ _ h => h) (Or.inl ⟨by rfl, ?_⟩) hHeld ?_
        rotate_left
        · intro w hSw
          go_simp
          with_reducible rfl
        try simp only [Act.put, List.getElem_toArray, List.getElem_cons_zero, List.getElem_cons_succ, List.setIfInBounds_toArray, List.set_cons_zero, List.set_cons_succ]
        refine wpAnyH_take (i := 8) (v := ?_) rfl (by kernel_rfl) (by kernel_rfl) (by kernel_rfl) (fun _ _ _ h => h) (Or.inl ⟨by rfl, ?_⟩) hHeld ?_
        rotate_left
        · intro w hSw
          go_simp
          with_reducible rfl
        try simp only [Act.put, List.getElem_toArray, List.getElem_cons_zero, List.getElem_cons_succ, List.setIfInBounds_toArray, List.set_cons_zero, List.set_cons_succ]
        refine wpAnyH_take (i := 9) (v := ?_) rfl (by kernel_rfl) (by kernel_rfl) (by kernel_rfl) (fun _ _ _ h => h) (Or.inl ⟨by rfl, ?_⟩) hHeld ?_
        rotate_left
        · intro w hSw; obtain ⟨u0, u1⟩ := hSw
          go_simp
          with_reducible rfl
        try simp only [Act.put, List.getElem_toArray, List.getElem_cons_zero, List.getElem_cons_succ, List.setIfInBounds_toArray, List.set_cons_zero, List.set_cons_succ]
        refine wpAnyH_take (i := 10) (v := ?_) rfl (by kernel_rfl) (by kernel_rfl) (by kernel_rfl) (fun _ _ _ h => h) (Or.inl ⟨by rfl, ?_⟩) hHeld ?_
        rotate_left
        · intro w hSw
          go_simp
          with_reducible rfl
        try simp only [Act.put, List.getElem_toArray, List.getElem_cons_zero, List.getElem_cons_succ, List.setIfInBounds_toArray, List.set_cons_zero, List.set_cons_succ]
        refine wpAnyH_take (i := 11) (v := ?_) rfl (by kernel_rfl) (by kernel_rfl) (by kernel_rfl) (fun _ _ _ h => h) (Or.inl ⟨by rfl, ?_⟩) hHeld ?_
        rotate_left
        · intro w hSw
          go_simp
          with_reducible rfl
        try simp only [Act.put, List.getElem_toArray, List.getElem_cons_zero, List.getElem_cons_succ, List.setIfInBounds_toArray, List.set_cons_zero, List.set_cons_succ]
        refine wpAnyH_done (by kernel_rfl) ?_ _
        clear hs0 hs1
        go_wp2_with fail
        have HM1 := hid (MapIn.blk HV.out.map (HF.out.block b hbl id))
        have HKY := hid (keyOf_int_mk Try.underlying3 hs)
        have HR := hid (HV.out.rep k)
        refine wp_region_held_drew (S := fun W => W.cell? ⟨w.heap.size, 0, none⟩ = some (.int .i64 (k : Int)) ∧ W.cell? ⟨p, 1, none⟩ = some (.map (some b))) (by kernel_rfl) ⟨r0, d1⟩ (fun hHeld => ?_)
        refine wpAnyH_take (i := 0) (v := ?_) rfl (by kernel_rfl) (by kernel_rfl) (by kernel_rfl) (fun _ _ _ h => h) (Or.inl ⟨by rfl, ?_⟩) hHeld ?_
        rotate_left
        · intro w hSw
          go_simp
          with_reducible rfl
        try simp only [Act.put, List.getElem_toArray, List.getElem_cons_zero, List.getElem_cons_succ, List.setIfInBounds_toArray, List.set_cons_zero, List.set_cons_succ]
        refine wpAnyH_take (i := 1) (v := ?_) rfl (by kernel_rfl) (by kernel_rfl) (by kernel_rfl) (fun _ _ _ h => h) (Or.inl ⟨by rfl, ?_⟩) hHeld ?_
        rotate_left
        · intro w hSw
          go_simp
          with_reducible rfl
        try simp only [Act.put, List.getElem_toArray, List.getElem_cons_zero, List.getElem_cons_succ, List.setIfInBounds_toArray, List.set_cons_zero, List.set_cons_succ]
        refine wpAnyH_take (i := 2) (v := ?_) rfl (by kernel_rfl) (by kernel_rfl) (by kernel_rfl) (fun _ _ _ h => h) (Or.inl ⟨by rfl, ?_⟩) hHeld ?_
        rotate_left
        · intro w hSw
          go_simp
          with_reducible rfl
        try simp only [Act.put, List.getElem_toArray, List.getElem_cons_zero, List.getElem_cons_succ, List.setIfInBounds_toArray, List.set_cons_zero, List.set_cons_succ]
        refine wpAnyH_take (i := 3) (v := ?_) rfl (by kernel_rfl) (by kernel_rfl) (by kernel_rfl) (fun _ _ _ h => h) (Or.inl ⟨by rfl, ?_⟩) hHeld ?_
        rotate_left
        · intro w hSw; obtain ⟨u0, u1⟩ := hSw
          go_simp
          with_reducible rfl
        try simp only [Act.put, List.getElem_toArray, List.getElem_cons_zero, List.getElem_cons_succ, List.setIfInBounds_toArray, List.set_cons_zero, List.set_cons_succ]
        refine wpAnyH_take (i := 4) (v := ?_) rfl (by kernel_rfl) (by kernel_rfl) (by kernel_rfl) (fun _ _ _ h => h) (Or.inl ⟨by rfl, ?_⟩) hHeld ?_
        rotate_left
        · intro w hSw
          go_simp
          with_reducible rfl
        try simp only [Act.put, List.getElem_toArray, List.getElem_cons_zero, List.getElem_cons_succ, List.setIfInBounds_toArray, List.set_cons_zero, List.set_cons_succ]
        refine wpAnyH_take (i := 5) (v := ?_) rfl (by kernel_rfl) (by kernel_rfl) (by kernel_rfl) (fun _ _ _ h => h) (Or.inl ⟨by rfl, ?_⟩) hHeld ?_
        rotate_left
        · intro w hSw; obtain ⟨u0, u1⟩ := hSw
          go_simp
          with_reducible rfl
        try simp only [Act.put, List.getElem_toArray, List.getElem_cons_zero, List.getElem_cons_succ, List.setIfInBounds_toArray, List.set_cons_zero, List.set_cons_succ]
        refine wpAnyH_ready (rs := [6]) (by kernel_rfl) (by simp) ?_
        refine AllReadyH.cons rfl (fun K hK => ?_) AllReadyH.nil
        rw [if_pos (by rfl)]
        refine wp_lookup_own_ok_int _ _ 62 rfl 3 3 .i64 law_int Try.underlying62 Try.underlying3 (zero_int _) b c D rfl HM1.out.drew _ _ rfl HKY.out (fun v hat hwv => ?_)
        have HAT := hid hat
        clear hat
        refine hK.out _ _ ⟨r0, d1⟩ (fun hHeld => ?_)
        clear hK K
        try simp only [Act.put, List.getElem_toArray, List.getElem_cons_zero, List.getElem_cons_succ, List.setIfInBounds_toArray, List.set_cons_zero, List.set_cons_succ]
        rw [HR.out.1]
        cases e : atS L k with
        | some j =>
          obtain rfl : v = (j : Int) := (lit_inj ((HR.out.2 j e (.lit (.int .i64 0))).symm.trans HAT.out)).symm
          by_cases hji : j = i
          · subst hji
            have HUN := hid (show ∀ (x : Nat) (d' : Bool), some (k, d) = some (x, d') → ∀ (j' : Nat) (e : Bool), L[j']? = some (some (x, e)) → j' = j from fun x d' hx j' e' hj' => by cases hx; have := atS_of HV.out.uniq hj'; rw [e] at this; injection this with this; exact this.symm)
            have HP := hid (show putI L m (j : Int) k d = (L[j], 0, L.set j (some (k, d))) by rw [HT.out, if_neg (by simp [takenI, e]), Int.toNat_natCast, Int.toNat_natCast, List.getD_eq_getElem?_getD, List.getElem?_eq_getElem HIL.out]; rfl)
            clear e
            refine wpAnyH_take (i := 7) (v := ?_) rfl (by kernel_rfl) (by kernel_rfl) (by kernel_rfl) (fun _ _ _ h => h) (Or.inl ⟨by rfl, ?_⟩) hHeld ?_
            rotate_left
            · intro w hSw
              go_simp
              with_reducible rfl
            try simp only [Act.put, List.getElem_toArray, List.getElem_cons_zero, List.getElem_cons_succ, List.setIfInBounds_toArray, List.set_cons_zero, List.set_cons_succ]
            refine wpAnyH_take (i := 8) (v := ?_) rfl (by kernel_rfl) (by kernel_rfl) (by kernel_rfl) (fun _ _ _ h => h) (Or.inl ⟨by rfl, ?_⟩) hHeld ?_
            rotate_left
            · intro w hSw
              go_simp
              with_reducible rfl
            try simp only [Act.put, List.getElem_toArray, List.getElem_cons_zero, List.getElem_cons_succ, List.setIfInBounds_toArray, List.set_cons_zero, List.set_cons_succ]
            refine wpAnyH_take (i := 9) (v := ?_) rfl (by kernel_rfl) (by kernel_rfl) (by kernel_rfl) (fun _ _ _ h => h) (Or.inl ⟨by rfl, ?_⟩) hHeld ?_
            rotate_left
            · intro w hSw
              go_simp
              with_reducible rfl
            try simp only [Act.put, List.getElem_toArray, List.getElem_cons_zero, List.getElem_cons_succ, List.setIfInBounds_toArray, List.set_cons_zero, List.set_cons_succ]
            refine wpAnyH_take (i := 10) (v := ?_) rfl (by kernel_rfl) (by kernel_rfl) (by kernel_rfl) (fun _ _ _ h => h) (Or.inl ⟨by rfl, ?_⟩) hHeld ?_
            rotate_left
            · intro w hSw
              go_simp
              with_reducible rfl
            try simp only [Act.put, List.getElem_toArray, List.getElem_cons_zero, List.getElem_cons_succ, List.setIfInBounds_toArray, List.set_cons_zero, List.set_cons_succ]
            refine wpAnyH_take (i := 11) (v := ?_) rfl (by kernel_rfl) (by kernel_rfl) (by kernel_rfl) (fun _ _ _ h => h) (Or.inl ⟨by rfl, ?_⟩) hHeld ?_
            rotate_left
            · intro w hSw
              go_simp
              with_reducible rfl
            try simp only [Act.put, List.getElem_toArray, List.getElem_cons_zero, List.getElem_cons_succ, List.setIfInBounds_toArray, List.set_cons_zero, List.set_cons_succ]
            refine wpAnyH_done (by kernel_rfl) ?_ _
            have HQF := hid (HI.out.no HF.out.drew.drew)
            go_wp2_with (go_at_call 41; refine (ix_move _ p m c S L HQF.out j HIL.out (some (k, d)) (fun x d h => by cases h; omega) HUN.out hc).mono ?_; rintro e w2 ⟨rfl, hIX, hF⟩; simp only [plA]; have HIX := hid hIX; have HF2 := hid hF; have HQ2 := hid ((hF.block (w.heap.size + 1) (lt_of_block HQ.out) (fun h => absurd (hSl _ h) (by omega))).trans HQ.out); obtain ⟨z0, z1, z2, z3⟩ := blk2 HQ2.out; clear hIX hF)
            rw [HP.out]
            have hFT := (Fr.set1 w2 (w.heap.size + 1) 0 (.int .i64 (plS L[j]))).trans (Fr.set1 (w2.setCell ⟨w.heap.size + 1, 0, none⟩ (.int .i64 (plS L[j]))) (w.heap.size + 1) 1 (.bool (plD L[j])))
            exact bodyPost_ret (res_pl2 rfl rfl (put2 HQ2.out _ _)) rfl ⟨rfl, HIX.out.fr hFT (fun k hk => by have := hSl k hk; show ¬ k = w.heap.size + 1; omega), fr_put2 ((HF.out.drew.drew.mono (fun _ _ e => e.elim)).trans HF2.out) (by omega) _ _⟩
          · have HP := hid (show putI L m (i : Int) k d = (some (0, false), 15, L) by rw [HT.out, if_pos (by simp [takenI, e]; omega)])
            have hne : ((j : Int) == (i : Int)) = false := by simp; omega
            clear e
            refine wpAnyH_take (i := 7) (v := ?_) rfl (by kernel_rfl) (by kernel_rfl) (by kernel_rfl) (fun _ _ _ h => h) (Or.inl ⟨by rfl, ?_⟩) hHeld ?_
            rotate_left
            · intro w hSw
              go_simp
              with_reducible rfl
            try simp only [Act.put, List.getElem_toArray, List.getElem_cons_zero, List.getElem_cons_succ, List.setIfInBounds_toArray, List.set_cons_zero, List.set_cons_succ]
            refine wpAnyH_take (i := 8) (v := ?_) rfl (by kernel_rfl) (by kernel_rfl) (by kernel_rfl) (fun _ _ _ h => h) (Or.inl ⟨by rfl, ?_⟩) hHeld ?_
            rotate_left
            · intro w hSw
              go_simp
              with_reducible rfl
            try simp only [Act.put, List.getElem_toArray, List.getElem_cons_zero, List.getElem_cons_succ, List.setIfInBounds_toArray, List.set_cons_zero, List.set_cons_succ]
            refine wpAnyH_take (i := 9) (v := ?_) rfl (by kernel_rfl) (by kernel_rfl) (by kernel_rfl) (fun _ _ _ h => h) (Or.inl ⟨by rfl, ?_⟩) hHeld ?_
            rotate_left
            · intro w hSw
              go_simp
              with_reducible rfl
            try simp only [Act.put, List.getElem_toArray, List.getElem_cons_zero, List.getElem_cons_succ, List.setIfInBounds_toArray, List.set_cons_zero, List.set_cons_succ]
            refine wpAnyH_take (i := 10) (v := ?_) rfl (by kernel_rfl) (by kernel_rfl) (by kernel_rfl) (fun _ _ _ h => h) (Or.inl ⟨by rfl, ?_⟩) hHeld ?_
            rotate_left
            · intro w hSw
              go_simp
              with_reducible rfl
            try simp only [Act.put, List.getElem_toArray, List.getElem_cons_zero, List.getElem_cons_succ, List.setIfInBounds_toArray, List.set_cons_zero, List.set_cons_succ]
            refine wpAnyH_take (i := 11) (v := ?_) rfl (by kernel_rfl) (by kernel_rfl) (by kernel_rfl) (fun _ _ _ h => h) (Or.inl ⟨by rfl, ?_⟩) hHeld ?_
            rotate_left
            · intro w hSw
              go_simp
              with_reducible rfl
            try simp only [Act.put, List.getElem_toArray, List.getElem_cons_zero, List.getElem_cons_succ, List.setIfInBounds_toArray, List.set_cons_zero, List.set_cons_succ]
            refine wpAnyH_done (by kernel_rfl) ?_ _
            go_wp2_with fail
            have hfr := fr_put2 (S := No) HF.out.drew.drew (Nat.le_succ _) (.int .i64 0) (.bool false)
            rw [HP.out]
            exact bodyPost_ret (res_pl2 rfl rfl (put2 HQ.out _ _)) rfl ⟨rfl, (HI.out.no hfr).mono (Nat.le_succ c) (by omega), hfr.mono (fun _ _ e => e.elim)⟩
        | none =>
            have HUN := hid (show ∀ (x : Nat) (d' : Bool), some (k, d) = some (x, d') → ∀ (j' : Nat) (e : Bool), L[j']? = some (some (x, e)) → j' = i from fun x d' hx j' e' hj' => by cases hx; exact absurd rfl (atS_none.1 e j' k e' hj'))
            have HP := hid (show putI L m (i : Int) k d = (L[i], 0, L.set i (some (k, d))) by rw [HT.out, if_neg (by simp [takenI, e]), Int.toNat_natCast, Int.toNat_natCast, List.getD_eq_getElem?_getD, List.getElem?_eq_getElem HIL.out]; rfl)
            clear e
            refine wpAnyH_take (i := 7) (v := ?_) rfl (by kernel_rfl) (by kernel_rfl) (by kernel_rfl) (fun _ _ _ h => h) (Or.inl ⟨by rfl, ?_⟩) hHeld ?_
            rotate_left
            · intro w hSw
              go_simp
              with_reducible rfl
            try simp only [Act.put, List.getElem_toArray, List.getElem_cons_zero, List.getElem_cons_succ, List.setIfInBounds_toArray, List.set_cons_zero, List.set_cons_succ]
            refine wpAnyH_take (i := 8) (v := ?_) rfl (by kernel_rfl) (by kernel_rfl) (by kernel_rfl) (fun _ _ _ h => h) (Or.inl ⟨by rfl, ?_⟩) hHeld ?_
            rotate_left
            · intro w hSw
              go_simp
              with_reducible rfl
            try simp only [Act.put, List.getElem_toArray, List.getElem_cons_zero, List.getElem_cons_succ, List.setIfInBounds_toArray, List.set_cons_zero, List.set_cons_succ]
            refine wpAnyH_take (i := 9) (v := ?_) rfl (by kernel_rfl) (by kernel_rfl) (by kernel_rfl) (fun _ _ _ h => h) (Or.inl ⟨by rfl, ?_⟩) hHeld ?_
            rotate_left
            · intro w hSw
              go_simp
              with_reducible rfl
            try simp only [Act.put, List.getElem_toArray, List.getElem_cons_zero, List.getElem_cons_succ, List.setIfInBounds_toArray, List.set_cons_zero, List.set_cons_succ]
            refine wpAnyH_take (i := 10) (v := ?_) rfl (by kernel_rfl) (by kernel_rfl) (by kernel_rfl) (fun _ _ _ h => h) (Or.inl ⟨by rfl, ?_⟩) hHeld ?_
            rotate_left
            · intro w hSw
              go_simp
              with_reducible rfl
            try simp only [Act.put, List.getElem_toArray, List.getElem_cons_zero, List.getElem_cons_succ, List.setIfInBounds_toArray, List.set_cons_zero, List.set_cons_succ]
            refine wpAnyH_take (i := 11) (v := ?_) rfl (by kernel_rfl) (by kernel_rfl) (by kernel_rfl) (fun _ _ _ h => h) (Or.inl ⟨by rfl, ?_⟩) hHeld ?_
            rotate_left
            · intro w hSw
              go_simp
              with_reducible rfl
            try simp only [Act.put, List.getElem_toArray, List.getElem_cons_zero, List.getElem_cons_succ, List.setIfInBounds_toArray, List.set_cons_zero, List.set_cons_succ]
            refine wpAnyH_done (by kernel_rfl) ?_ _
            have HQF := hid (HI.out.no HF.out.drew.drew)
            go_wp2_with (go_at_call 41; refine (ix_move _ p m c S L HQF.out i HIL.out (some (k, d)) (fun x d h => by cases h; omega) HUN.out hc).mono ?_; rintro e w2 ⟨rfl, hIX, hF⟩; simp only [plA]; have HIX := hid hIX; have HF2 := hid hF; have HQ2 := hid ((hF.block (w.heap.size + 1) (lt_of_block HQ.out) (fun h => absurd (hSl _ h) (by omega))).trans HQ.out); obtain ⟨z0, z1, z2, z3⟩ := blk2 HQ2.out; clear hIX hF)
            rw [HP.out]
            have hFT := (Fr.set1 w2 (w.heap.size + 1) 0 (.int .i64 (plS L[i]))).trans (Fr.set1 (w2.setCell ⟨w.heap.size + 1, 0, none⟩ (.int .i64 (plS L[i]))) (w.heap.size + 1) 1 (.bool (plD L[i])))
            exact bodyPost_ret (res_pl2 rfl rfl (put2 HQ2.out _ _)) rfl ⟨rfl, HIX.out.fr hFT (fun k hk => by have := hSl k hk; show ¬ k = w.heap.size + 1; omega), fr_put2 ((HF.out.drew.drew.mono (fun _ _ e => e.elim)).trans HF2.out) (by omega) _ _⟩
      · rw [if_neg (fun h => h1 h.2.2)] at hT
        rw [hT]
        clear hT hx
        show Calls _ _ _ _ fun e w' => e = .returned (.tuple #[.agg #[.int .i64 0, .bool false], .int .i64 10]) ∧ Ix w' p S L m (c + 1) ∧ Fr S w w'
        go_enter Try.func21, Try.ntmps21
        go_wp2_with (go_at_call 36; refine (ix_there _ p m c S L (HI.out.no HA.out) i).mono ?_; rw [HE.out]; rintro e w1 ⟨rfl, hF⟩; have HQ0 := hid (two_a hF); have HQ := hid (two_b hF); have HF := hid (HA.out.trans hF); obtain ⟨q0, q1, f0, f1⟩ := blk2 HQ.out; obtain ⟨r0, r1, _, _⟩ := blk2 HQ0.out; have d1 := (HF.out.cell (p := ⟨p, 1, none⟩) hpl id).trans c1; have d2 := (HF.out.cell (p := ⟨p, 2, none⟩) hpl id).trans c2; clear hF)
        have hs0 : decide (s < 0) = false := by simp; omega
        have hs1 : decide (s ≥ (m : Int)) = true := by simp; omega
        refine wp_region_held_drew (S := fun W => W.cell? ⟨w.heap.size, 0, none⟩ = some (.int .i64 s) ∧ W.cell? ⟨p, 2, none⟩ = some (.int .i64 (m : Int))) (by kernel_rfl) ⟨r0, d2⟩ (fun hHeld => ?_)
        refine wpAnyH_take (i := 0) (v := ?_) rfl (by kernel_rfl) (by kernel_rfl) (by kernel_rfl) (fun _ _ _ h => h) (Or.inl ⟨by rfl, ?_⟩) hHeld ?_
        rotate_left
        · intro w hSw
          go_simp
          with_reducible rfl
        try simp only [Act.put, List.getElem_toArray, List.getElem_cons_zero, List.getElem_cons_succ, List.setIfInBounds_toArray, List.set_cons_zero, List.set_cons_succ]
        refine wpAnyH_take (i := 1) (v := ?_) rfl (by kernel_rfl) (by kernel_rfl) (by kernel_rfl) (fun _ _ _ h => h) (Or.inl ⟨by rfl, ?_⟩) hHeld ?_
        rotate_left
        · intro w hSw; obtain ⟨u0, u1⟩ := hSw
          go_simp
          with_reducible rfl
        try simp only [Act.put, List.getElem_toArray, List.getElem_cons_zero, List.getElem_cons_succ, List.setIfInBounds_toArray, List.set_cons_zero, List.set_cons_succ]
        refine wpAnyH_take (i := 2) (v := ?_) rfl (by kernel_rfl) (by kernel_rfl) (by kernel_rfl) (fun _ _ _ h => h) (Or.inl ⟨by rfl, ?_⟩) hHeld ?_
        rotate_left
        · intro w hSw
          go_simp
          with_reducible rfl
        try simp only [Act.put, List.getElem_toArray, List.getElem_cons_zero, List.getElem_cons_succ, List.setIfInBounds_toArray, List.set_cons_zero, List.set_cons_succ]
        refine wpAnyH_take (i := 3) (v := ?_) rfl (by kernel_rfl) (by kernel_rfl) (by kernel_rfl) (fun _ _ _ h => h) (Or.inl ⟨by rfl, ?_⟩) hHeld ?_
        rotate_left
        · intro w hSw
          go_simp
          with_reducible rfl
        try simp only [Act.put, List.getElem_toArray, List.getElem_cons_zero, List.getElem_cons_succ, List.setIfInBounds_toArray, List.set_cons_zero, List.set_cons_succ]
        refine wpAnyH_take (i := 4) (v := ?_) rfl (by kernel_rfl) (by kernel_rfl) (by kernel_rfl) (fun _ _ _ h => h) (Or.inl ⟨by rfl, ?_⟩) hHeld ?_
        rotate_left
        · intro w hSw
          go_simp
          with_reducible rfl
        try simp only [Act.put, List.getElem_toArray, List.getElem_cons_zero, List.getElem_cons_succ, List.setIfInBounds_toArray, List.set_cons_zero, List.set_cons_succ]
        refine wpAnyH_take (i := 5) (v := ?_) rfl (by kernel_rfl) (by kernel_rfl) (by kernel_rfl) (fun _ _ _ h => h) (Or.inl ⟨by rfl, ?_⟩) hHeld ?_
        rotate_left
        · intro w hSw; obtain ⟨u0, u1⟩ := hSw
          go_simp
          with_reducible rfl
        try simp only [Act.put, List.getElem_toArray, List.getElem_cons_zero, List.getElem_cons_succ, List.setIfInBounds_toArray, List.set_cons_zero, List.set_cons_succ]
        refine wpAnyH_take (i := 6) (v := ?_) rfl (by kernel_rfl) (by kernel_rfl) (by kernel_rfl) (fun _ _ _ h => h) (Or.inl ⟨by rfl, ?_⟩) hHeld ?_
        rotate_left
        · intro w hSw
          go_simp
          with_reducible rfl
        try simp only [Act.put, List.getElem_toArray, List.getElem_cons_zero, List.getElem_cons_succ, List.setIfInBounds_toArray, List.set_cons_zero, List.set_cons_succ]
        refine wpAnyH_take (i := 7) (v := ?_) rfl (by kernel_rfl) (by kernel_rfl) (by kernel_rfl) (fun _ _ _ h => h) (Or.inl ⟨by rfl, ?_⟩) hHeld ?_
        rotate_left
        · intro w hSw
          go_simp
          with_reducible rfl
        try simp only [Act.put, List.getElem_toArray, List.getElem_cons_zero, List.getElem_cons_succ, List.setIfInBounds_toArray, List.set_cons_zero, List.set_cons_succ]
        refine wpAnyH_take (i := 8) (v := ?_) rfl (by kernel_rfl) (by kernel_rfl) (by kernel_rfl) (fun _ _ _ h => h) (Or.inl ⟨by rfl, ?_⟩) hHeld ?_
        rotate_left
        · intro w hSw
          go_simp
          with_reducible rfl
        try simp only [Act.put, List.getElem_toArray, List.getElem_cons_zero, List.getElem_cons_succ, List.setIfInBounds_toArray, List.set_cons_zero, List.set_cons_succ]
        refine wpAnyH_take (i := 9) (v := ?_) rfl (by kernel_rfl) (by kernel_rfl) (by kernel_rfl) (fun _ _ _ h => h) (Or.inl ⟨by rfl, ?_⟩) hHeld ?_
        rotate_left
        · intro w hSw; obtain ⟨u0, u1⟩ := hSw
          go_simp
          with_reducible rfl
        try simp only [Act.put, List.getElem_toArray, List.getElem_cons_zero, List.getElem_cons_succ, List.setIfInBounds_toArray, List.set_cons_zero, List.set_cons_succ]
        refine wpAnyH_take (i := 10) (v := ?_) rfl (by kernel_rfl) (by kernel_rfl) (by kernel_rfl) (fun _ _ _ h => h) (Or.inl ⟨by rfl, ?_⟩) hHeld ?_
        rotate_left
        · intro w hSw
          go_simp
          with_reducible rfl
        try simp only [Act.put, List.getElem_toArray, List.getElem_cons_zero, List.getElem_cons_succ, List.setIfInBounds_toArray, List.set_cons_zero, List.set_cons_succ]
        refine wpAnyH_take (i := 11) (v := ?_) rfl (by kernel_rfl) (by kernel_rfl) (by kernel_rfl) (fun _ _ _ h => h) (Or.inl ⟨by rfl, ?_⟩) hHeld ?_
        rotate_left
        · intro w hSw
          go_simp
          with_reducible rfl
        try simp only [Act.put, List.getElem_toArray, List.getElem_cons_zero, List.getElem_cons_succ, List.setIfInBounds_toArray, List.set_cons_zero, List.set_cons_succ]
        refine wpAnyH_done (by kernel_rfl) ?_ _
        go_wp2_with fail
        have hfr := fr_put2 (S := No) HF.out.drew (Nat.le_succ _) (.int .i64 0) (.bool false)
        exact bodyPost_ret (res_pl2 rfl rfl (put2 HQ.out _ _)) rfl ⟨rfl, (HI.out.no hfr).mono (Nat.le_succ c) (by omega), hfr.mono (fun _ _ e => e.elim)⟩
    · rw [if_neg (fun h => h0 h.2.1)] at hT
      rw [hT]
      clear hT hx
      show Calls _ _ _ _ fun e w' => e = .returned (.tuple #[.agg #[.int .i64 0, .bool false], .int .i64 10]) ∧ Ix w' p S L m (c + 1) ∧ Fr S w w'
      go_enter Try.func21, Try.ntmps21
      go_wp2_with (go_at_call 36; refine (ix_there _ p m c S L (HI.out.no HA.out) i).mono ?_; rw [HE.out]; rintro e w1 ⟨rfl, hF⟩; have HQ0 := hid (two_a hF); have HQ := hid (two_b hF); have HF := hid (HA.out.trans hF); obtain ⟨q0, q1, f0, f1⟩ := blk2 HQ.out; obtain ⟨r0, r1, _, _⟩ := blk2 HQ0.out; have d1 := (HF.out.cell (p := ⟨p, 1, none⟩) hpl id).trans c1; have d2 := (HF.out.cell (p := ⟨p, 2, none⟩) hpl id).trans c2; clear hF)
      have hs0 : decide (s < 0) = true := by simp; omega
      refine wp_region_held_drew (S := fun W => W.cell? ⟨w.heap.size, 0, none⟩ = some (.int .i64 s) ∧ W.cell? ⟨p, 2, none⟩ = some (.int .i64 (m : Int))) (by kernel_rfl) ⟨r0, d2⟩ (fun hHeld => ?_)
      refine wpAnyH_take (i := 0) (v := ?_) rfl (by kernel_rfl) (by kernel_rfl) (by kernel_rfl) (fun _ _ _ h => h) (Or.inl ⟨by rfl, ?_⟩) hHeld ?_
      rotate_left
      · intro w hSw
        go_simp
        with_reducible rfl
      try simp only [Act.put, List.getElem_toArray, List.getElem_cons_zero, List.getElem_cons_succ, List.setIfInBounds_toArray, List.set_cons_zero, List.set_cons_succ]
      refine wpAnyH_take (i := 1) (v := ?_) rfl (by kernel_rfl) (by kernel_rfl) (by kernel_rfl) (fun _ _ _ h => h) (Or.inl ⟨by rfl, ?_⟩) hHeld ?_
      rotate_left
      · intro w hSw; obtain ⟨u0, u1⟩ := hSw
        go_simp
        with_reducible rfl
      try simp only [Act.put, List.getElem_toArray, List.getElem_cons_zero, List.getElem_cons_succ, List.setIfInBounds_toArray, List.set_cons_zero, List.set_cons_succ]
      refine wpAnyH_take (i := 2) (v := ?_) rfl (by kernel_rfl) (by kernel_rfl) (by kernel_rfl) (fun _ _ _ h => h) (Or.inl ⟨by rfl, ?_⟩) hHeld ?_
      rotate_left
      · intro w hSw
        go_simp
        with_reducible rfl
      try simp only [Act.put, List.getElem_toArray, List.getElem_cons_zero, List.getElem_cons_succ, List.setIfInBounds_toArray, List.set_cons_zero, List.set_cons_succ]
      refine wpAnyH_take (i := 3) (v := ?_) rfl (by kernel_rfl) (by kernel_rfl) (by kernel_rfl) (fun _ _ _ h => h) (Or.inl ⟨by rfl, ?_⟩) hHeld ?_
      rotate_left
      · intro w hSw
        go_simp
        with_reducible rfl
      try simp only [Act.put, List.getElem_toArray, List.getElem_cons_zero, List.getElem_cons_succ, List.setIfInBounds_toArray, List.set_cons_zero, List.set_cons_succ]
      refine wpAnyH_take (i := 4) (v := undef) rfl (by kernel_rfl) (by kernel_rfl) (by kernel_rfl) (fun _ _ _ h => h) (Or.inr ⟨by rfl, rfl⟩) hHeld ?_
      try simp only [Act.put, List.getElem_toArray, List.getElem_cons_zero, List.getElem_cons_succ, List.setIfInBounds_toArray, List.set_cons_zero, List.set_cons_succ]
      refine wpAnyH_take (i := 5) (v := undef) rfl (by kernel_rfl) (by kernel_rfl) (by kernel_rfl) (fun _ _ _ h => h) (Or.inr ⟨by rfl, rfl⟩) hHeld ?_
      try simp only [Act.put, List.getElem_toArray, List.getElem_cons_zero, List.getElem_cons_succ, List.setIfInBounds_toArray, List.set_cons_zero, List.set_cons_succ]
      refine wpAnyH_take (i := 6) (v := undef) rfl (by kernel_rfl) (by kernel_rfl) (by kernel_rfl) (fun _ _ _ h => h) (Or.inr ⟨by rfl, rfl⟩) hHeld ?_
      try simp only [Act.put, List.getElem_toArray, List.getElem_cons_zero, List.getElem_cons_succ, List.setIfInBounds_toArray, List.set_cons_zero, List.set_cons_succ]
      refine wpAnyH_take (i := 7) (v := undef) rfl (by kernel_rfl) (by kernel_rfl) (by kernel_rfl) (fun _ _ _ h => h) (Or.inr ⟨by rfl, rfl⟩) hHeld ?_
      try simp only [Act.put, List.getElem_toArray, List.getElem_cons_zero, List.getElem_cons_succ, List.setIfInBounds_toArray, List.set_cons_zero, List.set_cons_succ]
      refine wpAnyH_take (i := 8) (v := undef) rfl (by kernel_rfl) (by kernel_rfl) (by kernel_rfl) (fun _ _ _ h => h) (Or.inr ⟨by rfl, rfl⟩) hHeld ?_
      try simp only [Act.put, List.getElem_toArray, List.getElem_cons_zero, List.getElem_cons_succ, List.setIfInBounds_toArray, List.set_cons_zero, List.set_cons_succ]
      refine wpAnyH_take (i := 9) (v := undef) rfl (by kernel_rfl) (by kernel_rfl) (by kernel_rfl) (fun _ _ _ h => h) (Or.inr ⟨by rfl, rfl⟩) hHeld ?_
      try simp only [Act.put, List.getElem_toArray, List.getElem_cons_zero, List.getElem_cons_succ, List.setIfInBounds_toArray, List.set_cons_zero, List.set_cons_succ]
      refine wpAnyH_take (i := 10) (v := undef) rfl (by kernel_rfl) (by kernel_rfl) (by kernel_rfl) (fun _ _ _ h => h) (Or.inr ⟨by rfl, rfl⟩) hHeld ?_
      try simp only [Act.put, List.getElem_toArray, List.getElem_cons_zero, List.getElem_cons_succ, List.setIfInBounds_toArray, List.set_cons_zero, List.set_cons_succ]
      refine wpAnyH_take (i := 11) (v := ?_) rfl (by kernel_rfl) (by kernel_rfl) (by kernel_rfl) (fun _ _ _ h => h) (Or.inl ⟨by rfl, ?_⟩) hHeld ?_
      rotate_left
      · intro w hSw
        go_simp
        with_reducible rfl
      try simp only [Act.put, List.getElem_toArray, List.getElem_cons_zero, List.getElem_cons_succ, List.setIfInBounds_toArray, List.set_cons_zero, List.set_cons_succ]
      refine wpAnyH_done (by kernel_rfl) ?_ _
      go_wp2_with fail
      have hfr := fr_put2 (S := No) HF.out.drew (Nat.le_succ _) (.int .i64 0) (.bool false)
      exact bodyPost_ret (res_pl2 rfl rfl (put2 HQ.out _ _)) rfl ⟨rfl, (HI.out.no hfr).mono (Nat.le_succ c) (by omega), hfr.mono (fun _ _ e => e.elim)⟩
  · rw [if_neg hx] at hE
    rw [if_neg (fun h => hx h.1)] at hT
    rw [hT]
    have HE := hid hE
    clear hT hE hx
    show Calls _ _ _ _ fun e w' => e = .returned (.tuple #[.agg #[.int .i64 0, .bool false], .int .i64 10]) ∧ Ix w' p S L m (c + 1) ∧ Fr S w w'
    go_enter Try.func21, Try.ntmps21
    go_wp2_with (go_at_call 36; refine (ix_there _ p m c S L (HI.out.no HA.out) x).mono ?_; rw [HE.out]; rintro e w1 ⟨rfl, hF⟩; have HQ := hid (two_b hF); have HF := hid (HA.out.trans hF); obtain ⟨q0, q1, f0, f1⟩ := blk2 HQ.out; clear hF)
    have hfr := fr_put2 (S := No) HF.out (Nat.le_succ _) (.int .i64 0) (.bool false)
    exact bodyPost_ret (res_pl2 rfl rfl (put2 HQ.out _ _)) rfl ⟨rfl, (HI.out.no hfr).mono (Nat.le_succ c) (by omega), hfr.mono (fun _ _ e => e.elim)⟩
end Go.Proofs.Ytfggllhflibfcaa
