/- index: the law's place, does. -/
import Derived.Test.YtfggllhflibfcaaIxR
namespace Go.Proofs.Ytfggllhflibfcaa
open Go.RowKit Go.Maps
def placeB (s : Int) (d : Bool) (e s' : Int) (d' : Bool) (f : Int) : Bool := e == f && d == d' && s == s'
theorem ix_place (w : World) (s : Int) (d : Bool) (e s' : Int) (d' : Bool) (f : Int) : Calls Try.prog 27 #[.agg #[.int .i64 s, .bool d], .int .i64 e, .int .i64 s', .bool d', .int .i64 f] w fun e' w' => e' = .returned (.bool (placeB s d e s' d' f)) ∧ Fr No w w' := by
  have HA := hid ((Fr.refl No w).alloc (.cells #[.int .i64 s, .bool d] 44))
  have HQ := hid (heap_new w (.cells #[.int .i64 s, .bool d] 44))
  obtain ⟨s0, s1, _, _⟩ := blk2 HQ.out
  obtain ⟨r1, h1⟩ : ∃ r, (e == f) = r := ⟨_, rfl⟩
  obtain ⟨r2, h2⟩ : ∃ r, (d == d') = r := ⟨_, rfl⟩
  obtain ⟨r3, h3⟩ : ∃ r, (s == s') = r := ⟨_, rfl⟩
  have HB : Hid (placeB s d e s' d' f = (r1 && r2 && r3)) := by unfold Hid placeB; rw [h1, h2, h3]
  cases r1 <;> cases r2 <;> cases r3
  all_goals
    go_enter Try.func27, Try.ntmps27
    go_wp2_with fail
    go_ret
    exact ⟨by rw [HB.out]; rfl, HA.out⟩
/-- an operation: what is asked, the block, the slot, dirty -/
structure OpI where
  ask : Int
  blk : Int
  slot : Int
  dirt : Bool
def OpI.v (o : OpI) : Value := .agg #[.int .i64 o.ask, .int .i64 o.blk, .int .i64 o.slot, .bool o.dirt]
def opI (L : List Pl) (m : Nat) (o : OpI) : List Pl := if o.ask = 0 then (putI L m o.blk o.slot o.dirt).2.2 else if o.ask = 1 then (dropI L o.blk).2.2 else (cleanI L o.blk).2
theorem opI_len (L : List Pl) (m : Nat) (o : OpI) : (opI L m o).length = L.length := by
  unfold opI putI dropI cleanI
  repeat' split
  all_goals simp
def Did (w w' : World) (e : Ending) (p q m m' c : Nat) (S T : Nat → Prop) (L R : List Pl) (o : OpI) : Prop := ∃ b, e = .returned (.bool b) ∧ Ix w' p S (opI L m o) m (c + 1) ∧ Rf w' q T (opI R m' o) m' ∧ Fr (fun k => S k ∨ T k) w w' ∧ (L = R → m = m' → b = true)
set_option maxRecDepth 100000 in
set_option maxHeartbeats 1000000 in
theorem ix_does (w : World) (p q m m' c : Nat) (S T : Nat → Prop) (L R : List Pl) (h : Ix w p S L m c) (hr : Rf w q T R m') (hd : ∀ k, S k → ¬ T k) (hR : R.length ≤ 4096) (o : OpI) (ho : (Lit.int .i64 o.slot).wf = true) (hc : c < 100000) :
    Calls Try.prog 12 #[.pointer (some ⟨p, 0, none⟩), .pointer (some ⟨q, 0, none⟩), o.v] w fun e w' => Did w w' e p q m m' c S T L R o := by
  obtain ⟨ask, blk, slot, dirt⟩ := o
  have HI := hid h
  have HR := hid hr
  have HD := hid hd
  have HTS : Hid (∀ k, T k → ¬ S k) := fun k h1 h2 => hd k h2 h1
  have hA := (Fr.refl No w).alloc (.cells #[.int .i64 ask, .int .i64 blk, .int .i64 slot, .bool dirt] 35)
  have HA := hid hA
  have HIA := hid (h.no hA)
  have HRA := hid (hr.no hA)
  have HB := hid (heap_new w (.cells #[.int .i64 ask, .int .i64 blk, .int .i64 slot, .bool dirt] 35))
  clear h hr hd hA
  have HLS : Hid (∀ k, S k → k < w.heap.size) := HI.out.lt
  have HLT : Hid (∀ k, T k → k < w.heap.size) := HR.out.lt
  by_cases h0 : ask = 0
  · have hO : ∀ (L : List Pl) (m : Nat), opI L m ⟨ask, blk, slot, dirt⟩ = (putI L m blk slot dirt).2.2 := fun L m => by unfold opI; rw [if_pos h0]
    have HO := hid hO
    clear hO
    obtain ⟨⟨u, e1, L1⟩, hU⟩ : ∃ r, putI L m blk slot dirt = r := ⟨_, rfl⟩
    obtain ⟨⟨u2, e2, R1⟩, hV⟩ : ∃ r, putI R m' blk slot dirt = r := ⟨_, rfl⟩
    have HU := hid hU
    have HV := hid hV
    clear hU hV
    subst h0
    unfold OpI.v
    go_enter Try.func12, Try.ntmps12
    go_wp2_with (first
      | (go_at_call 21; refine (ix_Put _ p m c S L HIA.out blk slot dirt ho hc).mono ?_; rw [HU.out]; rintro e w1 ⟨rfl, hI1, hF⟩; simp only [plA]; have hFA := hF.alloc (.cells #[.int .i64 (plS u), .bool (plD u)] 44); have HF1 := hid (HA.out.mono (T := S) (fun _ _ e => e.elim) |>.trans hFA); have HI1 := hid (hI1.no ((Fr.refl No w1).alloc (.cells #[.int .i64 (plS u), .bool (plD u)] 44))); have HR1 := hid (HRA.out.fr hFA HTS.out); have HB1 := hid ((hFA.block w.heap.size (by simp) (fun h => absurd (HLS.out _ h) (Nat.lt_irrefl _))).trans HB.out); have HQ1 := hid (heap_new w1 (.cells #[.int .i64 (plS u), .bool (plD u)] 44)); have hz1 := hFA.size; have b1 := (cell_blk HB1.out 1).trans rfl; have b2 := (cell_blk HB1.out 2).trans rfl; have b3 := (cell_blk HB1.out 3).trans rfl; have HW1 := hid (show w.heap.size < w1.heap.size from Nat.lt_of_lt_of_le (by simp) hF.size); clear hFA hF hI1)
      | (go_at_call 26; refine (rf_Put _ q m' T R HR1.out hR blk slot dirt).mono ?_; rw [HV.out]; rintro e w2 ⟨rfl, hR2, hF⟩; have HR2 := hid hR2; have HF2 := hid hF; have HI2 := hid (HI1.out.fr hF HD.out); have HQ2 := hid ((hF.block w1.heap.size (by simp) (fun h => absurd (HLT.out _ h) (by have := HW1.out; omega))).trans HQ1.out); obtain ⟨q0, q1, _, _⟩ := blk2 HQ2.out; clear hF hR2)
      | (go_at_call 27; refine (ix_place _ _ _ _ _ _ _).mono ?_; rintro e w3 ⟨rfl, hF⟩; have HF3 := hid hF; clear hF))
    go_ret
    unfold Did
    refine ⟨_, rfl, ?_, ?_, ?_, ?_⟩
    · rw [HO.out L m, HU.out]; exact HI2.out.no HF3.out
    · rw [HO.out R m', HV.out]; exact HR2.out.no HF3.out
    · exact ((HF1.out.mono (fun _ _ e => Or.inl e)).trans (HF2.out.mono (fun _ _ e => Or.inr e))).trans (HF3.out.mono (fun _ _ e => e.elim))
    · intro e1 e2
      have hU := HU.out
      have hV := HV.out
      rw [e1, e2, hV] at hU
      injection hU with hu1 hu2
      injection hu2 with hu2 hu3
      rw [← hu1, ← hu2]
      simp [placeB]
  by_cases h1 : ask = 1
  · have hO : ∀ (L : List Pl) (m : Nat), opI L m ⟨ask, blk, slot, dirt⟩ = (dropI L blk).2.2 := fun L m => by unfold opI; rw [if_neg h0, if_pos h1]
    have HO := hid hO
    clear hO h0
    obtain ⟨⟨u, e1, L1⟩, hU⟩ : ∃ r, dropI L blk = r := ⟨_, rfl⟩
    obtain ⟨⟨u2, e2, R1⟩, hV⟩ : ∃ r, dropI R blk = r := ⟨_, rfl⟩
    have HU := hid hU
    have HV := hid hV
    clear hU hV
    subst h1
    unfold OpI.v
    go_enter Try.func12, Try.ntmps12
    go_wp2_with (first
      | (go_at_call 22; refine (ix_Drop _ p m c S L HIA.out blk hc).mono ?_; rw [HU.out]; rintro e w1 ⟨rfl, hI1, hF⟩; simp only [plA]; have hFA := hF.alloc (.cells #[.int .i64 (plS u), .bool (plD u)] 44); have HF1 := hid (HA.out.mono (T := S) (fun _ _ e => e.elim) |>.trans hFA); have HI1 := hid (hI1.no ((Fr.refl No w1).alloc (.cells #[.int .i64 (plS u), .bool (plD u)] 44))); have HR1 := hid (HRA.out.fr hFA HTS.out); have HB1 := hid ((hFA.block w.heap.size (by simp) (fun h => absurd (HLS.out _ h) (Nat.lt_irrefl _))).trans HB.out); have HQ1 := hid (heap_new w1 (.cells #[.int .i64 (plS u), .bool (plD u)] 44)); have hz1 := hFA.size; have b1 := (cell_blk HB1.out 1).trans rfl; have b2 := (cell_blk HB1.out 2).trans rfl; have b3 := (cell_blk HB1.out 3).trans rfl; have HW1 := hid (show w.heap.size < w1.heap.size from Nat.lt_of_lt_of_le (by simp) hF.size); clear hFA hF hI1)
      | (go_at_call 28; refine (rf_Drop _ q m' T R HR1.out hR blk).mono ?_; rw [HV.out]; rintro e w2 ⟨rfl, hR2, hF⟩; have HR2 := hid hR2; have HF2 := hid hF; have HI2 := hid (HI1.out.fr hF HD.out); have HQ2 := hid ((hF.block w1.heap.size (by simp) (fun h => absurd (HLT.out _ h) (by have := HW1.out; omega))).trans HQ1.out); obtain ⟨q0, q1, _, _⟩ := blk2 HQ2.out; clear hF hR2)
      | (go_at_call 27; refine (ix_place _ _ _ _ _ _ _).mono ?_; rintro e w3 ⟨rfl, hF⟩; have HF3 := hid hF; clear hF))
    go_ret
    unfold Did
    refine ⟨_, rfl, ?_, ?_, ?_, ?_⟩
    · rw [HO.out L m, HU.out]; exact HI2.out.no HF3.out
    · rw [HO.out R m', HV.out]; exact HR2.out.no HF3.out
    · exact ((HF1.out.mono (fun _ _ e => Or.inl e)).trans (HF2.out.mono (fun _ _ e => Or.inr e))).trans (HF3.out.mono (fun _ _ e => e.elim))
    · intro e1 e2
      have hU := HU.out
      have hV := HV.out
      rw [e1, hV] at hU
      injection hU with hu1 hu2
      injection hu2 with hu2 hu3
      rw [← hu1, ← hu2]
      simp [placeB]
  have hO : ∀ (L : List Pl) (m : Nat), opI L m ⟨ask, blk, slot, dirt⟩ = (cleanI L blk).2 := fun L m => by unfold opI; rw [if_neg h0, if_neg h1]
  have HO := hid hO
  clear hO
  obtain ⟨⟨e1, L1⟩, hU⟩ : ∃ r, cleanI L blk = r := ⟨_, rfl⟩
  obtain ⟨⟨e2, R1⟩, hV⟩ : ∃ r, cleanI R blk = r := ⟨_, rfl⟩
  have HU := hid hU
  have HV := hid hV
  clear hU hV
  have h0' : (ask == 0) = false := by simpa using h0
  have h1' : (ask == 1) = false := by simpa using h1
  have hb1 : (w.alloc (.cells #[.int .i64 ask, .int .i64 blk, .int .i64 slot, .bool dirt] 35)).cell? ⟨w.heap.size, 1, none⟩ = some (.int .i64 blk) := (cell_blk HB.out 1).trans rfl
  unfold OpI.v
  go_enter Try.func12, Try.ntmps12
  go_wp2_with fail
  refine wp_region_held_drew (S := fun W => W.cell? ⟨w.heap.size, 1, none⟩ = some (.int .i64 blk)) (by kernel_rfl) hb1 (fun hHeld => ?_)
  refine wpAnyH_take (i := 0) (v := ?_) rfl (by kernel_rfl) (by kernel_rfl) (by kernel_rfl) (fun _ _ _ h => h) (Or.inl ⟨by rfl, ?_⟩) hHeld ?_
  rotate_left
  · intro w hSw
    go_simp
    with_reducible rfl
  try simp only [Act.put, List.getElem_toArray, List.getElem_cons_zero, List.getElem_cons_succ, List.setIfInBounds_toArray, List.set_cons_zero, List.set_cons_succ]
  refine wpAnyH_take (i := 1) (v := ?_) rfl (by kernel_rfl) (by kernel_rfl) (by kernel_rfl) (fun _ _ _ h => h) (Or.inl ⟨by rfl, ?_⟩) hHeld ?_
  rotate_left
  · intro w hSw
    go_simp
    with_reducible rfl
  try simp only [Act.put, List.getElem_toArray, List.getElem_cons_zero, List.getElem_cons_succ, List.setIfInBounds_toArray, List.set_cons_zero, List.set_cons_succ]
  refine wpAnyH_take (i := 2) (v := ?_) rfl (by kernel_rfl) (by kernel_rfl) (by kernel_rfl) (fun _ _ _ h => h) (Or.inl ⟨by rfl, ?_⟩) hHeld ?_
  rotate_left
  · intro w hSw
    go_simp
    with_reducible rfl
  try simp only [Act.put, List.getElem_toArray, List.getElem_cons_zero, List.getElem_cons_succ, List.setIfInBounds_toArray, List.set_cons_zero, List.set_cons_succ]
  refine wpAnyH_take (i := 4) (v := ?_) rfl (by kernel_rfl) (by kernel_rfl) (by kernel_rfl) (fun _ _ _ h => h) (Or.inl ⟨by rfl, ?_⟩) hHeld ?_
  rotate_left
  · intro w hSw
    go_simp
    with_reducible rfl
  try simp only [Act.put, List.getElem_toArray, List.getElem_cons_zero, List.getElem_cons_succ, List.setIfInBounds_toArray, List.set_cons_zero, List.set_cons_succ]
  refine wpAnyH_take (i := 5) (v := ?_) rfl (by kernel_rfl) (by kernel_rfl) (by kernel_rfl) (fun _ _ _ h => h) (Or.inl ⟨by rfl, ?_⟩) hHeld ?_
  rotate_left
  · intro w hSw
    go_simp
    with_reducible rfl
  try simp only [Act.put, List.getElem_toArray, List.getElem_cons_zero, List.getElem_cons_succ, List.setIfInBounds_toArray, List.set_cons_zero, List.set_cons_succ]
  refine wpAnyH_take (i := 6) (v := ?_) rfl (by kernel_rfl) (by kernel_rfl) (by kernel_rfl) (fun _ _ _ h => h) (Or.inl ⟨by rfl, ?_⟩) hHeld ?_
  rotate_left
  · intro w hSw
    go_simp
    with_reducible rfl
  try simp only [Act.put, List.getElem_toArray, List.getElem_cons_zero, List.getElem_cons_succ, List.setIfInBounds_toArray, List.set_cons_zero, List.set_cons_succ]
  refine wpAnyH_ready (rs := [3]) (by kernel_rfl) (by simp) ?_
  refine AllReadyH.cons rfl (fun K hK => ?_) AllReadyH.nil
  rw [if_pos (by rfl)]
  go_simp
  refine (ix_Clean _ p m c S L (HIA.out.no (Fr.refl No _).drew) blk).mono ?_
  rw [HU.out]
  rintro e w1 ⟨rfl, hI1, hF⟩
  have HI1 := hid (hI1.mono (Nat.le_succ c) (by omega))
  have hFA := (Fr.refl S (w.alloc (.cells #[.int .i64 ask, .int .i64 blk, .int .i64 slot, .bool dirt] 35))).drew.trans hF
  have HF1 := hid ((HA.out.mono (T := S) (fun _ _ e => e.elim)).trans hFA)
  have HR1 := hid (HRA.out.fr hFA HTS.out)
  have HW1 := hid (show w.heap.size < w1.heap.size from Nat.lt_of_lt_of_le (by simp) hFA.size)
  refine hK.out _ _ ((hFA.cell (p := ⟨w.heap.size, 1, none⟩) (by simp) (fun h => absurd (HLS.out _ h) (Nat.lt_irrefl _))).trans hb1) (fun hHeld => ?_)
  clear hK K hF hFA hI1
  try simp only [Act.put, List.getElem_toArray, List.getElem_cons_zero, List.getElem_cons_succ, List.setIfInBounds_toArray, List.set_cons_zero, List.set_cons_succ]
  refine wpAnyH_ready (rs := [7]) (by kernel_rfl) (by simp) ?_
  refine AllReadyH.cons rfl (fun K hK => ?_) AllReadyH.nil
  rw [if_pos (by rfl)]
  go_simp
  refine (rf_Clean _ q m' T R HR1.out hR blk).mono ?_
  rw [HV.out]
  rintro e w2 ⟨rfl, hR2, hF⟩
  have HR2 := hid hR2
  have HI2 := hid (HI1.out.fr hF HD.out)
  have HF2 := hid hF
  refine hK.out _ _ ((hF.cell (p := ⟨w.heap.size, 1, none⟩) HW1.out (fun h => absurd (HLT.out _ h) (Nat.lt_irrefl _))).trans hHeld) (fun hHeld => ?_)
  clear hK K hF hR2
  try simp only [Act.put, List.getElem_toArray, List.getElem_cons_zero, List.getElem_cons_succ, List.setIfInBounds_toArray, List.set_cons_zero, List.set_cons_succ]
  refine wpAnyH_take (i := 8) (v := ?_) rfl (by kernel_rfl) (by kernel_rfl) (by kernel_rfl) (fun _ _ _ h => h) (Or.inl ⟨by rfl, ?_⟩) hHeld ?_
  rotate_left
  · intro w hSw
    go_simp
    with_reducible rfl
  try simp only [Act.put, List.getElem_toArray, List.getElem_cons_zero, List.getElem_cons_succ, List.setIfInBounds_toArray, List.set_cons_zero, List.set_cons_succ]
  refine wpAnyH_take (i := 9) (v := ?_) rfl (by kernel_rfl) (by kernel_rfl) (by kernel_rfl) (fun _ _ _ h => h) (Or.inl ⟨by rfl, ?_⟩) hHeld ?_
  rotate_left
  · intro w hSw
    go_simp
    with_reducible rfl
  try simp only [Act.put, List.getElem_toArray, List.getElem_cons_zero, List.getElem_cons_succ, List.setIfInBounds_toArray, List.set_cons_zero, List.set_cons_succ]
  refine wpAnyH_done (by kernel_rfl) ?_ _
  go_wp2_with fail
  go_ret
  unfold Did
  refine ⟨_, rfl, ?_, ?_, ?_, ?_⟩
  · rw [HO.out L m, HU.out]; exact HI2.out
  · rw [HO.out R m', HV.out]; exact HR2.out
  · exact (HF1.out.mono (fun _ _ e => Or.inl e)).trans (HF2.out.mono (fun _ _ e => Or.inr e))
  · intro e1 e2
    have hU := HU.out
    have hV := HV.out
    rw [e1, hV] at hU
    injection hU with hu1 hu2
    rw [← hu1]
    simp
end Go.Proofs.Ytfggllhflibfcaa
