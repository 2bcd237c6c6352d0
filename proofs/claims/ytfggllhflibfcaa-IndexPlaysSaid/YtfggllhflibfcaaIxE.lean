/- index: count, Len, Dirty. -/
import Derived.Test.YtfggllhflibfcaaIxD
namespace Go.Proofs.Ytfggllhflibfcaa
open Go.RowKit Go.Maps

theorem ix_isPlaced (w : World) (p : Pl) : Calls Try.prog 38 #[plA p] w fun e w' => e = .returned (.bool p.isSome) ∧ Fr No w w' := by
  have HA := hid ((Fr.refl No w).alloc (.cells #[.int .i64 (plS p), .bool (plD p)] 44))
  have HQ := hid (heap_new w (.cells #[.int .i64 (plS p), .bool (plD p)] 44))
  obtain ⟨s0, s1, _, _⟩ := blk2 HQ.out
  rw [plA_eq]
  go_enter Try.func38, Try.ntmps38
  go_wp2_with fail
  refine wp_region_held_drew (S := fun W => W.cell? ⟨w.heap.size, 0, none⟩ = some (.int .i64 (plS p)) ∧ W.cell? ⟨w.heap.size, 1, none⟩ = some (.bool (plD p))) (by kernel_rfl) ⟨s0, s1⟩ (fun hHeld => ?_)
  refine wpAnyH_take (i := 0) (v := ?_) rfl (by kernel_rfl) (by kernel_rfl) (by kernel_rfl) (fun _ _ _ h => h) (Or.inl ⟨by rfl, ?_⟩) hHeld ?_
  rotate_left
  · intro w hSw; obtain ⟨u0, u1⟩ := hSw
    go_simp
    with_reducible rfl
  try simp only [Act.put, List.getElem_toArray, List.getElem_cons_zero, List.getElem_cons_succ, List.setIfInBounds_toArray, List.set_cons_zero, List.set_cons_succ]
  refine wpAnyH_ready (rs := [1]) (by kernel_rfl) (by simp) ?_
  refine AllReadyH.cons rfl (fun K hK => ?_) AllReadyH.nil
  rw [if_pos (by rfl)]
  go_simp
  refine (ix_nowhere _).mono ?_
  rintro e w2 ⟨rfl, hF⟩
  have HF2 := hid (HA.out.drew.trans hF)
  have HL2 := hid ((hF.block w.heap.size (lt_of_block HQ.out) id).trans HQ.out)
  clear s0 s1
  obtain ⟨s0, s1, _, _⟩ := blk2 HL2.out
  refine hK.out _ _ ⟨s0, s1⟩ (fun hHeld => ?_)
  clear hK K hF
  try simp only [Act.put, List.getElem_toArray, List.getElem_cons_zero, List.getElem_cons_succ, List.setIfInBounds_toArray, List.set_cons_zero, List.set_cons_succ]
  cases p with
  | none =>
    simp only [plS, plD]
    refine wpAnyH_take (i := 2) (v := ?_) rfl (by kernel_rfl) (by kernel_rfl) (by kernel_rfl) (fun _ _ _ h => h) (Or.inl ⟨by rfl, ?_⟩) hHeld ?_
    rotate_left
    · intro w hSw
      go_simp
      with_reducible rfl
    try simp only [Act.put, List.getElem_toArray, List.getElem_cons_zero, List.getElem_cons_succ, List.setIfInBounds_toArray, List.set_cons_zero, List.set_cons_succ]
    refine wpAnyH_take (i := 3) (v := ?_) rfl (by kernel_rfl) (by kernel_rfl) (by kernel_rfl) (fun _ _ _ h => h) (Or.inl ⟨by rfl, ?_⟩) hHeld ?_
    rotate_left
    · intro w hSw
      go_simp
      with_reducible rfl
    try simp only [Act.put, List.getElem_toArray, List.getElem_cons_zero, List.getElem_cons_succ, List.setIfInBounds_toArray, List.set_cons_zero, List.set_cons_succ]
    refine wpAnyH_done (by kernel_rfl) ?_ _
    go_wp2_with fail
    go_ret
    exact ⟨rfl, HF2.out⟩
  | some q =>
    obtain ⟨x, d⟩ := q
    simp only [plS, plD]
    have hxne : ((x : Int) == -1) = false := by simp
    refine wpAnyH_take (i := 2) (v := ?_) rfl (by kernel_rfl) (by kernel_rfl) (by kernel_rfl) (fun _ _ _ h => h) (Or.inl ⟨by rfl, ?_⟩) hHeld ?_
    rotate_left
    · intro w hSw
      go_simp
      with_reducible rfl
    try simp only [Act.put, List.getElem_toArray, List.getElem_cons_zero, List.getElem_cons_succ, List.setIfInBounds_toArray, List.set_cons_zero, List.set_cons_succ]
    refine wpAnyH_take (i := 3) (v := ?_) rfl (by kernel_rfl) (by kernel_rfl) (by kernel_rfl) (fun _ _ _ h => h) (Or.inl ⟨by rfl, ?_⟩) hHeld ?_
    rotate_left
    · intro w hSw
      go_simp
      with_reducible rfl
    try simp only [Act.put, List.getElem_toArray, List.getElem_cons_zero, List.getElem_cons_succ, List.setIfInBounds_toArray, List.set_cons_zero, List.set_cons_succ]
    refine wpAnyH_done (by kernel_rfl) ?_ _
    go_wp2_with fail
    go_ret
    exact ⟨rfl, HF2.out⟩
theorem ix_isDirty (w : World) (p : Pl) : Calls Try.prog 39 #[plA p] w fun e w' => e = .returned (.bool (plD p)) ∧ Fr No w w' := by
  have HA := hid ((Fr.refl No w).alloc (.cells #[.int .i64 (plS p), .bool (plD p)] 44))
  have HQ := hid (heap_new w (.cells #[.int .i64 (plS p), .bool (plD p)] 44))
  obtain ⟨s0, s1, _, _⟩ := blk2 HQ.out
  rw [plA_eq]
  go_enter Try.func39, Try.ntmps39
  go_wp2_with fail
  go_ret
  exact ⟨rfl, HA.out⟩
theorem ix_count_nil (w : World) (v : Value) : Calls Try.prog 37 #[.pointer none, v] w fun e w' => e = .returned (.int .i64 0) ∧ Fr No w w' := by
  go_enter Try.func37, Try.ntmps37
  go_wp2_with fail
  go_ret
  exact ⟨rfl, Fr.refl _ _⟩
theorem ix_Len_nil (w : World) : Calls Try.prog 18 #[.pointer none] w fun e w' => e = .returned (.int .i64 0) ∧ Fr No w w' := by
  go_enter Try.func18, Try.ntmps18
  go_wp2_with (go_at_call 37; refine (ix_count_nil _ _).mono ?_; rintro e w2 ⟨rfl, hF⟩; have HF := hid hF; clear hF)
  go_ret
  exact ⟨rfl, HF.out⟩
theorem ix_Dirty_nil (w : World) : Calls Try.prog 19 #[.pointer none] w fun e w' => e = .returned (.int .i64 0) ∧ Fr No w w' := by
  go_enter Try.func19, Try.ntmps19
  go_wp2_with (go_at_call 37; refine (ix_count_nil _ _).mono ?_; rintro e w2 ⟨rfl, hF⟩; have HF := hid hF; clear hF)
  go_ret
  exact ⟨rfl, HF.out⟩
def cntI (t : Pl → Bool) (L : List Pl) : Nat := L.countP t
set_option maxRecDepth 100000 in
theorem ix_countPlaced (w : World) (p m c : Nat) (S : Nat → Prop) (L : List Pl) (h : Ix w p S L m c) :
    Calls Try.prog 37 #[.pointer (some ⟨p, 0, none⟩), .func (.func 38) #[] #[]] w fun e w' => e = .returned (.int .i64 (L.countP Option.isSome : Nat)) ∧ Fr No w w' := by
  obtain ⟨g, b, cp, D, hV, _⟩ := h
  have HV := hid hV
  have hlen := hV.len.2
  have hpl := lt_of_block hV.blk
  have hgl : g < w.heap.size := by obtain ⟨cs, hc⟩ := own_ty hV.row (by rfl); exact lt_of_block hc
  obtain ⟨c0, _, _⟩ := hV.cells
  clear hV
  have hlen' : (L.length : Int) ≤ 4096 := by omega
  go_enter Try.func37, Try.ntmps37
  go_wp2_with fail
  go_loopg [5, 15] L.length (fun g x i wr => ∃ k : Nat, k + g = L.length ∧ x = .int .i64 ((L.take k).countP Option.isSome : Nat) ∧ i = .int .i64 k ∧ Hid (Fr No w wr))
  case atStart => exact ⟨0, by omega, rfl, rfl, Fr.refl _ _⟩
  case round =>
    obtain ⟨k, hk, rfl, rfl, HF⟩ := hrel
    cases gk with
    | zero =>
      obtain rfl : k = L.length := by omega
      have HT : Hid (L.take L.length = L) := List.take_length
      go_wp2_with fail
      try rw [Exit.noGoto_ret]
      go_ret
      exact ⟨by rw [HT.out]; rfl, HF.out⟩
    | succ gk =>
      have hkm : k < L.length := by omega
      have hki : (k : Int) < (L.length : Int) := by omega
      have HT : Hid ((L.take (k + 1)).countP Option.isSome = (L.take k).countP Option.isSome + if Option.isSome L[k] then 1 else 0) := by
        unfold Hid; rw [List.take_succ_eq_append_getElem hkm, List.countP_append]; simp [List.countP_cons]
      have hs1 : (L.take k).countP Option.isSome ≤ k := Nat.le_trans List.countP_le_length (by rw [List.length_take]; omega)
      obtain ⟨a0, a1⟩ := HV.out.at k hkm
      obtain ⟨q, hq⟩ : ∃ q, L[k] = q := ⟨_, rfl⟩
      rw [hq] at a0 a1 HT
      obtain ⟨z, hz⟩ : ∃ z, (L.take k).countP Option.isSome = z := ⟨_, rfl⟩
      rw [hz] at HT hs1 ⊢
      have e0 := (HF.out.cell (p := ⟨g, k * 2, none⟩) hgl id).trans a0
      have e1 := (HF.out.cell (p := ⟨g, k * 2 + 1, none⟩) hgl id).trans a1
      clear a0 a1 hq hz
      obtain ⟨r, hr⟩ : ∃ r, Option.isSome q = r := ⟨_, rfl⟩
      have HR := hid hr
      clear hr
      go_wp2_with (go_at_call 38; refine (ix_isPlaced _ q).mono ?_; rintro e w2 ⟨he, hF⟩; rw [HR.out] at he; subst he; have HF2 := hid ((HF.out.alloc (.cells #[.int .i64 (plS q), .bool (plD q)] 44)).trans hF); clear hF; cases r)
      · go_roundg gk
        case measure => omega
        case rel => exact ⟨k + 1, by omega, by rw [HT.out, HR.out]; go_num, by go_num, HF2⟩
      · go_roundg gk
        case measure => omega
        case rel => exact ⟨k + 1, by omega, by rw [HT.out, HR.out]; go_num, by go_num, HF2⟩
set_option maxRecDepth 100000 in
theorem ix_countDirty (w : World) (p m c : Nat) (S : Nat → Prop) (L : List Pl) (h : Ix w p S L m c) :
    Calls Try.prog 37 #[.pointer (some ⟨p, 0, none⟩), .func (.func 39) #[] #[]] w fun e w' => e = .returned (.int .i64 (L.countP plD : Nat)) ∧ Fr No w w' := by
  obtain ⟨g, b, cp, D, hV, _⟩ := h
  have HV := hid hV
  have hlen := hV.len.2
  have hpl := lt_of_block hV.blk
  have hgl : g < w.heap.size := by obtain ⟨cs, hc⟩ := own_ty hV.row (by rfl); exact lt_of_block hc
  obtain ⟨c0, _, _⟩ := hV.cells
  clear hV
  have hlen' : (L.length : Int) ≤ 4096 := by omega
  go_enter Try.func37, Try.ntmps37
  go_wp2_with fail
  go_loopg [5, 15] L.length (fun g x i wr => ∃ k : Nat, k + g = L.length ∧ x = .int .i64 ((L.take k).countP plD : Nat) ∧ i = .int .i64 k ∧ Hid (Fr No w wr))
  case atStart => exact ⟨0, by omega, rfl, rfl, Fr.refl _ _⟩
  case round =>
    obtain ⟨k, hk, rfl, rfl, HF⟩ := hrel
    cases gk with
    | zero =>
      obtain rfl : k = L.length := by omega
      have HT : Hid (L.take L.length = L) := List.take_length
      go_wp2_with fail
      try rw [Exit.noGoto_ret]
      go_ret
      exact ⟨by rw [HT.out]; rfl, HF.out⟩
    | succ gk =>
      have hkm : k < L.length := by omega
      have hki : (k : Int) < (L.length : Int) := by omega
      have HT : Hid ((L.take (k + 1)).countP plD = (L.take k).countP plD + if plD L[k] then 1 else 0) := by
        unfold Hid; rw [List.take_succ_eq_append_getElem hkm, List.countP_append]; simp [List.countP_cons]
      have hs1 : (L.take k).countP plD ≤ k := Nat.le_trans List.countP_le_length (by rw [List.length_take]; omega)
      obtain ⟨a0, a1⟩ := HV.out.at k hkm
      obtain ⟨q, hq⟩ : ∃ q, L[k] = q := ⟨_, rfl⟩
      rw [hq] at a0 a1 HT
      obtain ⟨z, hz⟩ : ∃ z, (L.take k).countP plD = z := ⟨_, rfl⟩
      rw [hz] at HT hs1 ⊢
      have e0 := (HF.out.cell (p := ⟨g, k * 2, none⟩) hgl id).trans a0
      have e1 := (HF.out.cell (p := ⟨g, k * 2 + 1, none⟩) hgl id).trans a1
      clear a0 a1 hq hz
      obtain ⟨r, hr⟩ : ∃ r, plD q = r := ⟨_, rfl⟩
      have HR := hid hr
      clear hr
      go_wp2_with (go_at_call 39; refine (ix_isDirty _ q).mono ?_; rintro e w2 ⟨he, hF⟩; rw [HR.out] at he; subst he; have HF2 := hid ((HF.out.alloc (.cells #[.int .i64 (plS q), .bool (plD q)] 44)).trans hF); clear hF; cases r)
      · go_roundg gk
        case measure => omega
        case rel => exact ⟨k + 1, by omega, by rw [HT.out, HR.out]; go_num, by go_num, HF2⟩
      · go_roundg gk
        case measure => omega
        case rel => exact ⟨k + 1, by omega, by rw [HT.out, HR.out]; go_num, by go_num, HF2⟩
theorem ix_Len (w : World) (p m c : Nat) (S : Nat → Prop) (L : List Pl) (h : Ix w p S L m c) : Calls Try.prog 18 #[.pointer (some ⟨p, 0, none⟩)] w fun e w' => e = .returned (.int .i64 (L.countP Option.isSome : Nat)) ∧ Fr No w w' := by
  have HI := hid h
  go_enter Try.func18, Try.ntmps18
  go_wp2_with (go_at_call 37; refine (ix_countPlaced _ p m c S L HI.out).mono ?_; rintro e w2 ⟨rfl, hF⟩; have HF := hid hF; clear hF)
  go_ret
  exact ⟨rfl, HF.out⟩
theorem ix_Dirty (w : World) (p m c : Nat) (S : Nat → Prop) (L : List Pl) (h : Ix w p S L m c) : Calls Try.prog 19 #[.pointer (some ⟨p, 0, none⟩)] w fun e w' => e = .returned (.int .i64 (L.countP plD : Nat)) ∧ Fr No w w' := by
  have HI := hid h
  go_enter Try.func19, Try.ntmps19
  go_wp2_with (go_at_call 37; refine (ix_countDirty _ p m c S L HI.out).mono ?_; rintro e w2 ⟨rfl, hF⟩; have HF := hid hF; clear hF)
  go_ret
  exact ⟨rfl, HF.out⟩
end Go.Proofs.Ytfggllhflibfcaa
