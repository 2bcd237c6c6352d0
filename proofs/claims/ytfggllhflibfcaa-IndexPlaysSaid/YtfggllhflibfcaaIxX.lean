/- index: the law's same. -/
import Derived.Test.YtfggllhflibfcaaIxW
namespace Go.Proofs.Ytfggllhflibfcaa
open Go.RowKit Go.Shelf Go.Maps
attribute [local go_sem] Oper.semAt_some
set_option maxRecDepth 1000000 in
set_option maxHeartbeats 8000000 in
theorem ix_same (w : World) (p q m c : Nat) (S T : Nat → Prop) (L : List Pl) (h : Ix w p S L m c) (hr : Rf w q T L m) (hm : m ≤ 1024) :
    Calls Try.prog 13 #[.pointer (some ⟨p, 0, none⟩), .pointer (some ⟨q, 0, none⟩)] w fun e w' => e = .returned (.bool true) ∧ Fr No w w' := by
  have hl4 := h.len
  have HI := hid h
  have HRF := hid hr
  have HF := hid (Fr.refl No w)
  clear h hr
  go_enter Try.func13, Try.ntmps13
  go_wp2_with (first
    | (go_at_call 30; refine (rf_Count _ q m T L HRF.out hl4.2).mono ?_; rintro e w1 ⟨rfl, e1⟩; subst w1)
    | (go_at_call 18; refine (ix_Len _ p m c S L (HI.out.no (Fr.refl No _).drew)).mono ?_; rintro e w2 ⟨rfl, hF⟩; have HI2 := hid (HI.out.no hF); have HR2 := hid (HRF.out.no hF); have HF2 := hid (HF.out.trans hF); clear hF)
    | (go_at_call 18; refine (ix_Len _ p m c S L HI.out).mono ?_; rintro e w2 ⟨rfl, hF⟩; have HI2 := hid (HI.out.no hF); have HR2 := hid (HRF.out.no hF); have HF2 := hid (HF.out.trans hF); clear hF)
    | (go_at_call 19; refine (ix_Dirty _ p m c S L HI2.out).mono ?_; rintro e w3 ⟨rfl, hF⟩; have HI3 := hid (HI2.out.no hF); have HR3 := hid (HR2.out.no hF); have HF3 := hid (HF2.out.trans hF); clear hF)
    | (go_at_call 15; refine (ix_all _ p q m m c S T L HI3.out HR3.out 0 4096 (by decide) (by decide) (by decide) (by decide)).mono ?_; rintro e w4 ⟨rfl, hF⟩; have HI4 := hid (HI3.out.no hF); have HR4 := hid (HR3.out.no hF); have HF4 := hid (HF3.out.trans hF); clear hF))
  go_loopg [7] (L.length + 2) (fun g i wr => ∃ k : Nat, k + g = L.length + 2 ∧ i = .int .i64 ((k : Int) - 1) ∧ Hid (Ix wr p S L m c) ∧ Hid (Rf wr q T L m) ∧ Hid (Fr No w wr))
  case atStart => exact ⟨0, by omega, rfl, HI4, HR4, HF4⟩
  case round =>
    obtain ⟨k, hk, rfl, HI, HR, HF⟩ := hrel
    have hl4' : (L.length : Int) ≤ 4096 := by omega
    obtain ⟨vs, vd, hRV⟩ := HR.out
    obtain ⟨q0, q1, q2, _⟩ := hRV.cells
    obtain ⟨ga, gcap, hvs⟩ := own_form hRV.row
    subst hvs
    cases gk with
    | zero =>
      obtain rfl : k = L.length + 2 := by omega
      have hb1 : ((L.length + 2 : Nat) : Int) - 1 = (L.length : Int) + 1 := by omega
      rw [hb1]
      clear hRV
      go_wp2_with fail
      go_loopg [10] (min m 20) (fun g i wr => ∃ k : Nat, k + g = min m 20 ∧ i = .int .i64 (k : Int) ∧ Hid (Ix wr p S L m c) ∧ Hid (Rf wr q T L m) ∧ Hid (Fr No w wr))
      case atStart => exact ⟨0, by omega, rfl, HI, HR, HF⟩
      case round =>
        obtain ⟨k, hk, rfl, HI, HR, HF⟩ := hrel
        obtain ⟨vs, vd, hRV⟩ := HR.out
        obtain ⟨q0, q1, q2, _⟩ := hRV.cells
        clear hRV
        cases gk with
        | zero =>
          obtain rfl : k = min m 20 := by omega
          obtain ⟨k, hkk⟩ : ∃ k, min m 20 = k := ⟨_, rfl⟩
          rw [hkk]
          by_cases h20 : (k : Int) < (m : Int)
          · have h21 : (k : Int) = 20 := by omega
            rw [h21] at h20 ⊢
            go_wp2_with fail
            try rw [Exit.noGoto_ret]
            go_ret
            exact ⟨rfl, HF.out⟩
          · go_wp2_with fail
            try rw [Exit.noGoto_ret]
            go_ret
            exact ⟨rfl, HF.out⟩
        | succ gk =>
          have hkm : (k : Int) < (m : Int) := by omega
          have hk20 : (k : Int) < 20 := by omega
          have hm' : (m : Int) ≤ 1024 := by omega
          have HW := hid (show (Lit.int .i64 (k : Int)).wf = true from WalkArith.wf_i64 (n := (k : Int)) (by omega))
          cases ea : atS L (k : Int) with
          | none =>
            have HA := hid (show atI L m (k : Int) = (0, 14) from by unfold atI; rw [if_pos ⟨by omega, hkm⟩, ea])
            have HB := hid (show ratI L (k : Int) = -1 from by unfold ratI; rw [ea])
            go_wp2_with (first
              | (go_at_call 17; refine (ix_At _ p m c S L HI.out (k : Int) HW.out).mono ?_; rw [HA.out]; rintro e w5 ⟨rfl, hF⟩; have HI5 := hid (HI.out.no hF); have HR5 := hid (HR.out.no hF); have HF5 := hid (HF.out.trans hF); clear hF)
              | (go_at_call 32; refine (rf_At _ q m T L HR5.out hl4.2 (k : Int)).mono ?_; rw [HB.out]; rintro e w6 ⟨rfl, e6⟩; subst w6))
            go_roundg gk
            case measure => omega
            case rel => exact ⟨k + 1, by omega, by go_num, HI5, HR5, HF5⟩
          | some i =>
            have HA := hid (show atI L m (k : Int) = ((i : Int), 0) from by unfold atI; rw [if_pos ⟨by omega, hkm⟩, ea])
            have HB := hid (show ratI L (k : Int) = (i : Int) from by unfold ratI; rw [ea])
            go_wp2_with (first
              | (go_at_call 17; refine (ix_At _ p m c S L HI.out (k : Int) HW.out).mono ?_; rw [HA.out]; rintro e w5 ⟨rfl, hF⟩; have HI5 := hid (HI.out.no hF); have HR5 := hid (HR.out.no hF); have HF5 := hid (HF.out.trans hF); clear hF)
              | (go_at_call 32; refine (rf_At _ q m T L HR5.out hl4.2 (k : Int)).mono ?_; rw [HB.out]; rintro e w6 ⟨rfl, e6⟩; subst w6))
            go_roundg gk
            case measure => omega
            case rel => exact ⟨k + 1, by omega, by go_num, HI5, HR5, HF5⟩
    | succ gk =>
      by_cases hr : 1 ≤ k ∧ k ≤ L.length
      · obtain ⟨b, rfl⟩ : ∃ b, k = b + 1 := ⟨k - 1, by omega⟩
        have hb1 : ((b + 1 : Nat) : Int) - 1 = (b : Int) := by omega
        have hbl : b < L.length := by omega
        have hbl' : (b : Int) < (L.length : Int) := by omega
        have HB := hid (show rightI L (b : Int) = true from decide_eq_true ⟨by omega, hbl'⟩)
        rw [hb1]
        clear hRV
        cases ho : L[b] with
        | none =>
          have HG := hid (getI_n hbl ho)
          go_wp2_with (first
            | (go_at_call 16; refine (ix_Get _ p m c S L HI.out (b : Int)).mono ?_; rw [HG.out]; rintro e w5 ⟨rfl, hF⟩; simp only [plA, plS, plD]; have HI5 := hid (HI.out.no (hF.alloc (.cells #[.int .i64 0, .bool false] 44))); have HR5 := hid (HR.out.no (hF.alloc (.cells #[.int .i64 0, .bool false] 44))); have HF5 := hid (HF.out.trans (hF.alloc (.cells #[.int .i64 0, .bool false] 44))); have hz := heap_new w5 (.cells #[.int .i64 0, .bool false] 44); obtain ⟨s0, s1, _, _⟩ := blk2 hz; clear hF hz)
            | ((go_at_call 31; refine (rf_Right _ q m T L HR5.out (b : Int)).mono ?_; rw [HB.out]; rintro e w6 ⟨rfl, e6⟩; subst w6); clear q0 q1 q2; obtain ⟨vs5, vd5, hV5⟩ := HR5.out; obtain ⟨q0, q1, q2, _⟩ := hV5.cells; obtain ⟨g5, c5, hv5, _, a0, _⟩ := hV5.at b hbl; cases hv5; rw [ho] at a0; simp only [plS] at a0; obtain ⟨g6, c6, hv6, _, b0, _⟩ := hV5.dat b hbl; cases hv6; rw [ho] at b0; simp only [plD] at b0; clear hV5))
          go_roundg gk
          case measure => omega
          case rel => exact ⟨b + 1 + 1, by omega, by go_num, HI5, HR5, HF5⟩
        | some o =>
          obtain ⟨s, d⟩ := o
          have HG := hid (getI_s hbl ho)
          go_wp2_with (first
            | (go_at_call 16; refine (ix_Get _ p m c S L HI.out (b : Int)).mono ?_; rw [HG.out]; rintro e w5 ⟨rfl, hF⟩; simp only [plA, plS, plD]; have HI5 := hid (HI.out.no (hF.alloc (.cells #[.int .i64 (s : Int), .bool d] 44))); have HR5 := hid (HR.out.no (hF.alloc (.cells #[.int .i64 (s : Int), .bool d] 44))); have HF5 := hid (HF.out.trans (hF.alloc (.cells #[.int .i64 (s : Int), .bool d] 44))); have hz := heap_new w5 (.cells #[.int .i64 (s : Int), .bool d] 44); obtain ⟨s0, s1, _, _⟩ := blk2 hz; clear hF hz)
            | ((go_at_call 31; refine (rf_Right _ q m T L HR5.out (b : Int)).mono ?_; rw [HB.out]; rintro e w6 ⟨rfl, e6⟩; subst w6); clear q0 q1 q2; obtain ⟨vs5, vd5, hV5⟩ := HR5.out; obtain ⟨q0, q1, q2, _⟩ := hV5.cells; obtain ⟨g5, c5, hv5, _, a0, _⟩ := hV5.at b hbl; cases hv5; rw [ho] at a0; simp only [plS] at a0; obtain ⟨g6, c6, hv6, _, b0, _⟩ := hV5.dat b hbl; cases hv6; rw [ho] at b0; simp only [plD] at b0; clear hV5))
          refine wp_region_held_drew (S := fun W => W.cell? ⟨w5.heap.size, 0, none⟩ = some (.int .i64 (s : Int)) ∧ W.cell? ⟨w5.heap.size, 1, none⟩ = some (.bool d) ∧ W.cell? ⟨q, 0, none⟩ = some (.slice (some ⟨g5, 0, none⟩) L.length c5) ∧ W.cell? ⟨g5, b, none⟩ = some (.int .i64 (s : Int)) ∧ W.cell? ⟨q, 1, none⟩ = some (.slice (some ⟨g6, 0, none⟩) L.length c6) ∧ W.cell? ⟨g6, b, none⟩ = some (.bool d)) (by kernel_rfl) ⟨s0, s1, q0, a0, q1, b0⟩ (fun hHeld => ?_)
          refine wpAnyH_take (i := 0) (v := ?_) rfl (by kernel_rfl) (by kernel_rfl) (by kernel_rfl) (fun _ _ _ h => h) (Or.inl ⟨by rfl, ?_⟩) hHeld ?_
          rotate_left
          · intro w hSw; obtain ⟨u0, u1, u2, u3, u4, u5⟩ := hSw
            go_simp
            with_reducible rfl
          try simp only [Act.put, List.getElem_toArray, List.getElem_cons_zero, List.getElem_cons_succ, List.setIfInBounds_toArray, List.set_cons_zero, List.set_cons_succ]
          refine wpAnyH_take (i := 1) (v := ?_) rfl (by kernel_rfl) (by kernel_rfl) (by kernel_rfl) (fun _ _ _ h => h) (Or.inl ⟨by rfl, ?_⟩) hHeld ?_
          rotate_left
          · intro w hSw
            go_simp
            with_reducible rfl
          try simp only [Act.put, List.getElem_toArray, List.getElem_cons_zero, List.getElem_cons_succ, List.setIfInBounds_toArray, List.set_cons_zero, List.set_cons_succ]
          refine wpAnyH_take (i := 2) (v := ?_) rfl (by kernel_rfl) (by kernel_rfl) (by kernel_rfl) (fun _ _ _ h => h) (Or.inl ⟨by rfl, ?_⟩) hHeld ?_
          rotate_left
          · intro w hSw
            go_simp
            with_reducible rfl
          try simp only [Act.put, List.getElem_toArray, List.getElem_cons_zero, List.getElem_cons_succ, List.setIfInBounds_toArray, List.set_cons_zero, List.set_cons_succ]
          refine wpAnyH_take (i := 3) (v := ?_) rfl (by kernel_rfl) (by kernel_rfl) (by kernel_rfl) (fun _ _ _ h => h) (Or.inl ⟨by rfl, ?_⟩) hHeld ?_
          rotate_left
          · intro w hSw
            go_simp
            with_reducible rfl
          try simp only [Act.put, List.getElem_toArray, List.getElem_cons_zero, List.getElem_cons_succ, List.setIfInBounds_toArray, List.set_cons_zero, List.set_cons_succ]
          refine wpAnyH_take (i := 4) (v := ?_) rfl (by kernel_rfl) (by kernel_rfl) (by kernel_rfl) (fun _ _ _ h => h) (Or.inl ⟨by rfl, ?_⟩) hHeld ?_
          rotate_left
          · intro w hSw; obtain ⟨u0, u1, u2, u3, u4, u5⟩ := hSw
            go_simp
            with_reducible rfl
          try simp only [Act.put, List.getElem_toArray, List.getElem_cons_zero, List.getElem_cons_succ, List.setIfInBounds_toArray, List.set_cons_zero, List.set_cons_succ]
          refine wpAnyH_take (i := 5) (v := ?_) rfl (by kernel_rfl) (by kernel_rfl) (by kernel_rfl) (fun _ _ _ h => h) (Or.inl ⟨by rfl, ?_⟩) hHeld ?_
          rotate_left
          · intro w hSw
            go_simp
            with_reducible rfl
          try simp only [Act.put, List.getElem_toArray, List.getElem_cons_zero, List.getElem_cons_succ, List.setIfInBounds_toArray, List.set_cons_zero, List.set_cons_succ]
          refine wpAnyH_take (i := 6) (v := ?_) rfl (by kernel_rfl) (by kernel_rfl) (by kernel_rfl) (fun _ _ _ h => h) (Or.inl ⟨by rfl, ?_⟩) hHeld ?_
          rotate_left
          · intro w hSw
            go_simp
            with_reducible rfl
          try simp only [Act.put, List.getElem_toArray, List.getElem_cons_zero, List.getElem_cons_succ, List.setIfInBounds_toArray, List.set_cons_zero, List.set_cons_succ]
          refine wpAnyH_take (i := 7) (v := ?_) rfl (by kernel_rfl) (by kernel_rfl) (by kernel_rfl) (fun _ _ _ h => h) (Or.inl ⟨by rfl, ?_⟩) hHeld ?_
          rotate_left
          · intro w hSw; obtain ⟨u0, u1, u2, u3, u4, u5⟩ := hSw
            go_simp
            with_reducible rfl
          try simp only [Act.put, List.getElem_toArray, List.getElem_cons_zero, List.getElem_cons_succ, List.setIfInBounds_toArray, List.set_cons_zero, List.set_cons_succ]
          refine wpAnyH_take (i := 8) (v := ?_) rfl (by kernel_rfl) (by kernel_rfl) (by kernel_rfl) (fun _ _ _ h => h) (Or.inl ⟨by rfl, ?_⟩) hHeld ?_
          rotate_left
          · intro w hSw
            go_simp
            with_reducible rfl
          try simp only [Act.put, List.getElem_toArray, List.getElem_cons_zero, List.getElem_cons_succ, List.setIfInBounds_toArray, List.set_cons_zero, List.set_cons_succ]
          refine wpAnyH_take (i := 9) (v := ?_) rfl (by kernel_rfl) (by kernel_rfl) (by kernel_rfl) (fun _ _ _ h => h) (Or.inl ⟨by rfl, ?_⟩) hHeld ?_
          rotate_left
          · intro w hSw
            go_simp
            with_reducible rfl
          try simp only [Act.put, List.getElem_toArray, List.getElem_cons_zero, List.getElem_cons_succ, List.setIfInBounds_toArray, List.set_cons_zero, List.set_cons_succ]
          refine wpAnyH_take (i := 10) (v := ?_) rfl (by kernel_rfl) (by kernel_rfl) (by kernel_rfl) (fun _ _ _ h => h) (Or.inl ⟨by rfl, ?_⟩) hHeld ?_
          rotate_left
          · intro w hSw
            go_simp
            with_reducible rfl
          try simp only [Act.put, List.getElem_toArray, List.getElem_cons_zero, List.getElem_cons_succ, List.setIfInBounds_toArray, List.set_cons_zero, List.set_cons_succ]
          refine wpAnyH_take (i := 11) (v := ?_) rfl (by kernel_rfl) (by kernel_rfl) (by kernel_rfl) (fun _ _ _ h => h) (Or.inl ⟨by rfl, ?_⟩) hHeld ?_
          rotate_left
          · intro w hSw; obtain ⟨u0, u1, u2, u3, u4, u5⟩ := hSw
            go_simp
            with_reducible rfl
          try simp only [Act.put, List.getElem_toArray, List.getElem_cons_zero, List.getElem_cons_succ, List.setIfInBounds_toArray, List.set_cons_zero, List.set_cons_succ]
          refine wpAnyH_take (i := 12) (v := ?_) rfl (by kernel_rfl) (by kernel_rfl) (by kernel_rfl) (fun _ _ _ h => h) (Or.inl ⟨by rfl, ?_⟩) hHeld ?_
          rotate_left
          · intro w hSw
            go_simp
            with_reducible rfl
          try simp only [Act.put, List.getElem_toArray, List.getElem_cons_zero, List.getElem_cons_succ, List.setIfInBounds_toArray, List.set_cons_zero, List.set_cons_succ]
          refine wpAnyH_take (i := 13) (v := ?_) rfl (by kernel_rfl) (by kernel_rfl) (by kernel_rfl) (fun _ _ _ h => h) (Or.inl ⟨by rfl, ?_⟩) hHeld ?_
          rotate_left
          · intro w hSw
            go_simp
            with_reducible rfl
          try simp only [Act.put, List.getElem_toArray, List.getElem_cons_zero, List.getElem_cons_succ, List.setIfInBounds_toArray, List.set_cons_zero, List.set_cons_succ]
          refine wpAnyH_take (i := 14) (v := ?_) rfl (by kernel_rfl) (by kernel_rfl) (by kernel_rfl) (fun _ _ _ h => h) (Or.inl ⟨by rfl, ?_⟩) hHeld ?_
          rotate_left
          · intro w hSw; obtain ⟨u0, u1, u2, u3, u4, u5⟩ := hSw
            go_simp
            with_reducible rfl
          try simp only [Act.put, List.getElem_toArray, List.getElem_cons_zero, List.getElem_cons_succ, List.setIfInBounds_toArray, List.set_cons_zero, List.set_cons_succ]
          refine wpAnyH_take (i := 15) (v := ?_) rfl (by kernel_rfl) (by kernel_rfl) (by kernel_rfl) (fun _ _ _ h => h) (Or.inl ⟨by rfl, ?_⟩) hHeld ?_
          rotate_left
          · intro w hSw
            go_simp
            with_reducible rfl
          try simp only [Act.put, List.getElem_toArray, List.getElem_cons_zero, List.getElem_cons_succ, List.setIfInBounds_toArray, List.set_cons_zero, List.set_cons_succ]
          refine wpAnyH_take (i := 16) (v := ?_) rfl (by kernel_rfl) (by kernel_rfl) (by kernel_rfl) (fun _ _ _ h => h) (Or.inl ⟨by rfl, ?_⟩) hHeld ?_
          rotate_left
          · intro w hSw
            go_simp
            with_reducible rfl
          try simp only [Act.put, List.getElem_toArray, List.getElem_cons_zero, List.getElem_cons_succ, List.setIfInBounds_toArray, List.set_cons_zero, List.set_cons_succ]
          refine wpAnyH_take (i := 17) (v := ?_) rfl (by kernel_rfl) (by kernel_rfl) (by kernel_rfl) (fun _ _ _ h => h) (Or.inl ⟨by rfl, ?_⟩) hHeld ?_
          rotate_left
          · intro w hSw
            go_simp
            with_reducible rfl
          try simp only [Act.put, List.getElem_toArray, List.getElem_cons_zero, List.getElem_cons_succ, List.setIfInBounds_toArray, List.set_cons_zero, List.set_cons_succ]
          refine wpAnyH_take (i := 18) (v := ?_) rfl (by kernel_rfl) (by kernel_rfl) (by kernel_rfl) (fun _ _ _ h => h) (Or.inl ⟨by rfl, ?_⟩) hHeld ?_
          rotate_left
          · intro w hSw
            go_simp
            with_reducible rfl
          try simp only [Act.put, List.getElem_toArray, List.getElem_cons_zero, List.getElem_cons_succ, List.setIfInBounds_toArray, List.set_cons_zero, List.set_cons_succ]
          refine wpAnyH_take (i := 19) (v := ?_) rfl (by kernel_rfl) (by kernel_rfl) (by kernel_rfl) (fun _ _ _ h => h) (Or.inl ⟨by rfl, ?_⟩) hHeld ?_
          rotate_left
          · intro w hSw
            go_simp
            with_reducible rfl
          try simp only [Act.put, List.getElem_toArray, List.getElem_cons_zero, List.getElem_cons_succ, List.setIfInBounds_toArray, List.set_cons_zero, List.set_cons_succ]
          refine wpAnyH_take (i := 20) (v := ?_) rfl (by kernel_rfl) (by kernel_rfl) (by kernel_rfl) (fun _ _ _ h => h) (Or.inl ⟨by rfl, ?_⟩) hHeld ?_
          rotate_left
          · intro w hSw
            go_simp
            with_reducible rfl
          try simp only [Act.put, List.getElem_toArray, List.getElem_cons_zero, List.getElem_cons_succ, List.setIfInBounds_toArray, List.set_cons_zero, List.set_cons_succ]
          refine wpAnyH_done (by kernel_rfl) ?_ _
          go_wp2_with fail
          go_roundg gk
          case measure => omega
          case rel => exact ⟨b + 1 + 1, by omega, by go_num, hid (HI5.out.no (Fr.refl No _).drew), hid (HR5.out.no (Fr.refl No _).drew), hid HF5.out.drew⟩
      · obtain ⟨b, hb⟩ : ∃ b : Int, (k : Int) - 1 = b := ⟨_, rfl⟩
        have hbl : b ≤ (L.length : Int) := by omega
        have hw1 : IntKind.i64.wrap (b + 1) = b + 1 := by rw [IntKind.wrap_i64]; omega
        have HG := hid (show getI L b = (some (0, false), 10) from if_neg (by omega))
        have HB := hid (show rightI L b = false from decide_eq_false (by omega))
        rw [hb]
        clear hRV
        go_wp2_with (first
          | (go_at_call 16; refine (ix_Get _ p m c S L HI.out b).mono ?_; rw [HG.out]; rintro e w5 ⟨rfl, hF⟩; simp only [plA, plS, plD]; have HI5 := hid (HI.out.no (hF.alloc (.cells #[.int .i64 0, .bool false] 44))); have HR5 := hid (HR.out.no (hF.alloc (.cells #[.int .i64 0, .bool false] 44))); have HF5 := hid (HF.out.trans (hF.alloc (.cells #[.int .i64 0, .bool false] 44))); have hz := heap_new w5 (.cells #[.int .i64 0, .bool false] 44); obtain ⟨s0, s1, _, _⟩ := blk2 hz; clear hF hz)
          | (go_at_call 31; refine (rf_Right _ q m T L HR5.out b).mono ?_; rw [HB.out]; rintro e w6 ⟨rfl, e6⟩; subst w6))
        go_roundg gk
        case measure => omega
        case rel => exact ⟨k + 1, by omega, by congr 1; omega, HI5, HR5, HF5⟩
end Go.Proofs.Ytfggllhflibfcaa
