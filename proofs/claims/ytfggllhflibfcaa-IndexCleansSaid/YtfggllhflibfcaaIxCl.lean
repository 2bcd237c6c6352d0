/- The law IndexCleans. -/
import Derived.Test.YtfggllhflibfcaaIxV
namespace Go.Proofs.Ytfggllhflibfcaa
open Go.RowKit Go.Shelf Go.Maps

set_option maxRecDepth 1000000 in
set_option maxHeartbeats 4000000 in
theorem law_IndexCleans (w : World) (r : SRow) (hr : r.Ok w op9Sh) (x : Int) (_hx : (Lit.int .i64 x).wf = true) :
    Calls Try.prog 6 #[r.v, .int .i64 x] w fun e w' => e = .returned (.bool true) ∧ Fr No w w' := by
  obtain ⟨xs, hv, hE, hxw⟩ := ops9_of hr
  rw [hv]
  obtain ⟨ra, hra⟩ : ∃ ra, r.a = ra := ⟨_, rfl⟩
  obtain ⟨rc, hrc⟩ : ∃ rc, r.cap = rc := ⟨_, rfl⟩
  rw [hra] at hE
  rw [hra, hrc]
  have HE := hid hE
  have HXW := hid hxw
  clear hv hr hra hrc hE hxw
  have HF0 := hid (Fr.refl No w)
  by_cases h80 : xs.length ≤ 80
  case neg =>
    have h80' : 80 < (xs.length : Int) := by omega
    go_enter Try.func6, Try.ntmps6
    go_wp2_with (first
      | (go_at_call 10; refine (ix_New _ 12 6 (by decide) (by decide) (by decide) (by decide)).mono ?_; rintro e w1 ⟨p, S, rfl, -, -, hF⟩; have HF := hid (HF0.out.trans hF); clear hF)
      | (go_at_call 9; refine (ix_awake _).mono ?_; rintro e w2 ⟨rfl, hF⟩; have HF2 := hid (HF.out.trans hF); clear hF))
    go_ret
    exact ⟨rfl, HF2.out⟩
  have h80' : (xs.length : Int) ≤ 80 := by omega
  go_enter Try.func6, Try.ntmps6
  go_wp2_with (go_at_call 10; refine (ix_New _ 12 6 (by decide) (by decide) (by decide) (by decide)).mono ?_; rintro e w1 ⟨p, S, rfl, hI, hS, hF⟩; have HI := hid hI; have HS := hid (fun k hk => Nat.le_trans HF0.out.size (hS k hk)); have HF := hid (HF0.out.trans hF); clear hI hS hF)
  go_loopg [7] xs.length (fun g i wr => ∃ k : Nat, k + g = xs.length ∧ i = .int .i64 k ∧ Hid (Ix wr p S (runI xs k) 6 k) ∧ Hid (Fr No w wr))
  case atStart => exact ⟨0, by omega, rfl, HI, HF⟩
  case round =>
    obtain ⟨k, hk, rfl, HI, HF⟩ := hrel
    cases gk with
    | succ gk =>
      have hkm : k < xs.length := by omega
      have hki : (k : Int) < (xs.length : Int) := by omega
      obtain ⟨b, o, rfl, hb, a0, a1, a2, a3⟩ := HE.out.op9 k hkm
      have hwf := HXW.out _ (List.getElem_mem hkm)
      have HRN := hid (runI_succ xs k hkm)
      obtain ⟨op, hop⟩ : ∃ op, xs[k] = op := ⟨_, rfl⟩
      rw [hop] at a0 a1 a2 a3 hwf HRN
      have hc0 := And.intro ((HF.out.cell (p := ⟨b, o + k * 4, none⟩) hb id).trans a0) (And.intro ((HF.out.cell (p := ⟨b, o + k * 4 + 1, none⟩) hb id).trans a1) (And.intro ((HF.out.cell (p := ⟨b, o + k * 4 + 2, none⟩) hb id).trans a2) ((HF.out.cell (p := ⟨b, o + k * 4 + 3, none⟩) hb id).trans a3)))
      have HB := hid (HF.out.lt hb)
      clear hop a0 a1 a2 a3
      go_wp2_with fail
      refine wp_region_held_drew (S := fun W => W.cell? ⟨b, o + k * 4, none⟩ = some (.int .i64 op.ask) ∧ W.cell? ⟨b, o + k * 4 + 1, none⟩ = some (.int .i64 op.blk) ∧ W.cell? ⟨b, o + k * 4 + 2, none⟩ = some (.int .i64 op.slot) ∧ W.cell? ⟨b, o + k * 4 + 3, none⟩ = some (.bool op.dirt)) (by kernel_rfl) hc0 (fun hHeld => ?_)
      refine wpAnyH_take (i := 0) (v := ?_) rfl (by kernel_rfl) (by kernel_rfl) (by kernel_rfl) (fun _ _ _ h => h) (Or.inl ⟨by rfl, ?_⟩) hHeld ?_
      rotate_left
      · intro w hSw
        go_simp
        with_reducible rfl
      try simp only [Act.put, List.getElem_toArray, List.getElem_cons_zero, List.getElem_cons_succ, List.setIfInBounds_toArray, List.set_cons_zero, List.set_cons_succ]
      refine wpAnyH_take (i := 2) (v := ?_) rfl (by kernel_rfl) (by kernel_rfl) (by kernel_rfl) (fun _ _ _ h => h) (Or.inl ⟨by rfl, ?_⟩) hHeld ?_
      rotate_left
      · intro w hSw
        go_simp
        with_reducible rfl
      try simp only [Act.put, List.getElem_toArray, List.getElem_cons_zero, List.getElem_cons_succ, List.setIfInBounds_toArray, List.set_cons_zero, List.set_cons_succ]
      refine wpAnyH_take (i := 3) (v := ?_) rfl (by kernel_rfl) (by kernel_rfl) (by kernel_rfl) (fun _ _ _ h => h) (Or.inl ⟨by rfl, ?_⟩) hHeld ?_
      rotate_left
      · intro w hSw
        go_simp
        with_reducible rfl
      try simp only [Act.put, List.getElem_toArray, List.getElem_cons_zero, List.getElem_cons_succ, List.setIfInBounds_toArray, List.set_cons_zero, List.set_cons_succ]
      refine wpAnyH_take (i := 4) (v := ?_) rfl (by kernel_rfl) (by kernel_rfl) (by kernel_rfl) (fun _ _ _ h => h) (Or.inl ⟨by rfl, ?_⟩) hHeld ?_
      rotate_left
      · intro w hSw
        go_simp
        with_reducible rfl
      try simp only [Act.put, List.getElem_toArray, List.getElem_cons_zero, List.getElem_cons_succ, List.setIfInBounds_toArray, List.set_cons_zero, List.set_cons_succ]
      refine wpAnyH_take (i := 5) (v := ?_) rfl (by kernel_rfl) (by kernel_rfl) (by kernel_rfl) (fun _ _ _ h => h) (Or.inl ⟨by rfl, ?_⟩) hHeld ?_
      rotate_left
      · intro w hSw; obtain ⟨u0, u1, u2, u3⟩ := hSw
        go_simp
        with_reducible rfl
      try simp only [Act.put, List.getElem_toArray, List.getElem_cons_zero, List.getElem_cons_succ, List.setIfInBounds_toArray, List.set_cons_zero, List.set_cons_succ]
      refine wpAnyH_ready (rs := [1]) (by kernel_rfl) (by simp) ?_
      refine AllReadyH.cons rfl (fun K hK => ?_) AllReadyH.nil
      rw [if_pos (by rfl)]
      go_simp
      refine (rf_New _ 12 6 (by decide)).mono ?_
      rintro e w2 ⟨q, T, rfl, hR, hT, hF⟩
      have HR := hid hR
      have HT := hid hT
      have HF2 := hid ((Fr.refl No wr).drew.trans hF)
      have HI2 := hid (HI.out.no HF2.out)
      have hc1 := And.intro ((HF2.out.cell (p := ⟨b, o + k * 4, none⟩) HB.out id).trans hc0.1) (And.intro ((HF2.out.cell (p := ⟨b, o + k * 4 + 1, none⟩) HB.out id).trans hc0.2.1) (And.intro ((HF2.out.cell (p := ⟨b, o + k * 4 + 2, none⟩) HB.out id).trans hc0.2.2.1) ((HF2.out.cell (p := ⟨b, o + k * 4 + 3, none⟩) HB.out id).trans hc0.2.2.2)))
      refine hK.out _ _ hc1 (fun hHeld => ?_)
      clear hK K hF hR hT hc0
      try simp only [Act.put, List.getElem_toArray, List.getElem_cons_zero, List.getElem_cons_succ, List.setIfInBounds_toArray, List.set_cons_zero, List.set_cons_succ]
      refine wpAnyH_ready (rs := [6]) (by kernel_rfl) (by simp) ?_
      refine AllReadyH.cons rfl (fun K hK => ?_) AllReadyH.nil
      rw [if_pos (by rfl)]
      go_simp
      refine (ix_does w2 p q 6 6 k S T _ _ HI2.out HR.out (fun j h1 h2 => by have h3 := HI.out.lt j h1; have h4 := HT.out j h2; simp at h4; omega) (by simp) op hwf (by omega)).mono ?_
      rintro e w3 ⟨bb, rfl, hI, -, hF, -⟩
      rw [← HRN.out] at hI
      have HI3 := hid hI
      have HF3 := hid ((HF.out.trans HF2.out).then hF (fun i hi h => absurd hi (by rcases h with h | h; exact Nat.not_lt.2 (HS.out i h); have h4 := HT.out i h; have h5 := HF.out.size; simp at h4; omega)))
      refine hK.out _ _ ⟨(hF.cell (p := ⟨b, o + k * 4, none⟩) (HF2.out.lt HB.out) (ix_old HS.out HT.out hb (HF.out.size))).trans hc1.1, (hF.cell (p := ⟨b, o + k * 4 + 1, none⟩) (HF2.out.lt HB.out) (ix_old HS.out HT.out hb (HF.out.size))).trans hc1.2.1, (hF.cell (p := ⟨b, o + k * 4 + 2, none⟩) (HF2.out.lt HB.out) (ix_old HS.out HT.out hb (HF.out.size))).trans hc1.2.2.1, (hF.cell (p := ⟨b, o + k * 4 + 3, none⟩) (HF2.out.lt HB.out) (ix_old HS.out HT.out hb (HF.out.size))).trans hc1.2.2.2⟩ (fun hHeld => ?_)
      clear hK K hF hI hc1
      try simp only [Act.put, List.getElem_toArray, List.getElem_cons_zero, List.getElem_cons_succ, List.setIfInBounds_toArray, List.set_cons_zero, List.set_cons_succ]
      refine wpAnyH_done (by kernel_rfl) ?_ _
      go_wp2_with fail
      go_roundg gk
      case measure => omega
      case rel => exact ⟨k + 1, by omega, by go_num, HI3, HF3⟩
    | zero =>
      obtain rfl : k = xs.length := by omega
      obtain ⟨L, hL⟩ : ∃ L, runI xs xs.length = L := ⟨_, rfl⟩
      have hl12 : L.length = 12 := by rw [← hL, runI_len]
      rw [hL] at HI
      have HLL := hid hl12
      clear hL hl12
      go_wp2_with (first
        | (go_at_call 20; refine (ix_Copy _ p 6 _ S L HI.out).mono ?_; rintro e w2 ⟨p2, S2, rfl, hI, hS, hF⟩; have HI2 := hid hI; have HS2 := hid hS; have HX2 := hid (HI.out.no hF); have HF2 := hid (HF.out.trans hF); clear hI hS hF)
        | (go_at_call 23; refine (ix_Clean _ p2 6 _ S2 L HI2.out x).mono ?_; rintro e w3 ⟨rfl, hI, hF⟩; have HI3 := hid hI; have HX3 := hid (HX2.out.fr hF (fun j h1 h2 => by have := HX2.out.lt j h1; have := HS2.out j h2; have := HI.out.lt j h1; omega)); have HF3 := hid (HF2.out.then hF (fun i hi h => by have := HS2.out i h; have := HF.out.size; omega)); clear hI hF))
      obtain ⟨f, hf⟩ : ∃ f, (cleanI L x).1 = f := ⟨_, rfl⟩
      rw [hf]
      have HFF := hid hf
      clear hf HI HI2 HX2 HF HF2 HE
      go_loopg [10] 12 (fun g i wr => ∃ k : Nat, k + g = 12 ∧ i = .int .i64 k ∧ Hid (Ix wr p2 S2 (cleanI L x).2 6 xs.length) ∧ Hid (Ix wr p S L 6 xs.length) ∧ Hid (Fr No w wr))
      case atStart => exact ⟨0, by omega, rfl, HI3, HX3, HF3⟩
      case round =>
        obtain ⟨k, hk, rfl, HI, HX, HF⟩ := hrel
        cases gk with
        | zero =>
          obtain rfl : k = 12 := by omega
          by_cases hx : 0 ≤ x ∧ x < 12
          · have h1 := hx.1
            have h2 := hx.2
            go_wp2_with (go_at_call 9; refine (ix_awake _).mono ?_; rintro e w2 ⟨rfl, hF⟩; have HF2 := hid (HF.out.trans hF); clear hF)
            try rw [Exit.noGoto_ret]
            go_ret
            exact ⟨rfl, HF2.out⟩
          · obtain rfl : f = 10 := by rw [← HFF.out]; exact clean_range L x (by rw [HLL.out]; exact hx)
            rcases (by omega : x < 0 ∨ (0 ≤ x ∧ 12 ≤ x)) with hx | ⟨hx1, hx2⟩
            all_goals
              go_wp2_with (go_at_call 9; refine (ix_awake _).mono ?_; rintro e w2 ⟨rfl, hF⟩; have HF2 := hid (HF.out.trans hF); clear hF)
              try rw [Exit.noGoto_ret]
              go_ret
              exact ⟨rfl, HF2.out⟩
        | succ gk =>
          have hkm : (k : Int) < 12 := by omega
          by_cases hxk : x = k
          · subst hxk
            obtain ⟨s, d, e, h1, h2, h3⟩ := clean_same L k
            rw [HFF.out] at h3
            subst h3
            have H1 := hid h1
            have H2 := hid h2
            clear h1 h2
            go_wp2_with (first
              | (go_at_call 16; refine (ix_Get _ p2 6 _ S2 _ HI4.out k).mono ?_; rw [H2.out]; rintro e w5 ⟨rfl, hF⟩; simp only [plA, plS, plD]; have hz5 := hF.size; have hn1 : ¬ w4.heap.size = w5.heap.size := (by simp at hz5; omega); have hn2 : ¬ w5.heap.size = w4.heap.size := (fun h => hn1 h.symm); clear hz5; have hF := hF.alloc (.cells #[.int .i64 (s : Int), .bool false] 44); have HQ := hid (heap_new w5 (.cells #[.int .i64 (s : Int), .bool false] 44)); have HP5 := hid ((hF.block w4.heap.size (lt_of_block HP.out) id).trans HP.out); have HI5 := hid (HI4.out.no hF); have HX5 := hid (HX4.out.no hF); have HF5 := hid (HF4.out.trans hF); obtain ⟨p0, p1, pf0, pf1⟩ := blk2 HP5.out; obtain ⟨q0, q1, _, _⟩ := blk2 HQ.out; clear hF)
              | (go_at_call 16; refine (ix_Get _ p 6 _ S L HX.out k).mono ?_; rw [H1.out]; rintro e w4 ⟨rfl, hF⟩; simp only [plA, plS, plD]; have HZ4 := hid (And.intro (Nat.le_trans HF.out.size hF.size) hF.size); have hF := hF.alloc (.cells #[.int .i64 (s : Int), .bool d] 44); have HP := hid (heap_new w4 (.cells #[.int .i64 (s : Int), .bool d] 44)); have HI4 := hid (HI.out.no hF); have HX4 := hid (HX.out.no hF); have HF4 := hid (HF.out.trans hF); clear hF))
            have hfs := Fr.set1 ((w5.alloc (.cells #[.int .i64 (s : Int), .bool false] 44))) w4.heap.size 1 (.bool false)
            have HF6 := hid (HF5.out.then hfs (fun i hi h => absurd hi (by have h' : i = w4.heap.size := h; have := HZ4.out.1; omega)))
            have HW4 : Hid (w.heap.size ≤ w4.heap.size ∧ wr.heap.size ≤ w4.heap.size) := ⟨HZ4.out.1, HZ4.out.2⟩
            have HI6 := hid (HI5.out.fr hfs (fun j h1 h2 => by have h' : j = w4.heap.size := h2; have := HI.out.lt j h1; have := HW4.out.2; omega))
            have HX6 := hid (HX5.out.fr hfs (fun j h1 h2 => by have h' : j = w4.heap.size := h2; have := HX.out.lt j h1; have := HW4.out.2; omega))
            go_roundg gk
            case measure => omega
            case rel => exact ⟨k + 1, by omega, by go_num, HI6, HX6, HF6⟩
          · have H2 := hid (clean_other L x k hxk)
            obtain ⟨s, d, e, h1⟩ := getI_some L k
            have H1 := hid h1
            rw [h1] at H2
            clear h1
            have hxk' : ((k : Int) == x) = false := by simp; omega
            go_wp2_with (first
              | (go_at_call 16; refine (ix_Get _ p2 6 _ S2 _ HI4.out k).mono ?_; rw [H2.out]; rintro e' w5 ⟨rfl, hF⟩; simp only [plA, plS, plD]; have hF := hF.alloc (.cells #[.int .i64 (s : Int), .bool d] 44); have HQ := hid (heap_new w5 (.cells #[.int .i64 (s : Int), .bool d] 44)); have HP5 := hid ((hF.block w4.heap.size (lt_of_block HP.out) id).trans HP.out); have HI5 := hid (HI4.out.no hF); have HX5 := hid (HX4.out.no hF); have HF5 := hid (HF4.out.trans hF); obtain ⟨p0, p1, pf0, pf1⟩ := blk2 HP5.out; obtain ⟨q0, q1, _, _⟩ := blk2 HQ.out; clear hF)
              | (go_at_call 16; refine (ix_Get _ p 6 _ S L HX.out k).mono ?_; rw [H1.out]; rintro e' w4 ⟨rfl, hF⟩; simp only [plA, plS, plD]; have hF := hF.alloc (.cells #[.int .i64 (s : Int), .bool d] 44); have HP := hid (heap_new w4 (.cells #[.int .i64 (s : Int), .bool d] 44)); have HI4 := hid (HI.out.no hF); have HX4 := hid (HX.out.no hF); have HF4 := hid (HF.out.trans hF); clear hF))
            go_roundg gk
            case measure => omega
            case rel => exact ⟨k + 1, by omega, by go_num, HI5, HX5, HF5⟩
end Go.Proofs.Ytfggllhflibfcaa
