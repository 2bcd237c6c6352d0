/- The law IndexBack. -/
import Derived.Test.YtfggllhflibfcaaIxV
namespace Go.Proofs.Ytfggllhflibfcaa
open Go.RowKit Go.Shelf Go.Maps

set_option maxRecDepth 1000000 in
set_option maxHeartbeats 4000000 in
theorem law_IndexBack (w : World) (r : SRow) (hr : r.Ok w op9Sh) (x : OpI) (hx : (Lit.int .i64 x.slot).wf = true) :
    Calls Try.prog 5 #[r.v, x.v] w fun e w' => e = .returned (.bool true) ∧ Fr No w w' := by
  obtain ⟨xs, hv, hE, hxw⟩ := ops9_of hr
  rw [hv]
  obtain ⟨ra, hra⟩ : ∃ ra, r.a = ra := ⟨_, rfl⟩
  obtain ⟨rc, hrc⟩ : ∃ rc, r.cap = rc := ⟨_, rfl⟩
  rw [hra] at hE
  rw [hra, hrc]
  have HE := hid hE
  have HXW := hid hxw
  clear hv hr hra hrc hE hxw
  obtain ⟨ask, blk, slot, dirt⟩ := x
  unfold OpI.v
  have HF0 := hid ((Fr.refl No w).alloc (.cells #[.int .i64 ask, .int .i64 blk, .int .i64 slot, .bool dirt] 35))
  have HOB0 := hid (heap_new w (.cells #[.int .i64 ask, .int .i64 blk, .int .i64 slot, .bool dirt] 35))
  by_cases h80 : xs.length ≤ 80
  case neg =>
    have h80' : 80 < (xs.length : Int) := by omega
    go_enter Try.func5, Try.ntmps5
    go_wp2_with (first
      | (go_at_call 10; refine (ix_New _ 12 6 (by decide) (by decide) (by decide) (by decide)).mono ?_; rintro e w1 ⟨p, S, rfl, -, -, hF⟩; have HF := hid (HF0.out.trans hF); clear hF)
      | (go_at_call 9; refine (ix_awake _).mono ?_; rintro e w2 ⟨rfl, hF⟩; have HF2 := hid (HF.out.trans hF); clear hF))
    go_ret
    exact ⟨rfl, HF2.out⟩
  have h80' : (xs.length : Int) ≤ 80 := by omega
  go_enter Try.func5, Try.ntmps5
  go_wp2_with (go_at_call 10; refine (ix_New _ 12 6 (by decide) (by decide) (by decide) (by decide)).mono ?_; rintro e w1 ⟨p, S, rfl, hI, hS, hF⟩; have HI := hid hI; have HS := hid (fun k hk => Nat.le_trans HF0.out.size (hS k hk)); have HF := hid (HF0.out.trans hF); have HOB := hid (blk_no hF HOB0.out); have HS1 := hid (fun k hk => (by have := hS k hk; simp at this; omega : w.heap.size < k)); clear hI hS hF)
  go_loopg [7] xs.length (fun g i wr => ∃ k : Nat, k + g = xs.length ∧ i = .int .i64 k ∧ Hid (Ix wr p S (runI xs k) 6 k) ∧ Hid (Fr No w wr) ∧ Hid (wr.heap[w.heap.size]? = some (.cells #[.int .i64 ask, .int .i64 blk, .int .i64 slot, .bool dirt] 35)))
  case atStart => exact ⟨0, by omega, rfl, HI, HF, HOB⟩
  case round =>
    obtain ⟨k, hk, rfl, HI, HF, HOB⟩ := hrel
    cases gk with
    | succ gk =>
      have hkm : k < xs.length := by omega
      have hki : (k : Int) < (xs.length : Int) := by omega
      obtain ⟨b, o, rfl, hb, a0, a1, a2, a3⟩ := HE.out.op9 k hkm
      have hwf := HXW.out _ (List.getElem_mem hkm)
      have HRN := hid (runI_succ xs k hkm)
      obtain ⟨op, hop⟩ : ∃ op, xs[k] = op := ⟨_, rfl⟩
      rw [hop] at a0 a1 a2 a3 hwf HRN
      have hc0 := And.intro ((HF.out.cell (p := ⟨b, o + k * 4, none⟩) hb id).trans a0) (And.intro ((HF.out.cell (p := ⟨b, o + k * 4 + 1, none⟩) hb id).trans a1) (And.intro ((HF.out.cell (p := ⟨b, o + k * 4 + 2, none⟩) hb id).trans a2) ((HF.out.cell (p := ⟨b, o + k * 4 + 3, none⟩) hb id).trans a3)))
      have HB := hid (HF.out.lt hb)
      clear hop a0 a1 a2 a3
      go_wp2_with fail
      refine wp_region_held_drew (S := fun W => W.cell? ⟨b, o + k * 4, none⟩ = some (.int .i64 op.ask) ∧ W.cell? ⟨b, o + k * 4 + 1, none⟩ = some (.int .i64 op.blk) ∧ W.cell? ⟨b, o + k * 4 + 2, none⟩ = some (.int .i64 op.slot) ∧ W.cell? ⟨b, o + k * 4 + 3, none⟩ = some (.bool op.dirt)) (by kernel_rfl) hc0 (fun hHeld => ?_)
      refine wpAnyH_take (i := 0) (v := ?_) rfl (by kernel_rfl) (by kernel_rfl) (by kernel_rfl) (fun _ _ _ h => h) (Or.inl ⟨by rfl, ?_⟩) hHeld ?_
      rotate_left
      · intro w hSw
        go_simp
        with_reducible rfl
      try simp only [Act.put, List.getElem_toArray, List.getElem_cons_zero, List.getElem_cons_succ, List.setIfInBounds_toArray, List.set_cons_zero, List.set_cons_succ]
      refine wpAnyH_take (i := 2) (v := ?_) rfl (by kernel_rfl) (by kernel_rfl) (by kernel_rfl) (fun _ _ _ h => h) (Or.inl ⟨by rfl, ?_⟩) hHeld ?_
      rotate_left
      · intro w hSw
        go_simp
        with_reducible rfl
      try simp only [Act.put, List.getElem_toArray, List.getElem_cons_zero, List.getElem_cons_succ, List.setIfInBounds_toArray, List.set_cons_zero, List.set_cons_succ]
      refine wpAnyH_take (i := 3) (v := ?_) rfl (by kernel_rfl) (by kernel_rfl) (by kernel_rfl) (fun _ _ _ h => h) (Or.inl ⟨by rfl, ?_⟩) hHeld ?_
      rotate_left
      · intro w hSw
        go_simp
        with_reducible rfl
      try simp only [Act.put, List.getElem_toArray, List.getElem_cons_zero, List.getElem_cons_succ, List.setIfInBounds_toArray, List.set_cons_zero, List.set_cons_succ]
      refine wpAnyH_take (i := 4) (v := ?_) rfl (by kernel_rfl) (by kernel_rfl) (by kernel_rfl) (fun _ _ _ h => h) (Or.inl ⟨by rfl, ?_⟩) hHeld ?_
      rotate_left
      · intro w hSw
        go_simp
        with_reducible rfl
      try simp only [Act.put, List.getElem_toArray, List.getElem_cons_zero, List.getElem_cons_succ, List.setIfInBounds_toArray, List.set_cons_zero, List.set_cons_succ]
      refine wpAnyH_take (i := 5) (v := ?_) rfl (by kernel_rfl) (by kernel_rfl) (by kernel_rfl) (fun _ _ _ h => h) (Or.inl ⟨by rfl, ?_⟩) hHeld ?_
      rotate_left
      · intro w hSw; obtain ⟨u0, u1, u2, u3⟩ := hSw
        go_simp
        with_reducible rfl
      try simp only [Act.put, List.getElem_toArray, List.getElem_cons_zero, List.getElem_cons_succ, List.setIfInBounds_toArray, List.set_cons_zero, List.set_cons_succ]
      refine wpAnyH_ready (rs := [1]) (by kernel_rfl) (by simp) ?_
      refine AllReadyH.cons rfl (fun K hK => ?_) AllReadyH.nil
      rw [if_pos (by rfl)]
      go_simp
      refine (rf_New _ 12 6 (by decide)).mono ?_
      rintro e w2 ⟨q, T, rfl, hR, hT, hF⟩
      have HR := hid hR
      have HT := hid hT
      have HF2 := hid ((Fr.refl No wr).drew.trans hF)
      have HI2 := hid (HI.out.no HF2.out)
      have hc1 := And.intro ((HF2.out.cell (p := ⟨b, o + k * 4, none⟩) HB.out id).trans hc0.1) (And.intro ((HF2.out.cell (p := ⟨b, o + k * 4 + 1, none⟩) HB.out id).trans hc0.2.1) (And.intro ((HF2.out.cell (p := ⟨b, o + k * 4 + 2, none⟩) HB.out id).trans hc0.2.2.1) ((HF2.out.cell (p := ⟨b, o + k * 4 + 3, none⟩) HB.out id).trans hc0.2.2.2)))
      refine hK.out _ _ hc1 (fun hHeld => ?_)
      clear hK K hF hR hT hc0
      try simp only [Act.put, List.getElem_toArray, List.getElem_cons_zero, List.getElem_cons_succ, List.setIfInBounds_toArray, List.set_cons_zero, List.set_cons_succ]
      refine wpAnyH_ready (rs := [6]) (by kernel_rfl) (by simp) ?_
      refine AllReadyH.cons rfl (fun K hK => ?_) AllReadyH.nil
      rw [if_pos (by rfl)]
      go_simp
      refine (ix_does w2 p q 6 6 k S T _ _ HI2.out HR.out (fun j h1 h2 => by have h3 := HI.out.lt j h1; have h4 := HT.out j h2; simp at h4; omega) (by simp) op hwf (by omega)).mono ?_
      rintro e w3 ⟨bb, rfl, hI, -, hF, -⟩
      rw [← HRN.out] at hI
      have HI3 := hid hI
      have HF3 := hid ((HF.out.trans HF2.out).then hF (fun i hi h => absurd hi (by rcases h with h | h; exact Nat.not_lt.2 (HS.out i h); have h4 := HT.out i h; have h5 := HF.out.size; simp at h4; omega)))
      have HOB3 := hid ((hF.block w.heap.size (lt_of_block (blk_no HF2.out HOB.out)) (fun h => by rcases h with h | h; exact Nat.lt_irrefl _ (HS1.out _ h); have h4 := HT.out _ h; have h5 := lt_of_block HOB.out; simp at h4; omega)).trans (blk_no HF2.out HOB.out))
      refine hK.out _ _ ⟨(hF.cell (p := ⟨b, o + k * 4, none⟩) (HF2.out.lt HB.out) (ix_old HS.out HT.out hb (HF.out.size))).trans hc1.1, (hF.cell (p := ⟨b, o + k * 4 + 1, none⟩) (HF2.out.lt HB.out) (ix_old HS.out HT.out hb (HF.out.size))).trans hc1.2.1, (hF.cell (p := ⟨b, o + k * 4 + 2, none⟩) (HF2.out.lt HB.out) (ix_old HS.out HT.out hb (HF.out.size))).trans hc1.2.2.1, (hF.cell (p := ⟨b, o + k * 4 + 3, none⟩) (HF2.out.lt HB.out) (ix_old HS.out HT.out hb (HF.out.size))).trans hc1.2.2.2⟩ (fun hHeld => ?_)
      clear hK K hF hI hc1
      try simp only [Act.put, List.getElem_toArray, List.getElem_cons_zero, List.getElem_cons_succ, List.setIfInBounds_toArray, List.set_cons_zero, List.set_cons_succ]
      refine wpAnyH_done (by kernel_rfl) ?_ _
      go_wp2_with fail
      go_roundg gk
      case measure => omega
      case rel => exact ⟨k + 1, by omega, by go_num, HI3, HF3, HOB3⟩
    | zero =>
      obtain rfl : k = xs.length := by omega
      obtain ⟨L, hL⟩ : ∃ L, runI xs xs.length = L := ⟨_, rfl⟩
      have hl12 : L.length = 12 := by rw [← hL, runI_len]
      rw [hL] at HI
      have HLL := hid hl12
      clear hL hl12
      have HLW := hid (lt_of_block HOB.out)
      have HXL := hid HI.out.lt
      have HSLOT := hid (Ix.slots HI.out)
      have HUN := hid (Ix.uniq HI.out)
      rcases put_cases L 6 blk slot dirt with ⟨er, her, hput⟩ | ⟨i, k, hi, hk6, rfl, rfl, hput, hun⟩
      · have HPUT := hid hput
        have hne : (er == 0) = false := by simp; omega
        clear hput
        go_wp2_with (first
          | (go_at_call 20; refine (ix_Copy _ p 6 _ S L HI.out).mono ?_; rintro e w2 ⟨p2, S2, rfl, hI, hS, hF⟩; have HI2 := hid hI; have HS2 := hid hS; have HS2L := hid hI.lt; have HX2 := hid (HI.out.no hF); have HOB2 := hid (blk_no hF HOB.out); have HF2 := hid (HF.out.trans hF); have b1 := (cell_blk HOB2.out 1).trans (show _ = some (Value.int .i64 blk) from rfl); have b2 := (cell_blk HOB2.out 2).trans (show _ = some (Value.int .i64 slot) from rfl); have b3 := (cell_blk HOB2.out 3).trans (show _ = some (Value.bool dirt) from rfl); clear hI hS hF)
          | (go_at_call 21; refine (ix_Put _ p2 6 _ S2 L HI2.out blk slot dirt hx (by omega)).mono ?_; rw [HPUT.out]; rintro e3 w3 ⟨rfl, hI, hF⟩; simp only [plA, plS, plD]; have HI3 := hid (hI.no ((Fr.refl No _).alloc (.cells #[.int .i64 0, .bool false] 44))); have hF := hF.alloc (.cells #[.int .i64 0, .bool false] 44); have HPO3 := hid (heap_new w3 (.cells #[.int .i64 0, .bool false] 44)); have HX3 := hid (HX2.out.fr hF (fun j h1 h2 => absurd (HS2.out j h2) (by have := HXL.out j h1; omega))); have HOB3 := hid ((hF.block w.heap.size (lt_of_block HOB2.out) (fun h => absurd (HS2.out _ h) (by have := HLW.out; omega))).trans HOB2.out); have HF3 := hid (HF2.out.then hF (fun i hi h => absurd hi (by have := HS2.out i h; have := HLW.out; omega))); clear hF hI))
        clear HI HF HI2 HX2 HF2 HOB2 HE
        go_loopg [14] 12 (fun g i wr => ∃ k : Nat, k + g = 12 ∧ i = .int .i64 k ∧ Hid (Ix wr p2 S2 L 6 (xs.length + 1)) ∧ Hid (Ix wr p S L 6 xs.length) ∧ Hid (Fr No w wr))
        case atStart => exact ⟨0, by omega, rfl, HI3, HX3, HF3⟩
        case round =>
          obtain ⟨k', hk', rfl, HI, HX, HF⟩ := hrel
          cases gk with
          | zero =>
            obtain rfl : k' = 12 := by omega
            go_wp2_with (first
              | (go_at_call 19; refine (ix_Dirty _ p 6 _ S L HXD.out).mono ?_; rintro e w13 ⟨rfl, hF⟩; have HFD2 := hid (HFD.out.trans hF); clear hF)
              | (go_at_call 19; refine (ix_Dirty _ p2 6 _ S2 L HIB.out).mono ?_; rintro e w12 ⟨rfl, hF⟩; have HXD := hid (HXB.out.no hF); have HFD := hid (HFB.out.trans hF); clear hF)
              | (go_at_call 18; refine (ix_Len _ p 6 _ S L HXA.out).mono ?_; rintro e w11 ⟨rfl, hF⟩; have HIB := hid (HIA.out.no hF); have HXB := hid (HXA.out.no hF); have HFB := hid (HFA.out.trans hF); clear hF)
              | (go_at_call 18; refine (ix_Len _ p2 6 _ S2 L HI.out).mono ?_; rintro e w10 ⟨rfl, hF⟩; have HIA := hid (HI.out.no hF); have HXA := hid (HX.out.no hF); have HFA := hid (HF.out.trans hF); clear hF)
              | (go_at_call 9; refine (ix_awake _).mono ?_; rintro e w14 ⟨rfl, hF⟩; have HFE := hid (HFD2.out.trans hF); clear hF))
            try rw [Exit.noGoto_ret]
            go_ret
            exact ⟨rfl, HFE.out⟩
          | succ gk =>
            have hkm' : (k' : Int) < 12 := by omega
            obtain ⟨s', d'', e', h1⟩ := getI_some L k'
            have H1 := hid h1
            clear h1
            go_wp2_with (first
              | (go_at_call 16; refine (ix_Get _ p2 6 _ S2 L HIG.out k').mono ?_; rw [H1.out]; rintro e w21 ⟨rfl, hF⟩; simp only [plA, plS, plD]; have hF := hF.alloc (.cells #[.int .i64 (s' : Int), .bool d''] 44); have HQ := hid (heap_new w21 (.cells #[.int .i64 (s' : Int), .bool d''] 44)); have HP21 := hid (blk_no hF HP20.out); have HIH := hid (HIG.out.no hF); have HXH := hid (HXG.out.no hF); have HFH := hid (HFG.out.trans hF); obtain ⟨p0, p1, _, _⟩ := blk2 HP21.out; obtain ⟨q0, q1, _, _⟩ := blk2 HQ.out; clear hF)
              | (go_at_call 16; refine (ix_Get _ p 6 _ S L HX.out k').mono ?_; rw [H1.out]; rintro e w20 ⟨rfl, hF⟩; simp only [plA, plS, plD]; have hF := hF.alloc (.cells #[.int .i64 (s' : Int), .bool d''] 44); have HP20 := hid (heap_new w20 (.cells #[.int .i64 (s' : Int), .bool d''] 44)); have HIG := hid (HI.out.no hF); have HXG := hid (HX.out.no hF); have HFG := hid (HF.out.trans hF); clear hF))
            go_roundg gk
            case measure => omega
            case rel => exact ⟨k' + 1, by omega, by go_num, HIH, HXH, HFH⟩
      · obtain ⟨o, ho⟩ : ∃ o : Pl, L[i]'hi = o := ⟨_, rfl⟩
        have HIL := hid hi
        have hI5 : Hid (getI (L.set i (some (k, dirt))) (i : Int) = (some (k, dirt), 0)) := getI_set_eq L i _ hi
        cases o with
        | none =>
          rw [ho] at hput
          have HPUT := hid hput
          have HDR : Hid (dropI (L.set i (some (k, dirt))) (i : Int) = (some (k, dirt), 0, L)) := drop_back hi ho
          clear hput ho hun hi
          go_wp2_with (first
            | (go_at_call 20; refine (ix_Copy _ p 6 _ S L HI.out).mono ?_; rintro e w2 ⟨p2, S2, rfl, hI, hS, hF⟩; have HI2 := hid hI; have HS2 := hid hS; have HS2L := hid hI.lt; have HX2 := hid (HI.out.no hF); have HOB2 := hid (blk_no hF HOB.out); have HF2 := hid (HF.out.trans hF); have b1 := (cell_blk HOB2.out 1).trans (show _ = some (Value.int .i64 (i : Int)) from rfl); have b2 := (cell_blk HOB2.out 2).trans (show _ = some (Value.int .i64 (k : Int)) from rfl); have b3 := (cell_blk HOB2.out 3).trans (show _ = some (Value.bool dirt) from rfl); clear hI hS hF)
            | (go_at_call 21; refine (ix_Put _ p2 6 _ S2 L HI2.out i k dirt hx (by omega)).mono ?_; rw [HPUT.out]; rintro e3 w3 ⟨rfl, hI, hF⟩; simp only [plA, plS, plD]; have HI3 := hid (hI.no ((Fr.refl No _).alloc (.cells #[.int .i64 (-1), .bool false] 44))); have hF := hF.alloc (.cells #[.int .i64 (-1), .bool false] 44); have HPO3 := hid (heap_new w3 (.cells #[.int .i64 (-1), .bool false] 44)); have HX3 := hid (HX2.out.fr hF (fun j h1 h2 => absurd (HS2.out j h2) (by have := HXL.out j h1; omega))); have HOB3 := hid ((hF.block w.heap.size (lt_of_block HOB2.out) (fun h => absurd (HS2.out _ h) (by have := HLW.out; omega))).trans HOB2.out); have HF3 := hid (HF2.out.then hF (fun i hi h => absurd hi (by have := HS2.out i h; have := HLW.out; omega))); clear b1 b2 b3; have b1 := (cell_blk HOB3.out 1).trans (show _ = some (Value.int .i64 (i : Int)) from rfl); have b2 := (cell_blk HOB3.out 2).trans (show _ = some (Value.int .i64 (k : Int)) from rfl); have b3 := (cell_blk HOB3.out 3).trans (show _ = some (Value.bool dirt) from rfl); clear hF hI)
            | (go_at_call 16; refine (ix_Get _ p2 6 _ S2 _ HI3.out i).mono ?_; rw [hI5.out]; rintro e4 w4 ⟨rfl, hF⟩; simp only [plA, plS, plD]; have hF := hF.alloc (.cells #[.int .i64 (k : Int), .bool dirt] 44); have HPN4 := hid (heap_new w4 (.cells #[.int .i64 (k : Int), .bool dirt] 44)); have HI4 := hid (HI3.out.no hF); have HX4 := hid (HX3.out.no hF); have HOB4 := hid (blk_no hF HOB3.out); have HF4 := hid (HF3.out.trans hF); have HPO4 := hid (blk_no hF HPO3.out); clear b1 b2 b3; have b1 := (cell_blk HOB4.out 1).trans (show _ = some (Value.int .i64 (i : Int)) from rfl); have b2 := (cell_blk HOB4.out 2).trans (show _ = some (Value.int .i64 (k : Int)) from rfl); have b3 := (cell_blk HOB4.out 3).trans (show _ = some (Value.bool dirt) from rfl); obtain ⟨o0, o1, _, _⟩ := blk2 HPO4.out; obtain ⟨n0, n1, _, _⟩ := blk2 HPN4.out; clear hF)
            | (go_at_call 22; refine (ix_Drop _ p2 6 _ S2 _ HI4.out i (by omega)).mono ?_; rw [HDR.out]; rintro e5 w5 ⟨rfl, hI, hF⟩; simp only [plA, plS, plD]; have HI5 := hid (hI.no (Fr.refl No _)); have HX5 := hid (HX4.out.fr hF (fun j h1 h2 => absurd (HS2.out j h2) (by have := HXL.out j h1; omega))); have HOB5 := hid ((hF.block w.heap.size (lt_of_block HOB4.out) (fun h => absurd (HS2.out _ h) (by have := HLW.out; omega))).trans HOB4.out); have HF5 := hid (HF4.out.then hF (fun i hi h => absurd hi (by have := HS2.out i h; have := HLW.out; omega))); clear hF hI))
          clear HI HF HI2 HX2 HF2 HOB2 HE HI3 HX3 HF3 HI4 HX4 HF4
          go_loopg [14] 12 (fun g i wr => ∃ k : Nat, k + g = 12 ∧ i = .int .i64 k ∧ Hid (Ix wr p2 S2 L 6 (xs.length + 1 + 1)) ∧ Hid (Ix wr p S L 6 xs.length) ∧ Hid (Fr No w wr))
          case atStart => exact ⟨0, by omega, rfl, HI5, HX5, HF5⟩
          case round =>
            obtain ⟨k', hk', rfl, HI, HX, HF⟩ := hrel
            cases gk with
            | zero =>
              obtain rfl : k' = 12 := by omega
              go_wp2_with (first
                | (go_at_call 19; refine (ix_Dirty _ p 6 _ S L HXD.out).mono ?_; rintro e w13 ⟨rfl, hF⟩; have HFD2 := hid (HFD.out.trans hF); clear hF)
                | (go_at_call 19; refine (ix_Dirty _ p2 6 _ S2 L HIB.out).mono ?_; rintro e w12 ⟨rfl, hF⟩; have HXD := hid (HXB.out.no hF); have HFD := hid (HFB.out.trans hF); clear hF)
                | (go_at_call 18; refine (ix_Len _ p 6 _ S L HXA.out).mono ?_; rintro e w11 ⟨rfl, hF⟩; have HIB := hid (HIA.out.no hF); have HXB := hid (HXA.out.no hF); have HFB := hid (HFA.out.trans hF); clear hF)
                | (go_at_call 18; refine (ix_Len _ p2 6 _ S2 L HI.out).mono ?_; rintro e w10 ⟨rfl, hF⟩; have HIA := hid (HI.out.no hF); have HXA := hid (HX.out.no hF); have HFA := hid (HF.out.trans hF); clear hF)
                | (go_at_call 9; refine (ix_awake _).mono ?_; rintro e w14 ⟨rfl, hF⟩; have HFE := hid (HFD2.out.trans hF); clear hF))
              try rw [Exit.noGoto_ret]
              go_ret
              exact ⟨rfl, HFE.out⟩
            | succ gk =>
              have hkm' : (k' : Int) < 12 := by omega
              obtain ⟨s', d'', e', h1⟩ := getI_some L k'
              have H1 := hid h1
              clear h1
              go_wp2_with (first
                | (go_at_call 16; refine (ix_Get _ p2 6 _ S2 L HIG.out k').mono ?_; rw [H1.out]; rintro e w21 ⟨rfl, hF⟩; simp only [plA, plS, plD]; have hF := hF.alloc (.cells #[.int .i64 (s' : Int), .bool d''] 44); have HQ := hid (heap_new w21 (.cells #[.int .i64 (s' : Int), .bool d''] 44)); have HP21 := hid (blk_no hF HP20.out); have HIH := hid (HIG.out.no hF); have HXH := hid (HXG.out.no hF); have HFH := hid (HFG.out.trans hF); obtain ⟨p0, p1, _, _⟩ := blk2 HP21.out; obtain ⟨q0, q1, _, _⟩ := blk2 HQ.out; clear hF)
                | (go_at_call 16; refine (ix_Get _ p 6 _ S L HX.out k').mono ?_; rw [H1.out]; rintro e w20 ⟨rfl, hF⟩; simp only [plA, plS, plD]; have hF := hF.alloc (.cells #[.int .i64 (s' : Int), .bool d''] 44); have HP20 := hid (heap_new w20 (.cells #[.int .i64 (s' : Int), .bool d''] 44)); have HIG := hid (HI.out.no hF); have HXG := hid (HX.out.no hF); have HFG := hid (HF.out.trans hF); clear hF))
              go_roundg gk
              case measure => omega
              case rel => exact ⟨k' + 1, by omega, by go_num, HIH, HXH, HFH⟩
        | some o =>
          obtain ⟨so, d0⟩ := o
          rw [ho] at hput
          have HPUT := hid hput
          have hso : so < 6 := HSLOT.out i so d0 (by rw [List.getElem?_eq_getElem hi, ho])
          have hsne : ((so : Int) == -1) = false := by simp
          have HDR : Hid (putI (L.set i (some (k, dirt))) 6 (i : Int) (so : Int) d0 = (some (k, dirt), 0, L)) := put_back hi ho HUN.out hso
          have hsw : (Lit.int .i64 (so : Int)).wf = true := WalkArith.wf_i64 (n := (so : Int)) (by omega)
          clear hput ho hun hi
          go_wp2_with (first
            | (go_at_call 20; refine (ix_Copy _ p 6 _ S L HI.out).mono ?_; rintro e w2 ⟨p2, S2, rfl, hI, hS, hF⟩; have HI2 := hid hI; have HS2 := hid hS; have HS2L := hid hI.lt; have HX2 := hid (HI.out.no hF); have HOB2 := hid (blk_no hF HOB.out); have HF2 := hid (HF.out.trans hF); have b1 := (cell_blk HOB2.out 1).trans (show _ = some (Value.int .i64 (i : Int)) from rfl); have b2 := (cell_blk HOB2.out 2).trans (show _ = some (Value.int .i64 (k : Int)) from rfl); have b3 := (cell_blk HOB2.out 3).trans (show _ = some (Value.bool dirt) from rfl); clear hI hS hF)
            | (go_at_call 21; refine (ix_Put _ p2 6 _ S2 _ HI4.out i so d0 hsw (by omega)).mono ?_; rw [HDR.out]; rintro e5 w5 ⟨rfl, hI, hF⟩; simp only [plA, plS, plD]; have HI5 := hid (hI.no (Fr.refl No _)); have HX5 := hid (HX4.out.fr hF (fun j h1 h2 => absurd (HS2.out j h2) (by have := HXL.out j h1; omega))); have HOB5 := hid ((hF.block w.heap.size (lt_of_block HOB4.out) (fun h => absurd (HS2.out _ h) (by have := HLW.out; omega))).trans HOB4.out); have HF5 := hid (HF4.out.then hF (fun i hi h => absurd hi (by have := HS2.out i h; have := HLW.out; omega))); clear hF hI)
            | (go_at_call 21; refine (ix_Put _ p2 6 _ S2 L HI2.out i k dirt hx (by omega)).mono ?_; rw [HPUT.out]; rintro e3 w3 ⟨rfl, hI, hF⟩; simp only [plA, plS, plD]; have HI3 := hid (hI.no ((Fr.refl No _).alloc (.cells #[.int .i64 (so : Int), .bool d0] 44))); have hF := hF.alloc (.cells #[.int .i64 (so : Int), .bool d0] 44); have HPO3 := hid (heap_new w3 (.cells #[.int .i64 (so : Int), .bool d0] 44)); have HX3 := hid (HX2.out.fr hF (fun j h1 h2 => absurd (HS2.out j h2) (by have := HXL.out j h1; omega))); have HOB3 := hid ((hF.block w.heap.size (lt_of_block HOB2.out) (fun h => absurd (HS2.out _ h) (by have := HLW.out; omega))).trans HOB2.out); have HF3 := hid (HF2.out.then hF (fun i hi h => absurd hi (by have := HS2.out i h; have := HLW.out; omega))); clear b1 b2 b3; have b1 := (cell_blk HOB3.out 1).trans (show _ = some (Value.int .i64 (i : Int)) from rfl); have b2 := (cell_blk HOB3.out 2).trans (show _ = some (Value.int .i64 (k : Int)) from rfl); have b3 := (cell_blk HOB3.out 3).trans (show _ = some (Value.bool dirt) from rfl); clear hF hI)
            | (go_at_call 16; refine (ix_Get _ p2 6 _ S2 _ HI3.out i).mono ?_; rw [hI5.out]; rintro e4 w4 ⟨rfl, hF⟩; simp only [plA, plS, plD]; have hF := hF.alloc (.cells #[.int .i64 (k : Int), .bool dirt] 44); have HPN4 := hid (heap_new w4 (.cells #[.int .i64 (k : Int), .bool dirt] 44)); have HI4 := hid (HI3.out.no hF); have HX4 := hid (HX3.out.no hF); have HOB4 := hid (blk_no hF HOB3.out); have HF4 := hid (HF3.out.trans hF); have HPO4 := hid (blk_no hF HPO3.out); clear b1 b2 b3; have b1 := (cell_blk HOB4.out 1).trans (show _ = some (Value.int .i64 (i : Int)) from rfl); have b2 := (cell_blk HOB4.out 2).trans (show _ = some (Value.int .i64 (k : Int)) from rfl); have b3 := (cell_blk HOB4.out 3).trans (show _ = some (Value.bool dirt) from rfl); obtain ⟨o0, o1, _, _⟩ := blk2 HPO4.out; obtain ⟨n0, n1, _, _⟩ := blk2 HPN4.out; clear hF))
          clear HI HF HI2 HX2 HF2 HOB2 HE HI3 HX3 HF3 HI4 HX4 HF4
          go_loopg [14] 12 (fun g i wr => ∃ k : Nat, k + g = 12 ∧ i = .int .i64 k ∧ Hid (Ix wr p2 S2 L 6 (xs.length + 1 + 1)) ∧ Hid (Ix wr p S L 6 xs.length) ∧ Hid (Fr No w wr))
          case atStart => exact ⟨0, by omega, rfl, HI5, HX5, HF5⟩
          case round =>
            obtain ⟨k', hk', rfl, HI, HX, HF⟩ := hrel
            cases gk with
            | zero =>
              obtain rfl : k' = 12 := by omega
              go_wp2_with (first
                | (go_at_call 19; refine (ix_Dirty _ p 6 _ S L HXD.out).mono ?_; rintro e w13 ⟨rfl, hF⟩; have HFD2 := hid (HFD.out.trans hF); clear hF)
                | (go_at_call 19; refine (ix_Dirty _ p2 6 _ S2 L HIB.out).mono ?_; rintro e w12 ⟨rfl, hF⟩; have HXD := hid (HXB.out.no hF); have HFD := hid (HFB.out.trans hF); clear hF)
                | (go_at_call 18; refine (ix_Len _ p 6 _ S L HXA.out).mono ?_; rintro e w11 ⟨rfl, hF⟩; have HIB := hid (HIA.out.no hF); have HXB := hid (HXA.out.no hF); have HFB := hid (HFA.out.trans hF); clear hF)
                | (go_at_call 18; refine (ix_Len _ p2 6 _ S2 L HI.out).mono ?_; rintro e w10 ⟨rfl, hF⟩; have HIA := hid (HI.out.no hF); have HXA := hid (HX.out.no hF); have HFA := hid (HF.out.trans hF); clear hF)
                | (go_at_call 9; refine (ix_awake _).mono ?_; rintro e w14 ⟨rfl, hF⟩; have HFE := hid (HFD2.out.trans hF); clear hF))
              try rw [Exit.noGoto_ret]
              go_ret
              exact ⟨rfl, HFE.out⟩
            | succ gk =>
              have hkm' : (k' : Int) < 12 := by omega
              obtain ⟨s', d'', e', h1⟩ := getI_some L k'
              have H1 := hid h1
              clear h1
              go_wp2_with (first
                | (go_at_call 16; refine (ix_Get _ p2 6 _ S2 L HIG.out k').mono ?_; rw [H1.out]; rintro e w21 ⟨rfl, hF⟩; simp only [plA, plS, plD]; have hF := hF.alloc (.cells #[.int .i64 (s' : Int), .bool d''] 44); have HQ := hid (heap_new w21 (.cells #[.int .i64 (s' : Int), .bool d''] 44)); have HP21 := hid (blk_no hF HP20.out); have HIH := hid (HIG.out.no hF); have HXH := hid (HXG.out.no hF); have HFH := hid (HFG.out.trans hF); obtain ⟨p0, p1, _, _⟩ := blk2 HP21.out; obtain ⟨q0, q1, _, _⟩ := blk2 HQ.out; clear hF)
                | (go_at_call 16; refine (ix_Get _ p 6 _ S L HX.out k').mono ?_; rw [H1.out]; rintro e w20 ⟨rfl, hF⟩; simp only [plA, plS, plD]; have hF := hF.alloc (.cells #[.int .i64 (s' : Int), .bool d''] 44); have HP20 := hid (heap_new w20 (.cells #[.int .i64 (s' : Int), .bool d''] 44)); have HIG := hid (HI.out.no hF); have HXG := hid (HX.out.no hF); have HFG := hid (HF.out.trans hF); clear hF))
              go_roundg gk
              case measure => omega
              case rel => exact ⟨k' + 1, by omega, by go_num, HIH, HXH, HFH⟩
end Go.Proofs.Ytfggllhflibfcaa
