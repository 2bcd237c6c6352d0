/- The law IndexSpans. -/
import Derived.Test.YtfggllhflibfcaaIxM
namespace Go.Proofs.Ytfggllhflibfcaa
open Go.RowKit Go.Shelf Go.Maps
attribute [local go_sem] Oper.semAt_some

theorem use_act {P : Act → Prop} (a : Act) (h : ∀ A, A = a → P A) : P a := h a rfl
set_option maxRecDepth 1000000 in
set_option maxHeartbeats 8000000 in
theorem law_IndexSpans (w : World) (r : SRow) (hr : r.Ok w op9Sh) (x : Int × Int) (_hx : (Lit.int .i64 x.1).wf = true ∧ (Lit.int .i64 x.2).wf = true) (at_ : Int) (_hat : (Lit.int .i64 at_).wf = true) :
    Calls Try.prog 8 #[r.v, spV9 x, .int .i64 at_] w fun e w' => e = .returned (.bool true) ∧ Fr No w w' := by
  obtain ⟨xs, hv, hE, hxw⟩ := ops9_of hr
  rw [hv]
  obtain ⟨ra, hra⟩ : ∃ ra, r.a = ra := ⟨_, rfl⟩
  obtain ⟨rc, hrc⟩ : ∃ rc, r.cap = rc := ⟨_, rfl⟩
  rw [hra] at hE
  rw [hra, hrc]
  have HE := hid hE
  have HXW := hid hxw
  obtain ⟨a, n⟩ := x
  clear hv hr hra hrc hE hxw _hx _hat
  unfold spV9
  have HF0 := hid (((Fr.refl No w).alloc (.cells #[.int .i64 a, .int .i64 n] 25)).alloc (.cells #[.bool false] 4))
  have HSB0 : Hid (((w.alloc (.cells #[.int .i64 a, .int .i64 n] 25)).alloc (.cells #[.bool false] 4)).heap[w.heap.size]? = some (.cells #[.int .i64 a, .int .i64 n] 25 (0, 0))) := heap_more (heap_new w (.cells #[.int .i64 a, .int .i64 n] 25))
  have HRB0 : Hid (((w.alloc (.cells #[.int .i64 a, .int .i64 n] 25)).alloc (.cells #[.bool false] 4)).heap[w.heap.size + 1]? = some (.cells #[.bool false] 4 (0, 0))) := by unfold Hid; have := heap_new (w.alloc (.cells #[.int .i64 a, .int .i64 n] 25)) (.cells #[.bool false] 4); simpa using this
  refine (callsIn_wide (n := 5)).1 (callsIn_of_wp_marks Try.func8 rfl trivial (wpIn_wide.2 ?_) rfl)
  simp only [Try.ntmps8, List.size_toArray, List.length_cons, List.length_nil, Nat.reduceAdd, Nat.reduceSub, Array.replicate_succ, Array.replicate_zero, List.push_toArray, List.append_toArray, List.nil_append, List.cons_append]
  by_cases hgood : xs.length ≤ 80 ∧ 0 ≤ a ∧ a ≤ 20 ∧ 0 ≤ n ∧ n ≤ 20 ∧ 0 ≤ at_ ∧ at_ ≤ n
  case neg =>
    rcases (by omega : 80 < (xs.length : Int) ∨ ((xs.length : Int) ≤ 80 ∧ a < 0) ∨ ((xs.length : Int) ≤ 80 ∧ 0 ≤ a ∧ 20 < a) ∨ ((xs.length : Int) ≤ 80 ∧ 0 ≤ a ∧ a ≤ 20 ∧ n < 0) ∨ ((xs.length : Int) ≤ 80 ∧ 0 ≤ a ∧ a ≤ 20 ∧ 0 ≤ n ∧ 20 < n) ∨ ((xs.length : Int) ≤ 80 ∧ 0 ≤ a ∧ a ≤ 20 ∧ 0 ≤ n ∧ n ≤ 20 ∧ at_ < 0) ∨ ((xs.length : Int) ≤ 80 ∧ 0 ≤ a ∧ a ≤ 20 ∧ 0 ≤ n ∧ n ≤ 20 ∧ 0 ≤ at_ ∧ n < at_)) with h | ⟨h1, h⟩ | ⟨h1, h2, h⟩ | ⟨h1, h2, h3, h⟩ | ⟨h1, h2, h3, h4, h⟩ | ⟨h1, h2, h3, h4, h5, h⟩ | ⟨h1, h2, h3, h4, h5, h6, h⟩
    all_goals
      clear hgood
      go_wp2_with (first
        | (go_at_call 10; refine (ix_New _ 12 6 (by decide) (by decide) (by decide) (by decide)).mono ?_; rintro e w1 ⟨p, S, rfl, -, -, hF⟩; have HF := hid (HF0.out.trans hF); have HRB1 := hid (blk_no hF HRB0.out); have hs := blk_no hF HSB0.out; clear hF; obtain ⟨s0, s1, _, _⟩ := blk2 hs)
        | (go_at_call 9; refine (ix_awake _).mono ?_; rintro e w2 ⟨rfl, hF⟩; have HF2 := hid (HF.out.trans hF); have HRB2 := hid (blk_no hF HRB1.out); have z0 := (cell_blk HRB2.out 0).trans (show _ = some (Value.bool false) from rfl); have z1 := free_blk HRB2.out 0; clear hF))
      try rw [Exit.noGoto_ret]
      refine ⟨.bool true, ?_, rfl, HF2.out.setCell (p := ⟨w.heap.size + 1, 0, none⟩) (fun h => absurd h (by show ¬ w.heap.size + 1 < w.heap.size; omega)) _⟩
      have cz : (w2.setCell ⟨w.heap.size + 1, 0, none⟩ (.bool true)).cell? ⟨w.heap.size + 1, 0, none⟩ = some (.bool true) := by rw [cell_blk (set_blk HRB2.out 0 _)]; rfl
      simp [results, Try.f8, go_sem, cz]
  obtain ⟨h80, h1, h2, h3, h4, h5, h6⟩ := hgood
  have h80' : (xs.length : Int) ≤ 80 := by omega
  go_wp2_with (go_at_call 10; refine (ix_New _ 12 6 (by decide) (by decide) (by decide) (by decide)).mono ?_; rintro e w1 ⟨p, S, rfl, hI, hS, hF⟩; have HI := hid hI; have HS := hid (fun k hk => Nat.le_trans HF0.out.size (hS k hk)); have HS1 := hid (fun k hk => (by have := hS k hk; simp at this; omega : w.heap.size + 1 < k)); have HF := hid (HF0.out.trans hF); have HSB := hid (blk_no hF HSB0.out); have HRB := hid (blk_no hF HRB0.out); have hs := HSB.out; clear hI hS hF; obtain ⟨s0, s1, _, _⟩ := blk2 hs)
  clear s0 s1
  go_loopg [9] xs.length (fun g i wr => ∃ k : Nat, k + g = xs.length ∧ i = .int .i64 k ∧ Hid (Ix wr p S (runI xs k) 6 k) ∧ Hid (Fr No w wr) ∧ Hid (wr.heap[w.heap.size]? = some (.cells #[.int .i64 a, .int .i64 n] 25 (0, 0))) ∧ Hid (wr.heap[w.heap.size + 1]? = some (.cells #[.bool false] 4 (0, 0))))
  case atStart => exact ⟨0, by omega, rfl, HI, HF, HSB, HRB⟩
  case round =>
    obtain ⟨k, hk, rfl, HI, HF, HSB, HRB⟩ := hrel
    cases gk with
    | succ gk =>
      have hkm : k < xs.length := by omega
      have hki : (k : Int) < (xs.length : Int) := by omega
      obtain ⟨b, o, rfl, hb, a0, a1, a2, a3⟩ := HE.out.op9 k hkm
      have hwf := HXW.out _ (List.getElem_mem hkm)
      have HRN := hid (runI_succ xs k hkm)
      obtain ⟨op, hop⟩ : ∃ op, xs[k] = op := ⟨_, rfl⟩
      rw [hop] at a0 a1 a2 a3 hwf HRN
      have hc0 := And.intro ((HF.out.cell (p := ⟨b, o + k * 4, none⟩) hb id).trans a0) (And.intro ((HF.out.cell (p := ⟨b, o + k * 4 + 1, none⟩) hb id).trans a1) (And.intro ((HF.out.cell (p := ⟨b, o + k * 4 + 2, none⟩) hb id).trans a2) ((HF.out.cell (p := ⟨b, o + k * 4 + 3, none⟩) hb id).trans a3)))
      have HB := hid (HF.out.lt hb)
      clear hop a0 a1 a2 a3
      go_wp2_with fail
      rename_i K1 hK1
      refine onlyOn_use ?_
      refine wp_region_held_drew (S := fun W => W.cell? ⟨b, o + k * 4, none⟩ = some (.int .i64 op.ask) ∧ W.cell? ⟨b, o + k * 4 + 1, none⟩ = some (.int .i64 op.blk) ∧ W.cell? ⟨b, o + k * 4 + 2, none⟩ = some (.int .i64 op.slot) ∧ W.cell? ⟨b, o + k * 4 + 3, none⟩ = some (.bool op.dirt)) (by kernel_rfl) hc0 (fun hHeld => ?_)
      refine wpAnyH_take (i := 0) (v := ?_) rfl (by kernel_rfl) (by kernel_rfl) (by kernel_rfl) (fun _ _ _ h => h) (Or.inl ⟨by rfl, ?_⟩) hHeld ?_
      rotate_left
      · intro w hSw
        go_simp
        with_reducible rfl
      try simp only [Act.put, List.getElem_toArray, List.getElem_cons_zero, List.getElem_cons_succ, List.setIfInBounds_toArray, List.set_cons_zero, List.set_cons_succ]
      refine wpAnyH_take (i := 2) (v := ?_) rfl (by kernel_rfl) (by kernel_rfl) (by kernel_rfl) (fun _ _ _ h => h) (Or.inl ⟨by rfl, ?_⟩) hHeld ?_
      rotate_left
      · intro w hSw
        go_simp
        with_reducible rfl
      try simp only [Act.put, List.getElem_toArray, List.getElem_cons_zero, List.getElem_cons_succ, List.setIfInBounds_toArray, List.set_cons_zero, List.set_cons_succ]
      refine wpAnyH_take (i := 3) (v := ?_) rfl (by kernel_rfl) (by kernel_rfl) (by kernel_rfl) (fun _ _ _ h => h) (Or.inl ⟨by rfl, ?_⟩) hHeld ?_
      rotate_left
      · intro w hSw
        go_simp
        with_reducible rfl
      try simp only [Act.put, List.getElem_toArray, List.getElem_cons_zero, List.getElem_cons_succ, List.setIfInBounds_toArray, List.set_cons_zero, List.set_cons_succ]
      refine wpAnyH_take (i := 4) (v := ?_) rfl (by kernel_rfl) (by kernel_rfl) (by kernel_rfl) (fun _ _ _ h => h) (Or.inl ⟨by rfl, ?_⟩) hHeld ?_
      rotate_left
      · intro w hSw
        go_simp
        with_reducible rfl
      try simp only [Act.put, List.getElem_toArray, List.getElem_cons_zero, List.getElem_cons_succ, List.setIfInBounds_toArray, List.set_cons_zero, List.set_cons_succ]
      refine wpAnyH_take (i := 5) (v := ?_) rfl (by kernel_rfl) (by kernel_rfl) (by kernel_rfl) (fun _ _ _ h => h) (Or.inl ⟨by rfl, ?_⟩) hHeld ?_
      rotate_left
      · intro w hSw; obtain ⟨u0, u1, u2, u3⟩ := hSw
        go_simp
        with_reducible rfl
      try simp only [Act.put, List.getElem_toArray, List.getElem_cons_zero, List.getElem_cons_succ, List.setIfInBounds_toArray, List.set_cons_zero, List.set_cons_succ]
      refine wpAnyH_ready (rs := [1]) (by kernel_rfl) (by simp) ?_
      refine AllReadyH.cons rfl (fun K hK => ?_) AllReadyH.nil
      rw [if_pos (by rfl)]
      go_simp
      refine (rf_New _ 12 6 (by decide)).mono ?_
      rintro e w2 ⟨q, T, rfl, hR, hT, hF⟩
      have HR := hid hR
      have HT := hid hT
      have HF2 := hid ((Fr.refl No wr).drew.trans hF)
      have HI2 := hid (HI.out.no HF2.out)
      have hc1 := And.intro ((HF2.out.cell (p := ⟨b, o + k * 4, none⟩) HB.out id).trans hc0.1) (And.intro ((HF2.out.cell (p := ⟨b, o + k * 4 + 1, none⟩) HB.out id).trans hc0.2.1) (And.intro ((HF2.out.cell (p := ⟨b, o + k * 4 + 2, none⟩) HB.out id).trans hc0.2.2.1) ((HF2.out.cell (p := ⟨b, o + k * 4 + 3, none⟩) HB.out id).trans hc0.2.2.2)))
      refine hK.out _ _ hc1 (fun hHeld => ?_)
      clear hK K hF hR hT hc0
      try simp only [Act.put, List.getElem_toArray, List.getElem_cons_zero, List.getElem_cons_succ, List.setIfInBounds_toArray, List.set_cons_zero, List.set_cons_succ]
      refine wpAnyH_ready (rs := [6]) (by kernel_rfl) (by simp) ?_
      refine AllReadyH.cons rfl (fun K hK => ?_) AllReadyH.nil
      rw [if_pos (by rfl)]
      go_simp
      refine (ix_does w2 p q 6 6 k S T _ _ HI2.out HR.out (fun j h1 h2 => by have h3 := HI.out.lt j h1; have h4 := HT.out j h2; simp at h4; omega) (by simp) op hwf (by omega)).mono ?_
      rintro e w3 ⟨bb, rfl, hI, -, hF, -⟩
      rw [← HRN.out] at hI
      have HI3 := hid hI
      have HF3 := hid ((HF.out.trans HF2.out).then hF (fun i hi h => absurd hi (by rcases h with h | h; exact Nat.not_lt.2 (HS.out i h); have h4 := HT.out i h; have h5 := HF.out.size; simp at h4; omega)))
      have HSB3 := hid ((hF.block w.heap.size (lt_of_block (blk_no HF2.out HSB.out)) (fun h => by rcases h with h | h; exact absurd (HS1.out _ h) (by omega); have h4 := HT.out _ h; have h5 := lt_of_block HSB.out; simp at h4; omega)).trans (blk_no HF2.out HSB.out))
      have HRB3 := hid ((hF.block (w.heap.size + 1) (lt_of_block (blk_no HF2.out HRB.out)) (fun h => by rcases h with h | h; exact absurd (HS1.out _ h) (by omega); have h4 := HT.out _ h; have h5 := lt_of_block HRB.out; simp at h4; omega)).trans (blk_no HF2.out HRB.out))
      refine hK.out _ _ ⟨(hF.cell (p := ⟨b, o + k * 4, none⟩) (HF2.out.lt HB.out) (ix_old HS.out HT.out hb (HF.out.size))).trans hc1.1, (hF.cell (p := ⟨b, o + k * 4 + 1, none⟩) (HF2.out.lt HB.out) (ix_old HS.out HT.out hb (HF.out.size))).trans hc1.2.1, (hF.cell (p := ⟨b, o + k * 4 + 2, none⟩) (HF2.out.lt HB.out) (ix_old HS.out HT.out hb (HF.out.size))).trans hc1.2.2.1, (hF.cell (p := ⟨b, o + k * 4 + 3, none⟩) (HF2.out.lt HB.out) (ix_old HS.out HT.out hb (HF.out.size))).trans hc1.2.2.2⟩ (fun hHeld => ?_)
      clear hK K hF hI hc1
      try simp only [Act.put, List.getElem_toArray, List.getElem_cons_zero, List.getElem_cons_succ, List.setIfInBounds_toArray, List.set_cons_zero, List.set_cons_succ]
      refine wpAnyH_done (by kernel_rfl) ?_ _
      refine hK1 _ _ ?_
      go_wp2_with fail
      go_roundg gk
      case measure => omega
      case rel => exact ⟨k + 1, by omega, by go_num, HI3, HF3, HSB3, HRB3⟩
    | zero =>
      obtain rfl : k = xs.length := by omega
      obtain ⟨L, hL⟩ : ∃ L, runI xs xs.length = L := ⟨_, rfl⟩
      have hl12 : L.length = 12 := by rw [← hL, runI_len]
      rw [hL] at HI
      have HLL := hid hl12
      have HPARTS := hid (allX_parts L hl12 a at_ n h1 h5 h6)
      have HLEN := hid (show (allX L a n).length ≤ 12 from by have := allX_len L a n; omega)
      clear hL hl12 HE
      obtain ⟨s0, s1, _, _⟩ := blk2 HSB.out
      have hw1 : IntKind.i64.wrap (a + at_) = a + at_ := by rw [IntKind.wrap_i64]; omega
      have hw2 : IntKind.i64.wrap (n - at_) = n - at_ := by rw [IntKind.wrap_i64]; omega
      go_wp2_with (first
        | (go_at_call 14; refine (ix_AllV _ p 6 _ S L HI4.out a n (by omega)).mono ?_; rintro e w5 ⟨f3, rfl, hV, hF⟩; obtain ⟨g3, lb3, rfl, hen3, hnn3, hcm3⟩ := hV; have HEN3 := hid hen3; have HCM3 := hid hcm3; have HFA3 := hid hF; have HF5 := hid (HF4.out.trans hF); have HRB5 := hid (blk_no hF HRB4.out); have HZ5 := hid hF.size; clear hF s0 s1 hen3 hcm3)
        | (go_at_call 14; refine (ix_AllV _ p 6 _ S L HI3.out (a + at_) (n - at_) (by omega)).mono ?_; rintro e w4 ⟨f2, rfl, hV, hF⟩; obtain ⟨g2, lb2, rfl, hen2, hnn2, hcm2⟩ := hV; have HEN2 := hid hen2; have HCM2 := hid hcm2; have HFA2 := hid hF; have HI4 := hid (HI3.out.no hF); have HF4 := hid (HF3.out.trans hF); have HSB4 := hid (blk_no hF HSB3.out); have HRB4 := hid (blk_no hF HRB3.out); have HZ4 := hid hF.size; clear hF s0 s1 hen2 hcm2; obtain ⟨s0, s1, _, _⟩ := blk2 HSB4.out)
        | (go_at_call 14; refine (ix_AllV _ p 6 _ S L HI.out a at_ (by omega)).mono ?_; rintro e w3 ⟨f1, rfl, hV, hF⟩; obtain ⟨g1, lb1, rfl, hen1, hnn1, hcm1⟩ := hV; have HEN1 := hid hen1; have HCM1 := hid hcm1; have HI3 := hid (HI.out.no hF); have HF3 := hid (HF.out.trans hF); have HSB3 := hid (blk_no hF HSB.out); have HRB3 := hid (blk_no hF HRB.out); have HZ3 := hid hF.size; clear hF s0 s1 hen1 hcm1; obtain ⟨s0, s1, _, _⟩ := blk2 HSB3.out))
      have HX0 := hid (((Fr.refl No w5).alloc (.cells #[.slice none 0 0] 57)).alloc (.cells #[.slice none 0 0] 58))
      have hzz : ((w5.alloc (.cells #[.slice none 0 0] 57)).alloc (.cells #[.slice none 0 0] 58)).heap.size = w5.heap.size + 2 := by simp
      have hZ1 : ((w5.alloc (.cells #[.slice none 0 0] 57)).alloc (.cells #[.slice none 0 0] 58)).heap[w5.heap.size]? = some (.cells #[.slice none 0 0] 57 (0, 0)) := heap_more (heap_new w5 (.cells #[.slice none 0 0] 57))
      have hZ2 : ((w5.alloc (.cells #[.slice none 0 0] 57)).alloc (.cells #[.slice none 0 0] 58)).heap[w5.heap.size + 1]? = some (.cells #[.slice none 0 0] 58 (0, 0)) := by have := heap_new (w5.alloc (.cells #[.slice none 0 0] 57)) (.cells #[.slice none 0 0] 58); simpa using this
      obtain ⟨w7, hw7⟩ : ∃ w7, (w5.alloc (.cells #[.slice none 0 0] 57)).alloc (.cells #[.slice none 0 0] 58) = w7 := ⟨_, rfl⟩
      rw [hw7] at HX0 hzz hZ1 hZ2
      rw [hw7]
      have HG1 : Hid (Gat w5 w5.heap.size (w5.heap.size + 1) [] [] w7) := ⟨⟨_, _, ⟨hZ1, hZ2, World.ownsRow_nil _ _ _ _, World.ownsRow_nil _ _ _ _, Nat.le_refl _, Nat.le_succ _⟩⟩, HX0.out.mono (fun _ _ e => e.elim), fun D h => by cases h⟩
      have HGS1 : Hid (w5.heap.size ≤ w7.heap.size) := by unfold Hid; omega
      have HDL1 : Hid (∀ D ∈ ([] : List Nat), D < w7.heap.size) := fun D h => by cases h
      have HLX1 : Hid (([] : List (Int × Pl)).length + (allX L a at_).length ≤ 12) := by have := allX_len L a at_; have := HLL.out; unfold Hid; simp only [List.length_nil]; omega
      obtain ⟨i0, hi, hz0, hzs1, hzs2⟩ := info_parts int_info
      obtain ⟨j0, hj, hy0, hy1, hy2⟩ := info_parts pl_info
      clear hw7 hZ1 hZ2 hzz hw1 hw2
      refine use_act (P := fun A => Code.wp _ _ _ A _) _ (fun A0 hA0 => ?_)
      have HGO1 := hid (gat_own w5 w5.heap.size (w5.heap.size + 1) [] (([] : List (Int × Pl))) w7.heap.size HGS1.out HDL1.out)
      refine wpIn_wide.1 (rangeFunc_calmN (n := 5) (gf := g1) (lb := lb1) (by rw [hA0]; rfl) HEN1.out (HCM1.out (fun k => w5.heap.size ≤ k) (fun k => w5.heap.size ≤ k) w7 (5 - 1) (((HFA2.out.trans HFA3.out).trans HX0.out).mono (fun _ _ e => e.elim)) (fun k h1 h2 h3 => by have := HZ4.out; have := HZ5.out; omega) (fun k h1 h2 h3 => by have := HZ4.out; have := HZ5.out; omega)) (by have := HGS1.out; show w5.heap.size ≤ _; omega) (by intro _; rfl)
        (fun pre W => Gat w5 w5.heap.size (w5.heap.size + 1) [] (([] : List (Int × Pl)) ++ pre) W) HGO1.out (by rw [List.append_nil]; exact HG1.out)
        (fun x a' W => ∃ B', W.heap[B']? = some (.cells #[.int .i64 (plS x.2), .bool (plD x.2)] 44 (0, 0)) ∧ a' = ⟨(((A0.tmps.setIfInBounds 120 (.int .i64 x.1)).setIfInBounds 121 (plA x.2)).setIfInBounds 15 (.int .i64 x.1)).setIfInBounds 16 (.pointer (some ⟨B', 0, none⟩)), []⟩)
        (fun x a' s X Y row hs hg hrow => by
          obtain ⟨B', hB', e⟩ := hs
          exact ⟨B', Own.from (block_own (β := Unit) B' (fun _ => .cells #[.int .i64 (plS x.2), .bool (plD x.2)] 44 (0, 0)) (fun _ => rfl)) w7.heap.size () X Y row hB' hg hrow, e⟩) ?assign ?body ?done)
      case assign =>
        intro l pre x W K hI hK
        have hK2 := hid (fun a' e => hK a' (W.alloc (.cells #[.int .i64 (plS x.2), .bool (plD x.2)] 44)) ((KeepsOthers.alloc W _).from _) ((Fr.refl _ W).alloc _) (HGO1.out.alloc _ hI) ⟨W.heap.size, heap_new W _, e⟩)
        clear hI hK
        obtain ⟨x1, x2⟩ := x
        subst hA0
        simp only [plA] at hK2 ⊢
        gi_wp2
        refine hK2.out _ ?_
        simp only [List.setIfInBounds_toArray, List.set_cons_zero, List.set_cons_succ]
      case body =>
        rintro l pre x a' W ⟨⟨vb, vp, hG⟩, hFG, hDs⟩ ⟨B', hB', rfl⟩ hpre
        obtain ⟨x1, x2⟩ := x
        subst hA0
        simp only [plA, List.setIfInBounds_toArray, List.set_cons_zero, List.set_cons_succ]
        have z1 := (cell_blk hG.z1 0).trans (show _ = some vb from rfl)
        have z1f := free_blk hG.z1 0
        obtain ⟨p0, p1, _, _⟩ := blk2 hB'
        have hl1 : ((([] : List (Int × Pl)) ++ pre).map (·.1)).length + 1 ≤ 24 := by
          have := hpre.length_le
          have h9 := HLX1.out
          rw [List.length_append, List.length_singleton] at this
          rw [List.length_map, List.length_append]; omega
        have hl2 : ((([] : List (Int × Pl)) ++ pre).map (·.2)).length + 1 ≤ 24 := by rw [List.length_map] at hl1 ⊢; exact hl1
        have hWz : w5.heap.size ≤ W.heap.size := hFG.size
        obtain ⟨l1, hl1e⟩ : ∃ l, (([] : List (Int × Pl)) ++ pre).map (·.1) = l := ⟨_, rfl⟩
        obtain ⟨l2, hl2e⟩ : ∃ l, (([] : List (Int × Pl)) ++ pre).map (·.2) = l := ⟨_, rfl⟩
        rw [hl1e] at hG hl1
        rw [hl2e] at hG hl2
        have HL1 := hid hl1e
        have HL2 := hid hl2e
        clear hl1e hl2e
        gi_wp2_with (first
          | (gi_at_builtin; refine wpListIn_append_own _ rfl _ _ 58 rfl w5.heap.size 44 j0 (.agg #[.int .i64 0, .bool false]) 2 16 Try.underlying58 hj hy0 hy1 hy2 (by kernel_rfl) (by decide) _ _ _ rfl (hG4.r2.alloc _) ⟨w8.heap.size, 0, none⟩ 1 1 [.int .i64 (plS x2), .bool (plD x2)] rfl rfl (World.news_of_block hnb) (by rw [← plV_eq]; exact plV_one _) (by unfold maxLen; omega) (by omega) (by rw [World.size_alloc]; omega) ?_; intro v'' w9 hown2 hgrow2 _; rw [← plV_eq] at hown2; obtain ⟨g'', cap'', rfl⟩ := ownsRow_succ hown2; obtain ⟨hc5, hf5, hG5, hF5, hO5⟩ := hG4.step2 (q := x2) hown2 hgrow2)
          | (gi_at_builtin; refine wpListIn_append_own _ rfl _ _ 57 rfl w5.heap.size 3 i0 (.int .i64 0) 1 8 Try.underlying57 hi hz0 hzs1 hzs2 (by kernel_rfl) (by decide) _ _ _ rfl (hG.r1.alloc _) ⟨W.heap.size, 0, none⟩ 1 1 [iv9 x1] rfl rfl (World.news_of_block (heap_new W (.cells #[.int .i64 x1] 3))) (by simp [iv9, Value.oneCell']) (by unfold maxLen; omega) (by omega) (by simp; omega) ?_; intro v' w8 hown1 hgrow1 _; obtain ⟨g', cap', rfl⟩ := ownsRow_succ hown1; obtain ⟨hc4, hf4, hG4, hF4, hO4, hP4⟩ := hG.step1 (z := x1) hown1 hgrow1; have hz4 := hF4.size; have zz := (cell_blk hG4.z2 0).trans (show _ = some vp from rfl); have zf := free_blk hG4.z2 0; have hq4 := hP4 _ _ hB'; have hnb := heap_new (w8.setCell ⟨w5.heap.size, 0, none⟩ (.slice (some ⟨g', 0, none⟩) (l1.length + 1) cap')) (.cells #[.int .i64 (plS x2), .bool (plD x2)] 44); rw [size_set] at hnb; clear p0 p1; obtain ⟨p0, p1, _, _⟩ := blk2 hq4))
        have e1 : (([] : List (Int × Pl)) ++ (pre ++ [(x1, x2)])).map (·.1) = l1 ++ [x1] := by rw [← List.append_assoc, List.map_append, HL1.out]; rfl
        have e2 : (([] : List (Int × Pl)) ++ (pre ++ [(x1, x2)])).map (·.2) = l2 ++ [x2] := by rw [← List.append_assoc, List.map_append, HL2.out]; rfl
        rw [← e1, ← e2] at hG5
        exact ⟨(hO4.trans hO5).keeps (hF4.trans hF5).size, hF4.trans hF5, ⟨_, _, hG5⟩, hFG.trans ((hF4.trans hF5).mono (fun k _ h => .inr h)), fun D hD => (hO4.trans hO5) D _ (hDs D hD) rfl⟩
      case done =>
        rintro D1 W1 hD1 hG hK
        subst hA0
        clear HGO1 HCM1 HEN1
        have HG2 := hid hG
        have HK1 := hid hK
        have HD1 := hid hD1
        rw [List.nil_append] at HG2
        clear hG hK hD1 HG1
        go_wp2_with fail
        have HGS2 : Hid (w5.heap.size ≤ W1.heap.size) := HG2.out.2.1.size
        have HDL2 : Hid (∀ D ∈ [D1], D < W1.heap.size) := fun D h => by rw [List.mem_singleton.1 h]; exact lt_of_block HK1.out
        have HLX2 : Hid ((allX L a at_).length + (allX L (a + at_) (n - at_)).length ≤ 12) := by have h8 := HLEN.out; rw [← HPARTS.out, List.length_append] at h8; exact h8
        have HGA2 : Hid (Gat w5 w5.heap.size (w5.heap.size + 1) [D1] (allX L a at_) W1) := ⟨HG2.out.1, HG2.out.2.1, fun D h => by rw [List.mem_singleton.1 h]; exact HK1.out⟩
        refine use_act (P := fun A => Code.wp _ _ _ A _) _ (fun A0 hA0 => ?_)
        have HGO2 := hid (gat_own w5 w5.heap.size (w5.heap.size + 1) [D1] ((allX L a at_)) W1.heap.size HGS2.out HDL2.out)
        refine wpIn_wide.1 (rangeFunc_calmN (n := 5) (gf := g2) (lb := lb2) (by rw [hA0]; rfl) HEN2.out (HCM2.out (fun k => w5.heap.size ≤ k) (fun k => w5.heap.size ≤ k) W1 (5 - 1) ((HFA3.out.mono (fun _ _ e => e.elim)).trans (HG2.out.2.1.mono (fun k _ h => h.elim (fun h => h.elim) id))) (fun k h1 h2 h3 => by have := HZ4.out; have := HZ5.out; omega) (fun k h1 h2 h3 => by have := HZ4.out; have := HZ5.out; omega)) (by have := HGS2.out; show w5.heap.size ≤ _; omega) (by intro _; rfl)
          (fun pre W => Gat w5 w5.heap.size (w5.heap.size + 1) [D1] ((allX L a at_) ++ pre) W) HGO2.out (by rw [List.append_nil]; exact HGA2.out)
          (fun x a' W => ∃ B', W.heap[B']? = some (.cells #[.int .i64 (plS x.2), .bool (plD x.2)] 44 (0, 0)) ∧ a' = ⟨(((A0.tmps.setIfInBounds 131 (.int .i64 x.1)).setIfInBounds 132 (plA x.2)).setIfInBounds 17 (.int .i64 x.1)).setIfInBounds 18 (.pointer (some ⟨B', 0, none⟩)), []⟩)
          (fun x a' s X Y row hs hg hrow => by
            obtain ⟨B', hB', e⟩ := hs
            exact ⟨B', Own.from (block_own (β := Unit) B' (fun _ => .cells #[.int .i64 (plS x.2), .bool (plD x.2)] 44 (0, 0)) (fun _ => rfl)) W1.heap.size () X Y row hB' hg hrow, e⟩) ?assign ?body ?done)
        case assign =>
          intro l pre x W K hI hK
          have hK2 := hid (fun a' e => hK a' (W.alloc (.cells #[.int .i64 (plS x.2), .bool (plD x.2)] 44)) ((KeepsOthers.alloc W _).from _) ((Fr.refl _ W).alloc _) (HGO2.out.alloc _ hI) ⟨W.heap.size, heap_new W _, e⟩)
          clear hI hK
          obtain ⟨x1, x2⟩ := x
          subst hA0
          simp only [plA] at hK2 ⊢
          gi_wp2
          refine hK2.out _ ?_
          simp only [List.setIfInBounds_toArray, List.set_cons_zero, List.set_cons_succ]
        case body =>
          rintro l pre x a' W ⟨⟨vb, vp, hG⟩, hFG, hDs⟩ ⟨B', hB', rfl⟩ hpre
          obtain ⟨x1, x2⟩ := x
          subst hA0
          simp only [plA, List.setIfInBounds_toArray, List.set_cons_zero, List.set_cons_succ]
          have z1 := (cell_blk hG.z1 0).trans (show _ = some vb from rfl)
          have z1f := free_blk hG.z1 0
          obtain ⟨p0, p1, _, _⟩ := blk2 hB'
          have hl1 : (((allX L a at_) ++ pre).map (·.1)).length + 1 ≤ 24 := by
            have := hpre.length_le
            have h9 := HLX2.out
            rw [List.length_append, List.length_singleton] at this
            rw [List.length_map, List.length_append]; omega
          have hl2 : (((allX L a at_) ++ pre).map (·.2)).length + 1 ≤ 24 := by rw [List.length_map] at hl1 ⊢; exact hl1
          have hWz : w5.heap.size ≤ W.heap.size := hFG.size
          obtain ⟨l1, hl1e⟩ : ∃ l, ((allX L a at_) ++ pre).map (·.1) = l := ⟨_, rfl⟩
          obtain ⟨l2, hl2e⟩ : ∃ l, ((allX L a at_) ++ pre).map (·.2) = l := ⟨_, rfl⟩
          rw [hl1e] at hG hl1
          rw [hl2e] at hG hl2
          have HL1 := hid hl1e
          have HL2 := hid hl2e
          clear hl1e hl2e
          gi_wp2_with (first
            | (gi_at_builtin; refine wpListIn_append_own _ rfl _ _ 58 rfl w5.heap.size 44 j0 (.agg #[.int .i64 0, .bool false]) 2 16 Try.underlying58 hj hy0 hy1 hy2 (by kernel_rfl) (by decide) _ _ _ rfl (hG4.r2.alloc _) ⟨w8.heap.size, 0, none⟩ 1 1 [.int .i64 (plS x2), .bool (plD x2)] rfl rfl (World.news_of_block hnb) (by rw [← plV_eq]; exact plV_one _) (by unfold maxLen; omega) (by omega) (by rw [World.size_alloc]; omega) ?_; intro v'' w9 hown2 hgrow2 _; rw [← plV_eq] at hown2; obtain ⟨g'', cap'', rfl⟩ := ownsRow_succ hown2; obtain ⟨hc5, hf5, hG5, hF5, hO5⟩ := hG4.step2 (q := x2) hown2 hgrow2)
            | (gi_at_builtin; refine wpListIn_append_own _ rfl _ _ 57 rfl w5.heap.size 3 i0 (.int .i64 0) 1 8 Try.underlying57 hi hz0 hzs1 hzs2 (by kernel_rfl) (by decide) _ _ _ rfl (hG.r1.alloc _) ⟨W.heap.size, 0, none⟩ 1 1 [iv9 x1] rfl rfl (World.news_of_block (heap_new W (.cells #[.int .i64 x1] 3))) (by simp [iv9, Value.oneCell']) (by unfold maxLen; omega) (by omega) (by simp; omega) ?_; intro v' w8 hown1 hgrow1 _; obtain ⟨g', cap', rfl⟩ := ownsRow_succ hown1; obtain ⟨hc4, hf4, hG4, hF4, hO4, hP4⟩ := hG.step1 (z := x1) hown1 hgrow1; have hz4 := hF4.size; have zz := (cell_blk hG4.z2 0).trans (show _ = some vp from rfl); have zf := free_blk hG4.z2 0; have hq4 := hP4 _ _ hB'; have hnb := heap_new (w8.setCell ⟨w5.heap.size, 0, none⟩ (.slice (some ⟨g', 0, none⟩) (l1.length + 1) cap')) (.cells #[.int .i64 (plS x2), .bool (plD x2)] 44); rw [size_set] at hnb; clear p0 p1; obtain ⟨p0, p1, _, _⟩ := blk2 hq4))
          have e1 : ((allX L a at_) ++ (pre ++ [(x1, x2)])).map (·.1) = l1 ++ [x1] := by rw [← List.append_assoc, List.map_append, HL1.out]; rfl
          have e2 : ((allX L a at_) ++ (pre ++ [(x1, x2)])).map (·.2) = l2 ++ [x2] := by rw [← List.append_assoc, List.map_append, HL2.out]; rfl
          rw [← e1, ← e2] at hG5
          exact ⟨(hO4.trans hO5).keeps (hF4.trans hF5).size, hF4.trans hF5, ⟨_, _, hG5⟩, hFG.trans ((hF4.trans hF5).mono (fun k _ h => .inr h)), fun D hD => (hO4.trans hO5) D _ (hDs D hD) rfl⟩
        case done =>
          rintro D2 W2 hD2 hG hK
          subst hA0
          clear HGO2 HCM2 HEN2
          have HG3 := hid hG
          have HK2 := hid hK
          have HD2 := hid hD2
          rw [HPARTS.out] at HG3
          clear hG hK hD2 HG2 HGA2 HK1
          go_wp2_with fail
          obtain ⟨Z3, hZ3⟩ : ∃ Z, W2.heap.size = Z := ⟨_, rfl⟩
          have hz3 := heap_new W2 (.cells #[.int .i64 0] 3)
          have HA3 := hid ((Fr.refl No W2).alloc (.cells #[.int .i64 0] 3))
          obtain ⟨W3, hW3⟩ : ∃ W, W2.alloc (.cells #[.int .i64 0] 3) = W := ⟨_, rfl⟩
          have hsz3 : W3.heap.size = Z3 + 1 := by rw [← hW3, ← hZ3]; simp
          rw [hW3] at hz3 HA3
          rw [hZ3] at hz3
          rw [hW3, hZ3]
          have hz52 : w5.heap.size ≤ Z3 := by have := HG3.out.2.1.size; omega
          have hD12 : D1 < W3.heap.size ∧ D2 < W3.heap.size := ⟨by have := lt_of_block (HG3.out.2.2 D1 (List.mem_singleton.2 rfl)); omega, by have := lt_of_block HK2.out; omega⟩
          obtain ⟨⟨vb, vp, hg3⟩, hf3, hd3⟩ := HG3.out
          have HVB : Hid (∀ k, vb.ownBlock = some k → k < Z3) := fun k hk => by obtain ⟨cs, hc⟩ := own_ty hg3.r1 hk; have := lt_of_block hc; omega
          have HGT3 : Hid (GatV w5 w5.heap.size (w5.heap.size + 1) [D1, D2] (allX L a n) vb vp W3) := by
            refine ⟨hg3.no HA3.out, hf3.trans (HA3.out.mono (fun _ _ e => e.elim)), fun D hD => ?_⟩
            rcases List.mem_cons.1 hD with rfl | hD
            · exact blk_no HA3.out (hd3 _ (List.mem_singleton.2 rfl))
            · rw [List.mem_singleton.1 hD]; exact blk_no HA3.out HK2.out
          have hIo : OwnFrom W3.heap.size (fun (pre : List (Int × Pl)) W => GatV w5 w5.heap.size (w5.heap.size + 1) [D1, D2] (allX L a n) vb vp W ∧ W.heap[Z3]? = some (.cells #[.int .i64 (pre.length : Int)] 3 (0, 0))) := fun s A C row hs hg hr => by
            have h1 := gatV_own w5 w5.heap.size (w5.heap.size + 1) [D1, D2] (allX L a n) vb vp W3.heap.size (by omega) (fun D hD => by rcases List.mem_cons.1 hD with rfl | hD; exact hD12.1; rw [List.mem_singleton.1 hD]; exact hD12.2) s A C row hs.1 hg hr
            exact ⟨h1, Own.from (block_own Z3 (fun pre : List (Int × Pl) => .cells #[.int .i64 (pre.length : Int)] 3 (0, 0)) (fun _ => rfl)) W3.heap.size s A C row hs.2 hg hr⟩
          clear hg3 hf3 hd3
          have HIO := hid hIo
          have HZ3 := hid hz3
          have HSZ3 := hid (And.intro hsz3 hz52)
          clear hIo hz3 hW3 hZ3 hsz3 hz52 HG3 HK2
          refine use_act (P := fun A => Code.wp _ _ _ A _) _ (fun A0 hA0 => ?_)
          refine wpIn_wide.1 (rangeFunc_calmN (n := 5) (gf := g3) (lb := lb3) (by rw [hA0]; rfl) HEN3.out (HCM3.out (fun k => w5.heap.size ≤ k) (fun k => w5.heap.size ≤ k) W3 (5 - 1) (HGT3.out.2.1.mono (fun k _ h => h.elim (fun h => h.elim) id)) (fun k h1 h2 h3 => by omega) (fun k h1 h2 h3 => by omega)) (by have := HSZ3.out; show w5.heap.size ≤ _; omega) (by intro _; rfl)
            (fun pre W => GatV w5 w5.heap.size (w5.heap.size + 1) [D1, D2] (allX L a n) vb vp W ∧ W.heap[Z3]? = some (.cells #[.int .i64 (pre.length : Int)] 3 (0, 0))) HIO.out ⟨HGT3.out, HZ3.out⟩
            (fun x a' W => ∃ B', W.heap[B']? = some (.cells #[.int .i64 (plS x.2), .bool (plD x.2)] 44 (0, 0)) ∧ a' = ⟨(((A0.tmps.setIfInBounds 142 (.int .i64 x.1)).setIfInBounds 143 (plA x.2)).setIfInBounds 20 (.int .i64 x.1)).setIfInBounds 21 (.pointer (some ⟨B', 0, none⟩)), []⟩)
            (fun x a' s X Y row hs hg hrow => by
              obtain ⟨B', hB', e⟩ := hs
              exact ⟨B', Own.from (block_own (β := Unit) B' (fun _ => .cells #[.int .i64 (plS x.2), .bool (plD x.2)] 44 (0, 0)) (fun _ => rfl)) W3.heap.size () X Y row hB' hg hrow, e⟩) ?assign ?body ?done)
          case assign =>
            intro l pre x W K hI hK
            have hK2 := hid (fun a' e => hK a' (W.alloc (.cells #[.int .i64 (plS x.2), .bool (plD x.2)] 44)) ((KeepsOthers.alloc W _).from _) ((Fr.refl _ W).alloc _) (HIO.out.alloc _ hI) ⟨W.heap.size, heap_new W _, e⟩)
            clear hI hK
            obtain ⟨x1, x2⟩ := x
            subst hA0
            simp only [plA] at hK2 ⊢
            gi_wp2
            refine hK2.out _ ?_
            simp only [List.setIfInBounds_toArray, List.set_cons_zero, List.set_cons_succ]
          case body =>
            rintro l pre x a' W ⟨hGW, hn⟩ ⟨B', hB', rfl⟩ hpre
            obtain ⟨hG, hFG, hDs⟩ := id hGW
            obtain ⟨x1, x2⟩ := x
            subst hA0
            simp only [plA, List.setIfInBounds_toArray, List.set_cons_zero, List.set_cons_succ]
            obtain ⟨k, hk⟩ : ∃ k, pre.length = k := ⟨_, rfl⟩
            have hlt : k < (allX L a n).length := by
              have := hpre.length_le
              rw [List.length_append, List.length_singleton, hk] at this; omega
            have hge : (allX L a n)[k]? = some (x1, x2) := by
              obtain ⟨t, ht⟩ := hpre
              rw [← ht, List.append_assoc, List.getElem?_append_right (by omega), hk, Nat.sub_self]; rfl
            have hl12 := HLEN.out
            obtain ⟨va, vc, hva⟩ := own_form hG.r1
            obtain ⟨vd, ve, hvd⟩ := own_form hG.r2
            have hml1 : ((allX L a n).map (·.1)).length = (allX L a n).length := List.length_map ..
            have hml2 : ((allX L a n).map (·.2)).length = (allX L a n).length := List.length_map ..
            obtain ⟨m, hm⟩ : ∃ m, (allX L a n).length = m := ⟨_, rfl⟩
            have r1 := hG.r1
            have r2 := hG.r2
            rw [hml1, hm] at r1 hva
            rw [hml2, hm] at r2 hvd
            subst hva
            subst hvd
            obtain ⟨ga, ca, hf1, _⟩ := r1.form (by omega)
            obtain ⟨rfl, rfl⟩ : va = some ⟨ga, 0, none⟩ ∧ vc = ca := by injection hf1 with e1 _ e3; exact ⟨e1, e3⟩
            obtain ⟨gb, cb, hf2, _⟩ := r2.form (by omega)
            obtain ⟨rfl, rfl⟩ : vd = some ⟨gb, 0, none⟩ ∧ ve = cb := by injection hf2 with e1 _ e3; exact ⟨e1, e3⟩
            have c1 := (cell_blk hG.z1 0).trans (show _ = some (Value.slice (some ⟨ga, 0, none⟩) m vc) from rfl)
            have c2 := (cell_blk hG.z2 0).trans (show _ = some (Value.slice (some ⟨gb, 0, none⟩) m ve) from rfl)
            have c3 := (cell_blk hn 0).trans (show _ = some (Value.int .i64 (pre.length : Int)) from rfl)
            rw [hk] at c3
            have e1 := (own_cells r1).1 k (.int .i64 x1) (by rw [List.getElem?_map, List.getElem?_map, hge]; rfl)
            have hg2 : ((allX L a n).map (·.2))[k]? = some x2 := by rw [List.getElem?_map, hge]; rfl
            have hk2 : k < ((allX L a n).map (·.2)).length := (List.getElem?_eq_some_iff.1 hg2).1
            have hx2 : ((allX L a n).map (·.2))[k] = x2 := (List.getElem?_eq_some_iff.1 hg2).2
            have e2 := (own_cells r2).1 (k * 2 + 0) (.int .i64 (plS x2)) (by rw [flat_get plV 2 _ (fun x _ => plV_len x) k hk2 0 (by omega), hx2, plV_eq]; rfl)
            have e3 := (own_cells r2).1 (k * 2 + 1) (.bool (plD x2)) (by rw [flat_get plV 2 _ (fun x _ => plV_len x) k hk2 1 (by omega), hx2, plV_eq]; rfl)
            rw [Nat.add_zero] at e2
            obtain ⟨p0, p1, _, _⟩ := blk2 hB'
            rw [hm] at hlt
            have hki : (k : Int) < (m : Int) := by omega
            have hkm : (k : Int) ≤ 12 := by omega
            have HGW := hid hGW
            have HN := hid hn
            have HKK := hid hk
            have c3f := free_blk hn 0
            have hs0 : decide (m ≤ k) = false := by simp; omega
            have hs1 : decide ((m : Int) ≤ (k : Int)) = false := by simp; omega
            clear hGW hn hk hFG hDs hpre hge hG r1 r2 hf1 hf2 hg2 hx2 hk2 hml1 hml2 hm
            gi_wp2
            refine wpIn_region_round (S := fun W => W.cell? ⟨Z3, 0, none⟩ = some (.int .i64 (k : Int)) ∧ W.cell? ⟨w5.heap.size, 0, none⟩ = some (.slice (some ⟨ga, 0, none⟩) m vc) ∧ W.cell? ⟨ga, k, none⟩ = some (.int .i64 x1) ∧ W.cell? ⟨w5.heap.size + 1, 0, none⟩ = some (.slice (some ⟨gb, 0, none⟩) m ve) ∧ W.cell? ⟨gb, k * 2, none⟩ = some (.int .i64 (plS x2)) ∧ W.cell? ⟨gb, k * 2 + 1, none⟩ = some (.bool (plD x2)) ∧ W.cell? ⟨B', 0, none⟩ = some (.int .i64 (plS x2)) ∧ W.cell? ⟨B', 1, none⟩ = some (.bool (plD x2))) (by kernel_rfl) (by kernel_rfl) ?hQ ⟨c3, c1, e1, c2, e2, e3, p0, p1⟩ (fun hHeld => ?_)
            case hQ => rintro ⟨_, _, h⟩; exact Exit.noConfusion h.1
            refine wpAnyH_take (i := 0) (v := ?_) rfl (by kernel_rfl) (by kernel_rfl) (by kernel_rfl) (fun _ _ _ h => h) (Or.inl ⟨by rfl, ?_⟩) hHeld ?_
            rotate_left
            · intro w hSw; obtain ⟨u0, u1, u2, u3, u4, u5, u6, u7⟩ := hSw
              go_simp
              with_reducible rfl
            try simp only [Act.put, List.getElem_toArray, List.getElem_cons_zero, List.getElem_cons_succ, List.setIfInBounds_toArray, List.set_cons_zero, List.set_cons_succ]
            refine wpAnyH_take (i := 1) (v := ?_) rfl (by kernel_rfl) (by kernel_rfl) (by kernel_rfl) (fun _ _ _ h => h) (Or.inl ⟨by rfl, ?_⟩) hHeld ?_
            rotate_left
            · intro w hSw; obtain ⟨u0, u1, u2, u3, u4, u5, u6, u7⟩ := hSw
              go_simp
              with_reducible rfl
            try simp only [Act.put, List.getElem_toArray, List.getElem_cons_zero, List.getElem_cons_succ, List.setIfInBounds_toArray, List.set_cons_zero, List.set_cons_succ]
            refine wpAnyH_take (i := 2) (v := ?_) rfl (by kernel_rfl) (by kernel_rfl) (by kernel_rfl) (fun _ _ _ h => h) (Or.inl ⟨by rfl, ?_⟩) hHeld ?_
            rotate_left
            · intro w hSw
              go_simp
              with_reducible rfl
            try simp only [Act.put, List.getElem_toArray, List.getElem_cons_zero, List.getElem_cons_succ, List.setIfInBounds_toArray, List.set_cons_zero, List.set_cons_succ]
            refine wpAnyH_take (i := 3) (v := ?_) rfl (by kernel_rfl) (by kernel_rfl) (by kernel_rfl) (fun _ _ _ h => h) (Or.inl ⟨by rfl, ?_⟩) hHeld ?_
            rotate_left
            · intro w hSw
              go_simp
              with_reducible rfl
            try simp only [Act.put, List.getElem_toArray, List.getElem_cons_zero, List.getElem_cons_succ, List.setIfInBounds_toArray, List.set_cons_zero, List.set_cons_succ]
            refine wpAnyH_take (i := 4) (v := ?_) rfl (by kernel_rfl) (by kernel_rfl) (by kernel_rfl) (fun _ _ _ h => h) (Or.inl ⟨by rfl, ?_⟩) hHeld ?_
            rotate_left
            · intro w hSw
              go_simp
              with_reducible rfl
            try simp only [Act.put, List.getElem_toArray, List.getElem_cons_zero, List.getElem_cons_succ, List.setIfInBounds_toArray, List.set_cons_zero, List.set_cons_succ]
            refine wpAnyH_take (i := 5) (v := ?_) rfl (by kernel_rfl) (by kernel_rfl) (by kernel_rfl) (fun _ _ _ h => h) (Or.inl ⟨by rfl, ?_⟩) hHeld ?_
            rotate_left
            · intro w hSw; obtain ⟨u0, u1, u2, u3, u4, u5, u6, u7⟩ := hSw
              go_simp
              with_reducible rfl
            try simp only [Act.put, List.getElem_toArray, List.getElem_cons_zero, List.getElem_cons_succ, List.setIfInBounds_toArray, List.set_cons_zero, List.set_cons_succ]
            refine wpAnyH_take (i := 6) (v := ?_) rfl (by kernel_rfl) (by kernel_rfl) (by kernel_rfl) (fun _ _ _ h => h) (Or.inl ⟨by rfl, ?_⟩) hHeld ?_
            rotate_left
            · intro w hSw; obtain ⟨u0, u1, u2, u3, u4, u5, u6, u7⟩ := hSw
              go_simp
              with_reducible rfl
            try simp only [Act.put, List.getElem_toArray, List.getElem_cons_zero, List.getElem_cons_succ, List.setIfInBounds_toArray, List.set_cons_zero, List.set_cons_succ]
            refine wpAnyH_take (i := 7) (v := ?_) rfl (by kernel_rfl) (by kernel_rfl) (by kernel_rfl) (fun _ _ _ h => h) (Or.inl ⟨by rfl, ?_⟩) hHeld ?_
            rotate_left
            · intro w hSw
              go_simp
              with_reducible rfl
            try simp only [Act.put, List.getElem_toArray, List.getElem_cons_zero, List.getElem_cons_succ, List.setIfInBounds_toArray, List.set_cons_zero, List.set_cons_succ]
            refine wpAnyH_take (i := 8) (v := ?_) rfl (by kernel_rfl) (by kernel_rfl) (by kernel_rfl) (fun _ _ _ h => h) (Or.inl ⟨by rfl, ?_⟩) hHeld ?_
            rotate_left
            · intro w hSw; obtain ⟨u0, u1, u2, u3, u4, u5, u6, u7⟩ := hSw
              go_simp
              with_reducible rfl
            try simp only [Act.put, List.getElem_toArray, List.getElem_cons_zero, List.getElem_cons_succ, List.setIfInBounds_toArray, List.set_cons_zero, List.set_cons_succ]
            refine wpAnyH_take (i := 9) (v := ?_) rfl (by kernel_rfl) (by kernel_rfl) (by kernel_rfl) (fun _ _ _ h => h) (Or.inl ⟨by rfl, ?_⟩) hHeld ?_
            rotate_left
            · intro w hSw
              go_simp
              with_reducible rfl
            try simp only [Act.put, List.getElem_toArray, List.getElem_cons_zero, List.getElem_cons_succ, List.setIfInBounds_toArray, List.set_cons_zero, List.set_cons_succ]
            refine wpAnyH_take (i := 10) (v := ?_) rfl (by kernel_rfl) (by kernel_rfl) (by kernel_rfl) (fun _ _ _ h => h) (Or.inl ⟨by rfl, ?_⟩) hHeld ?_
            rotate_left
            · intro w hSw
              go_simp
              with_reducible rfl
            try simp only [Act.put, List.getElem_toArray, List.getElem_cons_zero, List.getElem_cons_succ, List.setIfInBounds_toArray, List.set_cons_zero, List.set_cons_succ]
            refine wpAnyH_take (i := 11) (v := ?_) rfl (by kernel_rfl) (by kernel_rfl) (by kernel_rfl) (fun _ _ _ h => h) (Or.inl ⟨by rfl, ?_⟩) hHeld ?_
            rotate_left
            · intro w hSw
              go_simp
              with_reducible rfl
            try simp only [Act.put, List.getElem_toArray, List.getElem_cons_zero, List.getElem_cons_succ, List.setIfInBounds_toArray, List.set_cons_zero, List.set_cons_succ]
            refine wpAnyH_take (i := 12) (v := ?_) rfl (by kernel_rfl) (by kernel_rfl) (by kernel_rfl) (fun _ _ _ h => h) (Or.inl ⟨by rfl, ?_⟩) hHeld ?_
            rotate_left
            · intro w hSw
              go_simp
              with_reducible rfl
            try simp only [Act.put, List.getElem_toArray, List.getElem_cons_zero, List.getElem_cons_succ, List.setIfInBounds_toArray, List.set_cons_zero, List.set_cons_succ]
            refine wpAnyH_take (i := 13) (v := ?_) rfl (by kernel_rfl) (by kernel_rfl) (by kernel_rfl) (fun _ _ _ h => h) (Or.inl ⟨by rfl, ?_⟩) hHeld ?_
            rotate_left
            · intro w hSw; obtain ⟨u0, u1, u2, u3, u4, u5, u6, u7⟩ := hSw
              go_simp
              with_reducible rfl
            try simp only [Act.put, List.getElem_toArray, List.getElem_cons_zero, List.getElem_cons_succ, List.setIfInBounds_toArray, List.set_cons_zero, List.set_cons_succ]
            refine wpAnyH_take (i := 14) (v := ?_) rfl (by kernel_rfl) (by kernel_rfl) (by kernel_rfl) (fun _ _ _ h => h) (Or.inl ⟨by rfl, ?_⟩) hHeld ?_
            rotate_left
            · intro w hSw; obtain ⟨u0, u1, u2, u3, u4, u5, u6, u7⟩ := hSw
              go_simp
              with_reducible rfl
            try simp only [Act.put, List.getElem_toArray, List.getElem_cons_zero, List.getElem_cons_succ, List.setIfInBounds_toArray, List.set_cons_zero, List.set_cons_succ]
            refine wpAnyH_take (i := 15) (v := ?_) rfl (by kernel_rfl) (by kernel_rfl) (by kernel_rfl) (fun _ _ _ h => h) (Or.inl ⟨by rfl, ?_⟩) hHeld ?_
            rotate_left
            · intro w hSw
              go_simp
              with_reducible rfl
            try simp only [Act.put, List.getElem_toArray, List.getElem_cons_zero, List.getElem_cons_succ, List.setIfInBounds_toArray, List.set_cons_zero, List.set_cons_succ]
            refine wpAnyH_take (i := 16) (v := ?_) rfl (by kernel_rfl) (by kernel_rfl) (by kernel_rfl) (fun _ _ _ h => h) (Or.inl ⟨by rfl, ?_⟩) hHeld ?_
            rotate_left
            · intro w hSw; obtain ⟨u0, u1, u2, u3, u4, u5, u6, u7⟩ := hSw
              go_simp
              with_reducible rfl
            try simp only [Act.put, List.getElem_toArray, List.getElem_cons_zero, List.getElem_cons_succ, List.setIfInBounds_toArray, List.set_cons_zero, List.set_cons_succ]
            refine wpAnyH_take (i := 17) (v := ?_) rfl (by kernel_rfl) (by kernel_rfl) (by kernel_rfl) (fun _ _ _ h => h) (Or.inl ⟨by rfl, ?_⟩) hHeld ?_
            rotate_left
            · intro w hSw; obtain ⟨u0, u1, u2, u3, u4, u5, u6, u7⟩ := hSw
              go_simp
              with_reducible rfl
            try simp only [Act.put, List.getElem_toArray, List.getElem_cons_zero, List.getElem_cons_succ, List.setIfInBounds_toArray, List.set_cons_zero, List.set_cons_succ]
            refine wpAnyH_take (i := 18) (v := ?_) rfl (by kernel_rfl) (by kernel_rfl) (by kernel_rfl) (fun _ _ _ h => h) (Or.inl ⟨by rfl, ?_⟩) hHeld ?_
            rotate_left
            · intro w hSw
              go_simp
              with_reducible rfl
            try simp only [Act.put, List.getElem_toArray, List.getElem_cons_zero, List.getElem_cons_succ, List.setIfInBounds_toArray, List.set_cons_zero, List.set_cons_succ]
            refine wpAnyH_take (i := 19) (v := ?_) rfl (by kernel_rfl) (by kernel_rfl) (by kernel_rfl) (fun _ _ _ h => h) (Or.inl ⟨by rfl, ?_⟩) hHeld ?_
            rotate_left
            · intro w hSw
              go_simp
              with_reducible rfl
            try simp only [Act.put, List.getElem_toArray, List.getElem_cons_zero, List.getElem_cons_succ, List.setIfInBounds_toArray, List.set_cons_zero, List.set_cons_succ]
            refine wpAnyH_done (by kernel_rfl) ?_ _
            gi_wp2
            have hfs := (Fr.set1 W Z3 0 (.int .i64 ((k : Int) + 1))).drew
            obtain ⟨hG, hFG, hDs⟩ := HGW.out
            have hoth : Oth W (W.setCell ⟨Z3, 0, none⟩ (.int .i64 ((k : Int) + 1))).drew := Oth.of hfs (fun j e => ⟨.cells #[.int .i64 (pre.length : Int)] 3 (0, 0), by rw [show j = Z3 from e]; exact HN.out, rfl⟩)
            have hT : Fr (fun j => w5.heap.size ≤ j) W (W.setCell ⟨Z3, 0, none⟩ (.int .i64 ((k : Int) + 1))).drew := hfs.mono (fun j _ e => by have e' : j = Z3 := e; have := HSZ3.out.2; show w5.heap.size ≤ j; omega)
            refine ⟨hoth.keeps hfs.size, hT, ⟨hG.fr hfs (fun e => ne_ty hG.z1 HN.out (by decide) e) (fun e => ne_ty hG.z2 HN.out (by decide) e) (fun j hj e => by have e' : j = Z3 := e; have := HVB.out j hj; omega) (fun j hj e => by obtain ⟨cs, hc⟩ := own_ty hG.r2 hj; exact ne_ty hc HN.out (by decide) e), hFG.trans (hT.mono (fun _ _ h => .inr h)), fun D hD => hoth D _ (hDs D hD) rfl⟩, ?_⟩
            have := set_blk HN.out 0 (.int .i64 ((k : Int) + 1))
            rw [HKK.out]
            exact this
          case done =>
            rintro D3 W4 hD3 ⟨hGW, hn⟩ hK
            subst hA0
            obtain ⟨hG, hFG, hDs⟩ := hGW
            obtain ⟨va, vc, hva⟩ := own_form hG.r1
            have hml1 : ((allX L a n).map (·.1)).length = (allX L a n).length := List.length_map ..
            obtain ⟨m, hm⟩ : ∃ m, (allX L a n).length = m := ⟨_, rfl⟩
            have hm12 := HLEN.out
            rw [hm] at hn hm12
            rw [hml1, hm] at hva
            subst hva
            have c1 := (cell_blk hG.z1 0).trans (show _ = some (Value.slice va m vc) from rfl)
            have c3 := (cell_blk hn 0).trans (show _ = some (Value.int .i64 (m : Int)) from rfl)
            have hrl := lt_of_block HRB5.out
            have HRW := hid ((hFG.block (w.heap.size + 1) hrl (fun h => h.elim id (by omega))).trans HRB5.out)
            have HFW := hid (HF5.out.then hFG (fun i hi h => absurd hi (by rcases h with h | h; exact h.elim; omega)))
            have HK3 := hid hK
            have HKA := hid (hDs D1 (by simp))
            have HKB := hid (hDs D2 (by simp))
            have HD3 := hid hD3
            clear hG hFG hDs hn hK hD3 hml1 hm
            go_wp2_with (go_at_call 9; refine (ix_awake _).mono ?_; rintro e w9 ⟨rfl, hF⟩; have HF9 := hid (HFW.out.trans hF); have HRB9 := hid (blk_no hF HRW.out); have HA9 := hid (blk_no hF HKA.out); have HB9 := hid (blk_no hF HKB.out); have HC9 := hid (blk_no hF HK3.out); have z0 := (cell_blk HRB9.out 0).trans (show _ = some (Value.bool false) from rfl); have z1 := free_blk HRB9.out 0; clear hF)
            have hset := Fr.set1 w9 (w.heap.size + 1) 0 (.bool true)
            have hdf : ∀ D : Nat, w9.heap[D]? = some (Obj.deferred (some [])) → (w9.setCell ⟨w.heap.size + 1, 0, none⟩ (.bool true)).heap[D]? = some (Obj.deferred (some [])) := fun D h => (hset.block D (lt_of_block h) (fun e => by have e' : D = w.heap.size + 1 := e; rw [e', HRB9.out] at h; cases h)).trans h
            have hk3 := hdf D3 HC9.out
            have hk2 := hdf D2 HB9.out
            have hk1 := hdf D1 HA9.out
            have hb := set_blk HRB9.out 0 (.bool true)
            obtain ⟨W9, hW9⟩ : ∃ W9, w9.setCell ⟨w.heap.size + 1, 0, none⟩ (.bool true) = W9 := ⟨_, rfl⟩
            have hfin : Fr No w W9 := by rw [← hW9]; exact HF9.out.then hset (fun i hi e => absurd hi (by have e' : i = w.heap.size + 1 := e; omega))
            rw [hW9] at hk3 hk2 hk1 hb
            rw [hW9]
            have hn31 : D1 ≠ D3 := by have := HD3.out; omega
            have hn32 : D2 ≠ D3 := by have := HD3.out; omega
            have hn21 : D1 ≠ D2 := by have := HD2.out; have := HDL2.out D1 (List.mem_singleton.2 rfl); omega
            have hnb3 : w.heap.size + 1 ≠ D3 := fun e => by rw [← e, hb] at hk3; cases hk3
            have hnb2 : w.heap.size + 1 ≠ D2 := fun e => by rw [← e, hb] at hk2; cases hk2
            have hnb1 : w.heap.size + 1 ≠ D1 := fun e => by rw [← e, hb] at hk1; cases hk1
            refine ⟨by simp, .inl ⟨_, _, rfl, run_takeDeferred hk3, ?_⟩⟩
            have hk2' := (World.putObj_heap_other (o := Obj.deferred none) hn32).trans hk2
            have hk1' := (World.putObj_heap_other (o := Obj.deferred none) hn31).trans hk1
            have hb' := (World.putObj_heap_other (o := Obj.deferred none) hnb3).trans hb
            have hfin' := hfin.put D3 (Obj.deferred none) (fun h => absurd h (by have := HD3.out; have := HSZ3.out; have := HF5.out.size; omega))
            refine ⟨by simp, .inl ⟨_, _, rfl, run_takeDeferred hk2', ?_⟩⟩
            have hk1'' := (World.putObj_heap_other (o := Obj.deferred none) hn21).trans hk1'
            have hb'' := (World.putObj_heap_other (o := Obj.deferred none) hnb2).trans hb'
            have hfin'' := hfin'.put D2 (Obj.deferred none) (fun h => absurd h (by have := HD2.out; have := HGS2.out; have := HF5.out.size; omega))
            refine ⟨by simp, .inl ⟨_, _, rfl, run_takeDeferred hk1'', ?_⟩⟩
            have hb3 := (World.putObj_heap_other (o := Obj.deferred none) hnb1).trans hb''
            have hfin3 := hfin''.put D1 (Obj.deferred none) (fun h => absurd h (by have := HD1.out; have := HGS1.out; have := HF5.out.size; omega))
            have e0 := (cell_blk hb3 0).trans (show _ = some (Value.bool true) from rfl)
            refine ⟨.bool true, ?_, rfl, hfin3⟩
            simp [results, Try.f8, go_sem, e0]
end Go.Proofs.Ytfggllhflibfcaa
