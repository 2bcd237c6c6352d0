/- The law IndexOne. -/
import Derived.Test.YtfggllhflibfcaaIxV
namespace Go.Proofs.Ytfggllhflibfcaa
open Go.RowKit Go.Shelf Go.Maps

/-- the slots that have been seen -/
def seenB (L : List Pl) (k : Nat) (s : Nat) : Bool := (L.take k).any (isAt (s : Int))
def seenA (L : List Pl) (k : Nat) : Array Value := ((List.range 6).map fun s => Value.bool (seenB L k s)).toArray
theorem seenA_zero (L : List Pl) : seenA L 0 = #[.bool false, .bool false, .bool false, .bool false, .bool false, .bool false] := by
  simp only [seenA, seenB, List.take_zero, List.any_nil]; rfl
theorem seenA_at (L : List Pl) (k x : Nat) (hx : x < 6) : (seenA L k)[x]? = some (.bool (seenB L k x)) := by
  simp [seenA, hx]
theorem seenB_succ (L : List Pl) (k : Nat) (hk : k < L.length) (s : Nat) : seenB L (k + 1) s = (seenB L k s || isAt (s : Int) L[k]) := by
  unfold seenB; rw [List.take_succ_eq_append_getElem hk, List.any_append]; simp
theorem seenA_none (L : List Pl) (k : Nat) (hk : k < L.length) (h : L[k] = none) : seenA L (k + 1) = seenA L k := by
  unfold seenA
  congr 1
  apply List.map_congr_left
  intro s _
  rw [seenB_succ L k hk, h]; simp [isAt]
theorem seenA_some (L : List Pl) (k x : Nat) (d : Bool) (hk : k < L.length) (h : L[k] = some (x, d)) : seenA L (k + 1) = (seenA L k).setIfInBounds x (.bool true) := by
  unfold seenA
  rw [List.setIfInBounds_toArray]
  congr 1
  apply List.ext_getElem?
  intro j
  rw [List.getElem?_map, List.getElem?_set, List.getElem?_map]
  by_cases hj : j < 6
  · rw [List.getElem?_range hj]
    simp only [Option.map_some]
    by_cases e : x = j
    · subst e
      rw [if_pos rfl, if_pos (by simpa using hj), seenB_succ L k hk, h]
      simp [isAt]
    · rw [if_neg e, seenB_succ L k hk, h]
      have : isAt (j : Int) (some (x, d)) = false := by simp [isAt]; omega
      rw [this, Bool.or_false]
  · have h1 : (List.range 6)[j]? = none := by rw [List.getElem?_eq_none]; simp; omega
    rw [h1]
    split
    · rw [if_neg (by simp; omega)]; rfl
    · rfl
theorem seenB_fresh (L : List Pl) (k x : Nat) (d : Bool) (hU : Uniq L) (hk : k < L.length) (h : L[k] = some (x, d)) : seenB L k x = false := by
  unfold seenB
  rw [List.any_eq_false]
  intro q hq
  obtain ⟨j, hj, e⟩ := List.getElem_of_mem hq
  rw [List.length_take] at hj
  rw [List.getElem_take] at e
  intro ha
  obtain ⟨y, d', hy, hyx⟩ := isAt_iff.1 ha
  obtain rfl : y = x := by omega
  have := hU j k y d' d (by rw [List.getElem?_eq_getElem (by omega), e, hy]) (by rw [List.getElem?_eq_getElem hk, h])
  omega
theorem seenB_all (L : List Pl) (s : Nat) : seenB L L.length s = (atS L s).isSome := by
  unfold seenB atS
  rw [List.take_length, List.findIdx?_isSome]
theorem atI_here {L : List Pl} (hU : Uniq L) {k x : Nat} {d : Bool} (hk : k < L.length) (h : L[k] = some (x, d)) (hx : x < 6) : atI L 6 x = ((k : Int), 0) := by
  unfold atI
  rw [if_pos ⟨by omega, by omega⟩, atS_of hU (by rw [List.getElem?_eq_getElem hk, h])]
theorem atI_some {L : List Pl} {s i : Nat} (hs : s < 6) (h : atS L s = some i) : atI L 6 s = ((i : Int), 0) := by
  unfold atI
  rw [if_pos ⟨by omega, by omega⟩, h]
theorem atI_none {L : List Pl} {s : Nat} (hs : s < 6) (h : atS L s = none) : atI L 6 s = (0, 14) := by
  unfold atI
  rw [if_pos ⟨by omega, by omega⟩, h]
theorem count_succ (L : List Pl) (t : Pl → Bool) (k : Nat) (hk : k < L.length) : (L.take (k + 1)).countP t = (L.take k).countP t + if t L[k] then 1 else 0 := by
  rw [List.take_succ_eq_append_getElem hk, List.countP_append]; simp [List.countP_cons]
theorem count_le (L : List Pl) (t : Pl → Bool) (k : Nat) : (L.take k).countP t ≤ k := Nat.le_trans List.countP_le_length (by rw [List.length_take]; omega)
set_option maxRecDepth 1000000 in
set_option maxHeartbeats 4000000 in
theorem law_IndexOne (w : World) (r : SRow) (hr : r.Ok w op9Sh) :
    Calls Try.prog 4 #[r.v] w fun e w' => e = .returned (.bool true) ∧ Fr No w w' := by
  obtain ⟨xs, hv, hE, hxw⟩ := ops9_of hr
  rw [hv]
  obtain ⟨ra, hra⟩ : ∃ ra, r.a = ra := ⟨_, rfl⟩
  obtain ⟨rc, hrc⟩ : ∃ rc, r.cap = rc := ⟨_, rfl⟩
  rw [hra] at hE
  rw [hra, hrc]
  have HE := hid hE
  have HXW := hid hxw
  clear hv hr hra hrc hE hxw
  have HF0 := hid (Fr.refl No w)
  by_cases h80 : xs.length ≤ 80
  case neg =>
    have h80' : 80 < (xs.length : Int) := by omega
    go_enter Try.func4, Try.ntmps4
    go_wp2_with (first
      | (go_at_call 10; refine (ix_New _ 12 6 (by decide) (by decide) (by decide) (by decide)).mono ?_; rintro e w1 ⟨p, S, rfl, -, -, hF⟩; have HF := hid (HF0.out.trans hF); clear hF)
      | (go_at_call 9; refine (ix_awake _).mono ?_; rintro e w2 ⟨rfl, hF⟩; have HF2 := hid (HF.out.trans hF); clear hF))
    go_ret
    exact ⟨rfl, HF2.out⟩
  have h80' : (xs.length : Int) ≤ 80 := by omega
  go_enter Try.func4, Try.ntmps4
  go_wp2_with (go_at_call 10; refine (ix_New _ 12 6 (by decide) (by decide) (by decide) (by decide)).mono ?_; rintro e w1 ⟨p, S, rfl, hI, hS, hF⟩; have HI := hid hI; have HS := hid (fun k hk => Nat.le_trans HF0.out.size (hS k hk)); have HF := hid (HF0.out.trans hF); clear hI hS hF)
  go_loopg [5] xs.length (fun g i wr => ∃ k : Nat, k + g = xs.length ∧ i = .int .i64 k ∧ Hid (Ix wr p S (runI xs k) 6 k) ∧ Hid (Fr No w wr))
  case atStart => exact ⟨0, by omega, rfl, HI, HF⟩
  case round =>
    obtain ⟨k, hk, rfl, HI, HF⟩ := hrel
    cases gk with
    | succ gk =>
      have hkm : k < xs.length := by omega
      have hki : (k : Int) < (xs.length : Int) := by omega
      obtain ⟨b, o, rfl, hb, a0, a1, a2, a3⟩ := HE.out.op9 k hkm
      have hwf := HXW.out _ (List.getElem_mem hkm)
      have HRN := hid (runI_succ xs k hkm)
      obtain ⟨op, hop⟩ : ∃ op, xs[k] = op := ⟨_, rfl⟩
      rw [hop] at a0 a1 a2 a3 hwf HRN
      have hc0 := And.intro ((HF.out.cell (p := ⟨b, o + k * 4, none⟩) hb id).trans a0) (And.intro ((HF.out.cell (p := ⟨b, o + k * 4 + 1, none⟩) hb id).trans a1) (And.intro ((HF.out.cell (p := ⟨b, o + k * 4 + 2, none⟩) hb id).trans a2) ((HF.out.cell (p := ⟨b, o + k * 4 + 3, none⟩) hb id).trans a3)))
      have HB := hid (HF.out.lt hb)
      clear hop a0 a1 a2 a3
      go_wp2_with fail
      refine wp_region_held_drew (S := fun W => W.cell? ⟨b, o + k * 4, none⟩ = some (.int .i64 op.ask) ∧ W.cell? ⟨b, o + k * 4 + 1, none⟩ = some (.int .i64 op.blk) ∧ W.cell? ⟨b, o + k * 4 + 2, none⟩ = some (.int .i64 op.slot) ∧ W.cell? ⟨b, o + k * 4 + 3, none⟩ = some (.bool op.dirt)) (by kernel_rfl) hc0 (fun hHeld => ?_)
      refine wpAnyH_take (i := 0) (v := ?_) rfl (by kernel_rfl) (by kernel_rfl) (by kernel_rfl) (fun _ _ _ h => h) (Or.inl ⟨by rfl, ?_⟩) hHeld ?_
      rotate_left
      · intro w hSw
        go_simp
        with_reducible rfl
      try simp only [Act.put, List.getElem_toArray, List.getElem_cons_zero, List.getElem_cons_succ, List.setIfInBounds_toArray, List.set_cons_zero, List.set_cons_succ]
      refine wpAnyH_take (i := 2) (v := ?_) rfl (by kernel_rfl) (by kernel_rfl) (by kernel_rfl) (fun _ _ _ h => h) (Or.inl ⟨by rfl, ?_⟩) hHeld ?_
      rotate_left
      · intro w hSw
        go_simp
        with_reducible rfl
      try simp only [Act.put, List.getElem_toArray, List.getElem_cons_zero, List.getElem_cons_succ, List.setIfInBounds_toArray, List.set_cons_zero, List.set_cons_succ]
      refine wpAnyH_take (i := 3) (v := ?_) rfl (by kernel_rfl) (by kernel_rfl) (by kernel_rfl) (fun _ _ _ h => h) (Or.inl ⟨by rfl, ?_⟩) hHeld ?_
      rotate_left
      · intro w hSw
        go_simp
        with_reducible rfl
      try simp only [Act.put, List.getElem_toArray, List.getElem_cons_zero, List.getElem_cons_succ, List.setIfInBounds_toArray, List.set_cons_zero, List.set_cons_succ]
      refine wpAnyH_take (i := 4) (v := ?_) rfl (by kernel_rfl) (by kernel_rfl) (by kernel_rfl) (fun _ _ _ h => h) (Or.inl ⟨by rfl, ?_⟩) hHeld ?_
      rotate_left
      · intro w hSw
        go_simp
        with_reducible rfl
      try simp only [Act.put, List.getElem_toArray, List.getElem_cons_zero, List.getElem_cons_succ, List.setIfInBounds_toArray, List.set_cons_zero, List.set_cons_succ]
      refine wpAnyH_take (i := 5) (v := ?_) rfl (by kernel_rfl) (by kernel_rfl) (by kernel_rfl) (fun _ _ _ h => h) (Or.inl ⟨by rfl, ?_⟩) hHeld ?_
      rotate_left
      · intro w hSw; obtain ⟨u0, u1, u2, u3⟩ := hSw
        go_simp
        with_reducible rfl
      try simp only [Act.put, List.getElem_toArray, List.getElem_cons_zero, List.getElem_cons_succ, List.setIfInBounds_toArray, List.set_cons_zero, List.set_cons_succ]
      refine wpAnyH_ready (rs := [1]) (by kernel_rfl) (by simp) ?_
      refine AllReadyH.cons rfl (fun K hK => ?_) AllReadyH.nil
      rw [if_pos (by rfl)]
      go_simp
      refine (rf_New _ 12 6 (by decide)).mono ?_
      rintro e w2 ⟨q, T, rfl, hR, hT, hF⟩
      have HR := hid hR
      have HT := hid hT
      have HF2 := hid ((Fr.refl No wr).drew.trans hF)
      have HI2 := hid (HI.out.no HF2.out)
      have hc1 := And.intro ((HF2.out.cell (p := ⟨b, o + k * 4, none⟩) HB.out id).trans hc0.1) (And.intro ((HF2.out.cell (p := ⟨b, o + k * 4 + 1, none⟩) HB.out id).trans hc0.2.1) (And.intro ((HF2.out.cell (p := ⟨b, o + k * 4 + 2, none⟩) HB.out id).trans hc0.2.2.1) ((HF2.out.cell (p := ⟨b, o + k * 4 + 3, none⟩) HB.out id).trans hc0.2.2.2)))
      refine hK.out _ _ hc1 (fun hHeld => ?_)
      clear hK K hF hR hT hc0
      try simp only [Act.put, List.getElem_toArray, List.getElem_cons_zero, List.getElem_cons_succ, List.setIfInBounds_toArray, List.set_cons_zero, List.set_cons_succ]
      refine wpAnyH_ready (rs := [6]) (by kernel_rfl) (by simp) ?_
      refine AllReadyH.cons rfl (fun K hK => ?_) AllReadyH.nil
      rw [if_pos (by rfl)]
      go_simp
      refine (ix_does w2 p q 6 6 k S T _ _ HI2.out HR.out (fun j h1 h2 => by have h3 := HI.out.lt j h1; have h4 := HT.out j h2; simp at h4; omega) (by simp) op hwf (by omega)).mono ?_
      rintro e w3 ⟨bb, rfl, hI, -, hF, -⟩
      rw [← HRN.out] at hI
      have HI3 := hid hI
      have HF3 := hid ((HF.out.trans HF2.out).then hF (fun i hi h => absurd hi (by rcases h with h | h; exact Nat.not_lt.2 (HS.out i h); have h4 := HT.out i h; have h5 := HF.out.size; simp at h4; omega)))
      refine hK.out _ _ ⟨(hF.cell (p := ⟨b, o + k * 4, none⟩) (HF2.out.lt HB.out) (ix_old HS.out HT.out hb (HF.out.size))).trans hc1.1, (hF.cell (p := ⟨b, o + k * 4 + 1, none⟩) (HF2.out.lt HB.out) (ix_old HS.out HT.out hb (HF.out.size))).trans hc1.2.1, (hF.cell (p := ⟨b, o + k * 4 + 2, none⟩) (HF2.out.lt HB.out) (ix_old HS.out HT.out hb (HF.out.size))).trans hc1.2.2.1, (hF.cell (p := ⟨b, o + k * 4 + 3, none⟩) (HF2.out.lt HB.out) (ix_old HS.out HT.out hb (HF.out.size))).trans hc1.2.2.2⟩ (fun hHeld => ?_)
      clear hK K hF hI hc1
      try simp only [Act.put, List.getElem_toArray, List.getElem_cons_zero, List.getElem_cons_succ, List.setIfInBounds_toArray, List.set_cons_zero, List.set_cons_succ]
      refine wpAnyH_done (by kernel_rfl) ?_ _
      go_wp2_with fail
      go_roundg gk
      case measure => omega
      case rel => exact ⟨k + 1, by omega, by go_num, HI3, HF3⟩
    | zero =>
      obtain rfl : k = xs.length := by omega
      obtain ⟨L, hL⟩ : ∃ L, runI xs xs.length = L := ⟨_, rfl⟩
      have hl12 : L.length = 12 := by rw [← hL, runI_len]
      rw [hL] at HI
      have HLL := hid hl12
      clear hL hl12
      have HSLOT := hid (Ix.slots HI.out)
      have HUN := hid (Ix.uniq HI.out)
      have hA0 := (Fr.refl No wr).alloc (.cells #[.bool false, .bool false, .bool false, .bool false, .bool false, .bool false] 42)
      have HI0 := hid (HI.out.no hA0)
      have HF0' := hid (HF.out.trans hA0)
      have HZ0 : Hid ((wr.alloc (.cells #[.bool false, .bool false, .bool false, .bool false, .bool false, .bool false] 42)).heap[wr.heap.size]? = some (.cells (seenA L 0) 42 (0, 0))) := by unfold Hid; rw [seenA_zero]; exact heap_new wr _
      have HZW := hid HF.out.size
      have HZS := hid HI.out.lt
      clear hA0
      go_wp2_with fail
      obtain ⟨Z, hZ⟩ : ∃ Z, wr.heap.size = Z := ⟨_, rfl⟩
      rw [hZ] at HZ0 HZW HZS ⊢
      clear hZ HI HF HE
      go_loopg [7, 8, 9] 12 (fun g n d i wr => ∃ k : Nat, k + g = 12 ∧ n = .int .i64 ((L.take k).countP Option.isSome : Nat) ∧ d = .int .i64 ((L.take k).countP plD : Nat) ∧ i = .int .i64 k ∧ Hid (Ix wr p S L 6 xs.length) ∧ Hid (wr.heap[Z]? = some (.cells (seenA L k) 42 (0, 0))) ∧ Hid (Fr No w wr))
      case atStart => exact ⟨0, by omega, rfl, rfl, rfl, HI0, HZ0, HF0'⟩
      case round =>
        obtain ⟨k, hk, rfl, rfl, rfl, HI, HZ, HF⟩ := hrel
        cases gk with
        | zero =>
          obtain rfl : k = 12 := by omega
          have HT : Hid (L.take 12 = L) := by unfold Hid; rw [← HLL.out]; exact List.take_length
          rw [HT.out]
          obtain ⟨cn, hcn⟩ : ∃ c, L.countP Option.isSome = c := ⟨_, rfl⟩
          obtain ⟨cd, hcd⟩ : ∃ c, L.countP plD = c := ⟨_, rfl⟩
          have HCN := hid hcn
          have HCD := hid hcd
          rw [hcn, hcd]
          clear hcn hcd HI0 HZ0 HF0'
          go_wp2_with fail
          go_loopg [14] 6 (fun g i wr => ∃ s : Nat, s + g = 6 ∧ i = .int .i64 s ∧ Hid (Ix wr p S L 6 xs.length) ∧ Hid (wr.heap[Z]? = some (.cells (seenA L 12) 42 (0, 0))) ∧ Hid (Fr No w wr))
          case atStart => exact ⟨0, by omega, rfl, HI, HZ, HF⟩
          case round =>
            obtain ⟨s, hs, rfl, HI, HZ, HF⟩ := hrel
            cases gk with
            | zero =>
              obtain rfl : s = 6 := by omega
              go_wp2_with (first
                | (go_at_call 18; refine (ix_Len _ p 6 _ S L HI.out).mono ?_; rw [HCN.out]; rintro e w10 ⟨rfl, hF⟩; have HIA := hid (HI.out.no hF); have HFA := hid (HF.out.trans hF); clear hF)
                | (go_at_call 19; refine (ix_Dirty _ p 6 _ S L HIA.out).mono ?_; rw [HCD.out]; rintro e w11 ⟨rfl, hF⟩; have HFB := hid (HFA.out.trans hF); clear hF)
                | (go_at_call 9; refine (ix_awake _).mono ?_; rintro e w12 ⟨rfl, hF⟩; have HFC := hid (HFB.out.trans hF); clear hF))
              try rw [Exit.noGoto_ret]
              go_ret
              exact ⟨rfl, HFC.out⟩
            | succ gk =>
              have hs6 : s < 6 := by omega
              have hsi : (s : Int) < 6 := by omega
              have HSB := hid (show seenB L 12 s = (atS L s).isSome by have := seenB_all L s; rw [HLL.out] at this; exact this)
              have hc0 : wr.cell? ⟨Z, s, none⟩ = some (.bool (seenB L 12 s)) := (cell_blk HZ.out s).trans (seenA_at L 12 s hs6)
              have hswf : (Lit.int .i64 (s : Int)).wf = true := WalkArith.wf_i64 (n := (s : Int)) (by omega)
              cases e : atS L s with
              | none =>
                rw [HSB.out, e] at hc0
                have HAT := hid (atI_none hs6 e)
                clear e
                go_wp2_with (go_at_call 17; refine (ix_At _ p 6 _ S L HI.out s hswf).mono ?_; rw [HAT.out]; rintro e w20 ⟨rfl, hF⟩; have HI2 := hid (HI.out.no hF); have HZ2 := hid (blk_no hF HZ.out); have HF2 := hid (HF.out.trans hF); have hc1 := (hF.cell (p := ⟨Z, s, none⟩) (lt_of_block HZ.out) id).trans hc0; clear hF hc0)
                go_roundg gk
                case measure => omega
                case rel => exact ⟨s + 1, by omega, by go_num, HI2, HZ2, HF2⟩
              | some i =>
                rw [HSB.out, e] at hc0
                have HAT := hid (atI_some hs6 e)
                clear e
                go_wp2_with (go_at_call 17; refine (ix_At _ p 6 _ S L HI.out s hswf).mono ?_; rw [HAT.out]; rintro e w20 ⟨rfl, hF⟩; have HI2 := hid (HI.out.no hF); have HZ2 := hid (blk_no hF HZ.out); have HF2 := hid (HF.out.trans hF); have hc1 := (hF.cell (p := ⟨Z, s, none⟩) (lt_of_block HZ.out) id).trans hc0; clear hF hc0)
                go_roundg gk
                case measure => omega
                case rel => exact ⟨s + 1, by omega, by go_num, HI2, HZ2, HF2⟩
        | succ gk =>
          have hk12 : k < L.length := by rw [HLL.out]; omega
          have hki : (k : Int) < 12 := by omega
          have HC1 := hid (count_succ L Option.isSome k hk12)
          have HC2 := hid (count_succ L plD k hk12)
          have hn1 := count_le L Option.isSome k
          have hn2 := count_le L plD k
          obtain ⟨cn, hcn⟩ : ∃ c, (L.take k).countP Option.isSome = c := ⟨_, rfl⟩
          obtain ⟨cd, hcd⟩ : ∃ c, (L.take k).countP plD = c := ⟨_, rfl⟩
          rw [hcn] at HC1 hn1 ⊢
          rw [hcd] at HC2 hn2 ⊢
          clear hcn hcd
          have hn1' : (cn : Int) ≤ 12 := by omega
          have hn2' : (cd : Int) ≤ 12 := by omega
          obtain ⟨q, hq⟩ : ∃ q : Pl, L[k]'hk12 = q := ⟨_, rfl⟩
          rw [hq] at HC1 HC2
          have HQ := hid (show ∀ hk : k < L.length, L[k]'hk = q from fun _ => hq)
          cases q with
          | none =>
            have HG := hid (getI_n hk12 hq)
            have HSA := hid (seenA_none L k hk12 hq)
            clear hq hk12
            go_wp2_with (go_at_call 16; refine (ix_Get _ p 6 _ S L HI.out k).mono ?_; rw [HG.out]; rintro e w20 ⟨rfl, hF⟩; simp only [plA, plS, plD]; have hF := hF.alloc (.cells #[.int .i64 0, .bool false] 44); have HI2 := hid (HI.out.no hF); have HZ2 := hid (blk_no hF HZ.out); have HF2 := hid (HF.out.trans hF); clear hF)
            rw [← HSA.out] at HZ2
            go_roundg gk
            case measure => omega
            case rel => exact ⟨k + 1, by omega, by rw [HC1.out]; go_num, by rw [HC2.out]; go_num, by go_num, HI2, HZ2, HF2⟩
          | some q =>
            obtain ⟨x, d⟩ := q
            cases d with
            | false =>
              have hx6 : x < 6 := HSLOT.out k x false (by rw [List.getElem?_eq_getElem hk12, hq])
              have hxi : (x : Int) < 6 := by omega
              have hxi5 : (x : Int) ≤ 5 := by omega
              have HG := hid (getI_s hk12 hq)
              have HSA := hid (seenA_some L k x false hk12 hq)
              have HSF := hid (seenB_fresh L k x false HUN.out hk12 hq)
              have HAT := hid (atI_here HUN.out hk12 hq hx6)
              have hxw : (Lit.int .i64 (x : Int)).wf = true := WalkArith.wf_i64 (n := (x : Int)) (by omega)
              clear hq hk12
              go_wp2_with (first
                | (go_at_call 16; refine (ix_Get _ p 6 _ S L HI.out k).mono ?_; rw [HG.out]; rintro e w20 ⟨rfl, hF⟩; simp only [plA, plS, plD]; have hz := hF.size; have hF := hF.alloc (.cells #[.int .i64 (x : Int), .bool false] 44); have HI2 := hid (HI.out.no hF); have HZ2 := hid (blk_no hF HZ.out); have HF2 := hid (HF.out.trans hF); have HP2 := hid (heap_new w20 (.cells #[.int .i64 (x : Int), .bool false] 44)); obtain ⟨p0, p1, _, _⟩ := blk2 HP2.out; have hc0 : (w20.alloc (.cells #[.int .i64 (x : Int), .bool false] 44)).cell? ⟨Z, x, none⟩ = some (.bool false) := (by rw [cell_blk HZ2.out x, seenA_at L k x hx6, HSF.out]); have hf0 := free_blk HZ2.out x; have hne1 : ¬ Z = w20.heap.size := (by have := lt_of_block HZ.out; omega); have hne2 : ¬ w20.heap.size = Z := (fun h => hne1 h.symm); clear hF hz)
                | (go_at_call 17; have hfs := Fr.set1 (w20.alloc (.cells #[.int .i64 (x : Int), .bool false] 44)) Z x (.bool true); have HI3 := hid (HI2.out.fr hfs (fun j h1 h2 => by have h' : j = Z := h2; have := HZS.out j h1; omega)); refine (ix_At _ p 6 _ S L HI3.out x hxw).mono ?_; rw [HAT.out]; rintro e w21 ⟨rfl, hF⟩; have HI4 := hid (HI3.out.no hF); have HZ4 := hid (blk_no hF (set_blk HZ2.out x (.bool true))); have HF4 := hid ((HF2.out.then hfs (fun i hi h => absurd hi (by have h' : i = Z := h; have := HZW.out; omega))).trans hF); have hp4 := blk_no hF ((hfs.block w20.heap.size (lt_of_block HP2.out) (fun h => hne2 h)).trans HP2.out); clear hF hfs hc0 hf0 p0 p1; obtain ⟨p0, p1, _, _⟩ := blk2 hp4))
              rw [← HSA.out] at HZ4
              go_roundg gk
              case measure => omega
              case rel => exact ⟨k + 1, by omega, by rw [HC1.out]; go_num, by rw [HC2.out]; go_num, by go_num, HI4, HZ4, HF4⟩
            | true =>
              have hx6 : x < 6 := HSLOT.out k x true (by rw [List.getElem?_eq_getElem hk12, hq])
              have hxi : (x : Int) < 6 := by omega
              have hxi5 : (x : Int) ≤ 5 := by omega
              have HG := hid (getI_s hk12 hq)
              have HSA := hid (seenA_some L k x true hk12 hq)
              have HSF := hid (seenB_fresh L k x true HUN.out hk12 hq)
              have HAT := hid (atI_here HUN.out hk12 hq hx6)
              have hxw : (Lit.int .i64 (x : Int)).wf = true := WalkArith.wf_i64 (n := (x : Int)) (by omega)
              clear hq hk12
              go_wp2_with (first
                | (go_at_call 16; refine (ix_Get _ p 6 _ S L HI.out k).mono ?_; rw [HG.out]; rintro e w20 ⟨rfl, hF⟩; simp only [plA, plS, plD]; have hz := hF.size; have hF := hF.alloc (.cells #[.int .i64 (x : Int), .bool true] 44); have HI2 := hid (HI.out.no hF); have HZ2 := hid (blk_no hF HZ.out); have HF2 := hid (HF.out.trans hF); have HP2 := hid (heap_new w20 (.cells #[.int .i64 (x : Int), .bool true] 44)); obtain ⟨p0, p1, _, _⟩ := blk2 HP2.out; have hc0 : (w20.alloc (.cells #[.int .i64 (x : Int), .bool true] 44)).cell? ⟨Z, x, none⟩ = some (.bool false) := (by rw [cell_blk HZ2.out x, seenA_at L k x hx6, HSF.out]); have hf0 := free_blk HZ2.out x; have hne1 : ¬ Z = w20.heap.size := (by have := lt_of_block HZ.out; omega); have hne2 : ¬ w20.heap.size = Z := (fun h => hne1 h.symm); clear hF hz)
                | (go_at_call 17; have hfs := Fr.set1 (w20.alloc (.cells #[.int .i64 (x : Int), .bool true] 44)) Z x (.bool true); have HI3 := hid (HI2.out.fr hfs (fun j h1 h2 => by have h' : j = Z := h2; have := HZS.out j h1; omega)); refine (ix_At _ p 6 _ S L HI3.out x hxw).mono ?_; rw [HAT.out]; rintro e w21 ⟨rfl, hF⟩; have HI4 := hid (HI3.out.no hF); have HZ4 := hid (blk_no hF (set_blk HZ2.out x (.bool true))); have HF4 := hid ((HF2.out.then hfs (fun i hi h => absurd hi (by have h' : i = Z := h; have := HZW.out; omega))).trans hF); have hp4 := blk_no hF ((hfs.block w20.heap.size (lt_of_block HP2.out) (fun h => hne2 h)).trans HP2.out); clear hF hfs hc0 hf0 p0 p1; obtain ⟨p0, p1, _, _⟩ := blk2 hp4))
              rw [← HSA.out] at HZ4
              go_roundg gk
              case measure => omega
              case rel => exact ⟨k + 1, by omega, by rw [HC1.out]; go_num, by rw [HC2.out]; go_num, by go_num, HI4, HZ4, HF4⟩
end Go.Proofs.Ytfggllhflibfcaa
