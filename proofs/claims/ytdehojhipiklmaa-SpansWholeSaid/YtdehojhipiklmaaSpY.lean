/- spans: the laws' helpers: Right, Spans, awake; their arguments. -/
import Derived.Test.YtdehojhipiklmaaSpJ
import Derived.Test.YtdehojhipiklmaaAggs
namespace Go.Proofs.Ytdehojhipiklmaa
open Go.RowKit Go.ChangeShapes Go.WideShapes Go.ChangeAt

/-! arguments -/
def spSh : Sh := .st2 (.int .i64) (.int .i64)
theorem is_sp : Is Try.prog 24 spSh := .st2 Try.underlying24 (by kernel_rfl) rfl rfl (.int Try.underlying3 (by kernel_rfl)) (.int Try.underlying3 (by kernel_rfl))
theorem open_spans {H : Type} {enc : TypeId × Value → H} {W : World} {base : Nat} {v : Value} {d : DataW H} {ps : List MemPlace}
    (hval : Value.okWide Try.prog W .any base 39 v) (h : DataW.Trod enc Try.prog W 0 (fun _ => true) true 39 v d ps) : ∃ r : SRow, v = r.v ∧ r.Ok W spSh :=
  open_row Try.underlying39 is_sp (by decide) hval h
theorem spans_of {w : World} {r : SRow} (h : r.Ok w spSh) : ∃ xs : List ISp, r.v = .slice r.a xs.length r.cap ∧ Elems ispV 2 w r.a xs ∧ (xs.length : Int) ≤ 9223372036854775807 ∧ ∀ x ∈ xs, (Lit.int .i64 x.1).wf = true ∧ (Lit.int .i64 x.2).wf = true := by
  obtain ⟨xs, h1, h2, h3⟩ := elems_of (P := fun x : ISp => (Lit.int .i64 x.1).wf = true ∧ (Lit.int .i64 x.2).wf = true) (f := ispV) h (fun cs hc => by obtain ⟨a, b, rfl, ⟨x, rfl, hx⟩, ⟨y, rfl, hy⟩⟩ := hc; exact ⟨⟨x, y⟩, rfl, hx, hy⟩)
  refine ⟨xs, h1, h2, ?_, h3⟩
  have e : r.ls.length = xs.length := by injection h1
  have := h.len
  have := h.max
  unfold maxLen at this
  omega
def ispA (x : ISp) : Value := .agg #[.int .i64 x.1, .int .i64 x.2]
theorem open_span {H : Type} {enc : TypeId × Value → H} {W : World} {base : Nat} {v : Value} {d : DataW H} {ps : List MemPlace}
    (hval : Value.okWide Try.prog W .any base 24 v) (h : DataW.Trod enc Try.prog W 0 (fun _ => true) true 24 v d ps) : ∃ x : ISp, v = ispA x ∧ (Lit.int .i64 x.1).wf = true ∧ (Lit.int .i64 x.2).wf = true := by
  obtain ⟨cs, rfl, hok⟩ := open_sh is_sp (by rw [Try.underlying24]) hval h
  obtain ⟨a, b, rfl, ⟨x, rfl, hx⟩, ⟨y, rfl, hy⟩⟩ := hok
  exact ⟨⟨x, y⟩, rfl, hx, hy⟩
/-! Right -/
theorem sp_Right (w : World) (a n : Int) : Calls Try.prog 12 #[.agg #[.int .i64 a, .int .i64 n]] w fun e w' => e = .returned (.bool (mayB a n)) ∧ Fr No w w' := by
  have hb := heap_new w (.cells #[.int .i64 a, .int .i64 n] 24)
  have HF := hid ((Fr.refl No w).alloc (.cells #[.int .i64 a, .int .i64 n] 24))
  have b0 := cell_blk hb 0
  have b1 := cell_blk hb 1
  simp only [List.getElem?_toArray, List.getElem?_cons_zero, List.getElem?_cons_succ] at b0 b1
  clear hb
  have HI := hid (@mayB_iff a n)
  obtain ⟨m, hm⟩ : ∃ m, mayB a n = m := ⟨_, rfl⟩
  rw [hm] at HI ⊢
  clear hm
  by_cases h1 : 0 ≤ a
  · by_cases h2 : 0 ≤ n
    · by_cases h3 : a ≤ 1048576
      · by_cases h4 : n ≤ 1048576
        · by_cases h5 : a + n ≤ 1048576
          · obtain rfl : m = true := HI.out.2 ⟨h1, h2, h5⟩
            go_enter Try.func12, Try.ntmps12
            go_wp2_with fail
            go_ret
            exact ⟨rfl, HF.out⟩
          · obtain rfl : m = false := Bool.eq_false_iff.2 (fun e => h5 (HI.out.1 e).2.2)
            go_enter Try.func12, Try.ntmps12
            go_wp2_with fail
            go_ret
            exact ⟨rfl, HF.out⟩
        · obtain rfl : m = false := Bool.eq_false_iff.2 (fun e => by have := HI.out.1 e; omega)
          go_enter Try.func12, Try.ntmps12
          go_wp2_with fail
          go_ret
          exact ⟨rfl, HF.out⟩
      · obtain rfl : m = false := Bool.eq_false_iff.2 (fun e => by have := HI.out.1 e; omega)
        go_enter Try.func12, Try.ntmps12
        go_wp2_with fail
        go_ret
        exact ⟨rfl, HF.out⟩
    · obtain rfl : m = false := Bool.eq_false_iff.2 (fun e => by have := HI.out.1 e; omega)
      go_enter Try.func12, Try.ntmps12
      go_wp2_with fail
      go_ret
      exact ⟨rfl, HF.out⟩
  · obtain rfl : m = false := Bool.eq_false_iff.2 (fun e => by have := HI.out.1 e; omega)
    go_enter Try.func12, Try.ntmps12
    go_wp2_with fail
    go_ret
    exact ⟨rfl, HF.out⟩
/-! the law's Spans -/
set_option maxRecDepth 100000 in
set_option maxHeartbeats 1000000 in
theorem sp_Spans (w : World) (a a' : Option Addr) (c c' : Nat) (L M : List Sp) (hl : L.length ≤ 1048576) (hE : Elems spV 2 w a L) (hE' : Elems spV 2 w a' M) : Calls Try.prog 16 #[.slice a L.length c, .slice a' M.length c'] w fun e w' => e = .returned (.bool (decide (L = M))) ∧ Fr No w w' := by
  have HE := hid hE
  have HE' := hid hE'
  obtain ⟨bb, hbb⟩ : ∃ bb, decide (L = M) = bb := ⟨_, rfl⟩
  have HB := hid hbb
  rw [hbb]
  clear hE hE' hbb
  have hlen' : (L.length : Int) ≤ 1048576 := by omega
  by_cases hn : L.length = M.length
  case neg =>
    have hne : (((L.length : Int)) == (M.length : Int)) = false := by simp; omega
    obtain rfl : bb = false := by rw [← HB.out]; exact decide_eq_false (fun e => hn (by rw [e]))
    go_enter Try.func16, Try.ntmps16
    go_wp2_with fail
    try rw [Exit.noGoto_ret]
    go_ret
    exact ⟨rfl, Fr.refl No w⟩
  case pos =>
    obtain ⟨n, hLn⟩ : ∃ n, L.length = n := ⟨_, rfl⟩
    have hMn : M.length = n := by omega
    have HLn := hid hLn
    have HMn := hid hMn
    rw [hLn] at hlen' ⊢
    rw [hMn]
    clear hn hLn hMn
    go_enter Try.func16, Try.ntmps16
    go_wp2_with fail
    go_loopg [5] n (fun g i wr => ∃ k : Nat, k + g = n ∧ i = .int .i64 k ∧ Hid (∀ i, i < k → L[i]? = M[i]?) ∧ Hid (Fr No w wr))
    case atStart => exact ⟨0, by omega, rfl, fun i h => by omega, Fr.refl No w⟩
    case round =>
      obtain ⟨k, hk, rfl, HA, HF⟩ := hrel
      cases gk with
      | zero =>
        obtain rfl : k = n := by omega
        obtain rfl : bb = true := by
          rw [← HB.out]
          refine decide_eq_true (List.ext_getElem? (fun i => ?_))
          rcases Nat.lt_or_ge i k with e | e
          · exact HA.out i e
          · rw [List.getElem?_eq_none (by rw [HLn.out]; exact e), List.getElem?_eq_none (by rw [HMn.out]; exact e)]
        go_wp2_with fail
        try rw [Exit.noGoto_ret]
        go_ret
        exact ⟨rfl, HF.out⟩
      | succ g =>
        have hkL : k < L.length := by rw [HLn.out]; omega
        have hkM : k < M.length := by rw [HMn.out]; omega
        have hki : (k : Int) < (n : Int) := by omega
        obtain ⟨b, o, rfl, hb, x0, x1⟩ := HE.out.sp2 k hkL
        obtain ⟨b', o', rfl, hb', y0, y1⟩ := HE'.out.sp2 k hkM
        have HKL := hid (List.getElem?_eq_getElem hkL)
        have HKM := hid (List.getElem?_eq_getElem hkM)
        obtain ⟨x, hx⟩ : ∃ x, L[k] = x := ⟨_, rfl⟩
        obtain ⟨y, hy⟩ : ∃ y, M[k] = y := ⟨_, rfl⟩
        rw [hx] at x0 x1 HKL
        rw [hy] at y0 y1 HKM
        clear hx hy
        have x0' := (HF.out.cell (p := ⟨b, o + k * 2, none⟩) hb id).trans x0
        have x1' := (HF.out.cell (p := ⟨b, o + k * 2 + 1, none⟩) hb id).trans x1
        have y0' := (HF.out.cell (p := ⟨b', o' + k * 2, none⟩) hb' id).trans y0
        have y1' := (HF.out.cell (p := ⟨b', o' + k * 2 + 1, none⟩) hb' id).trans y1
        clear x0 x1 y0 y1 hkL hkM hl hb hb'
        obtain ⟨x1, x2⟩ := x
        obtain ⟨y1, y2⟩ := y
        go_wp2_with fail
        by_cases he : x1 = y1 ∧ x2 = y2
        · obtain ⟨rfl, rfl⟩ := he
          go_region
          go_wp2_with fail
          go_roundg g
          case measure => omega
          case rel =>
            refine ⟨k + 1, by omega, by go_num, fun i hi => ?_, HF.out.drew⟩
            rcases Nat.lt_succ_iff_lt_or_eq.1 hi with e | e
            · exact HA.out i e
            · subst e; rw [HKL.out, HKM.out]
        · have HNE : Hid (L ≠ M) := fun e => by
            have h1 := HKL.out
            rw [e, HKM.out] at h1
            injection h1 with h1
            injection h1 with e1 e2
            exact he ⟨e1.symm, e2.symm⟩
          obtain rfl : bb = false := by rw [← HB.out]; exact decide_eq_false HNE.out
          by_cases e1 : x1 = y1
          · subst e1
            have h2 : ¬ ((x2 : Int) = (y2 : Int)) := fun e => he ⟨rfl, by omega⟩
            clear he
            go_region
            go_wp2_with fail
            try rw [Exit.noGoto_ret]
            go_ret
            exact ⟨rfl, HF.out.drew⟩
          · have h1 : ¬ ((x1 : Int) = (y1 : Int)) := by omega
            clear he e1
            go_region
            go_wp2_with fail
            try rw [Exit.noGoto_ret]
            go_ret
            exact ⟨rfl, HF.out.drew⟩
end Go.Proofs.Ytdehojhipiklmaa
