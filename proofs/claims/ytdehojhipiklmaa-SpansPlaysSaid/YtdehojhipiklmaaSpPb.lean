/- spans: does; a step of both. -/
import Derived.Test.YtdehojhipiklmaaSpPa
namespace Go.Proofs.Ytdehojhipiklmaa
open Go.RowKit

def stepL (L : List Sp) (c : Bool) (a n : Nat) : List Sp := if c then cutL L a n else addL L a n
theorem stepL_good (L : List Sp) (hg : GoodB L) (c : Bool) (a n : Nat) (han : a + n ≤ 1048576) : GoodB (stepL L c a n) := by
  unfold stepL; cases c
  · exact (addL_good L hg a n han).1
  · exact (cutL_good L hg a n).1
theorem op_cells (w : World) (c : Bool) (a n : Int) : (w.alloc (.cells #[.bool c, .int .i64 a, .int .i64 n] 36)).cell? ⟨w.heap.size, 0, none⟩ = some (.bool c) ∧ (w.alloc (.cells #[.bool c, .int .i64 a, .int .i64 n] 36)).cell? ⟨w.heap.size, 1, none⟩ = some (.int .i64 a) ∧ (w.alloc (.cells #[.bool c, .int .i64 a, .int .i64 n] 36)).cell? ⟨w.heap.size, 2, none⟩ = some (.int .i64 n) := by
  have hb := heap_new w (.cells #[.bool c, .int .i64 a, .int .i64 n] 36)
  exact ⟨(cell_blk hb 0).trans rfl, (cell_blk hb 1).trans rfl, (cell_blk hb 2).trans rfl⟩
theorem sp_does_bad (w : World) (p : Nat) (c : Bool) (a n : Int) (hm : mayB a n = false) : Calls Try.prog 14 #[.pointer (some ⟨p, 0, none⟩), .agg #[.bool c, .int .i64 a, .int .i64 n]] w fun e w' => e = .returned (.int .i64 10) ∧ Fr No w w' := by
  obtain ⟨b0, b1, b2⟩ := op_cells w c a n
  have HF := hid ((Fr.refl No w).alloc (.cells #[.bool c, .int .i64 a, .int .i64 n] 36))
  have HM := hid hm
  clear hm
  go_enter Try.func14, Try.ntmps14
  cases c with
  | true =>
    go_wp2_with fail
    refine (sp_Cut_bad _ p a n HM.out).mono ?_
    rintro e w1 ⟨rfl, hF⟩
    have HF1 := hid (HF.out.trans hF)
    clear hF
    go_wp2_with fail
    try rw [Exit.noGoto_ret]
    go_ret
    exact ⟨rfl, HF1.out⟩
  | false =>
    go_wp2_with fail
    refine (sp_Add_bad _ p a n HM.out).mono ?_
    rintro e w1 ⟨rfl, hF⟩
    have HF1 := hid (HF.out.trans hF)
    clear hF
    go_wp2_with fail
    try rw [Exit.noGoto_ret]
    go_ret
    exact ⟨rfl, HF1.out⟩
theorem sp_does (w : World) (p : Nat) (S : Nat → Prop) (L : List Sp) (h : St w p S L) (c : Bool) (a n : Nat) (han : a + n ≤ 1048576) : Calls Try.prog 14 #[.pointer (some ⟨p, 0, none⟩), .agg #[.bool c, .int .i64 a, .int .i64 n]] w fun e w' => e = .returned (.int .i64 0) ∧ St2 w w' p S (stepL L c a n) := by
  obtain ⟨b0, b1, b2⟩ := op_cells w c a n
  have hf : Fr No w (w.alloc (.cells #[.bool c, .int .i64 a, .int .i64 n] 36)) := (Fr.refl No w).alloc _
  have HF := hid hf
  have HS := hid (h.no hf)
  clear hf h
  go_enter Try.func14, Try.ntmps14
  cases c with
  | true =>
    go_wp2_with fail
    refine (sp_Cut _ p S L HS.out a n han).mono ?_
    rintro e w1 ⟨rfl, S', h1, h2, h3⟩
    have HR : Hid (St2 w w1 p S (stepL L true a n)) := ⟨S', h1, fun k hk => (h2 k hk).imp id (fun e => Nat.le_trans HF.out.size e), (HF.out.mono (fun _ _ e => e.elim)).trans h3⟩
    clear h1 h2 h3
    go_wp2_with fail
    try rw [Exit.noGoto_ret]
    go_ret
    exact ⟨rfl, HR.out⟩
  | false =>
    go_wp2_with fail
    refine (sp_Add _ p S L HS.out a n han).mono ?_
    rintro e w1 ⟨rfl, S', h1, h2, h3⟩
    have HR : Hid (St2 w w1 p S (stepL L false a n)) := ⟨S', h1, fun k hk => (h2 k hk).imp id (fun e => Nat.le_trans HF.out.size e), (HF.out.mono (fun _ _ e => e.elim)).trans h3⟩
    clear h1 h2 h3
    go_wp2_with fail
    try rw [Exit.noGoto_ret]
    go_ret
    exact ⟨rfl, HR.out⟩
/-! both, a step on -/
theorem Upto.of {R : List Bool} {L : List Sp} (hg : GoodB L) (h : ∀ y, hasL L y ↔ y < 200 ∧ onB R y) : Upto R 200 L :=
  ⟨hg.1, fun s hs => by
    have h1 := hg.1.1 s hs
    have := (h (s.1 + s.2 - 1)).1 ⟨s, hs, by omega, by omega⟩
    omega, h⟩
theorem onB_turn {R : List Bool} (hl : R.length = 200) (a n : Nat) (v : Bool) (y : Nat) (hy : y < 200) : onB (turnTo R a n v 200) y ↔ if a ≤ y ∧ y < a + n then v = true else onB R y := by
  unfold onB
  rw [turnTo_get R a n v 200 (by omega)]
  by_cases h : a ≤ y ∧ y < a + n
  · rw [if_pos ⟨hy, h⟩, if_pos h]
    simp
  · rw [if_neg (fun e => h e.2), if_neg h]
theorem Upto.step {R : List Bool} {L : List Sp} (hl : R.length = 200) (hg : GoodB L) (h : Upto R 200 L) (c : Bool) (a n : Nat) (han : a + n ≤ 200) : Upto (turnTo R a n (!c) 200) 200 (stepL L c a n) := by
  refine Upto.of (stepL_good L hg c a n (by omega)) (fun y => ?_)
  unfold stepL
  cases c with
  | true =>
    show hasL (cutL L a n) y ↔ _
    rw [(cutL_good L hg a n).2, h.has]
    constructor
    · rintro ⟨⟨h1, h2⟩, h3⟩
      exact ⟨h1, by rw [onB_turn hl a n _ y h1, if_neg h3]; exact h2⟩
    · rintro ⟨h1, h2⟩
      rw [onB_turn hl a n _ y h1] at h2
      split at h2
      · cases h2
      · rename_i h3; exact ⟨⟨h1, h2⟩, h3⟩
  | false =>
    show hasL (addL L a n) y ↔ _
    rw [(addL_good L hg a n (by omega)).2, h.has]
    constructor
    · rintro (⟨h1, h2⟩ | h3)
      · exact ⟨h1, by rw [onB_turn hl a n _ y h1]; split; · rfl
                      · exact h2⟩
      · exact ⟨by omega, by rw [onB_turn hl a n _ y (by omega), if_pos h3]; rfl⟩
    · rintro ⟨h1, h2⟩
      rw [onB_turn hl a n _ y h1] at h2
      split at h2
      · rename_i h3; exact .inr h3
      · exact .inl ⟨h1, h2⟩
theorem Upto.sum {R : List Bool} {L : List Sp} (hg : GoodB L) (h : Upto R 200 L) : sumN L = cntB R 200 := by
  rw [sumN_has L hg, sumF_window (a := 0) (n := 200) _ (by omega) (fun y _ hy => ind_no (fun e => by have := (h.has y).1 e; omega))]
  unfold cntB
  exact sumF_congr _ (fun y hy => by rw [Nat.zero_add]; exact ind_iff ⟨fun e => ((h.has y).1 e).2, fun e => (h.has y).2 ⟨hy, e⟩⟩)
theorem Upto.same {R : List Bool} {L X : List Sp} (h : Upto R 200 L) (h' : Upto R 200 X) : L = X := good_ext _ _ h.good h'.good (fun y => (h.has y).trans (h'.has y).symm)
theorem onB_of {R : List Bool} {y : Nat} (hy : y < R.length) : onB R y ↔ R[y] = true := by
  unfold onB; rw [List.getElem?_eq_getElem hy]; simp
/-- whether a number is in -/
theorem Upto.isin {R : List Bool} {L : List Sp} (hl : R.length = 200) (hg : GoodB L) (h : Upto R 200 L) (n : Nat) (hn : n < 200) : meetsB L n 1 = R[n]'(by omega) := by
  have h1 := meetsB_has L hg n (by omega)
  rw [h.has, onB_of (by omega)] at h1
  rw [Bool.eq_iff_iff, h1]
  exact ⟨fun e => e.2, fun e => ⟨hn, e⟩⟩
theorem Upto.notin {R : List Bool} {L : List Sp} (hg : GoodB L) (h : Upto R 200 L) (n : Int) (hn : n < 0 ∨ 200 ≤ n) : meetsB L n 1 = false := by
  by_cases hm : mayB n 1 = true
  · obtain ⟨h1, h2, h3⟩ := mayB_iff.1 hm
    obtain ⟨k, rfl⟩ : ∃ k : Nat, n = k := ⟨n.toNat, by omega⟩
    have h4 := meetsB_has L hg k (by omega)
    rw [h.has] at h4
    exact Bool.eq_false_iff.2 (fun e => by have := h4.1 e; omega)
  · have hm : mayB n 1 = false := by simpa using hm
    unfold meetsB; rw [hm]; rfl
/-- whether a number of a span is in, number by number -/
def mtK (R : List Bool) (a k : Nat) : Bool := (List.range k).any fun i => R.getD (a + i) false
theorem mtK_zero (R : List Bool) (a : Nat) : mtK R a 0 = false := rfl
theorem mtK_succ (R : List Bool) (a k : Nat) : mtK R a (k + 1) = (mtK R a k || R.getD (a + k) false) := by
  unfold mtK; rw [List.range_succ, List.any_append]; simp
theorem mtK_iff (R : List Bool) (a k : Nat) : mtK R a k = true ↔ ∃ y, a ≤ y ∧ y < a + k ∧ onB R y := by
  unfold mtK
  rw [List.any_eq_true]
  constructor
  · rintro ⟨i, hi, h⟩
    refine ⟨a + i, by omega, by have := List.mem_range.1 hi; omega, ?_⟩
    unfold onB
    rw [List.getD_eq_getElem?_getD] at h
    cases hh : R[a + i]? with
    | none => rw [hh] at h; cases h
    | some b => rw [hh] at h; simpa using h
  · rintro ⟨y, h1, h2, h3⟩
    refine ⟨y - a, List.mem_range.2 (by omega), ?_⟩
    unfold onB at h3
    rw [show a + (y - a) = y by omega, List.getD_eq_getElem?_getD, h3]; rfl
theorem Upto.meets {R : List Bool} {L : List Sp} (hl : R.length = 200) (hg : GoodB L) (h : Upto R 200 L) (a n k : Nat) (han : a + n ≤ 1048576) (hk : k ≤ n) (hk2 : k = n ∨ 200 ≤ a + k) : meetsB L a n = mtK R a k := by
  rw [meetsB_cnt L hg a n han, Bool.eq_iff_iff, decide_eq_true_eq, cntIn_pos, mtK_iff]
  constructor
  · rintro ⟨y, h1, h2, h3⟩
    have h4 := (h.has y).1 h3
    exact ⟨y, h1, by omega, h4.2⟩
  · rintro ⟨y, h1, h2, h3⟩
    refine ⟨y, h1, by omega, ?_⟩
    have hy : y < 200 ∨ 200 ≤ y := by omega
    rcases hy with hy | hy
    · exact (h.has y).2 ⟨hy, h3⟩
    · unfold onB at h3; rw [List.getElem?_eq_none (by omega)] at h3; cases h3
end Go.Proofs.Ytdehojhipiklmaa
