/- spans: how many numbers there are. No program. -/
import Derived.Test.YtdehojhipiklmaaSpL
namespace Go.Proofs.Ytdehojhipiklmaa

def sumF (f : Nat → Nat) : Nat → Nat
  | 0 => 0
  | k + 1 => sumF f k + f k
open Classical in
noncomputable def ind (P : Prop) : Nat := if P then 1 else 0
theorem ind_yes {P : Prop} (h : P) : ind P = 1 := if_pos h
theorem ind_no {P : Prop} (h : ¬ P) : ind P = 0 := if_neg h
theorem ind_le (P : Prop) : ind P ≤ 1 := by unfold ind; split <;> omega
theorem ind_iff {P Q : Prop} (h : P ↔ Q) : ind P = ind Q := by rw [propext h]
theorem sumF_congr {f g : Nat → Nat} : ∀ (k : Nat), (∀ y, y < k → f y = g y) → sumF f k = sumF g k
  | 0, _ => rfl
  | k + 1, h => by rw [sumF, sumF, sumF_congr k (fun y hy => h y (by omega)), h k (by omega)]
theorem sumF_add (f g : Nat → Nat) : ∀ k, sumF f k + sumF g k = sumF (fun y => f y + g y) k
  | 0 => rfl
  | k + 1 => by have := sumF_add f g k; simp only [sumF] at *; omega
theorem sumF_split (f : Nat → Nat) (a : Nat) : ∀ n, sumF f (a + n) = sumF f a + sumF (fun i => f (a + i)) n
  | 0 => rfl
  | n + 1 => by rw [← Nat.add_assoc, sumF, sumF_split f a n, sumF, Nat.add_assoc]
theorem sumF_zero {f : Nat → Nat} (k : Nat) (h : ∀ y, y < k → f y = 0) : sumF f k = 0 := by
  rw [sumF_congr k (g := fun _ => 0) h]
  clear h
  induction k with
  | zero => rfl
  | succ k ih => rw [sumF, ih]
theorem sumF_ones {f : Nat → Nat} (k : Nat) (h : ∀ y, y < k → f y = 1) : sumF f k = k := by
  rw [sumF_congr k (g := fun _ => 1) h]
  clear h
  induction k with
  | zero => rfl
  | succ k ih => rw [sumF, ih]
theorem sumF_window (f : Nat → Nat) {a n K : Nat} (h : a + n ≤ K) (h0 : ∀ y, y < K → ¬ (a ≤ y ∧ y < a + n) → f y = 0) : sumF f K = sumF (fun i => f (a + i)) n := by
  obtain ⟨d, rfl⟩ : ∃ d, K = a + n + d := ⟨K - (a + n), by omega⟩
  rw [sumF_split f (a + n) d, sumF_split f a n, sumF_zero a (fun y hy => h0 y (by omega) (by omega)), sumF_zero d (fun y hy => h0 _ (by omega) (by omega))]
  omega
theorem sum_iv {a n K : Nat} (h : a + n ≤ K) : sumF (fun y => ind (a ≤ y ∧ y < a + n)) K = n := by
  rw [sumF_window _ h (fun y _ hy => ind_no hy)]
  exact sumF_ones n (fun i hi => ind_yes ⟨by omega, by omega⟩)
theorem sumF_pos {P : Nat → Prop} : ∀ n, 0 < sumF (fun i => ind (P i)) n ↔ ∃ i, i < n ∧ P i
  | 0 => ⟨fun h => by simp [sumF] at h, fun ⟨i, h, _⟩ => by omega⟩
  | n + 1 => by
    rw [sumF]
    constructor
    · intro h
      by_cases hp : P n
      · exact ⟨n, by omega, hp⟩
      · rw [ind_no hp] at h
        obtain ⟨i, h1, h2⟩ := (sumF_pos n).1 (by omega)
        exact ⟨i, by omega, h2⟩
    · rintro ⟨i, h1, h2⟩
      by_cases hi : i = n
      · subst hi; rw [ind_yes h2]; omega
      · have := (sumF_pos (P := P) n).2 ⟨i, by omega, h2⟩; omega
theorem sumF_le {P : Nat → Prop} : ∀ n, sumF (fun i => ind (P i)) n ≤ n
  | 0 => Nat.le_refl _
  | n + 1 => by rw [sumF]; have := sumF_le (P := P) n; have := ind_le (P n); omega
theorem sumN_has (L : List Sp) (h : GoodB L) : sumN L = sumF (fun y => ind (hasL L y)) 1048576 := by
  obtain ⟨hg, hb⟩ := h
  induction L with
  | nil => rw [sumF_zero _ (fun y _ => ind_no (hasL_nil y))]; rfl
  | cons s l ih =>
    obtain ⟨h1, h2, h3⟩ := good_cons.1 hg
    have hs := hb s (List.mem_cons_self ..)
    rw [sumN, ih h3 (fun t ht => hb t (List.mem_cons_of_mem _ ht)), ← sum_iv hs, sumF_add]
    refine sumF_congr _ (fun y _ => ?_)
    by_cases hy : hasL l y
    · have := hasL_lt h2 hy
      rw [ind_yes hy, ind_no (by omega), ind_yes (hasL_cons.2 (.inr hy))]
    · by_cases hi : s.1 ≤ y ∧ y < s.1 + s.2
      · rw [ind_no hy, ind_yes hi, ind_yes (hasL_cons.2 (.inl hi))]
      · rw [ind_no hy, ind_no hi, ind_no (fun e => (hasL_cons.1 e).elim hi hy)]
/-- how many of a span's numbers are in -/
noncomputable def cntIn (L : List Sp) (a n : Nat) : Nat := sumF (fun i => ind (hasL L (a + i))) n
theorem cntIn_window (L : List Sp) {a n : Nat} (h : a + n ≤ 1048576) : sumF (fun y => ind (hasL L y ∧ a ≤ y ∧ y < a + n)) 1048576 = cntIn L a n := by
  rw [sumF_window _ h (fun y _ hy => ind_no (fun e => hy e.2))]
  exact sumF_congr _ (fun i hi => ind_iff ⟨fun e => e.1, fun e => ⟨e, by omega, by omega⟩⟩)
theorem len_add (L : List Sp) (hg : GoodB L) (a n : Nat) (han : a + n ≤ 1048576) : sumN (addL L a n) + cntIn L a n = sumN L + n := by
  obtain ⟨h1, h2⟩ := addL_good L hg a n han
  rw [sumN_has _ h1, sumN_has _ hg, ← cntIn_window L han, sumF_add]
  conv => rhs; rw [← sum_iv han, sumF_add]
  refine sumF_congr _ (fun y _ => ?_)
  by_cases hy : hasL L y
  · by_cases hi : a ≤ y ∧ y < a + n
    · rw [ind_yes ((h2 y).2 (.inl hy)), ind_yes ⟨hy, hi⟩, ind_yes hy, ind_yes hi]
    · rw [ind_yes ((h2 y).2 (.inl hy)), ind_no (fun e => hi e.2), ind_yes hy, ind_no hi]
  · by_cases hi : a ≤ y ∧ y < a + n
    · rw [ind_yes ((h2 y).2 (.inr hi)), ind_no (fun e => hy e.1), ind_no hy, ind_yes hi]
    · rw [ind_no (fun e => ((h2 y).1 e).elim hy hi), ind_no (fun e => hi e.2), ind_no hy, ind_no hi]
theorem len_cut (L : List Sp) (hg : GoodB L) (a n : Nat) (han : a + n ≤ 1048576) : sumN (cutL L a n) + cntIn L a n = sumN L := by
  obtain ⟨h1, h2⟩ := cutL_good L hg a n
  rw [sumN_has _ h1, sumN_has _ hg, ← cntIn_window L han, sumF_add]
  refine sumF_congr _ (fun y _ => ?_)
  by_cases hy : hasL L y
  · by_cases hi : a ≤ y ∧ y < a + n
    · rw [ind_no (fun e => ((h2 y).1 e).2 hi), ind_yes ⟨hy, hi⟩, ind_yes hy]
    · rw [ind_yes ((h2 y).2 ⟨hy, hi⟩), ind_no (fun e => hi e.2), ind_yes hy]
  · rw [ind_no (fun e => hy ((h2 y).1 e).1), ind_no (fun e => hy e.1), ind_no hy]
theorem cntIn_all (L : List Sp) (a n : Nat) (h : ∀ y, a ≤ y → y < a + n → hasL L y) : cntIn L a n = n := sumF_ones n (fun i hi => ind_yes (h _ (by omega) (by omega)))
theorem cntIn_le (L : List Sp) (a n : Nat) : cntIn L a n ≤ n := sumF_le n
theorem cntIn_pos (L : List Sp) (a n : Nat) : 0 < cntIn L a n ↔ ∃ y, a ≤ y ∧ y < a + n ∧ hasL L y := by
  unfold cntIn
  rw [sumF_pos]
  constructor
  · rintro ⟨i, h1, h2⟩; exact ⟨a + i, by omega, by omega, h2⟩
  · rintro ⟨y, h1, h2, h3⟩
    refine ⟨y - a, by omega, ?_⟩
    rw [show a + (y - a) = y by omega]; exact h3
theorem meetsB_cnt (L : List Sp) (hg : GoodB L) (a n : Nat) (han : a + n ≤ 1048576) : meetsB L a n = decide (0 < cntIn L a n) := by
  unfold meetsB
  rw [mayB_nat han]
  by_cases hn : n = 0
  · subst hn; rfl
  · have h0 : (((n : Nat) : Int) == 0) = false := by simp; omega
    rw [h0]
    have e : (firstOf L a < lastOf L a ((a : Int) + n - 1)) ↔ 0 < cntIn L a n := (meets_iff L hg.1 a n (by omega)).trans (cntIn_pos L a n).symm
    rw [decide_eq_decide.2 e]; rfl
/-- added and cut is cut -/
theorem cut_add (L : List Sp) (hg : GoodB L) (a n : Nat) (han : a + n ≤ 1048576) : cutL (addL L a n) a n = cutL L a n := by
  obtain ⟨h1, h2⟩ := addL_good L hg a n han
  obtain ⟨h3, h4⟩ := cutL_good (addL L a n) h1 a n
  obtain ⟨h5, h6⟩ := cutL_good L hg a n
  refine good_ext _ _ h3.1 h5.1 (fun y => ?_)
  rw [h4, h2, h6]
  constructor
  · rintro ⟨h | h, h'⟩
    · exact ⟨h, h'⟩
    · exact absurd h h'
  · rintro ⟨h, h'⟩; exact ⟨.inl h, h'⟩
theorem add_cut (L : List Sp) (hg : GoodB L) (a n : Nat) (han : a + n ≤ 1048576) : addL (cutL L a n) a n = addL L a n := by
  obtain ⟨h1, h2⟩ := addL_good L hg a n han
  obtain ⟨h5, h6⟩ := cutL_good L hg a n
  obtain ⟨h3, h4⟩ := addL_good (cutL L a n) h5 a n han
  refine good_ext _ _ h3.1 h1.1 (fun y => ?_)
  rw [h4, h6, h2]
  by_cases hi : a ≤ y ∧ y < a + n
  · exact ⟨fun _ => .inr hi, fun _ => .inr hi⟩
  · exact ⟨fun h => h.elim (fun h => .inl h.1) .inr, fun h => h.elim (fun h => .inl ⟨h, hi⟩) .inr⟩
/-- a span that was cut has no number in -/
theorem cntIn_cut (L : List Sp) (hg : GoodB L) (a n : Nat) : cntIn (cutL L a n) a n = 0 := by
  have := (cntIn_pos (cutL L a n) a n)
  rcases Nat.eq_zero_or_pos (cntIn (cutL L a n) a n) with h | h
  · exact h
  · obtain ⟨y, h1, h2, h3⟩ := this.1 h
    exact absurd ⟨h1, h2⟩ (((cutL_good L hg a n).2 y).1 h3).2
theorem cntIn_succ (L : List Sp) (a n : Nat) : cntIn L a (n + 1) = cntIn L a n + ind (hasL L (a + n)) := rfl
end Go.Proofs.Ytdehojhipiklmaa
