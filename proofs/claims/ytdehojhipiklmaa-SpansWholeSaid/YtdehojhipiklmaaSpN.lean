/- spans: what Add and Cut make of a list. No program. -/
import Derived.Test.YtdehojhipiklmaaSpMath
import Derived.Test.YtdehojhipiklmaaSpB
namespace Go.Proofs.Ytdehojhipiklmaa

/-! by index -/
theorem hasL_idx {l : List Sp} {y : Nat} : hasL l y ↔ ∃ i, ∃ h : i < l.length, l[i].1 ≤ y ∧ y < l[i].1 + l[i].2 := by
  unfold hasL
  constructor
  · rintro ⟨s, hs, h⟩
    obtain ⟨i, hi, rfl⟩ := List.getElem_of_mem hs
    exact ⟨i, hi, h⟩
  · rintro ⟨i, hi, h⟩
    exact ⟨_, List.getElem_mem hi, h⟩
theorem good_lt {l : List Sp} (hg : Good l) {i j : Nat} (hij : i < j) (hj : j < l.length) : l[i].1 + l[i].2 < l[j].1 := List.pairwise_iff_getElem.1 hg.2 i j (by omega) hj hij
theorem good_pos {l : List Sp} (hg : Good l) {i : Nat} (hi : i < l.length) : 1 ≤ l[i].2 := hg.1 _ (List.getElem_mem hi)
theorem idx_left {l : List Sp} {low : Int} {i : Nat} (h : i < firstOf l low) (hi : i < l.length) : (l[i].1 : Int) + l[i].2 - 1 < low :=
  left_of (List.mem_take_iff_getElem.2 ⟨i, by omega, rfl⟩)
theorem idx_end {l : List Sp} (hg : Good l) {low : Int} {i : Nat} (h : firstOf l low ≤ i) (hi : i < l.length) : low ≤ (l[i].1 : Int) + l[i].2 - 1 := by
  refine drop_end hg (List.mem_drop_iff_getElem.2 ⟨i - firstOf l low, by omega, ?_⟩)
  congr 1; omega
theorem idx_mid {l : List Sp} {low high : Int} {i : Nat} (h : firstOf l low ≤ i) (h2 : i < lastOf l low high) (hi : i < l.length) : (l[i].1 : Int) ≤ high := by
  have h3 : lastOf l low high = firstOf l low + (midOf l low high).length := rfl
  refine mid_start (l := l) (low := low) (high := high) ?_
  have h1 : midOf l low high = (l.drop (firstOf l low)).take (midOf l low high).length := takeWhile_take (fun s : Sp => decide ((s.1 : Int) ≤ high)) (l.drop (firstOf l low))
  rw [h1]
  refine List.mem_take_iff_getElem.2 ⟨i - firstOf l low, by rw [List.length_drop]; omega, ?_⟩
  rw [List.getElem_drop]; congr 1; omega
theorem idx_right {l : List Sp} (hg : Good l) {low high : Int} {i : Nat} (h : lastOf l low high ≤ i) (hi : i < l.length) : high < (l[i].1 : Int) := by
  refine right_of hg (low := low) (List.mem_drop_iff_getElem.2 ⟨i - lastOf l low high, by omega, ?_⟩)
  congr 1; omega
/-! three parts -/
theorem good_three {A B C : List Sp} (hA : Good A) (hB : Good B) (hC : Good C) (h1 : ∀ s ∈ A, ∀ t ∈ B, s.1 + s.2 < t.1) (h2 : ∀ s ∈ A, ∀ t ∈ C, s.1 + s.2 < t.1) (h3 : ∀ s ∈ B, ∀ t ∈ C, s.1 + s.2 < t.1) : Good (A ++ B ++ C) := by
  refine ⟨fun s hs => ?_, ?_⟩
  · rcases List.mem_append.1 hs with hs | hs
    · rcases List.mem_append.1 hs with hs | hs
      · exact hA.1 s hs
      · exact hB.1 s hs
    · exact hC.1 s hs
  · refine List.pairwise_append.2 ⟨List.pairwise_append.2 ⟨hA.2, hB.2, h1⟩, hC.2, fun s hs t ht => ?_⟩
    rcases List.mem_append.1 hs with hs | hs
    · exact h2 s hs t ht
    · exact h3 s hs t ht
theorem Good.take {l : List Sp} (h : Good l) (k : Nat) : Good (l.take k) := ⟨fun s hs => h.1 s (List.mem_of_mem_take hs), h.2.sublist (List.take_sublist _ _)⟩
theorem Good.drop {l : List Sp} (h : Good l) (k : Nat) : Good (l.drop k) := ⟨fun s hs => h.1 s (List.mem_of_mem_drop hs), h.2.sublist (List.drop_sublist _ _)⟩
theorem good_apart {l : List Sp} (h : Good l) {f t : Nat} (hft : f ≤ t) {s u : Sp} (hs : s ∈ l.take f) (hu : u ∈ l.drop t) : s.1 + s.2 < u.1 := by
  obtain ⟨i, hi, rfl⟩ := List.mem_take_iff_getElem.1 hs
  obtain ⟨j, hj, rfl⟩ := List.mem_drop_iff_getElem.1 hu
  exact good_lt h (show i < t + j by omega) (by omega)
/-- what Add makes: the span with those that it meets, or touches -/
def addS (l : List Sp) (a n : Nat) : Sp :=
  let f := firstOf l ((a : Int) - 1)
  let t := lastOf l ((a : Int) - 1) ((a : Int) + n)
  if f < t then
    let low := min a (l.getD f (0, 0)).1
    let high := max (a + n) ((l.getD (t - 1) (0, 0)).1 + (l.getD (t - 1) (0, 0)).2)
    (low, high - low)
  else (a, n)
def addL (l : List Sp) (a n : Nat) : List Sp :=
  if n = 0 then l else l.take (firstOf l ((a : Int) - 1)) ++ [addS l a n] ++ l.drop (lastOf l ((a : Int) - 1) ((a : Int) + n))
theorem getD_at {l : List Sp} {i : Nat} (hi : i < l.length) : l.getD i (0, 0) = l[i] := by
  rw [List.getD_eq_getElem?_getD, List.getElem?_eq_getElem hi]; rfl
/-- its ends, told -/
theorem addS_ends (l : List Sp) (hg : Good l) (a n : Nat) (hn : 0 < n) : ∃ lo hi, addS l a n = (lo, hi - lo) ∧ lo ≤ a ∧ a + n ≤ hi ∧
    (∀ y, lo ≤ y → y < hi → (a ≤ y ∧ y < a + n) ∨ ∃ i, ∃ h : i < l.length, l[i].1 ≤ y ∧ y < l[i].1 + l[i].2) ∧
    (∀ i (h : i < l.length), firstOf l ((a : Int) - 1) ≤ i → i < lastOf l ((a : Int) - 1) ((a : Int) + n) → lo ≤ l[i].1 ∧ l[i].1 + l[i].2 ≤ hi) ∧
    (∀ i (h : i < l.length), i < firstOf l ((a : Int) - 1) → l[i].1 + l[i].2 < lo) ∧
    (∀ i (h : i < l.length), lastOf l ((a : Int) - 1) ((a : Int) + n) ≤ i → hi < l[i].1) ∧
    (∀ m, a + n ≤ m → (∀ s ∈ l, s.1 + s.2 ≤ m) → hi ≤ m) := by
  unfold addS
  have hft := first_le_last l ((a : Int) - 1) ((a : Int) + n)
  have htl := lastOf_le l ((a : Int) - 1) ((a : Int) + n)
  have h1 := fun i h hi => idx_left (l := l) (low := (a : Int) - 1) (i := i) h hi
  have h2 := fun i h hi => idx_end hg (low := (a : Int) - 1) (i := i) h hi
  have h3 := fun i h h' hi => idx_mid (l := l) (low := (a : Int) - 1) (high := (a : Int) + n) (i := i) h h' hi
  have h4 := fun i h hi => idx_right hg (low := (a : Int) - 1) (high := (a : Int) + n) (i := i) h hi
  generalize firstOf l ((a : Int) - 1) = f at *
  generalize lastOf l ((a : Int) - 1) ((a : Int) + n) = t at *
  by_cases hlt : f < t
  · rw [if_pos hlt]
    have hf : f < l.length := by omega
    have ht : t - 1 < l.length := by omega
    simp only [getD_at hf, getD_at ht]
    have e1 := h2 f (Nat.le_refl _) hf
    have e2 := h3 f (Nat.le_refl _) hlt hf
    have e3 := h2 (t - 1) (by omega) ht
    have e4 := h3 (t - 1) (by omega) (by omega) ht
    refine ⟨min a l[f].1, max (a + n) (l[t - 1].1 + l[t - 1].2), rfl, by omega, by omega, ?_, ?_, ?_, ?_, ?_⟩
    · intro y hy1 hy2
      by_cases ha : a ≤ y ∧ y < a + n
      · exact .inl ha
      · refine .inr ?_
        by_cases hy : y < a
        · exact ⟨f, hf, by omega, by omega⟩
        · exact ⟨t - 1, ht, by omega, by omega⟩
    · intro i hi hfi hit
      have p1 : l[f].1 ≤ l[i].1 := by
        rcases Nat.lt_or_eq_of_le hfi with e | rfl
        · have := good_lt hg e hi; omega
        · exact Nat.le_refl _
      have p2 : l[i].1 + l[i].2 ≤ l[t - 1].1 + l[t - 1].2 := by
        rcases Nat.lt_or_eq_of_le (show i ≤ t - 1 by omega) with e | rfl
        · have := good_lt hg e ht; omega
        · exact Nat.le_refl _
      omega
    · intro i hi hif
      have := h1 i hif hi
      have := good_lt hg hif hf
      omega
    · intro i hi hti
      have := h4 i hti hi
      have := good_lt hg (show t - 1 < i by omega) hi
      omega
    · intro m hm hall
      have := hall _ (List.getElem_mem ht)
      omega
  · rw [if_neg hlt]
    refine ⟨a, a + n, by rw [Nat.add_sub_cancel_left], Nat.le_refl _, Nat.le_refl _, fun y h1 h2 => .inl ⟨h1, h2⟩, fun i _ h1 h2 => by omega, fun i hi hif => ?_, fun i hi hti => ?_, fun m hm _ => hm⟩
    · have := h1 i hif hi; omega
    · have := h4 i hti hi; omega
theorem addL_good (l : List Sp) (hg : GoodB l) (a n : Nat) (han : a + n ≤ 1048576) : GoodB (addL l a n) ∧ ∀ y, hasL (addL l a n) y ↔ hasL l y ∨ (a ≤ y ∧ y < a + n) := by
  unfold addL
  by_cases hn : n = 0
  · rw [if_pos hn]
    exact ⟨hg, fun y => ⟨.inl, fun h => h.elim id (fun h => by omega)⟩⟩
  rw [if_neg hn]
  have hft := first_le_last l ((a : Int) - 1) ((a : Int) + n)
  obtain ⟨lo, hi, e, h1, h2, h3, h4, h5, h6, h7⟩ := addS_ends l hg.1 a n (by omega)
  rw [e]
  have h8 := h7 1048576 han hg.2
  clear h7 e
  generalize firstOf l ((a : Int) - 1) = f at *
  generalize lastOf l ((a : Int) - 1) ((a : Int) + n) = t at *
  refine ⟨⟨good_three (hg.1.take f) ⟨fun s hs => ?_, List.pairwise_singleton _ _⟩ (hg.1.drop t) ?_ ?_ ?_, fun s hs => ?_⟩, fun y => ?_⟩
  · have : s = (lo, hi - lo) := by simpa using hs
    subst this
    show 1 ≤ hi - lo
    omega
  · intro s hs u hu
    have : u = (lo, hi - lo) := by simpa using hu
    subst this
    obtain ⟨i, hi', rfl⟩ := List.mem_take_iff_getElem.1 hs
    exact h5 i (by omega) (by omega)
  · exact fun s hs u hu => good_apart hg.1 hft hs hu
  · intro s hs u hu
    have : s = (lo, hi - lo) := by simpa using hs
    subst this
    obtain ⟨i, hi', rfl⟩ := List.mem_drop_iff_getElem.1 hu
    have := h6 (t + i) (by omega) (by omega)
    show lo + (hi - lo) < _
    omega
  · rcases List.mem_append.1 hs with hs | hs
    · rcases List.mem_append.1 hs with hs | hs
      · exact hg.2 s (List.mem_of_mem_take hs)
      · have : s = (lo, hi - lo) := by simpa using hs
        subst this
        show lo + (hi - lo) ≤ _
        omega
    · exact hg.2 s (List.mem_of_mem_drop hs)
  · rw [hasL_append, hasL_append]
    constructor
    · rintro ((⟨s, hs, h⟩ | ⟨s, hs, h⟩) | ⟨s, hs, h⟩)
      · exact .inl ⟨s, List.mem_of_mem_take hs, h⟩
      · have : s = (lo, hi - lo) := by simpa using hs
        subst this
        have h : lo ≤ y ∧ y < lo + (hi - lo) := h
        rcases h3 y h.1 (by omega) with e | e
        · exact .inr e
        · exact .inl (hasL_idx.2 e)
      · exact .inl ⟨s, List.mem_of_mem_drop hs, h⟩
    · intro h
      by_cases hm : lo ≤ y ∧ y < hi
      · exact .inl (.inr ⟨(lo, hi - lo), List.mem_singleton_self _, hm.1, by show y < lo + (hi - lo); omega⟩)
      · rcases h with h | h
        · obtain ⟨i, hi', h⟩ := hasL_idx.1 h
          rcases Nat.lt_or_ge i f with e | e
          · exact .inl (.inl ⟨l[i], List.mem_take_iff_getElem.2 ⟨i, by omega, rfl⟩, h⟩)
          · rcases Nat.lt_or_ge i t with e2 | e2
            · have := h4 i hi' e e2; omega
            · exact .inr ⟨l[i], List.mem_drop_iff_getElem.2 ⟨i - t, by omega, by congr 1; omega⟩, h⟩
        · omega
/-- what is left of a span -/
def leftS (a n : Nat) (y : Sp) : List Sp := (if y.1 < a then [(y.1, a - y.1)] else []) ++ (if a + n < y.1 + y.2 then [(a + n, y.1 + y.2 - a - n)] else [])
def cutL (l : List Sp) (a n : Nat) : List Sp :=
  if n = 0 then l else l.take (firstOf l a) ++ (midOf l a ((a : Int) + n - 1)).flatMap (leftS a n) ++ l.drop (lastOf l a ((a : Int) + n - 1))
theorem mem_leftS {a n : Nat} {y s : Sp} : s ∈ leftS a n y ↔ (y.1 < a ∧ s = (y.1, a - y.1)) ∨ (a + n < y.1 + y.2 ∧ s = (a + n, y.1 + y.2 - a - n)) := by
  unfold leftS
  rw [List.mem_append]
  constructor
  · rintro (h | h) <;> split at h
    · rename_i hc; exact .inl ⟨hc, by simpa using h⟩
    · simp at h
    · rename_i hc; exact .inr ⟨hc, by simpa using h⟩
    · simp at h
  · rintro (⟨h, rfl⟩ | ⟨h, rfl⟩)
    · exact .inl (by rw [if_pos h]; simp)
    · exact .inr (by rw [if_pos h]; simp)
theorem leftS_in {a n : Nat} {y s : Sp} (h : s ∈ leftS a n y) (hm : a ≤ y.1 + y.2) (hm2 : y.1 ≤ a + n) : y.1 ≤ s.1 ∧ s.1 + s.2 ≤ y.1 + y.2 ∧ 1 ≤ s.2 := by
  rcases mem_leftS.1 h with ⟨h, rfl⟩ | ⟨h, rfl⟩
  · exact ⟨Nat.le_refl _, by show y.1 + (a - y.1) ≤ _; omega, by show 1 ≤ a - y.1; omega⟩
  · exact ⟨by show y.1 ≤ a + n; omega, by show a + n + (y.1 + y.2 - a - n) ≤ _; omega, by show 1 ≤ y.1 + y.2 - a - n; omega⟩
theorem leftS_pair {a n : Nat} {y : Sp} (hn : 0 < n) : (leftS a n y).Pairwise (fun s t => s.1 + s.2 < t.1) := by
  unfold leftS
  refine List.pairwise_append.2 ⟨?_, ?_, fun s hs t ht => ?_⟩
  · split
    · exact List.pairwise_singleton _ _
    · exact List.Pairwise.nil
  · split
    · exact List.pairwise_singleton _ _
    · exact List.Pairwise.nil
  · split at hs
    · split at ht
      · rename_i h1 h2
        have e1 : s = (y.1, a - y.1) := by simpa using hs
        have e2 : t = (a + n, y.1 + y.2 - a - n) := by simpa using ht
        subst e1; subst e2
        show y.1 + (a - y.1) < a + n
        omega
      · simp at ht
    · simp at hs
theorem leftS_has {a n : Nat} {y : Sp} (k : Nat) (hm : a ≤ y.1 + y.2) (hm2 : y.1 ≤ a + n) : hasL (leftS a n y) k ↔ (y.1 ≤ k ∧ k < y.1 + y.2) ∧ ¬ (a ≤ k ∧ k < a + n) := by
  constructor
  · rintro ⟨s, hs, h⟩
    rcases mem_leftS.1 hs with ⟨h1, rfl⟩ | ⟨h1, rfl⟩
    · have h : y.1 ≤ k ∧ k < y.1 + (a - y.1) := h
      omega
    · have h : a + n ≤ k ∧ k < a + n + (y.1 + y.2 - a - n) := h
      omega
  · rintro ⟨h1, h2⟩
    by_cases hk : k < a
    · exact ⟨(y.1, a - y.1), mem_leftS.2 (.inl ⟨by omega, rfl⟩), h1.1, by show k < y.1 + (a - y.1); omega⟩
    · exact ⟨(a + n, y.1 + y.2 - a - n), mem_leftS.2 (.inr ⟨by omega, rfl⟩), by show a + n ≤ k; omega, by show k < a + n + (y.1 + y.2 - a - n); omega⟩
theorem hasL_flat {α : Type} {f : α → List Sp} {l : List α} {k : Nat} : hasL (l.flatMap f) k ↔ ∃ x ∈ l, hasL (f x) k := by
  unfold hasL
  constructor
  · rintro ⟨s, hs, h⟩
    obtain ⟨x, hx, hs⟩ := List.mem_flatMap.1 hs
    exact ⟨x, hx, s, hs, h⟩
  · rintro ⟨x, hx, s, hs, h⟩
    exact ⟨s, List.mem_flatMap.2 ⟨x, hx, hs⟩, h⟩
theorem left_good {a n : Nat} (hn : 0 < n) : ∀ (m : List Sp), Good m → (∀ y ∈ m, a ≤ y.1 + y.2 ∧ y.1 ≤ a + n) → Good (m.flatMap (leftS a n)) ∧ ∀ (y : Sp), (∀ u ∈ m, y.1 + y.2 < u.1) → ∀ s ∈ m.flatMap (leftS a n), y.1 + y.2 < s.1
  | [], _, _ => ⟨Good.nil, fun _ _ s hs => by simp at hs⟩
  | y :: m, hg, hm => by
    obtain ⟨g1, g2, g3⟩ := good_cons.1 hg
    obtain ⟨i1, i2⟩ := left_good hn m g3 (fun u hu => hm u (List.mem_cons_of_mem _ hu))
    have hy := hm y (List.mem_cons_self ..)
    rw [List.flatMap_cons]
    refine ⟨⟨fun s hs => ?_, List.pairwise_append.2 ⟨leftS_pair hn, i1.2, fun s hs t ht => ?_⟩⟩, fun z hz s hs => ?_⟩
    · rcases List.mem_append.1 hs with hs | hs
      · exact (leftS_in hs hy.1 hy.2).2.2
      · exact i1.1 s hs
    · have := (leftS_in hs hy.1 hy.2).2.1
      have := i2 y g2 t ht
      omega
    · rcases List.mem_append.1 hs with hs | hs
      · have := (leftS_in hs hy.1 hy.2).1
        have := hz y (List.mem_cons_self ..)
        omega
      · exact i2 z (fun u hu => hz u (List.mem_cons_of_mem _ hu)) s hs
theorem mid_idx {l : List Sp} {low high : Int} {s : Sp} (h : s ∈ midOf l low high) : ∃ i, ∃ hi : i < l.length, l[i] = s ∧ firstOf l low ≤ i ∧ i < lastOf l low high := by
  have h3 : lastOf l low high = firstOf l low + (midOf l low high).length := rfl
  have h1 : midOf l low high = (l.drop (firstOf l low)).take (midOf l low high).length := takeWhile_take (fun s : Sp => decide ((s.1 : Int) ≤ high)) (l.drop (firstOf l low))
  rw [h1] at h
  obtain ⟨i, hi, rfl⟩ := List.mem_take_iff_getElem.1 h
  rw [List.length_drop] at hi
  exact ⟨firstOf l low + i, by omega, by rw [List.getElem_drop], by omega, by omega⟩
theorem idx_in_mid {l : List Sp} {low high : Int} {i : Nat} (hi : i < l.length) (h1 : firstOf l low ≤ i) (h2 : i < lastOf l low high) : l[i] ∈ midOf l low high := by
  have h3 : lastOf l low high = firstOf l low + (midOf l low high).length := rfl
  have e : midOf l low high = (l.drop (firstOf l low)).take (midOf l low high).length := takeWhile_take (fun s : Sp => decide ((s.1 : Int) ≤ high)) (l.drop (firstOf l low))
  rw [e]
  refine List.mem_take_iff_getElem.2 ⟨i - firstOf l low, by rw [List.length_drop]; omega, ?_⟩
  rw [List.getElem_drop]; congr 1; omega
theorem midOf_sub (l : List Sp) (low high : Int) : (midOf l low high).Sublist l := (List.takeWhile_sublist _).trans (List.drop_sublist _ _)
theorem cutL_good (l : List Sp) (hg : GoodB l) (a n : Nat) : GoodB (cutL l a n) ∧ ∀ y, hasL (cutL l a n) y ↔ hasL l y ∧ ¬ (a ≤ y ∧ y < a + n) := by
  unfold cutL
  by_cases hn : n = 0
  · rw [if_pos hn]
    exact ⟨hg, fun y => ⟨fun h => ⟨h, fun h => by omega⟩, fun h => h.1⟩⟩
  rw [if_neg hn]
  have hft := first_le_last l a ((a : Int) + n - 1)
  have hM : ∀ y ∈ midOf l a ((a : Int) + n - 1), a ≤ y.1 + y.2 ∧ y.1 ≤ a + n := fun y hy => by
    have := mid_start hy
    have := mid_end hg.1 hy
    omega
  have hMg : Good (midOf l a ((a : Int) + n - 1)) := ⟨fun s hs => hg.1.1 s ((midOf_sub ..).subset hs), hg.1.2.sublist (midOf_sub ..)⟩
  obtain ⟨hL1, hL2⟩ := left_good (a := a) (n := n) (by omega) _ hMg hM
  refine ⟨⟨good_three (hg.1.take _) hL1 (hg.1.drop _) ?_ ?_ ?_, fun s hs => ?_⟩, fun y => ?_⟩
  · intro s hs t ht
    refine hL2 s (fun u hu => ?_) t ht
    obtain ⟨j, hj, rfl, e1, _⟩ := mid_idx hu
    obtain ⟨i, hi, rfl⟩ := List.mem_take_iff_getElem.1 hs
    exact good_lt hg.1 (by omega) hj
  · exact fun s hs u hu => good_apart hg.1 hft hs hu
  · intro s hs u hu
    obtain ⟨y, hy, hs⟩ := List.mem_flatMap.1 hs
    have h1 := (leftS_in hs (hM y hy).1 (hM y hy).2).2.1
    obtain ⟨j, hj, rfl, _, e1⟩ := mid_idx hy
    obtain ⟨i, hi, rfl⟩ := List.mem_drop_iff_getElem.1 hu
    have := good_lt hg.1 (show j < lastOf l a ((a : Int) + n - 1) + i by omega) (by omega)
    omega
  · rcases List.mem_append.1 hs with hs | hs
    · rcases List.mem_append.1 hs with hs | hs
      · exact hg.2 s (List.mem_of_mem_take hs)
      · obtain ⟨y, hy, hs⟩ := List.mem_flatMap.1 hs
        have h1 := (leftS_in hs (hM y hy).1 (hM y hy).2).2.1
        have := hg.2 y ((midOf_sub ..).subset hy)
        omega
    · exact hg.2 s (List.mem_of_mem_drop hs)
  · rw [hasL_append, hasL_append, hasL_flat]
    constructor
    · rintro ((⟨s, hs, h⟩ | ⟨x, hx, h⟩) | ⟨s, hs, h⟩)
      · have := left_of hs
        exact ⟨⟨s, List.mem_of_mem_take hs, h⟩, by omega⟩
      · have h := (leftS_has y (hM x hx).1 (hM x hx).2).1 h
        exact ⟨⟨x, (midOf_sub ..).subset hx, h.1⟩, h.2⟩
      · have := right_of hg.1 hs
        exact ⟨⟨s, List.mem_of_mem_drop hs, h⟩, by omega⟩
    · rintro ⟨h, hy⟩
      obtain ⟨i, hi', h⟩ := hasL_idx.1 h
      rcases Nat.lt_or_ge i (firstOf l a) with e | e
      · exact .inl (.inl ⟨l[i], List.mem_take_iff_getElem.2 ⟨i, by omega, rfl⟩, h⟩)
      · rcases Nat.lt_or_ge i (lastOf l a ((a : Int) + n - 1)) with e2 | e2
        · have hx := idx_in_mid hi' e e2
          exact .inl (.inr ⟨l[i], hx, (leftS_has y (hM _ hx).1 (hM _ hx).2).2 ⟨h, hy⟩⟩)
        · exact .inr ⟨l[i], List.mem_drop_iff_getElem.2 ⟨i - lastOf l a ((a : Int) + n - 1), by omega, by congr 1; omega⟩, h⟩
/-- whether a number of a span is in -/
theorem meets_iff (l : List Sp) (hg : Good l) (a n : Nat) (hn : 0 < n) : firstOf l a < lastOf l a ((a : Int) + n - 1) ↔ ∃ y, a ≤ y ∧ y < a + n ∧ hasL l y := by
  constructor
  · intro h
    have hf : firstOf l a < l.length := by have := lastOf_le l a ((a : Int) + n - 1); omega
    have h1 := idx_end hg (low := a) (Nat.le_refl _) hf
    have h2 := idx_mid (low := a) (high := (a : Int) + n - 1) (Nat.le_refl _) h hf
    refine ⟨max a l[firstOf l a].1, by omega, by omega, hasL_idx.2 ⟨firstOf l a, hf, by omega, by have := good_pos hg hf; omega⟩⟩
  · rintro ⟨y, h1, h2, h3⟩
    obtain ⟨i, hi, h⟩ := hasL_idx.1 h3
    have e1 : firstOf l a ≤ i := by
      rcases Nat.lt_or_ge i (firstOf l a) with e | e
      · have := idx_left e hi; omega
      · exact e
    have e2 : i < lastOf l a ((a : Int) + n - 1) := by
      rcases Nat.lt_or_ge i (lastOf l a ((a : Int) + n - 1)) with e | e
      · exact e
      · have := idx_right hg e hi; omega
    omega
end Go.Proofs.Ytdehojhipiklmaa
