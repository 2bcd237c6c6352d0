/- Sets of numbers as rising spans. No program. -/
import Derived.Test.YtdehojhipiklmaaFr
namespace Go.Proofs.Ytdehojhipiklmaa

abbrev Sp := Nat × Nat
/-- rising, none empty, none beginning where another one ends -/
def Good (l : List Sp) : Prop := (∀ s ∈ l, 1 ≤ s.2) ∧ l.Pairwise (fun s t => s.1 + s.2 < t.1)
def hasL (l : List Sp) (y : Nat) : Prop := ∃ s ∈ l, s.1 ≤ y ∧ y < s.1 + s.2
theorem Good.nil : Good [] := ⟨fun s h => by simp at h, List.Pairwise.nil⟩
theorem good_cons {s : Sp} {l : List Sp} : Good (s :: l) ↔ 1 ≤ s.2 ∧ (∀ t ∈ l, s.1 + s.2 < t.1) ∧ Good l := by
  unfold Good
  rw [List.pairwise_cons]
  constructor
  · rintro ⟨h1, h2, h3⟩
    exact ⟨h1 s (List.mem_cons_self ..), h2, fun t ht => h1 t (List.mem_cons_of_mem _ ht), h3⟩
  · rintro ⟨h1, h2, h3, h4⟩
    refine ⟨fun t ht => ?_, h2, h4⟩
    rcases List.mem_cons.1 ht with rfl | ht
    · exact h1
    · exact h3 t ht
theorem hasL_nil (y : Nat) : ¬ hasL [] y := fun ⟨s, h, _⟩ => by simp at h
theorem hasL_cons {s : Sp} {l : List Sp} {y : Nat} : hasL (s :: l) y ↔ (s.1 ≤ y ∧ y < s.1 + s.2) ∨ hasL l y := by
  unfold hasL
  simp only [List.mem_cons, or_and_right, exists_or, exists_eq_left]
theorem hasL_append {a b : List Sp} {y : Nat} : hasL (a ++ b) y ↔ hasL a y ∨ hasL b y := by
  unfold hasL
  simp only [List.mem_append, or_and_right, exists_or]
theorem hasL_lt {s : Sp} {l : List Sp} {y : Nat} (h : ∀ t ∈ l, s.1 + s.2 < t.1) (hy : hasL l y) : s.1 + s.2 < y := by
  obtain ⟨t, ht, h1, _⟩ := hy
  have := h t ht
  omega
/-- the spans are told by the numbers -/
theorem good_ext : ∀ (a b : List Sp), Good a → Good b → (∀ y, hasL a y ↔ hasL b y) → a = b
  | [], [], _, _, _ => rfl
  | [], t :: b, _, hb, h => by
    have h1 := (good_cons.1 hb).1
    exact absurd ((h t.1).2 (hasL_cons.2 (.inl ⟨Nat.le_refl _, by omega⟩))) (hasL_nil _)
  | s :: a, [], ha, _, h => by
    have h1 := (good_cons.1 ha).1
    exact absurd ((h s.1).1 (hasL_cons.2 (.inl ⟨Nat.le_refl _, by omega⟩))) (hasL_nil _)
  | s :: a, t :: b, ha, hb, h => by
    obtain ⟨a1, a2, a3⟩ := good_cons.1 ha
    obtain ⟨b1, b2, b3⟩ := good_cons.1 hb
    have e1 : s.1 = t.1 := by
      have h1 := (h s.1).1 (hasL_cons.2 (.inl ⟨Nat.le_refl _, by omega⟩))
      have h2 := (h t.1).2 (hasL_cons.2 (.inl ⟨Nat.le_refl _, by omega⟩))
      rcases hasL_cons.1 h1 with h1 | h1
      · rcases hasL_cons.1 h2 with h2 | h2
        · omega
        · have := hasL_lt a2 h2; omega
      · have := hasL_lt b2 h1
        rcases hasL_cons.1 h2 with h2 | h2
        · omega
        · have := hasL_lt a2 h2; omega
    have e2 : s.2 = t.2 := by
      have h1 : ¬ hasL (s :: a) (s.1 + s.2) := fun e => by
        rcases hasL_cons.1 e with e | e
        · omega
        · have := hasL_lt a2 e; omega
      have h2 : ¬ hasL (t :: b) (t.1 + t.2) := fun e => by
        rcases hasL_cons.1 e with e | e
        · omega
        · have := hasL_lt b2 e; omega
      have h3 : ¬ s.1 + s.2 < t.1 + t.2 := fun e => h1 ((h _).2 (hasL_cons.2 (.inl ⟨by omega, e⟩)))
      have h4 : ¬ t.1 + t.2 < s.1 + s.2 := fun e => h2 ((h _).1 (hasL_cons.2 (.inl ⟨by omega, e⟩)))
      omega
    have e : s = t := Prod.ext e1 e2
    subst e
    rw [good_ext a b a3 b3 fun y => ⟨fun hy => ?_, fun hy => ?_⟩]
    · rcases hasL_cons.1 ((h y).1 (hasL_cons.2 (.inr hy))) with e | e
      · have := hasL_lt a2 hy; omega
      · exact e
    · rcases hasL_cons.1 ((h y).2 (hasL_cons.2 (.inr hy))) with e | e
      · have := hasL_lt b2 hy; omega
      · exact e

/-- where a search for the first span that ends at low or behind it comes to, and how many from there begin at high or ahead of it -/
def firstOf (l : List Sp) (low : Int) : Nat := (l.takeWhile fun s => decide ((s.1 : Int) + s.2 - 1 < low)).length
def lastOf (l : List Sp) (low high : Int) : Nat := firstOf l low + ((l.drop (firstOf l low)).takeWhile fun s => decide ((s.1 : Int) ≤ high)).length
theorem takeWhile_take {α : Type} (p : α → Bool) : ∀ l : List α, l.takeWhile p = l.take (l.takeWhile p).length
  | [] => rfl
  | a :: l => by
    rw [List.takeWhile_cons]
    split
    · rw [List.length_cons, List.take_succ_cons, ← takeWhile_take p l]
    · rfl
theorem takeWhile_len_le {α : Type} (p : α → Bool) (l : List α) : (l.takeWhile p).length ≤ l.length := by
  have := congrArg List.length (takeWhile_take p l)
  rw [List.length_take] at this
  omega
theorem takeWhile_next {α : Type} (p : α → Bool) : ∀ (l : List α) (h : (l.takeWhile p).length < l.length), p (l[(l.takeWhile p).length]) = false
  | a :: l, h => by
    rw [List.takeWhile_cons] at h
    split at h
    · rename_i hp
      have e : ((a :: l).takeWhile p).length = (l.takeWhile p).length + 1 := by rw [List.takeWhile_cons, if_pos hp]; rfl
      have := takeWhile_next p l (by simpa using h)
      simp only [e, List.getElem_cons_succ]
      exact this
    · rename_i hp
      have e : ((a :: l).takeWhile p).length = 0 := by rw [List.takeWhile_cons, if_neg hp]; rfl
      simp only [e, List.getElem_cons_zero]
      simpa using hp
theorem takeWhile_all {α : Type} (p : α → Bool) : ∀ (l : List α) (x : α), x ∈ l.takeWhile p → p x = true
  | a :: l, x, h => by
    rw [List.takeWhile_cons] at h
    split at h
    · rename_i hp
      rcases List.mem_cons.1 h with rfl | h
      · exact hp
      · exact takeWhile_all p l x h
    · simp at h
theorem firstOf_le (l : List Sp) (low : Int) : firstOf l low ≤ l.length := takeWhile_len_le _ _
theorem lastOf_le (l : List Sp) (low high : Int) : lastOf l low high ≤ l.length := by
  unfold lastOf
  have h1 := takeWhile_len_le (fun s : Sp => decide ((s.1 : Int) ≤ high)) (l.drop (firstOf l low))
  have h2 := firstOf_le l low
  rw [List.length_drop] at h1
  omega
theorem first_le_last (l : List Sp) (low high : Int) : firstOf l low ≤ lastOf l low high := Nat.le_add_right _ _
/-- the piece between -/
def midOf (l : List Sp) (low high : Int) : List Sp := (l.drop (firstOf l low)).takeWhile fun s => decide ((s.1 : Int) ≤ high)
theorem mid_parts (l : List Sp) (low high : Int) : l = l.take (firstOf l low) ++ midOf l low high ++ l.drop (lastOf l low high) := by
  have h1 := takeWhile_take (fun s : Sp => decide ((s.1 : Int) ≤ high)) (l.drop (firstOf l low))
  have h2 : midOf l low high = (l.drop (firstOf l low)).take (midOf l low high).length := h1
  have h3 : lastOf l low high = firstOf l low + (midOf l low high).length := rfl
  rw [h3, ← List.drop_drop, List.append_assoc]
  conv => rhs; rw [h2]
  rw [List.length_take]
  have h4 : (midOf l low high).length ≤ (l.drop (firstOf l low)).length := takeWhile_len_le _ _
  rw [Nat.min_eq_left h4, List.take_append_drop, List.take_append_drop]
theorem left_of {l : List Sp} {low : Int} {s : Sp} (h : s ∈ l.take (firstOf l low)) : (s.1 : Int) + s.2 - 1 < low := by
  rw [show l.take (firstOf l low) = l.takeWhile fun s => decide ((s.1 : Int) + s.2 - 1 < low) from (takeWhile_take _ l).symm] at h
  simpa using takeWhile_all _ l s h
/-- behind the first one that does not end ahead of low none does -/
theorem drop_end {l : List Sp} (hg : Good l) {low : Int} {s : Sp} (h : s ∈ l.drop (firstOf l low)) : low ≤ (s.1 : Int) + s.2 - 1 := by
  rcases Nat.lt_or_ge (firstOf l low) l.length with hl | hl
  · have hp := takeWhile_next (fun s : Sp => decide ((s.1 : Int) + s.2 - 1 < low)) l hl
    have e : l.drop (firstOf l low) = l[firstOf l low] :: l.drop (firstOf l low + 1) := List.drop_eq_getElem_cons hl
    have hg2 : Good (l.drop (firstOf l low)) := ⟨fun t ht => hg.1 t (List.mem_of_mem_drop ht), hg.2.sublist (List.drop_sublist _ _)⟩
    rw [e] at h hg2
    have h0 : low ≤ ((l[firstOf l low]).1 : Int) + (l[firstOf l low]).2 - 1 := by
      have : decide (((l[firstOf l low]).1 : Int) + (l[firstOf l low]).2 - 1 < low) = false := hp
      have := of_decide_eq_false this
      omega
    rcases List.mem_cons.1 h with rfl | h
    · exact h0
    · have := (good_cons.1 hg2).2.1 s h
      have := (good_cons.1 hg2).2.2.1 s h
      omega
  · rw [List.drop_eq_nil_of_le hl] at h; simp at h
theorem mid_start {l : List Sp} {low high : Int} {s : Sp} (h : s ∈ midOf l low high) : (s.1 : Int) ≤ high := by
  simpa using takeWhile_all _ _ s h
theorem mid_end {l : List Sp} (hg : Good l) {low high : Int} {s : Sp} (h : s ∈ midOf l low high) : low ≤ (s.1 : Int) + s.2 - 1 := by
  refine drop_end hg ?_
  have h1 := takeWhile_take (fun s : Sp => decide ((s.1 : Int) ≤ high)) (l.drop (firstOf l low))
  have h2 : midOf l low high = (l.drop (firstOf l low)).take (midOf l low high).length := h1
  rw [h2] at h
  exact List.mem_of_mem_take h
theorem right_of {l : List Sp} (hg : Good l) {low high : Int} {s : Sp} (h : s ∈ l.drop (lastOf l low high)) : high < (s.1 : Int) := by
  rcases Nat.lt_or_ge (lastOf l low high) l.length with hl | hl
  · have h3 : lastOf l low high = firstOf l low + (midOf l low high).length := rfl
    have hl2 : (midOf l low high).length < (l.drop (firstOf l low)).length := by rw [List.length_drop]; omega
    have hp := takeWhile_next (fun s : Sp => decide ((s.1 : Int) ≤ high)) (l.drop (firstOf l low)) hl2
    have e : l.drop (lastOf l low high) = l[lastOf l low high] :: l.drop (lastOf l low high + 1) := List.drop_eq_getElem_cons hl
    have hg2 : Good (l.drop (lastOf l low high)) := ⟨fun t ht => hg.1 t (List.mem_of_mem_drop ht), hg.2.sublist (List.drop_sublist _ _)⟩
    rw [e] at h hg2
    have h0 : high < ((l[lastOf l low high]).1 : Int) := by
      have hp2 : decide ((((l.drop (firstOf l low))[(midOf l low high).length]'hl2).1 : Int) ≤ high) = false := hp
      rw [List.getElem_drop] at hp2
      have := of_decide_eq_false hp2
      simp only [h3]
      omega
    rcases List.mem_cons.1 h with rfl | h
    · exact h0
    · have := (good_cons.1 hg2).2.1 s h
      omega
  · rw [List.drop_eq_nil_of_le hl] at h; simp at h
end Go.Proofs.Ytdehojhipiklmaa
