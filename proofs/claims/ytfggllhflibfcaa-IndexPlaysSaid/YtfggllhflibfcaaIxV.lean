/- index: the laws' common head: does' calls on an index of 12 blocks and 6 slots. -/
import Derived.Test.YtfggllhflibfcaaIxL
namespace Go.Proofs.Ytfggllhflibfcaa
open Go.RowKit Go.Shelf Go.Maps
def runI (xs : List OpI) (k : Nat) : List Pl := (xs.take k).foldl (fun L o => opI L 6 o) (List.replicate 12 none)
theorem runI_succ (xs : List OpI) (k : Nat) (hk : k < xs.length) : runI xs (k + 1) = opI (runI xs k) 6 xs[k] := by
  unfold runI
  rw [List.take_succ_eq_append_getElem hk, List.foldl_append]; rfl
theorem runI_len (xs : List OpI) (k : Nat) : (runI xs k).length = 12 := by
  unfold runI
  have h : ∀ (l : List OpI) (L : List Pl), (l.foldl (fun L o => opI L 6 o) L).length = L.length := by
    intro l
    induction l with
    | nil => intro L; rfl
    | cons o l ih => intro L; rw [List.foldl_cons, ih, opI_len]
  rw [h]; rfl
theorem ix_old {S T : Nat → Prop} {w wr : World} {b : Nat} (hS : ∀ k, S k → w.heap.size ≤ k) (hT : ∀ k, T k → wr.drew.heap.size ≤ k) (hb : b < w.heap.size) (hz : w.heap.size ≤ wr.heap.size) : ¬ (S b ∨ T b) := fun h => by
  rcases h with h | h
  · have := hS b h; omega
  · have h1 := hT b h
    have h2 : wr.drew.heap.size = wr.heap.size := rfl
    omega
theorem getI_some (L : List Pl) (x : Int) : ∃ (s : Nat) (d : Bool) (e : Int), getI L x = (some (s, d), e) := by
  rcases getI_cases L x with ⟨i, q, hi, _, _, h⟩ | ⟨e, _, h⟩
  · exact ⟨q.1, q.2, 0, h⟩
  · exact ⟨0, false, e, h⟩
theorem getI_set_ne (L : List Pl) (i : Nat) (q : Pl) (k : Nat) (h : i ≠ k) : getI (L.set i q) (k : Int) = getI L k := by
  unfold getI
  rw [List.length_set, Int.toNat_natCast, List.getElem?_set_ne h]
theorem getI_set_eq (L : List Pl) (i : Nat) (q : Nat × Bool) (h : i < L.length) : getI (L.set i (some q)) (i : Int) = (some q, 0) := by
  refine getI_s (by rw [List.length_set]; exact h) ?_
  rw [List.getElem_set_self]
theorem getI_set_none (L : List Pl) (i : Nat) (h : i < L.length) : getI (L.set i none) (i : Int) = (some (0, false), 14) := by
  refine getI_n (by rw [List.length_set]; exact h) ?_
  rw [List.getElem_set_self]
theorem clean_same (L : List Pl) (k : Nat) : ∃ (s : Nat) (d : Bool) (e : Int), getI L k = (some (s, d), e) ∧ getI (cleanI L k).2 k = (some (s, false), e) ∧ (cleanI L k).1 = e := by
  rcases getI_cases L k with ⟨i, q, hi, hki, _, h⟩ | ⟨e, he, h⟩
  · obtain rfl : k = i := by omega
    refine ⟨q.1, q.2, 0, h, ?_, ?_⟩
    · unfold cleanI; rw [h]
      simp only [if_true, Option.map_some, Int.toNat_natCast]
      exact getI_set_eq L k _ hi
    · unfold cleanI; rw [h]; rfl
  · have h0 : ¬ e = 0 := by omega
    refine ⟨0, false, e, h, ?_, ?_⟩
    · unfold cleanI; rw [h]; simp only [if_neg h0]; exact h
    · unfold cleanI; rw [h]; simp only [if_neg h0]
theorem clean_other (L : List Pl) (x : Int) (k : Nat) (hx : x ≠ k) : getI (cleanI L x).2 k = getI L k := by
  rcases getI_cases L x with ⟨i, q, hi, rfl, _, h⟩ | ⟨e, he, h⟩
  · unfold cleanI; rw [h]
    simp only [if_true, Int.toNat_natCast]
    exact getI_set_ne L i _ k (by omega)
  · have h0 : ¬ e = 0 := by omega
    unfold cleanI; rw [h]; simp only [if_neg h0]
theorem clean_range (L : List Pl) (x : Int) (h : ¬ (0 ≤ x ∧ x < L.length)) : (cleanI L x).1 = 10 := by
  unfold cleanI getI; rw [if_neg h]; rfl
theorem blk_no {w w' : World} (f : Fr No w w') {k : Nat} {o : Obj} (h : w.heap[k]? = some o) : w'.heap[k]? = some o := (f.block k (lt_of_block h) id).trans h
theorem Ix.slots {S : Nat → Prop} {w : World} {p m c : Nat} {L : List Pl} (h : Ix w p S L m c) : ∀ (i x : Nat) (d : Bool), L[i]? = some (some (x, d)) → x < m := by obtain ⟨_, _, _, _, h, _⟩ := h; exact h.slot
theorem Ix.uniq {S : Nat → Prop} {w : World} {p m c : Nat} {L : List Pl} (h : Ix w p S L m c) : Uniq L := by obtain ⟨_, _, _, _, h, _⟩ := h; exact h.uniq
theorem put_cases (L : List Pl) (m : Nat) (x s : Int) (d : Bool) : (∃ e : Int, (e = 10 ∨ e = 15) ∧ putI L m x s d = (some (0, false), e, L)) ∨
    ∃ (i k : Nat) (hi : i < L.length), k < m ∧ x = i ∧ s = k ∧ putI L m x s d = (L[i], 0, L.set i (some (k, d))) ∧ takenI L k i = false := by
  unfold putI
  by_cases h : (0 ≤ x ∧ x < L.length) ∧ (0 ≤ s ∧ s < m)
  · rw [if_pos h]
    obtain ⟨i, rfl⟩ : ∃ i : Nat, x = i := ⟨x.toNat, by omega⟩
    obtain ⟨k, rfl⟩ : ∃ k : Nat, s = k := ⟨s.toNat, by omega⟩
    have hi : i < L.length := by omega
    cases ht : takenI L k i with
    | true => rw [if_pos rfl]; exact .inl ⟨15, .inr rfl, rfl⟩
    | false =>
      rw [if_neg (by decide), Int.toNat_natCast, Int.toNat_natCast, List.getD_eq_getElem?_getD, List.getElem?_eq_getElem hi]
      exact .inr ⟨i, k, hi, by omega, rfl, rfl, rfl, ht⟩
  · rw [if_neg h]; exact .inl ⟨10, .inl rfl, rfl⟩
theorem set_back {L : List Pl} {i : Nat} {o q : Pl} (hi : i < L.length) (h : L[i] = o) : (L.set i q).set i o = L := by
  rw [List.set_set]
  apply List.ext_getElem?
  intro j
  rw [List.getElem?_set]
  split
  · rename_i e; subst e
    try rw [if_pos hi]
    rw [List.getElem?_eq_getElem hi, h]
  · rfl
theorem drop_back {L : List Pl} {i : Nat} {q : Nat × Bool} (hi : i < L.length) (h : L[i] = none) : dropI (L.set i (some q)) (i : Int) = (some q, 0, L) := by
  unfold dropI
  rw [getI_set_eq L i q hi]
  simp only [if_true, Int.toNat_natCast]
  rw [set_back hi h]
theorem put_back {L : List Pl} {i k so m : Nat} {d d0 : Bool} (hi : i < L.length) (h : L[i] = some (so, d0)) (hU : Uniq L) (hs : so < m) : putI (L.set i (some (k, d))) m (i : Int) (so : Int) d0 = (some (k, d), 0, L) := by
  have ht : takenI (L.set i (some (k, d))) so i = false := by
    unfold takenI
    cases e : atS (L.set i (some (k, d))) so with
    | none => rfl
    | some j =>
      obtain ⟨x, d1, h1, h2⟩ := atS_some e
      have hx : x = so := by omega
      subst hx
      have : j = i := by
        rw [List.getElem?_set] at h1
        split at h1
        · rename_i e; exact e.symm
        · exact hU j i x d1 d0 h1 (by rw [List.getElem?_eq_getElem hi, h])
      subst this
      simp
  unfold putI
  rw [if_pos ⟨⟨by omega, by rw [List.length_set]; omega⟩, by omega, by omega⟩, ht, if_neg (by decide), Int.toNat_natCast, Int.toNat_natCast, List.getD_eq_getElem?_getD, List.getElem?_set_self hi, set_back hi h]
  rfl
end Go.Proofs.Ytfggllhflibfcaa
