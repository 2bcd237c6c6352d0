/- index: the laws' common head: does' calls on an index of 12 blocks and 6 slots. -/
import Derived.Test.YtfggllhflibfcaaIxL
namespace Go.Proofs.Ytfggllhflibfcaa
open Go.RowKit Go.Shelf Go.Maps
def runI (xs : List OpI) (k : Nat) : List Pl := (xs.take k).foldl (fun L o => opI L 6 o) (List.replicate 12 none)
theorem runI_succ (xs : List OpI) (k : Nat) (hk : k < xs.length) : runI xs (k + 1) = opI (runI xs k) 6 xs[k] := by
  unfold runI
  rw [List.take_succ_eq_append_getElem hk, List.foldl_append]; rfl
theorem runI_len (xs : List OpI) (k : Nat) : (runI xs k).length = 12 := by
  unfold runI
  have h : ∀ (l : List OpI) (L : List Pl), (l.foldl (fun L o => opI L 6 o) L).length = L.length := by
    intro l
    induction l with
    | nil => intro L; rfl
    | cons o l ih => intro L; rw [List.foldl_cons, ih, opI_len]
  rw [h]; rfl
theorem ix_old {S T : Nat → Prop} {w wr : World} {b : Nat} (hS : ∀ k, S k → w.heap.size ≤ k) (hT : ∀ k, T k → wr.drew.heap.size ≤ k) (hb : b < w.heap.size) (hz : w.heap.size ≤ wr.heap.size) : ¬ (S b ∨ T b) := fun h => by
  rcases h with h | h
  · have := hS b h; omega
  · have h1 := hT b h
    have h2 : wr.drew.heap.size = wr.heap.size := rfl
    omega
theorem getI_some (L : List Pl) (x : Int) : ∃ (s : Nat) (d : Bool) (e : Int), getI L x = (some (s, d), e) := by
  rcases getI_cases L x with ⟨i, q, hi, _, _, h⟩ | ⟨e, _, h⟩
  · exact ⟨q.1, q.2, 0, h⟩
  · exact ⟨0, false, e, h⟩
theorem getI_set_ne (L : List Pl) (i : Nat) (q : Pl) (k : Nat) (h : i ≠ k) : getI (L.set i q) (k : Int) = getI L k := by
  unfold getI
  rw [List.length_set, Int.toNat_natCast, List.getElem?_set_ne h]
theorem getI_set_eq (L : List Pl) (i : Nat) (q : Nat × Bool) (h : i < L.length) : getI (L.set i (some q)) (i : Int) = (some q, 0) := by
  refine getI_s (by rw [List.length_set]; exact h) ?_
  rw [List.getElem_set_self]
theorem getI_set_none (L : List Pl) (i : Nat) (h : i < L.length) : getI (L.set i none) (i : Int) = (some (0, false), 14) := by
  refine getI_n (by rw [List.length_set]; exact h) ?_
  rw [List.getElem_set_self]
theorem clean_same (L : List Pl) (k : Nat) : ∃ (s : Nat) (d : Bool) (e : Int), getI L k = (some (s, d), e) ∧ getI (cleanI L k).2 k = (some (s, false), e) ∧ (cleanI L k).1 = e := by
  rcases getI_cases L k with ⟨i, q, hi, hki, _, h⟩ | ⟨e, he, h⟩
  · obtain rfl : k = i := by omega
    refine ⟨q.1, q.2, 0, h, ?_, ?_⟩
    · unfold cleanI; rw [h]
      simp only [if_true, Option.map_some, Int.toNat_natCast]
      exact getI_set_eq L k _ hi
    · unfold cleanI; rw [h]; rfl
  · have h0 : ¬ e = 0 := by omega
    refine ⟨0, false, e, h, ?_, ?_⟩
    · unfold cleanI; rw [h]; simp only [if_neg h0]; exact h
    · unfold cleanI; rw [h]; simp only [if_neg h0]
theorem clean_other (L : List Pl) (x : Int) (k : Nat) (hx : x ≠ k) : getI (cleanI L x).2 k = getI L k := by
  rcases getI_cases L x with ⟨i, q, hi, rfl, _, h⟩ | ⟨e, he, h⟩
  · unfold cleanI; rw [h]
    simp only [if_true, Int.toNat_natCast]
    exact getI_set_ne L i _ k (by omega)
  · have h0 : ¬ e = 0 := by omega
    unfold cleanI; rw [h]; simp only [if_neg h0]
theorem clean_range (L : List Pl) (x : Int) (h : ¬ (0 ≤ x ∧ x < L.length)) : (cleanI L x).1 = 10 := by
  unfold cleanI getI; rw [if_neg h]; rfl
end Go.Proofs.Ytfggllhflibfcaa
