/- Blocks known whole; an append onto a slice of the call's own. No program. -/
import Derived.Test.YtpifiamafgaadaaDoorRow
import Derived.Laws.Rows
namespace Go.Proofs.YtpifiamafgaadaaDoor
open Go.RowKit

theorem cell_blk {w : World} {b : Nat} {cs : Array Value} {t : TypeId} {fz : Nat × Nat} (h : w.heap[b]? = some (.cells cs t fz)) (i : Nat) : w.cell? ⟨b, i, none⟩ = cs[i]? := by
  simp [World.cell?, h]
theorem free_blk {w : World} {b : Nat} {cs : Array Value} {t : TypeId} (h : w.heap[b]? = some (.cells cs t (0, 0))) (i : Nat) : w.frozen? ⟨b, i, none⟩ = false := by
  simp [World.frozen?, h]
theorem set_blk {w : World} {b : Nat} {cs : Array Value} {t : TypeId} (h : w.heap[b]? = some (.cells cs t (0, 0))) (i : Nat) (v : Value) : (w.setCell ⟨b, i, none⟩ v).heap[b]? = some (.cells (cs.setIfInBounds i v) t (0, 0)) :=
  heap_setCell_same w b i cs t v h
/-- a slice of the call's own: nil and empty, or the head of a block that may be written, made since base -/
theorem own_nil (w : World) (base : Nat) (e : TypeId) : w.ownsRow base e 1 (.slice none 0 0) 0 [] := ⟨rfl, .inl ⟨rfl, rfl⟩⟩
theorem Fr.grown {S : Nat → Prop} {a w w' : World} {row : Option Nat} (h : Fr S a w) (g : w.grownBy w' row) (hr : ∀ k, row = some k → k < a.heap.size → S k) : Fr S a w' :=
  h.then (T := fun k => row = some k) ⟨g.os, g.tape, g.output, g.size, fun k hk hs => g.block k hk (fun e => hs e.symm)⟩ (fun i hi e => hr i e hi)
theorem own_block {w : World} {base : Nat} {e : TypeId} {v : Value} {n : Nat} {xs : List Value} (h : w.ownsRow base e 1 v n xs) (hn : 0 < n) :
    ∃ g cap cur, v = .slice (some ⟨g, 0, none⟩) n cap ∧ base ≤ g ∧ w.heap[g]? = some (.cells cur e (0, 0)) ∧ n ≤ cap ∧ cap ≤ maxLen ∧ cur.size = cap ∧ cur.toList.take n = xs := by
  obtain ⟨_, ⟨_, rfl⟩ | ⟨g, cap, cur, h1, h2, h3, h4, h5, h6, h7⟩⟩ := h
  · omega
  · exact ⟨g, cap, cur, h1, h2, h3, h4, h5, by simpa using h6, by simpa using h7⟩
theorem Row.of_blk {w : World} {b : Nat} {cs : Array Value} {t : TypeId} {fz : Nat × Nat} {n : Nat} {xs : List Value} (h : w.heap[b]? = some (.cells cs t fz)) (hx : cs.toList.take n = xs) (hn : n ≤ cs.size) : Row w (some ⟨b, 0, none⟩) xs := by
  refine .inr ⟨b, 0, rfl, lt_of_block h, fun i hi => ?_⟩
  have hl : xs.length = n := by rw [← hx]; simp; omega
  rw [Nat.zero_add, cell_blk h]
  have : xs[i]? = cs[i]? := by rw [← hx, List.getElem?_take]; simp; omega
  rw [List.getD_eq_getElem?_getD, this, Array.getElem?_eq_getElem (by omega)]
  rfl
end Go.Proofs.YtpifiamafgaadaaDoor
