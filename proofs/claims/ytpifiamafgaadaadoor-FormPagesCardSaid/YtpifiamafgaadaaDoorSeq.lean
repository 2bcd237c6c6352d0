/- Cells of new blocks, for ranges over functions. -/
import Derived.Test.YtpifiamafgaadaaDoorBlk
import Derived.RangeFuncOwn
import Derived.RangeFuncFrom
namespace Go.Proofs.YtpifiamafgaadaaDoor
open Go.RowKit
theorem cell_new1 (W : World) (v : Value) (t : TypeId) : (W.alloc (.cells #[v] t)).cell? ⟨W.heap.size, 0, none⟩ = some v ∧ (W.alloc (.cells #[v] t)).frozen? ⟨W.heap.size, 0, none⟩ = false := by
  have h := heap_new W (.cells #[v] t)
  exact ⟨by rw [cell_blk h]; rfl, free_blk h 0⟩
theorem cell_allocd {W : World} {a : Addr} {v : Value} (o : Obj) (h : W.cell? a = some v) : (W.alloc o).cell? a = some v := cell_kept h (World.grownBy_alloc W o none) (fun r e => by cases e)
theorem frozen_allocd {W : World} {a : Addr} {v : Value} (o : Obj) (h : W.cell? a = some v) (hf : W.frozen? a = false) : (W.alloc o).frozen? a = false := (frozen_kept h (World.grownBy_alloc W o none) (fun r e => by cases e)).trans hf
/-- Fr's own way across what a loop over a function keeps for itself -/
theorem frK_t {T : Nat → Prop} {A B C : World} (h : Fr T A B) (k : Fr T B C) : Fr T A C := h.trans k
theorem frK_b {T : Nat → Prop} {w : World} (hT : ∀ k, w.heap.size ≤ k → T k) (W : World) (l : Nat) (o o' : Obj) (hl : w.heap.size ≤ l) (_ : W.heap[l]? = some o) (_ : o.isCells = false) (_ : o.isWalk = false) : Fr T W (W.putObj l o') :=
  ⟨rfl, rfl, rfl, by simp, fun k _ hk => World.putObj_heap_other (fun e => hk (by rw [e]; exact hT l hl))⟩
theorem Fr.put {S : Nat → Prop} {a w : World} (h : Fr S a w) (D : Nat) (o : Obj) (hD : D < a.heap.size → S D) : Fr S a (w.putObj D o) :=
  h.then (T := fun k => k = D) ⟨rfl, rfl, rfl, by simp, fun k _ hk => World.putObj_heap_other (fun e => hk (by rw [e]))⟩ (fun i hi e => by subst e; exact hD hi)
end Go.Proofs.YtpifiamafgaadaaDoor
