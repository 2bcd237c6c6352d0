/- A slice value whose elements are single cells: what its cells hold. No program. -/
import Derived.Test.YtpifiamafgaadaaDoorFr
namespace Go.Proofs.YtpifiamafgaadaaDoor
open Go.RowKit

/-- the elements xs stand from the slice's place on -/
def Row (w : World) (a : Option Addr) (xs : List Value) : Prop :=
  xs = [] ∨ ∃ b o, a = some ⟨b, o, none⟩ ∧ b < w.heap.size ∧ ∀ i, i < xs.length → w.cell? ⟨b, o + i, none⟩ = some (xs.getD i undef)
theorem Row.nil (w : World) (a : Option Addr) : Row w a [] := .inl rfl
theorem Row.fr {w w' : World} {a : Option Addr} {xs : List Value} (h : Row w a xs) {S : Nat → Prop} (f : Fr S w w') (hS : ∀ b o, a = some ⟨b, o, none⟩ → ¬ S b) : Row w' a xs := by
  rcases h with h | ⟨b, o, rfl, hb, hc⟩
  · exact .inl h
  · exact .inr ⟨b, o, rfl, f.lt hb, fun i hi => (f.cell (p := ⟨b, o + i, none⟩) hb (hS b o rfl)).trans (hc i hi)⟩
theorem Row.no {w w' : World} {a : Option Addr} {xs : List Value} (h : Row w a xs) (f : Fr No w w') : Row w' a xs := h.fr f (fun _ _ _ => id)
theorem Row.at {w : World} {a : Option Addr} {xs : List Value} (h : Row w a xs) {i : Nat} (hi : i < xs.length) : ∃ b o, a = some ⟨b, o, none⟩ ∧ b < w.heap.size ∧ w.cell? ⟨b, o + i, none⟩ = some (xs.getD i undef) := by
  rcases h with rfl | ⟨b, o, e, hb, hc⟩
  · simp at hi
  · exact ⟨b, o, e, hb, hc i hi⟩
/-- a byte -/
abbrev byte (x : Nat) : Value := .int .u8 x
theorem getD_map {α : Type} (f : α → Value) (l : List α) (d : α) (i : Nat) (h : i < l.length) : (l.map f).getD i undef = f (l.getD i d) := by
  simp [List.getD_eq_getElem?_getD, h]
end Go.Proofs.YtpifiamafgaadaaDoor
