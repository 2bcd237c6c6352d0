/- Slices of plain elements as lists of decoded values. No program. -/
import Derived.Test.YtpifiamafgaadaaDoorShape
namespace Go.Proofs.YtpifiamafgaadaaDoor
open Go.RowKit

/-- the cells at a are the elements xs, each of them sz cells -/
def Elems {α : Type} (f : α → List Value) (sz : Nat) (w : World) (a : Option Addr) (xs : List α) : Prop :=
  xs = [] ∨ ∃ b o, a = some ⟨b, o, none⟩ ∧ b < w.heap.size ∧ ∀ i j (hi : i < xs.length), j < sz → w.cell? ⟨b, o + (i * sz + j), none⟩ = some ((f xs[i]).getD j undef)
theorem Elems.no {α : Type} {f : α → List Value} {sz : Nat} {w w' : World} {a : Option Addr} {xs : List α} (h : Elems f sz w a xs) (k : Fr No w w') : Elems f sz w' a xs := by
  rcases h with h | ⟨b, o, e, hb, hc⟩
  · exact .inl h
  · exact .inr ⟨b, o, e, k.lt hb, fun i j hi hj => (k.cell (p := ⟨b, o + (i * sz + j), none⟩) hb id).trans (hc i j hi hj)⟩
theorem decode_all {α : Type} {f : α → List Value} {P : α → Prop} : ∀ (ls : List (List Value)), (∀ cs ∈ ls, ∃ x, cs = f x ∧ P x) → ∃ xs : List α, ls = xs.map f ∧ ∀ x ∈ xs, P x
  | [], _ => ⟨[], rfl, fun _ h => by simp at h⟩
  | cs :: ls, h => by
    obtain ⟨xs, rfl, hp⟩ := decode_all ls (fun c hc => h c (List.mem_cons_of_mem _ hc))
    obtain ⟨x, rfl, hx⟩ := h cs (List.mem_cons_self ..)
    exact ⟨x :: xs, rfl, fun y hy => by
      rcases List.mem_cons.1 hy with rfl | hy
      · exact hx
      · exact hp y hy⟩
theorem elems_of {α : Type} {f : α → List Value} {P : α → Prop} {s : Sh} {w : World} {r : SRow} (h : r.Ok w s) (hd : ∀ cs, s.Ok cs → ∃ x, cs = f x ∧ P x) :
    ∃ xs : List α, r.v = .slice r.a xs.length r.cap ∧ Elems f s.size w r.a xs ∧ ∀ x ∈ xs, P x := by
  obtain ⟨a, cap, ls⟩ := r
  obtain ⟨xs, hxs, hp⟩ := decode_all (P := P) ls (fun cs hc => hd cs (h.el cs hc).1)
  subst hxs
  refine ⟨xs, by simp [SRow.v], ?_, hp⟩
  rcases h.at_ with h0 | ⟨b, o, e, hb, hc⟩
  · exact .inl (by simpa using h0)
  · refine .inr ⟨b, o, e, hb, fun i j hi hj => ?_⟩
    have := hc i j (by simpa using hi) hj
    rw [this]
    simp [List.getD_eq_getElem?_getD, hi]
end Go.Proofs.YtpifiamafgaadaaDoor
