/- The ring's laws' arguments: a slice of ints. -/
import Derived.Test.YtndljmkdgakfcaaRgAwake
import Derived.Test.YtndljmkdgakfcaaElems
namespace Go.Proofs.Ytndljmkdgakfcaa
open Go.RowKit

theorem is_int1 : Is Try.prog 3 (.int .i64) := .int Try.underlying3 (by kernel_rfl)
theorem open_ints1 {H : Type} {enc : TypeId × Value → H} {W : World} {base : Nat} {v : Value} {d : DataW H} {ps : List MemPlace}
    (hval : Value.okWide Try.prog W .any base 29 v) (h : DataW.Trod enc Try.prog W 0 (fun _ => true) true 29 v d ps) : ∃ r : SRow, v = r.v ∧ r.Ok W (.int .i64) :=
  open_row Try.underlying29 is_int1 (by decide) hval h
theorem introw_of {w : World} {r : SRow} (h : r.Ok w (.int .i64)) : ∃ xs : List Int, r.v = .slice r.a xs.length r.cap ∧ Row w r.a (xs.map iv) ∧ xs.length ≤ maxLen := by
  obtain ⟨xs, h1, h2, _⟩ := elems_of (P := fun _ : Int => True) (f := fun n : Int => [iv n]) h (fun cs hc => by obtain ⟨n, rfl, _⟩ := hc; exact ⟨n, rfl, trivial⟩)
  have hl : r.ls.length = xs.length := by injection h1
  refine ⟨xs, h1, ?_, by rw [← hl]; exact Nat.le_trans h.len h.max⟩
  rcases h2 with h2 | ⟨b, o, e, hb, hc⟩
  · subst h2; exact .inl rfl
  · refine .inr ⟨b, o, e, hb, fun i hi => ?_⟩
    have hi' : i < xs.length := by simpa using hi
    have := hc i 0 hi' (by decide)
    have hsz : (Sh.int .i64).size = 1 := rfl
    rw [hsz, Nat.mul_one, Nat.add_zero] at this
    rw [this]
    simp [List.getD_eq_getElem?_getD, hi']
theorem Row.intAt {w : World} {a : Option Addr} {xs : List Int} (h : Row w a (xs.map iv)) (i : Nat) (hi : i < xs.length) : ∃ b o, a = some ⟨b, o, none⟩ ∧ b < w.heap.size ∧ w.cell? ⟨b, o + i, none⟩ = some (.int .i64 xs[i]) := by
  obtain ⟨b, o, e, hb, hc⟩ := h.at (i := i) (by simpa using hi)
  rw [getD_map iv xs 0 i hi, show xs.getD i 0 = xs[i] from by simp [List.getD_eq_getElem?_getD, hi]] at hc
  exact ⟨b, o, e, hb, hc⟩
end Go.Proofs.Ytndljmkdgakfcaa
