/- The law FieldPuts: every input. -/
import Derived.Test.YtopheimplclfcaaDoorFdPuts
namespace Go.Proofs.YtopheimplclfcaaDoor
open Go.RowKit

theorem pairs_wf {w : World} {r : SRow} (h : r.Ok w (.arr 2 (.int .i64))) : ∃ xs : List (Int × Int), r.v = .slice r.a xs.length r.cap ∧ Pairs w r.a xs ∧ ∀ x ∈ xs, x.1 ≤ 9223372036854775807 := by
  obtain ⟨xs, h1, h2, h3⟩ := elems_of (P := fun x : Int × Int => x.1 ≤ 9223372036854775807) (f := pairV) h (fun cs hc => by
    obtain ⟨a, b, rfl, wa, _⟩ := ok_pair hc
    exact ⟨(a, b), rfl, (by unfold Lit.wf at wa; rw [Bool.and_eq_true, decide_eq_true_eq, decide_eq_true_eq] at wa; exact wa.2)⟩)
  exact ⟨xs, h1, h2, h3⟩
theorem puts_awake (w : World) (a : Option Addr) (n cap : Nat) (hL : Laid w) (h : 70 < n) :
    Calls Tryd.prog 3 #[.slice a n cap] w fun e w' => e = .returned (.bool true) ∧ Fr No w w' := by
  have HL := hid hL
  clear hL
  go_enter Tryd.func3, Tryd.ntmps3
  go_wp2_with fail
  refine (fd_Write' w).mono ?_; rintro e w1 ⟨rfl, hW1, hF1⟩
  have HF1 := hid hF1
  have HA := hid (fd_awake w1 (laid_no HL.out HF1.out))
  clear hF1 hW1
  go_wp2_with (refine HA.out.mono ?_; rintro e W7 ⟨rfl, hF7⟩)
  go_ret
  exact ⟨rfl, HF1.out.trans hF7⟩
theorem law_FieldPuts (w : World) (r : SRow) (hr : r.Ok w (.arr 2 (.int .i64))) (hL : Laid w) :
    Calls Tryd.prog 3 #[r.v] w fun e w' => e = .returned (.bool true) ∧ Fr No w w' := by
  obtain ⟨xs, hv, hP, hwf⟩ := pairs_wf hr
  rw [hv]
  by_cases h : 70 < xs.length
  · exact puts_awake w r.a xs.length r.cap hL h
  · exact puts_in w r.a r.cap xs (by omega) hP hwf hL
end Go.Proofs.YtopheimplclfcaaDoor
