/- The law RingOrder: every input. -/
import Derived.Test.YtndljmkdgakfcaaRgOrder
namespace Go.Proofs.Ytndljmkdgakfcaa
open Go.RowKit

set_option maxRecDepth 100000 in
theorem order_bad (w : World) (a : Option Addr) (n cap : Nat) (m : Int) (shut : Bool) (h : m < 1 ∨ 1024 < m) :
    Calls Try.prog 4 #[.slice a n cap, .int .i64 m, .bool shut] w fun e w' => e = .returned (.bool true) ∧ Fr No w w' := by
  go_enter Try.func4, Try.ntmps4
  go_wp2_with (first
    | (refine (rg_New_bad _ m h).mono ?_; rintro e w5 ⟨rfl, rfl⟩)
    | (refine (rg_awake _).mono ?_; rintro e w6 ⟨rfl, hF6⟩))
  go_ret
  exact ⟨rfl, hF6⟩
set_option maxRecDepth 100000 in
theorem order_long (w : World) (a : Option Addr) (n cap : Nat) (m : Nat) (h1 : 1 ≤ m) (h2 : m ≤ 1024) (shut : Bool) (h : 200 < n) :
    Calls Try.prog 4 #[.slice a n cap, .int .i64 m, .bool shut] w fun e w' => e = .returned (.bool true) ∧ Fr No w w' := by
  go_enter Try.func4, Try.ntmps4
  go_wp2_with (first
    | (refine (rg_New_ok _ m h1 h2).mono ?_; rintro e w5 ⟨p, c, rfl, _, hF1, _, _⟩)
    | (refine (rg_awake _).mono ?_; rintro e w6 ⟨rfl, hF6⟩))
  go_ret
  exact ⟨rfl, hF1.trans hF6⟩
theorem law_RingOrder (w : World) (r : SRow) (hr : r.Ok w (.int .i64)) (m : Int) (_wm : (Lit.int .i64 m).wf = true) (shut : Bool) :
    Calls Try.prog 4 #[r.v, .int .i64 m, .bool shut] w fun e w' => e = .returned (.bool true) ∧ Fr No w w' := by
  obtain ⟨xs, hv, hrow, _⟩ := introw_of hr
  rw [hv]
  by_cases h : m < 1 ∨ 1024 < m
  · exact order_bad w r.a xs.length r.cap m shut h
  · obtain ⟨m, rfl⟩ := Int.eq_ofNat_of_zero_le (show 0 ≤ m by omega)
    by_cases hx : 200 < xs.length
    · exact order_long w r.a xs.length r.cap m (by omega) (by omega) shut hx
    · exact order_in w r.a r.cap xs (by omega) hrow m (by omega) (by omega) shut
end Go.Proofs.Ytndljmkdgakfcaa
