/- The law RingPlays: every input. -/
import Derived.Test.YtndljmkdgakfcaaRgPlays
namespace Go.Proofs.Ytndljmkdgakfcaa
open Go.RowKit

set_option maxRecDepth 100000 in
theorem plays_bad (w : World) (a : Option Addr) (n cap : Nat) (m : Int) (h : m < 1 ∨ 1024 < m) :
    Calls Try.prog 3 #[.int .i64 m, .slice a n cap] w fun e w' => e = .returned (.bool true) ∧ Fr No w w' := by
  have HN := hid (rg_New_bad w m h)
  have h4 : m < 1 ∨ (1 ≤ m ∧ 1024 < m) := by omega
  clear h
  rcases h4 with h | ⟨h, h2⟩
  all_goals
    go_enter Try.func3, Try.ntmps3
    go_wp2_with fail
    refine HN.out.mono ?_; rintro e w5 ⟨rfl, rfl⟩
    go_wp2_with fail
    refine (rg_awake _).mono ?_; rintro e w6 ⟨rfl, hF6⟩
    go_wp2_with fail
    go_ret
    exact ⟨rfl, hF6⟩
set_option maxRecDepth 100000 in
theorem plays_long (w : World) (a : Option Addr) (n cap : Nat) (m : Nat) (h1 : 1 ≤ m) (h2 : m ≤ 1024) (h : 100 < n) :
    Calls Try.prog 3 #[.int .i64 m, .slice a n cap] w fun e w' => e = .returned (.bool true) ∧ Fr No w w' := by
  go_enter Try.func3, Try.ntmps3
  go_wp2_with fail
  refine (rg_New_ok _ m h1 h2).mono ?_; rintro e w5 ⟨p, c, rfl, _, hF1, _, _⟩
  go_wp2_with fail
  refine (rg_awake _).mono ?_; rintro e w6 ⟨rfl, hF6⟩
  go_wp2_with fail
  go_ret
  exact ⟨rfl, hF1.trans hF6⟩
theorem law_RingPlays (w : World) (m : Int) (_wm : (Lit.int .i64 m).wf = true) (r : SRow) (hr : r.Ok w op2Sh) :
    Calls Try.prog 3 #[.int .i64 m, r.v] w fun e w' => e = .returned (.bool true) ∧ Fr No w w' := by
  obtain ⟨xs, hv, hP⟩ := ops2_of hr
  rw [hv]
  by_cases h : m < 1 ∨ 1024 < m
  · exact plays_bad w r.a xs.length r.cap m h
  · obtain ⟨m, rfl⟩ := Int.eq_ofNat_of_zero_le (show 0 ≤ m by omega)
    by_cases hx : 100 < xs.length
    · exact plays_long w r.a xs.length r.cap m (by omega) (by omega) hx
    · exact plays_in w r.a r.cap xs (by omega) hP m (by omega) (by omega)
end Go.Proofs.Ytndljmkdgakfcaa
