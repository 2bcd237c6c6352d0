/- lavaboref08.May: the document's answer which turns may be. -/
import Derived.Test.YtopheimplclfcaaDoorSlMay
namespace Go.Proofs.YtopheimplclfcaaDoor
open Go.RowKit

set_option maxHeartbeats 2000000 in
theorem rmay_some (f t : Int) (w : World) (hf : f = 0 ∨ f = 1 ∨ f = 2 ∨ f = 3) (ht : t = 0 ∨ t = 1 ∨ t = 2 ∨ t = 3 ∨ t = 4) : Calls Tryd.prog 38 #[.int .i64 f, .int .i64 t] w fun e w' => e = .returned (.bool (mayI f t)) ∧ w' = w := by
  rcases hf with rfl | rfl | rfl | rfl <;> rcases ht with rfl | rfl | rfl | rfl | rfl
  all_goals
    go_enter Tryd.func38, Tryd.ntmps38
    go_wp2
    go_ret
    exact ⟨rfl, rfl⟩
set_option maxHeartbeats 2000000 in
theorem rmay_far (f t : Int) (w : World) (hf : f = 0 ∨ f = 1 ∨ f = 2 ∨ f = 3) (ht : t < 0 ∨ 4 < t) : Calls Tryd.prog 38 #[.int .i64 f, .int .i64 t] w fun e w' => e = .returned (.bool false) ∧ w' = w := by
  have t0 : (t == 0) = false := by simp; omega
  have t1 : (t == 1) = false := by simp; omega
  have t2 : (t == 2) = false := by simp; omega
  have t3 : (t == 3) = false := by simp; omega
  have t4 : (t == 4) = false := by simp; omega
  clear ht
  rcases hf with rfl | rfl | rfl | rfl
  all_goals
    go_enter Tryd.func38, Tryd.ntmps38
    go_wp2
    go_ret
    exact ⟨rfl, rfl⟩
set_option maxHeartbeats 2000000 in
theorem rmay_none (f t : Int) (w : World) (hf : ¬ (f = 0 ∨ f = 1 ∨ f = 2 ∨ f = 3)) : Calls Tryd.prog 38 #[.int .i64 f, .int .i64 t] w fun e w' => e = .returned (.bool false) ∧ w' = w := by
  have t0 : (f == 0) = false := by simp; omega
  have t1 : (f == 1) = false := by simp; omega
  have t2 : (f == 2) = false := by simp; omega
  have t3 : (f == 3) = false := by simp; omega
  clear hf
  go_enter Tryd.func38, Tryd.ntmps38
  go_wp2
  go_ret
  exact ⟨rfl, rfl⟩
theorem rmay_any (f t : Int) (w : World) : Calls Tryd.prog 38 #[.int .i64 f, .int .i64 t] w fun e w' => e = .returned (.bool (mayI f t)) ∧ w' = w := by
  by_cases hf : f = 0 ∨ f = 1 ∨ f = 2 ∨ f = 3
  · by_cases ht : t < 0 ∨ 4 < t
    · have e : mayI f t = false := by unfold mayI; rw [decide_eq_false (by omega)]; rfl
      rw [e]; exact rmay_far f t w hf ht
    · exact rmay_some f t w hf (by omega)
  · have e : mayI f t = false := by
      unfold mayI
      by_cases h : 0 ≤ f ∧ f ≤ 4 ∧ 0 ≤ t ∧ t ≤ 4
      · obtain rfl : f = 4 := by omega
        simp [mayN]
      · rw [decide_eq_false h]; rfl
    rw [e]; exact rmay_none f t w hf
end Go.Proofs.YtopheimplclfcaaDoor
