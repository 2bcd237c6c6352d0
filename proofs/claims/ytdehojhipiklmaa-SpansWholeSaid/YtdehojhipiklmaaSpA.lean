/- spans: may, takes. -/
import Derived.Test.YtdehojhipiklmaaSpMath
import Derived.Test.YtdehojhipiklmaaOwn
import Derived.Test.YtdehojhipiklmaaStl
import Derived.WalkMore
import Derived.Deep.LoopGhost
import Derived.BigQuiet
import Derived.Deep.QuietTactic
import Derived.WalkLawsBesides
import Derived.Deep.DeepCutAuto
namespace Go.Proofs.Ytdehojhipiklmaa
open Go.RowKit

def spV (s : Sp) : List Value := [.int .i64 s.1, .int .i64 s.2]
theorem spV_len (s : Sp) : (spV s).length = 2 := rfl
theorem spV_one (s : Sp) : ∀ u ∈ spV s, u.oneCell' = true := fun u hu => by simp [spV] at hu; rcases hu with rfl | rfl <;> rfl
def mayB (a n : Int) : Bool := decide (0 ≤ a) && decide (0 ≤ n) && decide (a ≤ 1048576) && decide (n ≤ 1048576 - a)
theorem mayB_iff {a n : Int} : mayB a n = true ↔ 0 ≤ a ∧ 0 ≤ n ∧ a + n ≤ 1048576 := by
  unfold mayB; simp only [Bool.and_eq_true, decide_eq_true_eq]; omega
theorem sp_may (w : World) (a n : Int) : Calls Try.prog 29 #[.agg #[.int .i64 a, .int .i64 n]] w fun e w' => e = .returned (.bool (mayB a n)) ∧ Fr No w w' := by
  have hb := heap_new w (.cells #[.int .i64 a, .int .i64 n] 24)
  have HF := hid ((Fr.refl No w).alloc (.cells #[.int .i64 a, .int .i64 n] 24))
  have b0 := cell_blk hb 0
  have b1 := cell_blk hb 1
  simp only [List.getElem?_toArray, List.getElem?_cons_zero, List.getElem?_cons_succ] at b0 b1
  clear hb
  by_cases h1 : 0 ≤ a
  · by_cases h2 : 0 ≤ n
    · by_cases h3 : a ≤ 1048576
      · by_cases h4 : n ≤ 1048576 - a
        all_goals
          have HM := hid (show mayB a n = _ from by unfold mayB; rw [decide_eq_true h1, decide_eq_true h2, decide_eq_true h3])
          go_enter Try.func29, Try.ntmps29
          go_wp2_with fail
          go_ret
          exact ⟨by rw [HM.out]; simp [h4], HF.out⟩
      · have HM := hid (show mayB a n = false from by unfold mayB; rw [decide_eq_false h3]; simp)
        go_enter Try.func29, Try.ntmps29
        go_wp2_with fail
        go_ret
        exact ⟨by rw [HM.out]; rfl, HF.out⟩
    · have HM := hid (show mayB a n = false from by unfold mayB; rw [decide_eq_false h2]; simp)
      go_enter Try.func29, Try.ntmps29
      go_wp2_with fail
      go_ret
      exact ⟨by rw [HM.out]; rfl, HF.out⟩
  · have HM := hid (show mayB a n = false from by unfold mayB; rw [decide_eq_false h1]; simp)
    go_enter Try.func29, Try.ntmps29
    go_wp2_with fail
    go_ret
    exact ⟨by rw [HM.out]; rfl, HF.out⟩
end Go.Proofs.Ytdehojhipiklmaa
