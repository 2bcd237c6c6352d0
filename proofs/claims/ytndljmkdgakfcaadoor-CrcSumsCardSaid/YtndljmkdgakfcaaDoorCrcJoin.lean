/- The walks of crc.Join, Noughts. -/
import Derived.Test.YtndljmkdgakfcaaDoorCrcPast
namespace Go.Proofs.YtndljmkdgakfcaaDoor
open Go.RowKit

theorem isCount_yes (n : Int) (w : World) (h0 : 0 ≤ n) (h1 : n ≤ 1048576) : Calls Tryd.prog 18 #[.int .i64 n] w fun e w' => e = .returned (.bool true) ∧ w' = w := by
  go_enter Tryd.func18, Tryd.ntmps18
  go_wp2
  all_goals go_ret
  all_goals exact ⟨rfl, rfl⟩
theorem isCount_no (n : Int) (w : World) (h : n < 0 ∨ 1048576 < n) : Calls Tryd.prog 18 #[.int .i64 n] w fun e w' => e = .returned (.bool false) ∧ w' = w := by
  rcases h with h | h
  all_goals
    try (have hd : decide (n ≤ 1048576) = false := by simp; omega)
    go_enter Tryd.func18, Tryd.ntmps18
    go_wp2
    all_goals go_ret
    all_goals exact ⟨rfl, rfl⟩
theorem isSum_yes (n : Int) (w : World) (h0 : 0 ≤ n) (h1 : n ≤ 4294967295) : Calls Tryd.prog 17 #[.int .i64 n] w fun e w' => e = .returned (.bool true) ∧ w' = w := by
  go_enter Tryd.func17, Tryd.ntmps17
  go_wp2
  all_goals go_ret
  all_goals exact ⟨rfl, rfl⟩
theorem isSum_no (n : Int) (w : World) (h : n < 0 ∨ 4294967295 < n) : Calls Tryd.prog 17 #[.int .i64 n] w fun e w' => e = .returned (.bool false) ∧ w' = w := by
  rcases h with h | h
  all_goals
    try (have hd : decide (n ≤ 4294967295) = false := by simp; omega)
    go_enter Tryd.func17, Tryd.ntmps17
    go_wp2
    all_goals go_ret
    all_goals exact ⟨rfl, rfl⟩

theorem noughts_bad (n : Int) (w : World) (h : n < 0 ∨ 1048576 < n) : Calls Tryd.prog 13 #[.int .i64 n] w fun e w' => e = .returned (.tuple #[.int .i64 0, .int .i64 1]) ∧ w' = w := by
  go_enter Tryd.func13, Tryd.ntmps13
  go_wp2_with (go_at_call 18; refine (isCount_no n w h).mono ?_; rintro e w' ⟨rfl, rfl⟩)
  go_ret2
  exact ⟨rfl, rfl⟩
theorem noughts_ok (n : Nat) (w : World) (h1 : n ≤ 1048576) (hN : TabAt w) (h0 : 0 < w.heap.size) : Calls Tryd.prog 13 #[.int .i64 n] w fun e w' => e = .returned (.tuple #[.int .i64 ((Crc.past Crc.F n ^^^ Crc.F : Nat) : Int), .int .i64 0]) ∧ Fr No w w' := by
  have hb := Crc.past_lt Crc.F n Crc.F_lt
  have e1 : bits .xor .u32 ((Crc.past Crc.F n : Nat) : Int) 4294967295 = ((Crc.past Crc.F n ^^^ Crc.F : Nat) : Int) := x32 _ Crc.F hb Crc.F_lt
  have hb2 := Crc.xor_lt _ _ hb Crc.F_lt
  generalize Crc.past Crc.F n ^^^ Crc.F = r at *
  have P1 := past_any Crc.F n w Crc.F_lt (by omega) hN h0
  generalize Crc.past Crc.F n = p at *
  have HP := hid P1
  have HN := hid hN
  clear P1 hN
  go_enter Tryd.func13, Tryd.ntmps13
  go_wp2_with (first | (go_at_call 18; refine (isCount_yes n w (by omega) (by omega)).mono ?_; rintro e w' ⟨rfl, rfl⟩) | (go_at_call 19; refine HP.out.mono ?_; rintro e w1 ⟨rfl, hF⟩))
  go_ret2
  exact ⟨rfl, by assumption⟩

theorem join_bad (a b n : Int) (w : World) (h : (a < 0 ∨ 4294967295 < a) ∨ (b < 0 ∨ 4294967295 < b) ∨ (n < 0 ∨ 1048576 < n)) : Calls Tryd.prog 12 #[.int .i64 a, .int .i64 b, .int .i64 n] w fun e w' => e = .returned (.tuple #[.int .i64 0, .int .i64 1]) ∧ w' = w := by
  by_cases ha : a < 0 ∨ 4294967295 < a
  · have Ha := hid ha
    clear ha h
    go_enter Tryd.func12, Tryd.ntmps12
    go_wp2_with (go_at_call 17; refine (isSum_no a w Ha.out).mono ?_; rintro e w' ⟨rfl, rfl⟩)
    go_ret2
    exact ⟨rfl, rfl⟩
  · by_cases hb : b < 0 ∨ 4294967295 < b
    · have Hb := hid hb
      clear hb h
      go_enter Tryd.func12, Tryd.ntmps12
      go_wp2_with fail
      refine (isSum_yes a w (by omega) (by omega)).mono ?_; rintro e w' ⟨rfl, rfl⟩
      go_wp2_with fail
      refine (isSum_no b _ Hb.out).mono ?_; rintro e w' ⟨rfl, rfl⟩
      go_wp2_with fail
      go_ret2
      exact ⟨rfl, rfl⟩
    · have hn : n < 0 ∨ 1048576 < n := by rcases h with h | h | h <;> first | exact h | exact absurd h ha | exact absurd h hb
      have Hn := hid hn
      clear hn h
      go_enter Tryd.func12, Tryd.ntmps12
      go_wp2_with fail
      refine (isSum_yes a w (by omega) (by omega)).mono ?_; rintro e w' ⟨rfl, rfl⟩
      go_wp2_with fail
      refine (isSum_yes b _ (by omega) (by omega)).mono ?_; rintro e w' ⟨rfl, rfl⟩
      go_wp2_with fail
      refine (isCount_no n _ Hn.out).mono ?_; rintro e w' ⟨rfl, rfl⟩
      go_wp2_with fail
      go_ret2
      exact ⟨rfl, rfl⟩

theorem join_ok (a b n : Nat) (w : World) (ha : a < 4294967296) (hb : b < 4294967296) (hn : n ≤ 1048576) (hN : TabAt w) (h0 : 0 < w.heap.size) :
    Calls Tryd.prog 12 #[.int .i64 a, .int .i64 b, .int .i64 n] w fun e w' => e = .returned (.tuple #[.int .i64 ((Crc.past a n ^^^ b : Nat) : Int), .int .i64 0]) ∧ Fr No w w' := by
  have hp := Crc.past_lt a n ha
  have e1 : bits .xor .u32 ((Crc.past a n : Nat) : Int) (b : Int) = ((Crc.past a n ^^^ b : Nat) : Int) := x32 _ b hp hb
  have hb2 := Crc.xor_lt _ _ hp hb
  generalize Crc.past a n ^^^ b = r at *
  have P1 := past_any a n w ha (by omega) hN h0
  generalize Crc.past a n = p at *
  have HP := hid P1
  have HN := hid hN
  clear P1 hN
  go_enter Tryd.func12, Tryd.ntmps12
  go_wp2_with fail
  refine (isSum_yes a w (by omega) (by omega)).mono ?_; rintro e w' ⟨rfl, rfl⟩
  go_wp2_with fail
  refine (isSum_yes b _ (by omega) (by omega)).mono ?_; rintro e w' ⟨rfl, rfl⟩
  go_wp2_with fail
  refine (isCount_yes n _ (by omega) (by omega)).mono ?_; rintro e w' ⟨rfl, rfl⟩
  go_wp2_with fail
  refine HP.out.mono ?_; rintro e w1 ⟨rfl, hF⟩
  go_wp2_with fail
  go_ret2
  exact ⟨rfl, hF⟩
end Go.Proofs.YtndljmkdgakfcaaDoor
