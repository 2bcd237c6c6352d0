/- The walk of lavabolaw01.CrcGrows. -/
import Derived.Test.YtndljmkdgakfcaaDoorCrcAwake
import Derived.Test.YtndljmkdgakfcaaDoorLaid
namespace Go.Proofs.YtndljmkdgakfcaaDoor
open Go.RowKit

/-- a sum of noughts -/
def nz (n : Nat) : Nat := Crc.past Crc.F n ^^^ Crc.F
theorem nz_lt (n : Nat) : nz n < 4294967296 := Crc.xor_lt _ _ (Crc.past_lt _ _ Crc.F_lt) Crc.F_lt
theorem nz_add (a b : Nat) : Crc.past (nz a) b ^^^ nz b = nz (a + b) := by
  have h := Crc.sum_append (List.replicate a 0) (List.replicate b 0)
  rw [List.replicate_append_replicate, Crc.sum_zeros, Crc.sum_zeros, Crc.sum_zeros, List.length_replicate] at h
  exact h.symm
/-- noughts come to the first sum again only far away -/
def farB : Nat → Nat → Bool
  | 0, _ => true
  | k + 1, s => let t := Crc.stepB s 0; t != Crc.F && farB k t
theorem far_ok : farB 300 Crc.F = true := by decide +kernel
theorem far_of : ∀ (k s : Nat), farB k s = true → ∀ j, 1 ≤ j → j ≤ k → Crc.past s j ≠ Crc.F
  | 0, _, _, j, h1, h2 => by omega
  | k + 1, s, h, j, h1, h2 => by
    simp only [farB, Bool.and_eq_true, bne_iff_ne] at h
    obtain ⟨j, rfl⟩ : ∃ i, j = i + 1 := ⟨j - 1, by omega⟩
    rw [Crc.past_succ]
    cases j with
    | zero => exact h.1
    | succ j => exact far_of k _ h.2 (j + 1) (by omega) (by omega)
theorem nz_inj (a b : Nat) (ha : a ≤ 300) (hb : b ≤ 300) (h : nz a = nz b) : a = b := by
  have h' : Crc.past Crc.F a = Crc.past Crc.F b := Crc.xor_right_cancel h
  rcases Nat.lt_trichotomy a b with g | g | g
  · obtain ⟨d, rfl⟩ : ∃ d, b = d + a := ⟨b - a, by omega⟩
    rw [Crc.past_add] at h'
    have := Crc.past_inj a _ _ Crc.F_lt (Crc.past_lt _ d Crc.F_lt) h'
    exact absurd this.symm (far_of 300 _ far_ok d (by omega) (by omega))
  · exact g
  · obtain ⟨d, rfl⟩ : ∃ d, a = d + b := ⟨a - b, by omega⟩
    rw [Crc.past_add] at h'
    have := Crc.past_inj b _ _ (Crc.past_lt _ d Crc.F_lt) Crc.F_lt h'
    exact absurd this (far_of 300 _ far_ok d (by omega) (by omega))

theorem eq_of_iff {f : Nat → Nat} {a b : Nat} (h : f a = f b → a = b) : (((f a : Nat) : Int) == ((f b : Nat) : Int)) = ((a : Int) == (b : Int)) := by
  by_cases g : a = b
  · subst g; simp
  · have g2 : f a ≠ f b := fun e => g (h e)
    rw [beq_eq_false_iff_ne.2 (by omega), beq_eq_false_iff_ne.2 (by omega)]
theorem noughts_nz (n : Nat) (w : World) (h1 : n ≤ 1048576) (hN : TabAt w) (h0 : 0 < w.heap.size) : Calls Tryd.prog 13 #[.int .i64 n] w fun e w' => e = .returned (.tuple #[.int .i64 (nz n : Nat), .int .i64 0]) ∧ Fr No w w' := noughts_ok n w h1 hN h0

set_option maxHeartbeats 1000000 in
theorem grows_in (a b : Nat) (w : World) (hN : TabAt w) (h0 : 0 < w.heap.size) (ha : a ≤ 300) (hb : b ≤ 300) :
    Calls Tryd.prog 8 #[.int .i64 a, .int .i64 b] w fun e w' => e = .returned (.bool true) ∧ Fr No w w' := by
  have HN := hid hN
  have H0 := hid h0
  have la := nz_lt a
  have lb := nz_lt b
  have HJ : Hid (Crc.past (nz a) b ^^^ nz b = nz (a + b)) := hid (nz_add a b)
  have hin : nz a = nz b → a = b := nz_inj a b ha hb
  have Hin := hid hin
  clear hN hin
  go_enter Tryd.func8, Tryd.ntmps8
  go_wp2_with fail
  refine (noughts_nz a w (by omega) HN.out H0.out).mono ?_; rintro e w1 ⟨rfl, hF1⟩
  have HF1 := hid hF1
  clear hF1
  go_wp2_with fail
  refine (noughts_nz b w1 (by omega) (HN.out.fr HF1.out H0.out id) (HF1.out.lt H0.out)).mono ?_; rintro e w2 ⟨rfl, hF2⟩
  have HF2 := hid (HF1.out.trans hF2)
  clear hF2
  go_wp2_with fail
  refine (noughts_nz (a + b) w2 (by omega) (HN.out.fr HF2.out H0.out id) (HF2.out.lt H0.out)).mono ?_; rintro e w3 ⟨rfl, hF3⟩
  have HF3 := hid (HF2.out.trans hF3)
  clear hF3
  go_wp2_with fail
  refine (join_ok (nz a) (nz b) b w3 la lb (by omega) (HN.out.fr HF3.out H0.out id) (HF3.out.lt H0.out)).mono ?_; rintro e w4 ⟨rfl, hF4⟩
  have HF4 := hid (HF3.out.trans hF4)
  clear hF4
  rw [HJ.out]
  have hq := eq_of_iff (f := nz) Hin.out
  go_wp2_with fail
  refine (crc_awake w4 (HN.out.fr HF4.out H0.out id) (HF4.out.lt H0.out)).mono ?_; rintro e w5 ⟨rfl, hF5⟩
  have HF5 := hid (HF4.out.trans hF5)
  clear hF5
  go_wp2_with fail
  go_ret
  exact ⟨rfl, HF5.out⟩

set_option maxHeartbeats 1000000 in
theorem grows_out (a b : Int) (w : World) (hN : TabAt w) (h0 : 0 < w.heap.size) (h : a < 0 ∨ (0 ≤ a ∧ 300 < a) ∨ (0 ≤ a ∧ a ≤ 300 ∧ b < 0) ∨ (0 ≤ a ∧ a ≤ 300 ∧ 0 ≤ b ∧ 300 < b)) :
    Calls Tryd.prog 8 #[.int .i64 a, .int .i64 b] w fun e w' => e = .returned (.bool true) ∧ Fr No w w' := by
  have HN := hid (crc_awake w hN h0)
  clear hN
  rcases h with h | ⟨h1, h2⟩ | ⟨h1, h2, h3⟩ | ⟨h1, h2, h3, h4⟩
  all_goals
    go_enter Tryd.func8, Tryd.ntmps8
    go_wp2_with (go_at_call 9; refine HN.out.mono ?_; rintro e w5 ⟨rfl, hF5⟩)
    go_ret
    exact ⟨rfl, by assumption⟩

set_option linter.unusedVariables false in
theorem law_CrcGrows (w : World) (a : Int) (wa : (Lit.int .i64 a).wf = true) (b : Int) (wb : (Lit.int .i64 b).wf = true) (hL : Laid w) :
    Calls Tryd.prog 8 #[.int .i64 a, .int .i64 b] w fun e w' => e = .returned (.bool true) ∧ Fr No w w' := by
  obtain ⟨hN, h0⟩ := hL
  by_cases h : a < 0 ∨ (0 ≤ a ∧ 300 < a) ∨ (0 ≤ a ∧ a ≤ 300 ∧ b < 0) ∨ (0 ≤ a ∧ a ≤ 300 ∧ 0 ≤ b ∧ 300 < b)
  · exact grows_out a b w hN h0 h
  · obtain ⟨a, rfl⟩ := Int.eq_ofNat_of_zero_le (show 0 ≤ a by omega)
    obtain ⟨b, rfl⟩ := Int.eq_ofNat_of_zero_le (show 0 ≤ b by omega)
    exact grows_in a b w hN h0 (by omega) (by omega)
end Go.Proofs.YtndljmkdgakfcaaDoor
