/- The walk of lavabolaw01.CrcJoins. -/
import Derived.Test.YtndljmkdgakfcaaDoorCrcParts
import Derived.Test.YtndljmkdgakfcaaDoorCrcGrows
import Derived.Test.YtndljmkdgakfcaaDoorCrcRef
import Derived.Laws.MakeOwn
namespace Go.Proofs.YtndljmkdgakfcaaDoor
open Go.RowKit

/-- n bytes 0, as a block -/
def zeroBytes (n : Nat) : Array Value := madeCells #[.int .u8 0] n
theorem zeroBytes_list (n : Nat) : zeroBytes n = ((List.replicate n 0).map byte).toArray := by
  apply Array.ext
  · simp [zeroBytes, size_madeCells]
  · intro i h1 h2
    simp [zeroBytes, madeCells, byte, Nat.mod_one]
theorem mk_bytes (n : Nat) (hn : n ≤ 1048576) (W : World) : (Instr.makeSlice 22 (.int .i64 (n : Int)) (.int .i64 (n : Int))).run Tryd.prog W = .ok (.slice (some ⟨W.heap.size, 0, none⟩) n n) (W.alloc (.cells (zeroBytes n) 5)) := by
  have info : (Tryd.prog.info? 5).map (fun i => (i.zero, i.size, i.bytes)) = some (some (.int .u8 0), 1, 1) := by kernel_rfl
  obtain ⟨i0, hi, hz0, hz1, hz2⟩ := info_parts info
  have := run_make (P := Tryd.prog) W 22 5 i0 (.int .u8 0) Tryd.underlying22 hi hz0 .i64 .i64 (n : Int) (n : Int) (by omega) (by omega) (by rw [hz2]; omega) (by omega)
  rw [this, hz1]
  simp only [Int.toNat_natCast, Nat.mul_one, zeroBytes]
  rfl
theorem zero_row (n : Nat) (hn : n ≤ 1048576) (W : World) : BRow.Ok (W.alloc (.cells (zeroBytes n) 5)) ⟨some ⟨W.heap.size, 0, none⟩, n, List.replicate n 0⟩ := by
  refine ⟨?_, fun x hx => by rw [List.eq_of_mem_replicate hx]; omega, by unfold maxLen; simp; omega⟩
  rw [zeroBytes_list]
  exact Row.new W ((List.replicate n 0).map byte) 5 (0, 0)

theorem right_yes (n : Int) (w : World) (h0 : 0 ≤ n) (h1 : n ≤ 4294967295) : Calls Tryd.prog 14 #[.int .i64 n] w fun e w' => e = .returned (.bool true) ∧ w' = w := by
  go_enter Tryd.func14, Tryd.ntmps14
  go_wp2
  all_goals go_ret
  all_goals exact ⟨rfl, rfl⟩
theorem right_no (n : Int) (w : World) (h : n < 0 ∨ 4294967295 < n) : Calls Tryd.prog 14 #[.int .i64 n] w fun e w' => e = .returned (.bool false) ∧ w' = w := by
  rcases h with h | h
  all_goals
    try (have hd : decide (n ≤ 4294967295) = false := by simp; omega)
    go_enter Tryd.func14, Tryd.ntmps14
    go_wp2
    all_goals go_ret
    all_goals exact ⟨rfl, rfl⟩

set_option maxHeartbeats 1000000 in
theorem joins_out (a b n : Int) (w : World) (hL : Laid w) (h : 300 < n) (h2 : n ≤ 1048576) :
    Calls Tryd.prog 4 #[.int .i64 a, .int .i64 b, .int .i64 n] w fun e w' => e = .returned (.bool true) ∧ Fr No w w' := by
  have HN := hid (crc_awake w hL.1 hL.2)
  clear hL
  go_enter Tryd.func4, Tryd.ntmps4
  go_wp2_with (go_at_call 9; refine HN.out.mono ?_; rintro e w5 ⟨rfl, hF5⟩)
  go_ret
  exact ⟨rfl, by assumption⟩

set_option maxHeartbeats 1000000 in
theorem joins_bad (a b n : Int) (w : World) (hL : Laid w) (h : n < 0 ∨ 1048576 < n) :
    Calls Tryd.prog 4 #[.int .i64 a, .int .i64 b, .int .i64 n] w fun e w' => e = .returned (.bool true) ∧ Fr No w w' := by
  have HN := hid (crc_awake w hL.1 hL.2)
  have HJ := hid (join_bad a b n w (.inr (.inr h)))
  have HZ := hid (noughts_bad n w h)
  clear hL
  rcases h with h | h
  all_goals
    go_enter Tryd.func4, Tryd.ntmps4
    go_wp2_with fail
    refine HJ.out.mono ?_; rintro e w1 ⟨rfl, rfl⟩
    go_wp2_with fail
    refine HZ.out.mono ?_; rintro e w1 ⟨rfl, rfl⟩
    go_wp2_with fail
    refine HN.out.mono ?_; rintro e w1 ⟨rfl, hF⟩
    go_wp2_with fail
    go_ret
    exact ⟨rfl, hF⟩

set_option maxHeartbeats 1000000 in
theorem joins_wrong (a b : Int) (n : Nat) (w : World) (hL : Laid w) (h : n ≤ 300) (hab : (a < 0 ∨ 4294967295 < a) ∨ (b < 0 ∨ 4294967295 < b)) :
    Calls Tryd.prog 4 #[.int .i64 a, .int .i64 b, .int .i64 n] w fun e w' => e = .returned (.bool true) ∧ Fr No w w' := by
  have HL := hid hL
  have HJ := hid (join_bad a b n w (by rcases hab with h | h; exact .inl h; exact .inr (.inl h)))
  have hmk := mk_bytes n (by omega)
  have Hab := hid hab
  clear hL hab
  go_enter Tryd.func4, Tryd.ntmps4
  go_wp2_with fail
  refine HJ.out.mono ?_; rintro e w1 ⟨rfl, rfl⟩
  go_wp2_with fail
  refine (noughts_nz n w1 (by omega) HL.out.1 HL.out.2).mono ?_; rintro e w2 ⟨rfl, hF⟩
  have HF2 := hid hF; clear hF
  have HZ := hid (rsum_any ⟨some ⟨w2.heap.size, 0, none⟩, n, List.replicate n 0⟩ _ (zero_row n (by omega) w2))
  have HS : Hid (Crc.sumOf (List.replicate n 0) = nz n) := Crc.sum_zeros n
  go_wp2_with fail
  refine ((show Calls Tryd.prog 10 #[.slice (some ⟨w2.heap.size, 0, none⟩) n n] (w2.alloc (.cells (zeroBytes n) 5)) fun e w' => e = .returned (.int .i64 (nz n : Nat)) ∧ w' = (w2.alloc (.cells (zeroBytes n) 5)) by
    have := HZ.out; simp only [BRow.v, List.length_replicate] at this; rw [HS.out] at this; exact this)).mono ?_
  rintro e w3 ⟨rfl, rfl⟩
  clear hmk
  generalize nz n = z
  have HF3 := hid (HF2.out.alloc (.cells (zeroBytes n) 5))
  by_cases ha : a < 0 ∨ 4294967295 < a
  · have Ha := hid ha
    clear ha
    go_wp2_with fail
    refine (right_no a _ Ha.out).mono ?_; rintro e w4 ⟨rfl, rfl⟩
    go_wp2_with fail
    refine (crc_awake _ (HL.out.no HF3.out).1 (HL.out.no HF3.out).2).mono ?_; rintro e w5 ⟨rfl, hF⟩
    have HF5 := hid (HF3.out.trans hF); clear hF
    go_wp2_with fail
    go_ret
    exact ⟨rfl, HF5.out⟩
  · have Hb : Hid (b < 0 ∨ 4294967295 < b) := by rcases Hab.out with g | g; exact absurd g ha; exact g
    have Ha := hid ha
    clear ha
    go_wp2_with fail
    refine (right_yes a _ (by have := Ha.out; omega) (by have := Ha.out; omega)).mono ?_; rintro e w4 ⟨rfl, rfl⟩
    go_wp2_with fail
    refine (right_no b _ Hb.out).mono ?_; rintro e w4 ⟨rfl, rfl⟩
    go_wp2_with fail
    refine (crc_awake _ (HL.out.no HF3.out).1 (HL.out.no HF3.out).2).mono ?_; rintro e w5 ⟨rfl, hF⟩
    have HF5 := hid (HF3.out.trans hF); clear hF
    go_wp2_with fail
    go_ret
    exact ⟨rfl, HF5.out⟩

set_option maxHeartbeats 1000000 in
theorem joins_right (a b n : Nat) (w : World) (hL : Laid w) (h : n ≤ 300) (ha : a < 4294967296) (hb : b < 4294967296) :
    Calls Tryd.prog 4 #[.int .i64 a, .int .i64 b, .int .i64 n] w fun e w' => e = .returned (.bool true) ∧ Fr No w w' := by
  have HL := hid hL
  have HJ := hid (join_ok a b n w ha hb (by omega) hL.1 hL.2)
  have hp := Crc.past_lt a n ha
  have ex := i64_xor_nat (Crc.past a n) b (by omega) (by omega)
  have HG : Hid (Crc.run a (List.replicate n 0) = Crc.past a n) := hid rfl
  generalize hpn : Crc.past a n = p at *
  have hmk := mk_bytes n (by omega)
  generalize p ^^^ b = x at *
  clear hL
  go_enter Tryd.func4, Tryd.ntmps4
  go_wp2_with fail
  refine HJ.out.mono ?_; rintro e w1 ⟨rfl, hF⟩
  have HF1 := hid hF; clear hF
  go_wp2_with fail
  refine (noughts_nz n w1 (by omega) (HL.out.no HF1.out).1 (HL.out.no HF1.out).2).mono ?_; rintro e w2 ⟨rfl, hF⟩
  have HF2 := hid (HF1.out.trans hF); clear hF
  have HR := hid (zero_row n (by omega) w2)
  have HZ := hid (rsum_any ⟨some ⟨w2.heap.size, 0, none⟩, n, List.replicate n 0⟩ _ HR.out)
  have HS : Hid (Crc.sumOf (List.replicate n 0) = nz n) := Crc.sum_zeros n
  have HX := hid (rgo_any a ⟨some ⟨w2.heap.size, 0, none⟩, n, List.replicate n 0⟩ _ ha HR.out)
  have HF3 := hid (HF2.out.alloc (.cells (zeroBytes n) 5))
  go_wp2_with fail
  refine ((show Calls Tryd.prog 10 #[.slice (some ⟨w2.heap.size, 0, none⟩) n n] (w2.alloc (.cells (zeroBytes n) 5)) fun e w' => e = .returned (.int .i64 (nz n : Nat)) ∧ w' = (w2.alloc (.cells (zeroBytes n) 5)) by
    have := HZ.out; simp only [BRow.v, List.length_replicate] at this; rw [HS.out] at this; exact this)).mono ?_
  rintro e w3 ⟨rfl, rfl⟩
  clear hmk
  generalize nz n = z
  go_wp2_with fail
  refine (right_yes a _ (by omega) (by omega)).mono ?_; rintro e w4 ⟨rfl, rfl⟩
  go_wp2_with fail
  refine (right_yes b _ (by omega) (by omega)).mono ?_; rintro e w4 ⟨rfl, rfl⟩
  go_wp2_with fail
  refine ((show Calls Tryd.prog 15 #[.int .i64 a, .slice (some ⟨w2.heap.size, 0, none⟩) n n] (w2.alloc (.cells (zeroBytes n) 5)) fun e w' => e = .returned (.int .i64 (p : Nat)) ∧ w' = (w2.alloc (.cells (zeroBytes n) 5)) by
    have := HX.out; simp only [BRow.v, List.length_replicate] at this; rw [HG.out] at this; exact this)).mono ?_
  rintro e w4 ⟨rfl, rfl⟩
  go_wp2_with fail
  refine (crc_awake _ (HL.out.no HF3.out).1 (HL.out.no HF3.out).2).mono ?_; rintro e w5 ⟨rfl, hF⟩
  have HF5 := hid (HF3.out.trans hF); clear hF
  go_wp2_with fail
  go_ret
  exact ⟨rfl, HF5.out⟩

set_option linter.unusedVariables false in
theorem law_CrcJoins (w : World) (a : Int) (wa : (Lit.int .i64 a).wf = true) (b : Int) (wb : (Lit.int .i64 b).wf = true) (n : Int) (wn : (Lit.int .i64 n).wf = true) (hL : Laid w) :
    Calls Tryd.prog 4 #[.int .i64 a, .int .i64 b, .int .i64 n] w fun e w' => e = .returned (.bool true) ∧ Fr No w w' := by
  by_cases h : n < 0 ∨ 1048576 < n
  · exact joins_bad a b n w hL h
  · by_cases h2 : 300 < n
    · exact joins_out a b n w hL h2 (by omega)
    · obtain ⟨n, rfl⟩ := Int.eq_ofNat_of_zero_le (show 0 ≤ n by omega)
      by_cases hab : (a < 0 ∨ 4294967295 < a) ∨ (b < 0 ∨ 4294967295 < b)
      · exact joins_wrong a b n w hL (by omega) hab
      · obtain ⟨a, rfl⟩ := Int.eq_ofNat_of_zero_le (show 0 ≤ a by omega)
        obtain ⟨b, rfl⟩ := Int.eq_ofNat_of_zero_le (show 0 ≤ b by omega)
        exact joins_right a b n w hL (by omega) (by omega) (by omega)
end Go.Proofs.YtndljmkdgakfcaaDoor
