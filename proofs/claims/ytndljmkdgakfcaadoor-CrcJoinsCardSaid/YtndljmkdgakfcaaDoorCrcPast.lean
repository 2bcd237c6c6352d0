/- The walks of crc.past, Join, Noughts. -/
import Derived.Test.YtndljmkdgakfcaaDoorCrcStep
namespace Go.Proofs.YtndljmkdgakfcaaDoor
open Go.RowKit

set_option maxHeartbeats 400000 in
theorem past_any (s n : Nat) (w : World) (hs : s < 4294967296) (hn : n ≤ 9223372036854775807) (hN : TabAt w) (h0 : 0 < w.heap.size) :
    Calls Tryd.prog 19 #[.int .u32 s, .int .i64 n] w fun e w' => e = .returned (.int .u32 (Crc.past s n)) ∧ Fr No w w' := by
  go_enter Tryd.func19, Tryd.ntmps19
  go_wp2_with (go_at_call 16; refine (stepper_any s w).mono ?_; rintro e w0 ⟨rfl, hB0, hz0, hF0⟩)
  go_loopw [0, 9] (fun x i wr => ∃ k : Nat, k ≤ n ∧ i = .int .i64 k ∧ x = .int .u32 (Crc.past s k) ∧ wr.heap[w.heap.size]? = some (.cells #[.int .u32 (Crc.past s k)] 41 (0, 0)) ∧ wr.heap.size = w.heap.size + 1 ∧ Fr No w wr) (fun _ i _ => n - (intOf i).toNat)
  case atStart => exact ⟨0, Nat.zero_le _, rfl, rfl, hB0, hz0, hF0⟩
  case round =>
    obtain ⟨k, hk, rfl, rfl, hB, hz, hF⟩ := hrel
    by_cases hlt : k < n
    · have hp := Crc.past_lt s k hs
      have hnr := hN.fr hF h0 (fun h => h)
      have e := Crc.past_snoc s k
      generalize Crc.past s k = p at *
      have HB := hid hB
      have HZ := hid hz
      have HF := hid hF
      have HE := hid e.symm
      clear hB hz hF e hB0 hF0 hz0
      go_wp2_with (go_at_call 21; refine (step_any 0 p w.heap.size _ (by omega) hp hnr HB.out h0).mono ?_; rintro e w1 ⟨rfl, hB1, hz1, hF1⟩)
      go_roundw
      case rel => exact ⟨k + 1, by omega, by go_num, by rw [← HE.out], by rw [← HE.out]; exact hB1, by rw [hz1, HZ.out], HF.out.then hF1 (fun i hi e => by omega)⟩
      case measure => simp [intOf]; omega
    · go_wp2
      go_ret
      obtain rfl : k = n := by omega
      exact ⟨rfl, hF⟩
end Go.Proofs.YtndljmkdgakfcaaDoor
