/- The chapter's examples of layer 1 hold: lavabolaw01.awake. -/
import Derived.Test.YtndljmkdgakfcaaDoorCrcSum
import Derived.Lib.SlBytesConst
namespace Go.Proofs.YtndljmkdgakfcaaDoor
open Go.RowKit

theorem crc_nine : Crc.sumOf [49, 50, 51, 52, 53, 54, 55, 56, 57] = 3808858755 := by decide +kernel
theorem crc_32 : Crc.past Crc.F 32 ^^^ Crc.F = 2324772522 := by decide +kernel

set_option maxHeartbeats 1000000 in
theorem crc_awake (w : World) (hN : TabAt w) (h0 : 0 < w.heap.size) :
    Calls Tryd.prog 9 #[] w fun e w' => e = .returned (.bool true) ∧ Fr No w w' := by
  have kc := fun (w : World) (C : Array Value) (n c : Nat) => Lib.run_convert_bytes_const (P := Tryd.prog) w 22 5 C n c Tryd.underlying22 Tryd.underlying5
  have P1 := noughts_ok 32 w (by omega) hN h0
  rw [crc_32] at P1
  have HP := hid P1
  have HN := hid hN
  clear P1 hN
  go_enter Tryd.func9, Tryd.ntmps9
  go_wp2_with (go_at_call 13; refine HP.out.mono ?_; rintro e w1 ⟨rfl, hF⟩)
  have hF1 : Fr No w1 (w1.alloc (.cells #[.int .u8 49, .int .u8 50, .int .u8 51, .int .u8 52, .int .u8 53, .int .u8 54, .int .u8 55, .int .u8 56, .int .u8 57] 5 (9, 10))) := (Fr.refl _ _).alloc _
  have hr : BRow.Ok (w1.alloc (.cells #[.int .u8 49, .int .u8 50, .int .u8 51, .int .u8 52, .int .u8 53, .int .u8 54, .int .u8 55, .int .u8 56, .int .u8 57] 5 (9, 10))) ⟨some ⟨w1.heap.size, 0, none⟩, 9, [49, 50, 51, 52, 53, 54, 55, 56, 57]⟩ :=
    ⟨Row.new w1 [.int .u8 49, .int .u8 50, .int .u8 51, .int .u8 52, .int .u8 53, .int .u8 54, .int .u8 55, .int .u8 56, .int .u8 57] 5 (9, 10), show ∀ x ∈ [49, 50, 51, 52, 53, 54, 55, 56, 57], x < 256 by decide, show 9 ≤ maxLen by unfold maxLen; simp⟩
  have P2 := sum_one _ _ (HN.out.fr (hF.trans hF1) h0 (fun h => h)) (by simp) hr
  rw [show (BRow.l ⟨some ⟨w1.heap.size, 0, none⟩, 9, [49, 50, 51, 52, 53, 54, 55, 56, 57]⟩) = [49, 50, 51, 52, 53, 54, 55, 56, 57] from rfl, crc_nine] at P2
  have hF2 := hid (hF.trans hF1)
  rw [show (w1.alloc (.cells #[.int .u8 49, .int .u8 50, .int .u8 51, .int .u8 52, .int .u8 53, .int .u8 54, .int .u8 55, .int .u8 56, .int .u8 57] 5 (9, 10))).heap.size = w1.heap.size + 1 from by simp] at P2
  clear hF1 hF
  refine P2.mono ?_
  rintro e w2 ⟨rfl, hF3⟩
  clear P2 hr
  go_wp2
  go_ret
  exact ⟨rfl, hF2.out.trans hF3⟩
end Go.Proofs.YtndljmkdgakfcaaDoor
