/- index: the law's awake. -/
import Derived.Test.YtfggllhflibfcaaIxT
namespace Go.Proofs.Ytfggllhflibfcaa
open Go.RowKit Go.Maps
def awL1 : List Pl := (List.replicate 10 none).set 5 (some (2, true))
def awL2 : List Pl := awL1.set 5 (some (3, false))
theorem aw_p1 : putI (List.replicate 10 none) 4 5 2 true = (none, 0, awL1) := by decide
theorem aw_p2 : putI awL1 4 6 2 false = (some (0, false), 15, awL1) := by decide
theorem aw_p3 : putI awL1 4 5 3 false = (some (2, true), 0, awL2) := by decide
theorem aw_at : atI awL2 4 2 = (0, 14) := by decide
set_option maxRecDepth 100000 in
set_option maxHeartbeats 1000000 in
theorem ix_awake (w : World) : Calls Try.prog 9 #[] w fun e w' => e = .returned (.bool true) ∧ Fr No w w' := by
  go_enter Try.func9, Try.ntmps9
  go_wp2_with (first
    | (go_at_call 10; refine (ix_New w 10 4 (by decide) (by decide) (by decide) (by decide)).mono ?_; rintro e w1 ⟨p, S, rfl, hI, hS, hF⟩; have HI := hid hI; have HLT := hid hI.lt; have HS := hid hS; have HF := hid hF; clear hI hS hF)
    | (go_at_call 21; refine (ix_Put _ p 4 2 S _ HI3.out 5 3 false (by decide) (by decide)).mono ?_; rw [aw_p3]; rintro e w4 ⟨rfl, hI, hF⟩; simp only [plA, plS, plD]; have HI4 := hid (hI.no ((Fr.refl No w4).alloc (.cells #[.int .i64 2, .bool true] 44))); have HF4 := hid (HF3.out.then (hF.alloc (.cells #[.int .i64 2, .bool true] 44)) (fun i hi e => absurd hi (by have := HS.out i e; omega))); have HQ4 := hid ((hF.alloc (.cells #[.int .i64 2, .bool true] 44)).block w2.heap.size (lt_of_block HQ3.out) (fun h => absurd (HLT.out _ h) (by have := HZ2.out; omega)) |>.trans HQ3.out); have HR4 := hid (heap_new w4 (.cells #[.int .i64 2, .bool true] 44)); clear hI hF)
    | (go_at_call 21; refine (ix_Put _ p 4 1 S _ HI2.out 6 2 false (by decide) (by decide)).mono ?_; rw [aw_p2]; rintro e w3 ⟨rfl, hI, hF⟩; simp only [plA, plS, plD]; have HI3 := hid (hI.no ((Fr.refl No w3).alloc (.cells #[.int .i64 0, .bool false] 44))); have HF3 := hid (HF2.out.then (hF.alloc (.cells #[.int .i64 0, .bool false] 44)) (fun i hi e => absurd hi (by have := HS.out i e; omega))); have HZ3 := hid hF.size; have HQ3 := hid ((hF.alloc (.cells #[.int .i64 0, .bool false] 44)).block w2.heap.size (by simp) (fun h => absurd (HLT.out _ h) (by have := HZ2.out; omega)) |>.trans HQ2.out); clear hI hF)
    | (go_at_call 21; refine (ix_Put w1 p 4 0 S _ HI.out 5 2 true (by decide) (by decide)).mono ?_; rw [aw_p1]; rintro e w2 ⟨rfl, hI, hF⟩; simp only [plA, plS, plD]; have HI2 := hid (hI.no ((Fr.refl No w2).alloc (.cells #[.int .i64 (-1), .bool false] 44))); have HF2 := hid (HF.out.then (hF.alloc (.cells #[.int .i64 (-1), .bool false] 44)) (fun i hi e => absurd hi (by have := HS.out i e; omega))); have HZ2 := hid hF.size; have HQ2 := hid (heap_new w2 (.cells #[.int .i64 (-1), .bool false] 44)); clear hI hF)
    | (go_at_call 17; refine (ix_At _ p 4 3 S _ HI4.out 2 (by decide)).mono ?_; rw [aw_at]; rintro e w5 ⟨rfl, hF⟩; have HF5 := hid (HF4.out.trans hF); have hq5 := (hF.block w2.heap.size (lt_of_block HQ4.out) id).trans HQ4.out; have hr5 := (hF.block w4.heap.size (lt_of_block HR4.out) id).trans HR4.out; obtain ⟨q0, q1, _, _⟩ := blk2 hq5; obtain ⟨r0, r1, _, _⟩ := blk2 hr5; clear hF))
  go_ret
  exact ⟨rfl, HF5.out⟩
end Go.Proofs.Ytfggllhflibfcaa
