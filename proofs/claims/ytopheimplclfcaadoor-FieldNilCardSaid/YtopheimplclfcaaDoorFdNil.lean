/- The law FieldNil. -/
import Derived.Test.YtopheimplclfcaaDoorFdAwake
import Derived.Lib.Hide
namespace Go.Proofs.YtopheimplclfcaaDoor
open Go.RowKit

set_option linter.unusedVariables false in
set_option maxRecDepth 100000 in
set_option maxHeartbeats 2000000 in
theorem law_FieldNil (w : World) (n : Int) (wn : (Lit.int .i64 n).wf = true) (s : Int) (ws : (Lit.int .i64 s).wf = true) (hL : Laid w) :
    Calls Tryd.prog 7 #[.int .i64 n, .int .i64 s] w fun e w' => e = .returned (.bool true) ∧ Fr No w w' := by
  have HL := hid hL
  clear hL wn ws
  go_enter Tryd.func7, Tryd.ntmps7
  go_wp2_with fail
  refine (fd_Seal_nil w).mono ?_; rintro e w4 ⟨rfl, hF4⟩
  have HF4 := hid hF4
  clear hF4
  have HQ := hid (put_blk w4 (#[.int .u8 0, .int .u8 0, .int .u8 0, .int .u8 0, .int .u8 0, .int .u8 0, .int .u8 0, .int .u8 0, .int .u8 0, .int .u8 0, .int .u8 0, .int .u8 0, .int .u8 0, .int .u8 0, .int .u8 0, .int .u8 0, .int .u8 0, .int .u8 0, .int .u8 0, .int .u8 0, .int .u8 0, .int .u8 0, .int .u8 0, .int .u8 0, .int .u8 0, .int .u8 0, .int .u8 0, .int .u8 0, .int .u8 0, .int .u8 0, .int .u8 0, .int .u8 0, .int .u8 0, .int .u8 0, .int .u8 0, .int .u8 0, .int .u8 0, .int .u8 0, .int .u8 0, .int .u8 0, .int .u8 0, .int .u8 0, .int .u8 0, .int .u8 0, .int .u8 0, .int .u8 0, .int .u8 0, .int .u8 0, .int .u8 0, .int .u8 0, .int .u8 0, .int .u8 0, .int .u8 0, .int .u8 0, .int .u8 0, .int .u8 0, .int .u8 0, .int .u8 0, .int .u8 0, .int .u8 0, .int .u8 0, .int .u8 0, .int .u8 0, .int .u8 0] : Array Value) zeros).1
  have HF5 := hid (HF4.out.trans (put_blk w4 (#[.int .u8 0, .int .u8 0, .int .u8 0, .int .u8 0, .int .u8 0, .int .u8 0, .int .u8 0, .int .u8 0, .int .u8 0, .int .u8 0, .int .u8 0, .int .u8 0, .int .u8 0, .int .u8 0, .int .u8 0, .int .u8 0, .int .u8 0, .int .u8 0, .int .u8 0, .int .u8 0, .int .u8 0, .int .u8 0, .int .u8 0, .int .u8 0, .int .u8 0, .int .u8 0, .int .u8 0, .int .u8 0, .int .u8 0, .int .u8 0, .int .u8 0, .int .u8 0, .int .u8 0, .int .u8 0, .int .u8 0, .int .u8 0, .int .u8 0, .int .u8 0, .int .u8 0, .int .u8 0, .int .u8 0, .int .u8 0, .int .u8 0, .int .u8 0, .int .u8 0, .int .u8 0, .int .u8 0, .int .u8 0, .int .u8 0, .int .u8 0, .int .u8 0, .int .u8 0, .int .u8 0, .int .u8 0, .int .u8 0, .int .u8 0, .int .u8 0, .int .u8 0, .int .u8 0, .int .u8 0, .int .u8 0, .int .u8 0, .int .u8 0, .int .u8 0] : Array Value) zeros).2)
  have HI := hid (info64b zeros rfl)
  have H1 := hid (blkA_one zeros)
  have HZ : Hid (((#[.int .u8 0, .int .u8 0, .int .u8 0, .int .u8 0, .int .u8 0, .int .u8 0, .int .u8 0, .int .u8 0, .int .u8 0, .int .u8 0, .int .u8 0, .int .u8 0, .int .u8 0, .int .u8 0, .int .u8 0, .int .u8 0, .int .u8 0, .int .u8 0, .int .u8 0, .int .u8 0, .int .u8 0, .int .u8 0, .int .u8 0, .int .u8 0, .int .u8 0, .int .u8 0, .int .u8 0, .int .u8 0, .int .u8 0, .int .u8 0, .int .u8 0, .int .u8 0, .int .u8 0, .int .u8 0, .int .u8 0, .int .u8 0, .int .u8 0, .int .u8 0, .int .u8 0, .int .u8 0, .int .u8 0, .int .u8 0, .int .u8 0, .int .u8 0, .int .u8 0, .int .u8 0, .int .u8 0, .int .u8 0, .int .u8 0, .int .u8 0, .int .u8 0, .int .u8 0, .int .u8 0, .int .u8 0, .int .u8 0, .int .u8 0, .int .u8 0, .int .u8 0, .int .u8 0, .int .u8 0, .int .u8 0, .int .u8 0, .int .u8 0, .int .u8 0] : Array Value)).size = (blkA zeros).size) := rfl
  have HP := fun W => hid (fd_put_nil n s W)
  have HA := fun W (h : Fr No w W) => hid (fd_awake W (laid_no HL.out h))
  have hg := guard_blk
  have he : ∀ W, (Op.equalIn 10000 33 (.agg (blkA zeros)) (.agg (#[.int .u8 0, .int .u8 0, .int .u8 0, .int .u8 0, .int .u8 0, .int .u8 0, .int .u8 0, .int .u8 0, .int .u8 0, .int .u8 0, .int .u8 0, .int .u8 0, .int .u8 0, .int .u8 0, .int .u8 0, .int .u8 0, .int .u8 0, .int .u8 0, .int .u8 0, .int .u8 0, .int .u8 0, .int .u8 0, .int .u8 0, .int .u8 0, .int .u8 0, .int .u8 0, .int .u8 0, .int .u8 0, .int .u8 0, .int .u8 0, .int .u8 0, .int .u8 0, .int .u8 0, .int .u8 0, .int .u8 0, .int .u8 0, .int .u8 0, .int .u8 0, .int .u8 0, .int .u8 0, .int .u8 0, .int .u8 0, .int .u8 0, .int .u8 0, .int .u8 0, .int .u8 0, .int .u8 0, .int .u8 0, .int .u8 0, .int .u8 0, .int .u8 0, .int .u8 0, .int .u8 0, .int .u8 0, .int .u8 0, .int .u8 0, .int .u8 0, .int .u8 0, .int .u8 0, .int .u8 0, .int .u8 0, .int .u8 0, .int .u8 0, .int .u8 0] : Array Value))).run Tryd.prog W = .ok true W := fun W => by
    rw [← z64_eq, equal_blk zeros zeros rfl rfl W, beq_self_eq_true]
  generalize blkA zeros = Z at *
  go_wp2_with (first
    | (refine wpList_store_row rfl 33 _ _ rfl w4.heap.size Z rfl rfl 33 _ (heap_new w4 _) HI.out HZ.out H1.out ?_)
    | (go_at_call 16; refine (HP _).out.mono ?_; rintro e w6 ⟨rfl, hF6⟩; have HF6 := Lib.hid (HF5.out.trans hF6); have HQ6 := Lib.hid ((hF6.block w4.heap.size (lt_of_block HQ.out) id).trans HQ.out); clear hF6)
    | (refine wpList_load_row_w (by rfl) 33 _ rfl w4.heap.size rfl 33 Z (0, 0) _ _ HQ6.out Tryd.underlying33 HI.out ?_)
    | (go_at_call 23; refine (fd_Take_nil s _).mono ?_; rintro e w7 ⟨rfl, rfl⟩)
    | (go_at_call 24; refine (fd_End_nil _).mono ?_; rintro e w7 ⟨rfl, rfl⟩)
    | (go_at_call 15; refine (HA _ HF6.out).out.mono ?_; rintro e w7 ⟨rfl, hF7⟩))
  go_ret
  exact ⟨rfl, HF6.out.trans hF7⟩
end Go.Proofs.YtopheimplclfcaaDoor
