/- The chapter's example of layer 4: lavabolaw04.awake. -/
import Derived.Test.YtopheimplclfcaaDoorFdF
namespace Go.Proofs.YtopheimplclfcaaDoor
open Go.RowKit

/-- a sector of a variable of its own, stored -/
theorem put_blk (w : World) (Z : Array Value) (B : List Nat) : ((w.alloc (.cells Z 33)).setRow w.heap.size (blkA B)).heap[w.heap.size]? = some (.cells (blkA B) 33 (0, 0)) ∧ Fr No w ((w.alloc (.cells Z 33)).setRow w.heap.size (blkA B)) :=
  ⟨setRow_heap _ _ _ _ _ _ (heap_new w _), ((Fr.refl No w).alloc _).setRow _ _ (fun h => absurd h (Nat.lt_irrefl _))⟩
theorem blk_cell {w : World} {q : Nat} {B : List Nat} {t : TypeId} (h : w.heap[q]? = some (.cells (blkA B) t (0, 0))) (i x : Nat) (hx : B[i]? = some x) : w.cell? ⟨q, i, none⟩ = some (.int .u8 x) := by
  rw [cell_blk h]; simp [blkA, hx]
set_option maxRecDepth 100000 in
set_option maxHeartbeats 2000000 in
theorem fd_awake (w : World) (hL : Laid w) : Calls Tryd.prog 15 #[] w fun e w' => e = .returned (.bool true) ∧ Fr No w w' := by
  have HL := hid hL
  clear hL
  go_enter Tryd.func15, Tryd.ntmps15
  go_wp2_with fail
  refine (fd_Write' w).mono ?_; rintro e w1 ⟨rfl, hW1, hF1⟩
  have HF1 := hid hF1
  have HW1 := hid hW1
  clear hF1 hW1
  generalize hp : w.heap.size = p at *
  go_wp2_with fail
  refine (fd_Put w1 p 0 [] 258 2 HW1.out).mono ?_; rintro e w2 ⟨rfl, hW2, hF2⟩
  have HF2 := hid (HF1.out.then hF2 (fun i hi e => by omega))
  rw [show putF [] 0 258 2 = ([2, 1], 0) from by decide] at hW2
  have HW2 := hid hW2
  clear hF2 hW2
  go_wp2_with fail
  refine (fd_Put w2 p 0 [2, 1] 7 1 HW2.out).mono ?_; rintro e w3 ⟨rfl, hW3, hF3⟩
  have HF3 := hid (HF2.out.then hF3 (fun i hi e => by omega))
  rw [show putF [2, 1] 0 7 1 = ([2, 1, 7], 0) from by decide] at hW3
  have HW3 := hid hW3
  clear hF3 hW3
  go_wp2_with fail
  refine (fd_Seal w3 p 0 [2, 1, 7] HW3.out (laid_no HL.out HF3.out)).mono ?_; rintro e w4 ⟨rfl, hF4⟩
  have HF4 := hid (HF3.out.trans hF4)
  have HB := hid (⟨sealF_len [2, 1, 7] 0 (by decide), sealF_lt [2, 1, 7] 0 (by decide), sealB_idem _ rfl, rfl, rfl, rfl, rfl⟩ : (sealF [2, 1, 7] 0).1.length = 64 ∧ (∀ x ∈ (sealF [2, 1, 7] 0).1, x < 256) ∧ sealB (sealF [2, 1, 7] 0).1 = (sealF [2, 1, 7] 0).1 ∧ (sealF [2, 1, 7] 0).1[0]? = some 2 ∧ (sealF [2, 1, 7] 0).1[1]? = some 1 ∧ (sealF [2, 1, 7] 0).1[2]? = some 7 ∧ (sealF [2, 1, 7] 0).1[3]? = some 0)
  rw [show (sealF [2, 1, 7] 0).2 = 0 from rfl]
  generalize (sealF [2, 1, 7] 0).1 = B at *
  clear hF4
  have HQ := hid (put_blk w4 (#[.int .u8 0, .int .u8 0, .int .u8 0, .int .u8 0, .int .u8 0, .int .u8 0, .int .u8 0, .int .u8 0, .int .u8 0, .int .u8 0, .int .u8 0, .int .u8 0, .int .u8 0, .int .u8 0, .int .u8 0, .int .u8 0, .int .u8 0, .int .u8 0, .int .u8 0, .int .u8 0, .int .u8 0, .int .u8 0, .int .u8 0, .int .u8 0, .int .u8 0, .int .u8 0, .int .u8 0, .int .u8 0, .int .u8 0, .int .u8 0, .int .u8 0, .int .u8 0, .int .u8 0, .int .u8 0, .int .u8 0, .int .u8 0, .int .u8 0, .int .u8 0, .int .u8 0, .int .u8 0, .int .u8 0, .int .u8 0, .int .u8 0, .int .u8 0, .int .u8 0, .int .u8 0, .int .u8 0, .int .u8 0, .int .u8 0, .int .u8 0, .int .u8 0, .int .u8 0, .int .u8 0, .int .u8 0, .int .u8 0, .int .u8 0, .int .u8 0, .int .u8 0, .int .u8 0, .int .u8 0, .int .u8 0, .int .u8 0, .int .u8 0, .int .u8 0] : Array Value) B).1
  have HF5 := hid (HF4.out.trans (put_blk w4 (#[.int .u8 0, .int .u8 0, .int .u8 0, .int .u8 0, .int .u8 0, .int .u8 0, .int .u8 0, .int .u8 0, .int .u8 0, .int .u8 0, .int .u8 0, .int .u8 0, .int .u8 0, .int .u8 0, .int .u8 0, .int .u8 0, .int .u8 0, .int .u8 0, .int .u8 0, .int .u8 0, .int .u8 0, .int .u8 0, .int .u8 0, .int .u8 0, .int .u8 0, .int .u8 0, .int .u8 0, .int .u8 0, .int .u8 0, .int .u8 0, .int .u8 0, .int .u8 0, .int .u8 0, .int .u8 0, .int .u8 0, .int .u8 0, .int .u8 0, .int .u8 0, .int .u8 0, .int .u8 0, .int .u8 0, .int .u8 0, .int .u8 0, .int .u8 0, .int .u8 0, .int .u8 0, .int .u8 0, .int .u8 0, .int .u8 0, .int .u8 0, .int .u8 0, .int .u8 0, .int .u8 0, .int .u8 0, .int .u8 0, .int .u8 0, .int .u8 0, .int .u8 0, .int .u8 0, .int .u8 0, .int .u8 0, .int .u8 0, .int .u8 0, .int .u8 0] : Array Value) B).2)
  have c0 := blk_cell HQ.out 0 2 HB.out.2.2.2.1
  have c1 := blk_cell HQ.out 1 1 HB.out.2.2.2.2.1
  have c2 := blk_cell HQ.out 2 7 HB.out.2.2.2.2.2.1
  have c3 := blk_cell HQ.out 3 0 HB.out.2.2.2.2.2.2
  have HI := hid (info64b B HB.out.1)
  have H1 := hid (blkA_one B)
  have HZ : Hid (((#[.int .u8 0, .int .u8 0, .int .u8 0, .int .u8 0, .int .u8 0, .int .u8 0, .int .u8 0, .int .u8 0, .int .u8 0, .int .u8 0, .int .u8 0, .int .u8 0, .int .u8 0, .int .u8 0, .int .u8 0, .int .u8 0, .int .u8 0, .int .u8 0, .int .u8 0, .int .u8 0, .int .u8 0, .int .u8 0, .int .u8 0, .int .u8 0, .int .u8 0, .int .u8 0, .int .u8 0, .int .u8 0, .int .u8 0, .int .u8 0, .int .u8 0, .int .u8 0, .int .u8 0, .int .u8 0, .int .u8 0, .int .u8 0, .int .u8 0, .int .u8 0, .int .u8 0, .int .u8 0, .int .u8 0, .int .u8 0, .int .u8 0, .int .u8 0, .int .u8 0, .int .u8 0, .int .u8 0, .int .u8 0, .int .u8 0, .int .u8 0, .int .u8 0, .int .u8 0, .int .u8 0, .int .u8 0, .int .u8 0, .int .u8 0, .int .u8 0, .int .u8 0, .int .u8 0, .int .u8 0, .int .u8 0, .int .u8 0, .int .u8 0, .int .u8 0] : Array Value)).size = (blkA B).size) := ((blkA_size B).trans HB.out.1).symm
  have HS := hid (fd_Sealed _ B HB.out.1 HB.out.2.1 (laid_no HL.out HF5.out))
  rw [HB.out.2.2.1, beq_self_eq_true] at HS
  go_wp2_with (first
    | (refine wpList_store_row rfl 33 _ _ rfl w4.heap.size (blkA B) rfl rfl 33 _ (heap_new w4 _) HI.out HZ.out H1.out ?_)
    | (refine wpList_load_row_w (by rfl) 33 _ rfl w4.heap.size rfl 33 (blkA B) (0, 0) _ _ HQ.out Tryd.underlying33 HI.out ?_)
    | (refine HS.out.mono ?_; rintro e w6 ⟨rfl, hF6⟩))
  go_ret
  exact ⟨rfl, HF5.out.trans hF6⟩
end Go.Proofs.YtopheimplclfcaaDoor
