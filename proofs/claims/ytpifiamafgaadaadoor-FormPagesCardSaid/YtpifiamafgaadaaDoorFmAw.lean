/- forms: the example of layer 6 -/
import Derived.Test.YtpifiamafgaadaaDoorFmQIntent
import Derived.Test.YtpifiamafgaadaaDoorFmKi
import Derived.Test.YtpifiamafgaadaaDoorFmD
namespace Go.Proofs.YtpifiamafgaadaaDoor
open Go.RowKit Go.Shelf
/-- a sector of a variable of its own, stored -/
theorem put_blk (w : World) (Z : Array Value) (B : List Nat) : ((w.alloc (.cells Z 27)).setRow w.heap.size (blkA B)).heap[w.heap.size]? = some (.cells (blkA B) 27 (0, 0)) ∧ Fr No w ((w.alloc (.cells Z 27)).setRow w.heap.size (blkA B)) :=
  ⟨setRow_heap _ _ _ _ _ _ (heap_new w _), ((Fr.refl No w).alloc _).setRow _ _ (fun h => absurd h (Nat.lt_irrefl _))⟩
theorem blk_cell {w : World} {q : Nat} {B : List Nat} {t : TypeId} (h : w.heap[q]? = some (.cells (blkA B) t (0, 0))) (i x : Nat) (hx : B[i]? = some x) : w.cell? ⟨q, i, none⟩ = some (.int .u8 x) := by
  rw [cell_blk h]; simp [blkA, hx]
def awB : List Nat := sealB (pad (4 :: bytesN (spanN 5 9 3 2)))
theorem aw_put : putN 4 (spanN 5 9 3 2) true = (awB, 0) := by
  unfold putN
  rw [show (okAll (spanN 5 9 3 2) && true) = true from by decide]
  rfl
theorem aw_facts : awB.length = 64 ∧ (∀ x ∈ awB, x < 256) ∧ sealB awB = awB ∧ awB[0]? = some 4 ∧ awB[1]? = some 5 ∧ awB[7]? = some 9 ∧ awB[13]? = some 3 ∧ awB[15]? = some 2 ∧ awB[17]? = some 0 := by
  have hp : (pad (4 :: bytesN (spanN 5 9 3 2))).length = 64 := pad_len _ (by decide)
  refine ⟨sealB_len _ hp, sealB_lt _ (pad_lt _ (by decide)), sealB_idem _ hp, ?_, ?_, ?_, ?_, ?_, ?_⟩ <;> rfl
set_option maxRecDepth 1000000 in
set_option maxHeartbeats 4000000 in
theorem fm_awake (w : World) (hL : Laid w) : Calls Tryd.prog 10 #[] w fun e w' => e = .returned (.bool true) ∧ Fr No w w' := by
  have HL := hid hL
  have HP := hid (fm_PutIntent w #[.int .i64 5, .int .i64 9, .int .i64 3, .int .i64 2] (spanN 5 9 3 2) true (by kernel_rfl) (by simp [Value.oneCell']) (fun W X h => fm_intents1 W X 5 9 3 2 _ _ h rfl rfl rfl rfl) (fun _ W => fm_intents2 W)
    (by intro x hx; simp only [spanN, List.mem_cons, List.not_mem_nil, or_false] at hx; rcases hx with rfl | rfl | rfl | rfl <;> decide) (by decide) (by decide) hL)
  rw [aw_put] at HP
  have HB := hid aw_facts
  obtain ⟨B, hB⟩ : ∃ B, awB = B := ⟨_, rfl⟩
  rw [hB] at HP HB
  have HP := hid (show Calls Tryd.prog 21 #[.agg #[.int .i64 5, .int .i64 9, .int .i64 3, .int .i64 2]] w fun e w' => e = .returned (.tuple #[.agg (blkA B), .int .i64 0]) ∧ Fr No w w' from HP.out)
  have HI := hid (info64b B HB.out.1)
  have H1 := hid (blkA_one B)
  have HZ : Hid (((#[.int .u8 0, .int .u8 0, .int .u8 0, .int .u8 0, .int .u8 0, .int .u8 0, .int .u8 0, .int .u8 0, .int .u8 0, .int .u8 0, .int .u8 0, .int .u8 0, .int .u8 0, .int .u8 0, .int .u8 0, .int .u8 0, .int .u8 0, .int .u8 0, .int .u8 0, .int .u8 0, .int .u8 0, .int .u8 0, .int .u8 0, .int .u8 0, .int .u8 0, .int .u8 0, .int .u8 0, .int .u8 0, .int .u8 0, .int .u8 0, .int .u8 0, .int .u8 0, .int .u8 0, .int .u8 0, .int .u8 0, .int .u8 0, .int .u8 0, .int .u8 0, .int .u8 0, .int .u8 0, .int .u8 0, .int .u8 0, .int .u8 0, .int .u8 0, .int .u8 0, .int .u8 0, .int .u8 0, .int .u8 0, .int .u8 0, .int .u8 0, .int .u8 0, .int .u8 0, .int .u8 0, .int .u8 0, .int .u8 0, .int .u8 0, .int .u8 0, .int .u8 0, .int .u8 0, .int .u8 0, .int .u8 0, .int .u8 0, .int .u8 0, .int .u8 0] : Array Value)).size = (blkA B).size) := ((blkA_size B).trans HB.out.1).symm
  clear hB hL
  go_enter Tryd.func10, Tryd.ntmps10
  go_wp2_with fail
  refine HP.out.mono ?_
  rintro e w4 ⟨rfl, hF4⟩
  have HQ := hid (put_blk w4 (#[.int .u8 0, .int .u8 0, .int .u8 0, .int .u8 0, .int .u8 0, .int .u8 0, .int .u8 0, .int .u8 0, .int .u8 0, .int .u8 0, .int .u8 0, .int .u8 0, .int .u8 0, .int .u8 0, .int .u8 0, .int .u8 0, .int .u8 0, .int .u8 0, .int .u8 0, .int .u8 0, .int .u8 0, .int .u8 0, .int .u8 0, .int .u8 0, .int .u8 0, .int .u8 0, .int .u8 0, .int .u8 0, .int .u8 0, .int .u8 0, .int .u8 0, .int .u8 0, .int .u8 0, .int .u8 0, .int .u8 0, .int .u8 0, .int .u8 0, .int .u8 0, .int .u8 0, .int .u8 0, .int .u8 0, .int .u8 0, .int .u8 0, .int .u8 0, .int .u8 0, .int .u8 0, .int .u8 0, .int .u8 0, .int .u8 0, .int .u8 0, .int .u8 0, .int .u8 0, .int .u8 0, .int .u8 0, .int .u8 0, .int .u8 0, .int .u8 0, .int .u8 0, .int .u8 0, .int .u8 0, .int .u8 0, .int .u8 0, .int .u8 0, .int .u8 0] : Array Value) B).1
  have HF5 := hid (hF4.trans (put_blk w4 (#[.int .u8 0, .int .u8 0, .int .u8 0, .int .u8 0, .int .u8 0, .int .u8 0, .int .u8 0, .int .u8 0, .int .u8 0, .int .u8 0, .int .u8 0, .int .u8 0, .int .u8 0, .int .u8 0, .int .u8 0, .int .u8 0, .int .u8 0, .int .u8 0, .int .u8 0, .int .u8 0, .int .u8 0, .int .u8 0, .int .u8 0, .int .u8 0, .int .u8 0, .int .u8 0, .int .u8 0, .int .u8 0, .int .u8 0, .int .u8 0, .int .u8 0, .int .u8 0, .int .u8 0, .int .u8 0, .int .u8 0, .int .u8 0, .int .u8 0, .int .u8 0, .int .u8 0, .int .u8 0, .int .u8 0, .int .u8 0, .int .u8 0, .int .u8 0, .int .u8 0, .int .u8 0, .int .u8 0, .int .u8 0, .int .u8 0, .int .u8 0, .int .u8 0, .int .u8 0, .int .u8 0, .int .u8 0, .int .u8 0, .int .u8 0, .int .u8 0, .int .u8 0, .int .u8 0, .int .u8 0, .int .u8 0, .int .u8 0, .int .u8 0, .int .u8 0] : Array Value) B).2)
  have hK := fm_Kind _ B HB.out.1 HB.out.2.1 HB.out.2.2.1 HB.out.2.2.2.1 (HL.out.no HF5.out)
  have HKI := hid hK
  clear hF4 hK
  go_wp2_with (first
    | (refine wpList_store_row rfl 27 _ _ rfl w4.heap.size (blkA B) rfl rfl 27 _ (heap_new w4 _) HI.out HZ.out H1.out ?_)
    | (refine wpList_load_row_w (by rfl) 27 _ rfl w4.heap.size rfl 27 (blkA B) (0, 0) _ _ HQ.out Tryd.underlying27 HI.out ?_)
    | (refine HKI.out.mono ?_; rintro e w6 ⟨rfl, hF6⟩; have HF6 := hid (HF5.out.trans hF6); have hq6 := (hF6.block w4.heap.size (lt_of_block HQ.out) id).trans HQ.out; have c0 := blk_cell hq6 0 4 HB.out.2.2.2.1; have c1 := blk_cell hq6 1 5 HB.out.2.2.2.2.1; have c7 := blk_cell hq6 7 9 HB.out.2.2.2.2.2.1; have c13 := blk_cell hq6 13 3 HB.out.2.2.2.2.2.2.1; have c15 := blk_cell hq6 15 2 HB.out.2.2.2.2.2.2.2.1; have c17 := blk_cell hq6 17 0 HB.out.2.2.2.2.2.2.2.2; clear hF6 hq6))
  go_ret
  exact ⟨rfl, HF6.out⟩
end Go.Proofs.YtpifiamafgaadaaDoor
