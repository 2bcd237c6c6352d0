/- forms: FormCaches -/
import Derived.Test.YtpifiamafgaadaaDoorFmQSuper
import Derived.Test.YtpifiamafgaadaaDoorFmQRecord
import Derived.Test.YtpifiamafgaadaaDoorFmLp
import Derived.Test.YtpifiamafgaadaaDoorFmLs
import Derived.Test.YtpifiamafgaadaaDoorFmO
import Derived.Test.YtpifiamafgaadaaDoorFmLb
import Derived.Test.YtpifiamafgaadaaDoorFmAw
namespace Go.Proofs.YtpifiamafgaadaaDoor
open Go.RowKit Go.Shelf
set_option maxRecDepth 1000000 in
set_option maxHeartbeats 4000000 in
theorem law_FormCaches (w : World) (x0 : SupI) (_h0 : True) (x1 : RecI) (_h1 : True) (hL : Laid w) : Calls Tryd.prog 3 #[x0.v, x1.v] w fun e w' => e = .returned (.bool true) ∧ Fr No w w' := by
  obtain ⟨i, b, s, j, p, g, t⟩ := x0
  obtain ⟨q, l, o, b1, s1, d, u⟩ := x1
  show Calls Tryd.prog 3 #[.agg #[.int .i64 i, .int .i64 b, .int .i64 s, .int .i64 j, .int .i64 p, .int .i64 g, .int .i64 t], .agg #[.int .i64 q, .int .i64 l, .int .i64 o, .int .i64 b1, .int .i64 s1, .bool d, .int .i64 u]] w fun e w' => e = .returned (.bool true) ∧ Fr No w w'
  have hl0 : (bytesN (superN i b s j p g t)).length ≤ 59 := by rw [bytesN_len]; simp [superN]
  have hl1 : (bytesN (recP q l o ⟨b1, s1, d, u⟩)).length ≤ 59 := by rw [bytesN_len]; simp [recP, entP]
  have HPA := hid (fun W hW => fm_PutSuper W #[.int .i64 i, .int .i64 b, .int .i64 s, .int .i64 j, .int .i64 p, .int .i64 g, .int .i64 t] (superN i b s j p g t) true (by kernel_rfl) (by simp [Value.oneCell']) (fun W X h => fm_supers1 W X i b s j p g t _ _ h rfl rfl rfl rfl rfl rfl rfl) (fun _ W => fm_supers2 W _) (fine_super i b s j p g t) hl0 (by simp [superN]) hW)
  have HPB := hid (fun W hW => fm_PutRecord W #[.int .i64 q, .int .i64 l, .int .i64 o, .int .i64 b1, .int .i64 s1, .bool d, .int .i64 u] (recP q l o ⟨b1, s1, d, u⟩) (recFits o ⟨b1, s1, d, u⟩) (by kernel_rfl) (by simp [Value.oneCell']) (fun W X h => fm_records1 W X q l o b1 s1 u d _ _ h rfl rfl rfl rfl rfl rfl rfl) (fun _ W => fm_records2 W q l o b1 s1 u d) (fine_rec q l o ⟨b1, s1, d, u⟩) hl1 (by simp [recP, entP]) hW)
  have HLA := hid (fun W v B h => lw_put W 1 (by omega) v (superN i b s j p g t) B h (by simp [superN]) (by simp [superN]) (superN i b s j p g t) true (by rw [Bool.and_true]) rfl (ok_bounds (fine_super i b s j p g t).mild) hl0)
  have HLB := hid (fun W v B h => lw_put W 2 (by omega) v (recR q l o ⟨b1, s1, d, u⟩) B h (by unfold recR; simp) (by unfold recR; split <;> simp [entP]) (recP q l o ⟨b1, s1, d, u⟩) (recFits o ⟨b1, s1, d, u⟩) (rec_ok q l o _) (rec_bytes q l o _) (ok_bounds (mild_rec q l o _)) (by rw [rec_bytes]; exact hl1))
  have HSA := hid (fun W => lw_super W i b s j p g t)
  have HSB := hid (fun W => lw_record W q l o b1 s1 u d)
  have hAl := putN_len 1 (superN i b s j p g t) true hl0
  have hBl := putN_len 2 (recP q l o ⟨b1, s1, d, u⟩) (recFits o ⟨b1, s1, d, u⟩) hl1
  obtain ⟨⟨A, EA⟩, hA⟩ : ∃ P, putN 1 (superN i b s j p g t) true = P := ⟨_, rfl⟩
  obtain ⟨⟨Bb, EB⟩, hB⟩ : ∃ P, putN 2 (recP q l o ⟨b1, s1, d, u⟩) (recFits o ⟨b1, s1, d, u⟩) = P := ⟨_, rfl⟩
  rw [hA] at HPA HLA hAl
  rw [hB] at HPB HLB hBl
  have HCS := hid (show (Tryd.prog.info? 23).map (·.size) = some (#[.int .i64 i, .int .i64 b, .int .i64 s, .int .i64 j, .int .i64 p, .int .i64 g, .int .i64 t] : Array Value).size from by kernel_rfl)
  have HCR := hid (show (Tryd.prog.info? 25).map (·.size) = some (#[.int .i64 q, .int .i64 l, .int .i64 o, .int .i64 b1, .int .i64 s1, .bool d, .int .i64 u] : Array Value).size from by kernel_rfl)
  obtain ⟨CS, hCS⟩ : ∃ c, (#[.int .i64 i, .int .i64 b, .int .i64 s, .int .i64 j, .int .i64 p, .int .i64 g, .int .i64 t] : Array Value) = c := ⟨_, rfl⟩
  obtain ⟨CR, hCR⟩ : ∃ c, (#[.int .i64 q, .int .i64 l, .int .i64 o, .int .i64 b1, .int .i64 s1, .bool d, .int .i64 u] : Array Value) = c := ⟨_, rfl⟩
  rw [hCS] at HPA HSA HCS ⊢
  rw [hCR] at HPB HSB HCR ⊢
  obtain ⟨LA, hLA⟩ : ∃ L, superN i b s j p g t = L := ⟨_, rfl⟩
  obtain ⟨LB, hLB⟩ : ∃ L, recR q l o ⟨b1, s1, d, u⟩ = L := ⟨_, rfl⟩
  rw [hLA] at HLA HSA
  rw [hLB] at HLB HSB
  have HPA := hid (show ∀ W, Laid W → Calls Tryd.prog 5 #[.agg CS] W fun e w' => e = .returned (.tuple #[.agg (blkA A), .int .i64 (EA : Int)]) ∧ Fr No W w' from HPA.out)
  have HPB := hid (show ∀ W, Laid W → Calls Tryd.prog 6 #[.agg CR] W fun e w' => e = .returned (.tuple #[.agg (blkA Bb), .int .i64 (EB : Int)]) ∧ Fr No W w' from HPB.out)
  have HLA := hid (show ∀ W v B, Refs W v LA B → Calls Tryd.prog 7 #[.agg (blkA A), .int .i64 (EA : Int), .int .i64 1, v] W fun e w' => e = .returned (.bool true) ∧ Fr No W w' from HLA.out)
  have HLB := hid (show ∀ W v B, Refs W v LB B → Calls Tryd.prog 7 #[.agg (blkA Bb), .int .i64 (EB : Int), .int .i64 2, v] W fun e w' => e = .returned (.bool true) ∧ Fr No W w' from HLB.out)
  have hAl : A.length = 64 := hAl
  have hBl : Bb.length = 64 := hBl
  have HIA := hid (info64b A hAl)
  have HIB := hid (info64b Bb hBl)
  have H1A := hid (blkA_one A)
  have H1B := hid (blkA_one Bb)
  have HZA : Hid (((#[.int .u8 0, .int .u8 0, .int .u8 0, .int .u8 0, .int .u8 0, .int .u8 0, .int .u8 0, .int .u8 0, .int .u8 0, .int .u8 0, .int .u8 0, .int .u8 0, .int .u8 0, .int .u8 0, .int .u8 0, .int .u8 0, .int .u8 0, .int .u8 0, .int .u8 0, .int .u8 0, .int .u8 0, .int .u8 0, .int .u8 0, .int .u8 0, .int .u8 0, .int .u8 0, .int .u8 0, .int .u8 0, .int .u8 0, .int .u8 0, .int .u8 0, .int .u8 0, .int .u8 0, .int .u8 0, .int .u8 0, .int .u8 0, .int .u8 0, .int .u8 0, .int .u8 0, .int .u8 0, .int .u8 0, .int .u8 0, .int .u8 0, .int .u8 0, .int .u8 0, .int .u8 0, .int .u8 0, .int .u8 0, .int .u8 0, .int .u8 0, .int .u8 0, .int .u8 0, .int .u8 0, .int .u8 0, .int .u8 0, .int .u8 0, .int .u8 0, .int .u8 0, .int .u8 0, .int .u8 0, .int .u8 0, .int .u8 0, .int .u8 0, .int .u8 0] : Array Value)).size = (blkA A).size) := ((blkA_size A).trans hAl).symm
  have HZB : Hid (((#[.int .u8 0, .int .u8 0, .int .u8 0, .int .u8 0, .int .u8 0, .int .u8 0, .int .u8 0, .int .u8 0, .int .u8 0, .int .u8 0, .int .u8 0, .int .u8 0, .int .u8 0, .int .u8 0, .int .u8 0, .int .u8 0, .int .u8 0, .int .u8 0, .int .u8 0, .int .u8 0, .int .u8 0, .int .u8 0, .int .u8 0, .int .u8 0, .int .u8 0, .int .u8 0, .int .u8 0, .int .u8 0, .int .u8 0, .int .u8 0, .int .u8 0, .int .u8 0, .int .u8 0, .int .u8 0, .int .u8 0, .int .u8 0, .int .u8 0, .int .u8 0, .int .u8 0, .int .u8 0, .int .u8 0, .int .u8 0, .int .u8 0, .int .u8 0, .int .u8 0, .int .u8 0, .int .u8 0, .int .u8 0, .int .u8 0, .int .u8 0, .int .u8 0, .int .u8 0, .int .u8 0, .int .u8 0, .int .u8 0, .int .u8 0, .int .u8 0, .int .u8 0, .int .u8 0, .int .u8 0, .int .u8 0, .int .u8 0, .int .u8 0, .int .u8 0] : Array Value)).size = (blkA Bb).size) := ((blkA_size Bb).trans hBl).symm
  have HL := hid hL
  have a0 := heap_more (o' := .cells CR 25) (heap_new w (.cells CS 23))
  have b0 := heap_new (w.alloc (.cells CS 23)) (.cells CR 25)
  rw [World.size_alloc] at b0
  have HF := hid (((Fr.refl No w).alloc (.cells CS 23)).alloc (.cells CR 25))
  have HX := hid a0
  have HY := hid b0
  clear a0 b0 hL hl0 hl1 hA hB hCS hCR hLA hLB hAl hBl i b s j p g t q l o b1 s1 d u
  go_enter Tryd.func3, Tryd.ntmps3
  go_wp2_with (first
    | (refine wpList_store_row rfl 27 (.tmp 7) (.tmp 17) rfl w3.heap.size (blkA Bb) rfl rfl 27 _ (heap_new w3 _) HIB.out HZB.out H1B.out ?_)
    | (refine wpList_store_row rfl 27 (.tmp 5) (.tmp 12) rfl w1.heap.size (blkA A) rfl rfl 27 _ (heap_new w1 _) HIA.out HZA.out H1A.out ?_)
    | (go_at_call 6; refine (HPB.out _ (HL.out.no HF2.out)).mono ?_; rintro e w3 ⟨rfl, hF3⟩; have HF3 := hid (HF2.out.trans hF3); have HX3 := hid ((hF3.block w.heap.size (lt_of_block HX2.out) id).trans HX2.out); have HY3 := hid ((hF3.block (w.heap.size + 1) (lt_of_block HY2.out) id).trans HY2.out); have HQ3 := hid ((hF3.block w1.heap.size (lt_of_block HQ2.out) id).trans HQ2.out); have hp := put_blk w3 (#[.int .u8 0, .int .u8 0, .int .u8 0, .int .u8 0, .int .u8 0, .int .u8 0, .int .u8 0, .int .u8 0, .int .u8 0, .int .u8 0, .int .u8 0, .int .u8 0, .int .u8 0, .int .u8 0, .int .u8 0, .int .u8 0, .int .u8 0, .int .u8 0, .int .u8 0, .int .u8 0, .int .u8 0, .int .u8 0, .int .u8 0, .int .u8 0, .int .u8 0, .int .u8 0, .int .u8 0, .int .u8 0, .int .u8 0, .int .u8 0, .int .u8 0, .int .u8 0, .int .u8 0, .int .u8 0, .int .u8 0, .int .u8 0, .int .u8 0, .int .u8 0, .int .u8 0, .int .u8 0, .int .u8 0, .int .u8 0, .int .u8 0, .int .u8 0, .int .u8 0, .int .u8 0, .int .u8 0, .int .u8 0, .int .u8 0, .int .u8 0, .int .u8 0, .int .u8 0, .int .u8 0, .int .u8 0, .int .u8 0, .int .u8 0, .int .u8 0, .int .u8 0, .int .u8 0, .int .u8 0, .int .u8 0, .int .u8 0, .int .u8 0, .int .u8 0] : Array Value) Bb; have HF4 := hid (HF3.out.trans hp.2); have HX4 := hid ((hp.2.block w.heap.size (lt_of_block HX3.out) id).trans HX3.out); have HY4 := hid ((hp.2.block (w.heap.size + 1) (lt_of_block HY3.out) id).trans HY3.out); have HQ4 := hid ((hp.2.block w1.heap.size (lt_of_block HQ3.out) id).trans HQ3.out); have HR4 := hid hp.1; clear hF3 hp)
    | (go_at_call 5; refine (HPA.out _ (HL.out.no HF.out)).mono ?_; rintro e w1 ⟨rfl, hF1⟩; have HF1 := hid (HF.out.trans hF1); have HX1 := hid ((hF1.block w.heap.size (lt_of_block HX.out) id).trans HX.out); have HY1 := hid ((hF1.block (w.heap.size + 1) (lt_of_block HY.out) id).trans HY.out); have hp := put_blk w1 (#[.int .u8 0, .int .u8 0, .int .u8 0, .int .u8 0, .int .u8 0, .int .u8 0, .int .u8 0, .int .u8 0, .int .u8 0, .int .u8 0, .int .u8 0, .int .u8 0, .int .u8 0, .int .u8 0, .int .u8 0, .int .u8 0, .int .u8 0, .int .u8 0, .int .u8 0, .int .u8 0, .int .u8 0, .int .u8 0, .int .u8 0, .int .u8 0, .int .u8 0, .int .u8 0, .int .u8 0, .int .u8 0, .int .u8 0, .int .u8 0, .int .u8 0, .int .u8 0, .int .u8 0, .int .u8 0, .int .u8 0, .int .u8 0, .int .u8 0, .int .u8 0, .int .u8 0, .int .u8 0, .int .u8 0, .int .u8 0, .int .u8 0, .int .u8 0, .int .u8 0, .int .u8 0, .int .u8 0, .int .u8 0, .int .u8 0, .int .u8 0, .int .u8 0, .int .u8 0, .int .u8 0, .int .u8 0, .int .u8 0, .int .u8 0, .int .u8 0, .int .u8 0, .int .u8 0, .int .u8 0, .int .u8 0, .int .u8 0, .int .u8 0, .int .u8 0] : Array Value) A; have HF2 := hid (HF1.out.trans hp.2); have HX2 := hid ((hp.2.block w.heap.size (lt_of_block HX1.out) id).trans HX1.out); have HY2 := hid ((hp.2.block (w.heap.size + 1) (lt_of_block HY1.out) id).trans HY1.out); have HQ2 := hid hp.1; clear hF1 hp)
    | (refine list_val rfl (.agg CR) (exec_load_whole 25 (.tmp 3) rfl (w.heap.size + 1) rfl 25 CR (0, 0) _ HY2.out Tryd.underlying25 rfl HCR.out) ?_)
    | (refine list_val rfl (.agg CS) (exec_load_whole 23 (.tmp 2) rfl w.heap.size rfl 23 CS (0, 0) _ HX.out Tryd.underlying23 rfl HCS.out) ?_))
  obtain ⟨w4, hw4⟩ : ∃ W, ((w3.alloc (.cells (#[.int .u8 0, .int .u8 0, .int .u8 0, .int .u8 0, .int .u8 0, .int .u8 0, .int .u8 0, .int .u8 0, .int .u8 0, .int .u8 0, .int .u8 0, .int .u8 0, .int .u8 0, .int .u8 0, .int .u8 0, .int .u8 0, .int .u8 0, .int .u8 0, .int .u8 0, .int .u8 0, .int .u8 0, .int .u8 0, .int .u8 0, .int .u8 0, .int .u8 0, .int .u8 0, .int .u8 0, .int .u8 0, .int .u8 0, .int .u8 0, .int .u8 0, .int .u8 0, .int .u8 0, .int .u8 0, .int .u8 0, .int .u8 0, .int .u8 0, .int .u8 0, .int .u8 0, .int .u8 0, .int .u8 0, .int .u8 0, .int .u8 0, .int .u8 0, .int .u8 0, .int .u8 0, .int .u8 0, .int .u8 0, .int .u8 0, .int .u8 0, .int .u8 0, .int .u8 0, .int .u8 0, .int .u8 0, .int .u8 0, .int .u8 0, .int .u8 0, .int .u8 0, .int .u8 0, .int .u8 0, .int .u8 0, .int .u8 0, .int .u8 0, .int .u8 0] : Array Value) 27)).setRow w3.heap.size (blkA Bb)) = W := ⟨_, rfl⟩
  obtain ⟨X, hX⟩ : ∃ b, w.heap.size = b := ⟨_, rfl⟩
  obtain ⟨QA, hQA⟩ : ∃ b, w1.heap.size = b := ⟨_, rfl⟩
  obtain ⟨QB, hQB⟩ : ∃ b, w3.heap.size = b := ⟨_, rfl⟩
  rw [hw4] at HX4 HY4 HQ4 HR4 HF4 ⊢
  rw [hX] at HX4 HY4 ⊢
  rw [hQA] at HQ4 ⊢
  rw [hQB] at HR4 ⊢
  clear hw4 hX hQA hQB HX HY HX2 HY2 HQ2 HX3 HY3 HQ3 HX1 HY1
  have HSS : Hid (∀ W W' : World, Fr No W W' → (W.heap[X]? = some (.cells CS 23 (0, 0)) ∧ W.heap[X + 1]? = some (.cells CR 25 (0, 0)) ∧ W.heap[QA]? = some (.cells (blkA A) 27 (0, 0)) ∧ W.heap[QB]? = some (.cells (blkA Bb) 27 (0, 0))) → (W'.heap[X]? = some (.cells CS 23 (0, 0)) ∧ W'.heap[X + 1]? = some (.cells CR 25 (0, 0)) ∧ W'.heap[QA]? = some (.cells (blkA A) 27 (0, 0)) ∧ W'.heap[QB]? = some (.cells (blkA Bb) 27 (0, 0)))) := fun W W' f ⟨a1, a2, a3, a4⟩ =>
    ⟨(f.block _ (lt_of_block a1) id).trans a1, (f.block _ (lt_of_block a2) id).trans a2, (f.block _ (lt_of_block a3) id).trans a3, (f.block _ (lt_of_block a4) id).trans a4⟩
  refine wp_region_held_drew (S := fun W => W.heap[X]? = some (.cells CS 23 (0, 0)) ∧ W.heap[X + 1]? = some (.cells CR 25 (0, 0)) ∧ W.heap[QA]? = some (.cells (blkA A) 27 (0, 0)) ∧ W.heap[QB]? = some (.cells (blkA Bb) 27 (0, 0))) (by kernel_rfl) ⟨HX4.out, HY4.out, HQ4.out, HR4.out⟩ (fun hHeld => ?_)
  have HFz := hid HF4.out.drew
  obtain ⟨wz, hwz⟩ : ∃ z, w4.drew = z := ⟨_, rfl⟩
  rw [hwz] at HFz hHeld ⊢
  clear hwz HX4 HY4 HQ4 HR4
  refine wpAnyH_take (i := 0) (v := .agg (blkA A)) rfl (by kernel_rfl) (by kernel_rfl) (by kernel_rfl) (fun _ _ _ h => h) (yields_row (by rfl) 27 _ rfl QA rfl 27 (blkA A) (0, 0) _ _ (fun _ h => h.2.2.1) Tryd.underlying27 HIA.out) hHeld ?_
  try simp only [Act.put, List.getElem_toArray, List.getElem_cons_zero, List.getElem_cons_succ, List.setIfInBounds_toArray, List.set_cons_zero, List.set_cons_succ]
  refine wpAnyH_take (i := 1) (v := ?_) rfl (by kernel_rfl) (by kernel_rfl) (by kernel_rfl) (fun _ _ _ h => h) (Or.inl ⟨by rfl, ?_⟩) hHeld ?_
  rotate_left
  · intro w hSw
    go_simp
    with_reducible rfl
  try simp only [Act.put, List.getElem_toArray, List.getElem_cons_zero, List.getElem_cons_succ, List.setIfInBounds_toArray, List.set_cons_zero, List.set_cons_succ]
  refine wpAnyH_take (i := 2) (v := .agg CS) rfl (by kernel_rfl) (by kernel_rfl) (by kernel_rfl) (fun _ _ _ h => h) (yields_whole (by rfl) 23 _ rfl X rfl 23 CS (0, 0) _ (fun _ h => h.1) Tryd.underlying23 rfl HCS.out) hHeld ?_
  try simp only [Act.put, List.getElem_toArray, List.getElem_cons_zero, List.getElem_cons_succ, List.setIfInBounds_toArray, List.set_cons_zero, List.set_cons_succ]
  refine wpAnyH_ready (rs := [3]) (by kernel_rfl) (by simp) ?_
  refine AllReadyH.cons rfl (fun K hK => ?_) AllReadyH.nil
  rw [if_pos (by rfl)]
  go_simp
  refine (HSA.out wz).mono ?_
  rintro e w5 ⟨v, rfl, hR, hF⟩
  refine hK.out _ _ (HSS.out _ _ hF hHeld) (fun hHeld => ?_)
  have HFw5 := hid (HFz.out.trans hF)
  have HRv := hid hR
  clear hK K hF hR
  try simp only [Act.put, List.getElem_toArray, List.getElem_cons_zero, List.getElem_cons_succ, List.setIfInBounds_toArray, List.set_cons_zero, List.set_cons_succ]
  refine wpAnyH_ready (rs := [4]) (by kernel_rfl) (by simp) ?_
  refine AllReadyH.cons rfl (fun K hK => ?_) AllReadyH.nil
  rw [if_pos (by rfl)]
  go_simp
  refine (HLA.out w5 v _ HRv.out).mono ?_
  rintro e w6 ⟨rfl, hF⟩
  refine hK.out _ _ (HSS.out _ _ hF hHeld) (fun hHeld => ?_)
  have HFw6 := hid (HFw5.out.trans hF)
  clear hK K hF
  try simp only [Act.put, List.getElem_toArray, List.getElem_cons_zero, List.getElem_cons_succ, List.setIfInBounds_toArray, List.set_cons_zero, List.set_cons_succ]
  refine wpAnyH_take (i := 5) (v := ?_) rfl (by kernel_rfl) (by kernel_rfl) (by kernel_rfl) (fun _ _ _ h => h) (Or.inl ⟨by rfl, ?_⟩) hHeld ?_
  rotate_left
  · intro w hSw
    go_simp
    with_reducible rfl
  try simp only [Act.put, List.getElem_toArray, List.getElem_cons_zero, List.getElem_cons_succ, List.setIfInBounds_toArray, List.set_cons_zero, List.set_cons_succ]
  refine wpAnyH_take (i := 6) (v := .agg (blkA Bb)) rfl (by kernel_rfl) (by kernel_rfl) (by kernel_rfl) (fun _ _ _ h => h) (yields_row (by rfl) 27 _ rfl QB rfl 27 (blkA Bb) (0, 0) _ _ (fun _ h => h.2.2.2) Tryd.underlying27 HIB.out) hHeld ?_
  try simp only [Act.put, List.getElem_toArray, List.getElem_cons_zero, List.getElem_cons_succ, List.setIfInBounds_toArray, List.set_cons_zero, List.set_cons_succ]
  refine wpAnyH_take (i := 7) (v := ?_) rfl (by kernel_rfl) (by kernel_rfl) (by kernel_rfl) (fun _ _ _ h => h) (Or.inl ⟨by rfl, ?_⟩) hHeld ?_
  rotate_left
  · intro w hSw
    go_simp
    with_reducible rfl
  try simp only [Act.put, List.getElem_toArray, List.getElem_cons_zero, List.getElem_cons_succ, List.setIfInBounds_toArray, List.set_cons_zero, List.set_cons_succ]
  refine wpAnyH_take (i := 8) (v := .agg CR) rfl (by kernel_rfl) (by kernel_rfl) (by kernel_rfl) (fun _ _ _ h => h) (yields_whole (by rfl) 25 _ rfl (X + 1) rfl 25 CR (0, 0) _ (fun _ h => h.2.1) Tryd.underlying25 rfl HCR.out) hHeld ?_
  try simp only [Act.put, List.getElem_toArray, List.getElem_cons_zero, List.getElem_cons_succ, List.setIfInBounds_toArray, List.set_cons_zero, List.set_cons_succ]
  refine wpAnyH_ready (rs := [9]) (by kernel_rfl) (by simp) ?_
  refine AllReadyH.cons rfl (fun K hK => ?_) AllReadyH.nil
  rw [if_pos (by rfl)]
  go_simp
  refine (HSB.out w6).mono ?_
  rintro e w7 ⟨v2, rfl, hR, hF⟩
  refine hK.out _ _ (HSS.out _ _ hF hHeld) (fun hHeld => ?_)
  have HFw7 := hid (HFw6.out.trans hF)
  have HRv2 := hid hR
  clear hK K hF hR
  try simp only [Act.put, List.getElem_toArray, List.getElem_cons_zero, List.getElem_cons_succ, List.setIfInBounds_toArray, List.set_cons_zero, List.set_cons_succ]
  refine wpAnyH_ready (rs := [10]) (by kernel_rfl) (by simp) ?_
  refine AllReadyH.cons rfl (fun K hK => ?_) AllReadyH.nil
  rw [if_pos (by rfl)]
  go_simp
  refine (HLB.out w7 v2 _ HRv2.out).mono ?_
  rintro e w8 ⟨rfl, hF⟩
  refine hK.out _ _ (HSS.out _ _ hF hHeld) (fun hHeld => ?_)
  have HFw8 := hid (HFw7.out.trans hF)
  clear hK K hF
  try simp only [Act.put, List.getElem_toArray, List.getElem_cons_zero, List.getElem_cons_succ, List.setIfInBounds_toArray, List.set_cons_zero, List.set_cons_succ]
  refine wpAnyH_take (i := 11) (v := ?_) rfl (by kernel_rfl) (by kernel_rfl) (by kernel_rfl) (fun _ _ _ h => h) (Or.inl ⟨by rfl, ?_⟩) hHeld ?_
  rotate_left
  · intro w hSw
    go_simp
    with_reducible rfl
  try simp only [Act.put, List.getElem_toArray, List.getElem_cons_zero, List.getElem_cons_succ, List.setIfInBounds_toArray, List.set_cons_zero, List.set_cons_succ]
  refine wpAnyH_take (i := 12) (v := ?_) rfl (by kernel_rfl) (by kernel_rfl) (by kernel_rfl) (fun _ _ _ h => h) (Or.inl ⟨by rfl, ?_⟩) hHeld ?_
  rotate_left
  · intro w hSw
    go_simp
    with_reducible rfl
  try simp only [Act.put, List.getElem_toArray, List.getElem_cons_zero, List.getElem_cons_succ, List.setIfInBounds_toArray, List.set_cons_zero, List.set_cons_succ]
  refine wpAnyH_ready (rs := [13]) (by kernel_rfl) (by simp) ?_
  refine AllReadyH.cons rfl (fun K hK => ?_) AllReadyH.nil
  rw [if_pos (by rfl)]
  go_simp
  refine (fm_awake w8 (HL.out.no HFw8.out)).mono ?_
  rintro e w9 ⟨rfl, hF⟩
  refine hK.out _ _ (HSS.out _ _ hF hHeld) (fun hHeld => ?_)
  have HFw9 := hid (HFw8.out.trans hF)
  clear hK K hF
  try simp only [Act.put, List.getElem_toArray, List.getElem_cons_zero, List.getElem_cons_succ, List.setIfInBounds_toArray, List.set_cons_zero, List.set_cons_succ]
  refine wpAnyH_take (i := 14) (v := ?_) rfl (by kernel_rfl) (by kernel_rfl) (by kernel_rfl) (fun _ _ _ h => h) (Or.inl ⟨by rfl, ?_⟩) hHeld ?_
  rotate_left
  · intro w hSw
    go_simp
    with_reducible rfl
  try simp only [Act.put, List.getElem_toArray, List.getElem_cons_zero, List.getElem_cons_succ, List.setIfInBounds_toArray, List.set_cons_zero, List.set_cons_succ]
  refine wpAnyH_take (i := 15) (v := ?_) rfl (by kernel_rfl) (by kernel_rfl) (by kernel_rfl) (fun _ _ _ h => h) (Or.inl ⟨by rfl, ?_⟩) hHeld ?_
  rotate_left
  · intro w hSw
    go_simp
    with_reducible rfl
  try simp only [Act.put, List.getElem_toArray, List.getElem_cons_zero, List.getElem_cons_succ, List.setIfInBounds_toArray, List.set_cons_zero, List.set_cons_succ]
  refine wpAnyH_done (by kernel_rfl) ?_ _
  go_wp2_with fail
  go_ret
  exact ⟨rfl, HFw9.out⟩
end Go.Proofs.YtpifiamafgaadaaDoor
