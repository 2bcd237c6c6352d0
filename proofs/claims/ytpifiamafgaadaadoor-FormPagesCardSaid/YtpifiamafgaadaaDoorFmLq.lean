/- forms: FormPages -/
import Derived.Test.YtpifiamafgaadaaDoorFmQPage
import Derived.Test.YtpifiamafgaadaaDoorFmLp
import Derived.Test.YtpifiamafgaadaaDoorFmLg
import Derived.Test.YtpifiamafgaadaaDoorFmO
import Derived.Test.YtpifiamafgaadaaDoorFmLb
import Derived.Test.YtpifiamafgaadaaDoorFmAw
namespace Go.Proofs.YtpifiamafgaadaaDoor
open Go.RowKit Go.Shelf
theorem pageP_four (q n o m : Int) (a b c d : EntI) : pageL q n o m [a, b, c, d] 4 = pageP q n o m a b c d := by
  simp [pageL, pageP]
theorem page_m (q n o m : Int) (a b c d : EntI) (h : okAll (pageP q n o m a b c d) = true) : 0 ≤ m := by
  simp only [pageP, okAll_append, Bool.and_eq_true] at h
  have h1 := h.1.1.1.1
  simp [okAll, NumI.ok] at h1
  omega
theorem page_cells (q n o m : Int) (a b c d : EntI) (k : Nat) (hk : k < ([a, b, c, d] : List EntI).length) : (pageA q n o m a b c d)[4 + k * 4]? = some (.int .i64 ([a, b, c, d] : List EntI)[k].b) ∧ (pageA q n o m a b c d)[4 + k * 4 + 1]? = some (.int .i64 ([a, b, c, d] : List EntI)[k].s) ∧ (pageA q n o m a b c d)[4 + k * 4 + 2]? = some (.bool ([a, b, c, d] : List EntI)[k].d) ∧ (pageA q n o m a b c d)[4 + k * 4 + 3]? = some (.int .i64 ([a, b, c, d] : List EntI)[k].u) := by
  have hk : k < 4 := hk
  obtain rfl | rfl | rfl | rfl : k = 0 ∨ k = 1 ∨ k = 2 ∨ k = 3 := by omega
  all_goals exact ⟨rfl, rfl, rfl, rfl⟩
theorem pageA_one (q n o m : Int) (a b c d : EntI) : (pageA q n o m a b c d).all (·.oneCell') = true := by
  simp [pageA, entsA, entV, Value.oneCell']
theorem wrap_le (x : Int) : IntKind.i64.wrap x ≤ 9223372036854775807 := by rw [IntKind.wrap_i64]; omega
theorem wrap_pred (o : Int) (h : 1 ≤ o) (h2 : o ≤ 9223372036854775807) : IntKind.i64.wrap (o - 1) = o - 1 := by rw [IntKind.wrap_i64]; omega
set_option maxRecDepth 1000000 in
set_option maxHeartbeats 4000000 in
theorem law_FormPages (w : World) (x0 : PagI) (h0 : x0.o ≤ 9223372036854775807) (hL : Laid w) : Calls Tryd.prog 4 #[x0.v] w fun e w' => e = .returned (.bool true) ∧ Fr No w w' := by
  obtain ⟨q, n, o, m, a, b, c, d⟩ := x0
  replace h0 : o ≤ 9223372036854775807 := h0
  show Calls Tryd.prog 4 #[.agg (pageA q n o m a b c d)] w fun e w' => e = .returned (.bool true) ∧ Fr No w w'
  have hl0 : (bytesN (pageP q n o m a b c d)).length ≤ 59 := by rw [bytesN_len]; simp [pageP, entP]
  have hpl : (pageP q n o m a b c d).length = 20 := by simp [pageP, entP]
  have hrl : (pageR q n o m (IntKind.i64.wrap (o - 1)) a b c d).length = 20 := by simp [pageR, entR_len]
  have HPA := hid (fun W hW => fm_PutPage W (pageA q n o m a b c d) (pageP q n o m a b c d) (pageFitsB n o m a b c d) (by kernel_rfl) (pageA_one q n o m a b c d) (fun W X h => by rw [← pageP_four]; exact fm_pages1 W X q n o m [a, b, c, d] rfl _ _ h rfl rfl rfl rfl (page_cells q n o m a b c d)) (fun hok W => fm_pageFits W q n o m a b c d (page_m q n o m a b c d hok)) (fine_page q n o m a b c d) hl0 (by rw [hpl]; decide) hW)
  have HLA := hid (fun W v B h => lw_put W 3 (by omega) v (pageR q n o m (IntKind.i64.wrap (o - 1)) a b c d) B h (by rw [hrl]; decide) (by rw [hrl]; decide) (pageP q n o m a b c d) (pageFitsB n o m a b c d) (page_ok q n o m _ (fun h => wrap_pred o h h0) a b c d) (page_bytes q n o m _ a b c d) (ok_bounds (mild_page q n o m _ (wrap_le _) a b c d)) (by rw [page_bytes]; exact hl0))
  have HSA := hid (fun W => lw_page W q n o m a b c d)
  have hAl := putN_len 3 (pageP q n o m a b c d) (pageFitsB n o m a b c d) hl0
  obtain ⟨⟨A, EA⟩, hA⟩ : ∃ P, putN 3 (pageP q n o m a b c d) (pageFitsB n o m a b c d) = P := ⟨_, rfl⟩
  rw [hA] at HPA HLA hAl
  have HCS := hid (show (Tryd.prog.info? 42).map (·.size) = some (pageA q n o m a b c d).size from by kernel_rfl)
  obtain ⟨CS, hCS⟩ : ∃ c', pageA q n o m a b c d = c' := ⟨_, rfl⟩
  rw [hCS] at HPA HSA HCS ⊢
  obtain ⟨LA, hLA⟩ : ∃ L, pageR q n o m (IntKind.i64.wrap (o - 1)) a b c d = L := ⟨_, rfl⟩
  rw [hLA] at HLA HSA
  have HPA := hid (show ∀ W, Laid W → Calls Tryd.prog 11 #[.agg CS] W fun e w' => e = .returned (.tuple #[.agg (blkA A), .int .i64 (EA : Int)]) ∧ Fr No W w' from HPA.out)
  have HLA := hid (show ∀ W v B, Refs W v LA B → Calls Tryd.prog 7 #[.agg (blkA A), .int .i64 (EA : Int), .int .i64 3, v] W fun e w' => e = .returned (.bool true) ∧ Fr No W w' from HLA.out)
  have hAl : A.length = 64 := hAl
  have HIA := hid (info64b A hAl)
  have H1A := hid (blkA_one A)
  have HZA : Hid (((#[.int .u8 0, .int .u8 0, .int .u8 0, .int .u8 0, .int .u8 0, .int .u8 0, .int .u8 0, .int .u8 0, .int .u8 0, .int .u8 0, .int .u8 0, .int .u8 0, .int .u8 0, .int .u8 0, .int .u8 0, .int .u8 0, .int .u8 0, .int .u8 0, .int .u8 0, .int .u8 0, .int .u8 0, .int .u8 0, .int .u8 0, .int .u8 0, .int .u8 0, .int .u8 0, .int .u8 0, .int .u8 0, .int .u8 0, .int .u8 0, .int .u8 0, .int .u8 0, .int .u8 0, .int .u8 0, .int .u8 0, .int .u8 0, .int .u8 0, .int .u8 0, .int .u8 0, .int .u8 0, .int .u8 0, .int .u8 0, .int .u8 0, .int .u8 0, .int .u8 0, .int .u8 0, .int .u8 0, .int .u8 0, .int .u8 0, .int .u8 0, .int .u8 0, .int .u8 0, .int .u8 0, .int .u8 0, .int .u8 0, .int .u8 0, .int .u8 0, .int .u8 0, .int .u8 0, .int .u8 0, .int .u8 0, .int .u8 0, .int .u8 0, .int .u8 0] : Array Value)).size = (blkA A).size) := ((blkA_size A).trans hAl).symm
  have HL := hid hL
  have HX := hid (heap_new w (.cells CS 42))
  have HF := hid ((Fr.refl No w).alloc (.cells CS 42))
  clear hL hl0 hA hCS hLA hAl h0 hpl hrl q n o m a b c d
  go_enter Tryd.func4, Tryd.ntmps4
  go_wp2_with (first
    | (refine wpList_store_row rfl 27 (.tmp 3) (.tmp 8) rfl w1.heap.size (blkA A) rfl rfl 27 _ (heap_new w1 _) HIA.out HZA.out H1A.out ?_)
    | (go_at_call 11; refine (HPA.out _ (HL.out.no HF.out)).mono ?_; rintro e w1 ⟨rfl, hF1⟩; have HF1 := hid (HF.out.trans hF1); have HX1 := hid ((hF1.block w.heap.size (lt_of_block HX.out) id).trans HX.out); have hp := put_blk w1 (#[.int .u8 0, .int .u8 0, .int .u8 0, .int .u8 0, .int .u8 0, .int .u8 0, .int .u8 0, .int .u8 0, .int .u8 0, .int .u8 0, .int .u8 0, .int .u8 0, .int .u8 0, .int .u8 0, .int .u8 0, .int .u8 0, .int .u8 0, .int .u8 0, .int .u8 0, .int .u8 0, .int .u8 0, .int .u8 0, .int .u8 0, .int .u8 0, .int .u8 0, .int .u8 0, .int .u8 0, .int .u8 0, .int .u8 0, .int .u8 0, .int .u8 0, .int .u8 0, .int .u8 0, .int .u8 0, .int .u8 0, .int .u8 0, .int .u8 0, .int .u8 0, .int .u8 0, .int .u8 0, .int .u8 0, .int .u8 0, .int .u8 0, .int .u8 0, .int .u8 0, .int .u8 0, .int .u8 0, .int .u8 0, .int .u8 0, .int .u8 0, .int .u8 0, .int .u8 0, .int .u8 0, .int .u8 0, .int .u8 0, .int .u8 0, .int .u8 0, .int .u8 0, .int .u8 0, .int .u8 0, .int .u8 0, .int .u8 0, .int .u8 0, .int .u8 0] : Array Value) A; have HF2 := hid (HF1.out.trans hp.2); have HX2 := hid ((hp.2.block w.heap.size (lt_of_block HX1.out) id).trans HX1.out); have HQ2 := hid hp.1; clear hF1 hp)
    | (refine list_val rfl (.agg CS) (exec_load_whole 42 (.tmp 1) rfl w.heap.size rfl 42 CS (0, 0) _ HX.out Tryd.underlying42 rfl HCS.out) ?_))
  obtain ⟨w4, hw4⟩ : ∃ W, ((w1.alloc (.cells (#[.int .u8 0, .int .u8 0, .int .u8 0, .int .u8 0, .int .u8 0, .int .u8 0, .int .u8 0, .int .u8 0, .int .u8 0, .int .u8 0, .int .u8 0, .int .u8 0, .int .u8 0, .int .u8 0, .int .u8 0, .int .u8 0, .int .u8 0, .int .u8 0, .int .u8 0, .int .u8 0, .int .u8 0, .int .u8 0, .int .u8 0, .int .u8 0, .int .u8 0, .int .u8 0, .int .u8 0, .int .u8 0, .int .u8 0, .int .u8 0, .int .u8 0, .int .u8 0, .int .u8 0, .int .u8 0, .int .u8 0, .int .u8 0, .int .u8 0, .int .u8 0, .int .u8 0, .int .u8 0, .int .u8 0, .int .u8 0, .int .u8 0, .int .u8 0, .int .u8 0, .int .u8 0, .int .u8 0, .int .u8 0, .int .u8 0, .int .u8 0, .int .u8 0, .int .u8 0, .int .u8 0, .int .u8 0, .int .u8 0, .int .u8 0, .int .u8 0, .int .u8 0, .int .u8 0, .int .u8 0, .int .u8 0, .int .u8 0, .int .u8 0, .int .u8 0] : Array Value) 27)).setRow w1.heap.size (blkA A)) = W := ⟨_, rfl⟩
  obtain ⟨X, hX⟩ : ∃ b, w.heap.size = b := ⟨_, rfl⟩
  obtain ⟨QA, hQA⟩ : ∃ b, w1.heap.size = b := ⟨_, rfl⟩
  rw [hw4] at HX2 HQ2 HF2 ⊢
  rw [hX] at HX2 ⊢
  rw [hQA] at HQ2 ⊢
  clear hw4 hX hQA HX HX1
  have HSS : Hid (∀ W W' : World, Fr No W W' → (W.heap[X]? = some (.cells CS 42 (0, 0)) ∧ W.heap[QA]? = some (.cells (blkA A) 27 (0, 0))) → (W'.heap[X]? = some (.cells CS 42 (0, 0)) ∧ W'.heap[QA]? = some (.cells (blkA A) 27 (0, 0)))) := fun W W' f ⟨a1, a3⟩ =>
    ⟨(f.block _ (lt_of_block a1) id).trans a1, (f.block _ (lt_of_block a3) id).trans a3⟩
  refine wp_region_held_drew (S := fun W => W.heap[X]? = some (.cells CS 42 (0, 0)) ∧ W.heap[QA]? = some (.cells (blkA A) 27 (0, 0))) (by kernel_rfl) ⟨HX2.out, HQ2.out⟩ (fun hHeld => ?_)
  have HFz := hid HF2.out.drew
  obtain ⟨wz, hwz⟩ : ∃ z, w4.drew = z := ⟨_, rfl⟩
  rw [hwz] at HFz hHeld ⊢
  clear hwz HX2 HQ2
  refine wpAnyH_take (i := 0) (v := .agg (blkA A)) rfl (by kernel_rfl) (by kernel_rfl) (by kernel_rfl) (fun _ _ _ h => h) (yields_row (by rfl) 27 _ rfl QA rfl 27 (blkA A) (0, 0) _ _ (fun _ h => h.2) Tryd.underlying27 HIA.out) hHeld ?_
  try simp only [Act.put, List.getElem_toArray, List.getElem_cons_zero, List.getElem_cons_succ, List.setIfInBounds_toArray, List.set_cons_zero, List.set_cons_succ]
  refine wpAnyH_take (i := 1) (v := ?_) rfl (by kernel_rfl) (by kernel_rfl) (by kernel_rfl) (fun _ _ _ h => h) (Or.inl ⟨by rfl, ?_⟩) hHeld ?_
  rotate_left
  · intro w hSw
    go_simp
    with_reducible rfl
  try simp only [Act.put, List.getElem_toArray, List.getElem_cons_zero, List.getElem_cons_succ, List.setIfInBounds_toArray, List.set_cons_zero, List.set_cons_succ]
  refine wpAnyH_take (i := 2) (v := .agg CS) rfl (by kernel_rfl) (by kernel_rfl) (by kernel_rfl) (fun _ _ _ h => h) (yields_whole (by rfl) 42 _ rfl X rfl 42 CS (0, 0) _ (fun _ h => h.1) Tryd.underlying42 rfl HCS.out) hHeld ?_
  try simp only [Act.put, List.getElem_toArray, List.getElem_cons_zero, List.getElem_cons_succ, List.setIfInBounds_toArray, List.set_cons_zero, List.set_cons_succ]
  refine wpAnyH_ready (rs := [3]) (by kernel_rfl) (by simp) ?_
  refine AllReadyH.cons rfl (fun K hK => ?_) AllReadyH.nil
  rw [if_pos (by rfl)]
  go_simp
  refine (HSA.out wz).mono ?_
  rintro e w5 ⟨v, rfl, hR, hF⟩
  refine hK.out _ _ (HSS.out _ _ hF hHeld) (fun hHeld => ?_)
  have HFw5 := hid (HFz.out.trans hF)
  have HRv := hid hR
  clear hK K hF hR
  try simp only [Act.put, List.getElem_toArray, List.getElem_cons_zero, List.getElem_cons_succ, List.setIfInBounds_toArray, List.set_cons_zero, List.set_cons_succ]
  refine wpAnyH_ready (rs := [4]) (by kernel_rfl) (by simp) ?_
  refine AllReadyH.cons rfl (fun K hK => ?_) AllReadyH.nil
  rw [if_pos (by rfl)]
  go_simp
  refine (HLA.out w5 v _ HRv.out).mono ?_
  rintro e w6 ⟨rfl, hF⟩
  refine hK.out _ _ (HSS.out _ _ hF hHeld) (fun hHeld => ?_)
  have HFw6 := hid (HFw5.out.trans hF)
  clear hK K hF
  try simp only [Act.put, List.getElem_toArray, List.getElem_cons_zero, List.getElem_cons_succ, List.setIfInBounds_toArray, List.set_cons_zero, List.set_cons_succ]
  refine wpAnyH_take (i := 5) (v := ?_) rfl (by kernel_rfl) (by kernel_rfl) (by kernel_rfl) (fun _ _ _ h => h) (Or.inl ⟨by rfl, ?_⟩) hHeld ?_
  rotate_left
  · intro w hSw
    go_simp
    with_reducible rfl
  try simp only [Act.put, List.getElem_toArray, List.getElem_cons_zero, List.getElem_cons_succ, List.setIfInBounds_toArray, List.set_cons_zero, List.set_cons_succ]
  refine wpAnyH_ready (rs := [6]) (by kernel_rfl) (by simp) ?_
  refine AllReadyH.cons rfl (fun K hK => ?_) AllReadyH.nil
  rw [if_pos (by rfl)]
  go_simp
  refine (fm_awake w6 (HL.out.no HFw6.out)).mono ?_
  rintro e w9 ⟨rfl, hF⟩
  refine hK.out _ _ (HSS.out _ _ hF hHeld) (fun hHeld => ?_)
  have HFw9 := hid (HFw6.out.trans hF)
  clear hK K hF
  try simp only [Act.put, List.getElem_toArray, List.getElem_cons_zero, List.getElem_cons_succ, List.setIfInBounds_toArray, List.set_cons_zero, List.set_cons_succ]
  refine wpAnyH_take (i := 7) (v := ?_) rfl (by kernel_rfl) (by kernel_rfl) (by kernel_rfl) (fun _ _ _ h => h) (Or.inl ⟨by rfl, ?_⟩) hHeld ?_
  rotate_left
  · intro w hSw
    go_simp
    with_reducible rfl
  try simp only [Act.put, List.getElem_toArray, List.getElem_cons_zero, List.getElem_cons_succ, List.setIfInBounds_toArray, List.set_cons_zero, List.set_cons_succ]
  refine wpAnyH_take (i := 8) (v := ?_) rfl (by kernel_rfl) (by kernel_rfl) (by kernel_rfl) (fun _ _ _ h => h) (Or.inl ⟨by rfl, ?_⟩) hHeld ?_
  rotate_left
  · intro w hSw
    go_simp
    with_reducible rfl
  try simp only [Act.put, List.getElem_toArray, List.getElem_cons_zero, List.getElem_cons_succ, List.setIfInBounds_toArray, List.set_cons_zero, List.set_cons_succ]
  refine wpAnyH_done (by kernel_rfl) ?_ _
  go_wp2_with fail
  go_ret
  exact ⟨rfl, HFw9.out⟩
end Go.Proofs.YtpifiamafgaadaaDoor
