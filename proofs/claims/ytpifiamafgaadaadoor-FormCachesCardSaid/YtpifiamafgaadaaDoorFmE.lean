/- forms: the rows of numbers. -/
import Derived.Test.YtpifiamafgaadaaDoorFmC
namespace Go.Proofs.YtpifiamafgaadaaDoor
open Go.RowKit Go.Shelf
set_option maxRecDepth 1000000 in
set_option maxHeartbeats 4000000 in
theorem fm_records1 (w : World) (X : Nat) (q l o b s u : Int) (d : Bool) (cs : Array Value) (T : TypeId) (hb : w.heap[X]? = some (.cells cs T (0, 0))) (h0 : cs[0]? = some (.int .i64 q)) (h1 : cs[1]? = some (.int .i64 l)) (h2 : cs[2]? = some (.int .i64 o)) (h3 : cs[3]? = some (.int .i64 b)) (h4 : cs[4]? = some (.int .i64 s)) (h5 : cs[5]? = some (.bool d)) (h6 : cs[6]? = some (.int .i64 u)) :
    Calls Tryd.prog 34 #[.pointer (some ⟨X, 0, none⟩)] w fun e w' => ∃ v, e = .returned v ∧ Nums w' v (recP q l o ⟨b, s, d, u⟩) (fun q => q = X) w.heap.size ∧ Fr No w w' := by
  have hX := lt_of_block hb
  have HF0 := hid (Fr.refl No w).drew
  have H0 := hid h0
  have H1 := hid h1
  have H2 := hid h2
  have H3 := hid h3
  have H4 := hid h4
  have H5 := hid h5
  have H6 := hid h6
  clear h0 h1 h2 h3 h4 h5 h6
  go_enter Tryd.func34, Tryd.ntmps34
  go_wp2_with fail
  refine wp_region_held_drew (S := fun W => W.heap[X]? = some (.cells cs T (0, 0))) (by kernel_rfl) hb (fun hHeld => ?_)
  refine wpAnyH_take (i := 0) (v := ?_) rfl (by kernel_rfl) (by kernel_rfl) (by kernel_rfl) (fun _ _ _ h => h) (Or.inl ⟨by rfl, ?_⟩) hHeld ?_
  rotate_left
  · intro w hSw
    go_simp
    with_reducible rfl
  try simp only [Act.put, List.getElem_toArray, List.getElem_cons_zero, List.getElem_cons_succ, List.setIfInBounds_toArray, List.set_cons_zero, List.set_cons_succ]
  refine wpAnyH_take (i := 1) (v := ?_) rfl (by kernel_rfl) (by kernel_rfl) (by kernel_rfl) (fun _ _ _ h => h) (Or.inl ⟨by rfl, ?_⟩) hHeld ?_
  rotate_left
  · intro w hSw
    go_simp
    with_reducible rfl
  try simp only [Act.put, List.getElem_toArray, List.getElem_cons_zero, List.getElem_cons_succ, List.setIfInBounds_toArray, List.set_cons_zero, List.set_cons_succ]
  refine wpAnyH_take (i := 2) (v := ?_) rfl (by kernel_rfl) (by kernel_rfl) (by kernel_rfl) (fun _ _ _ h => h) (Or.inl ⟨by rfl, ?_⟩) hHeld ?_
  rotate_left
  · intro w hSw
    go_simp
    with_reducible rfl
  try simp only [Act.put, List.getElem_toArray, List.getElem_cons_zero, List.getElem_cons_succ, List.setIfInBounds_toArray, List.set_cons_zero, List.set_cons_succ]
  refine wpAnyH_take (i := 4) (v := ?_) rfl (by kernel_rfl) (by kernel_rfl) (by kernel_rfl) (fun _ _ _ h => h) (Or.inl ⟨by rfl, ?_⟩) hHeld ?_
  rotate_left
  · intro w hSw
    go_simp
    with_reducible rfl
  try simp only [Act.put, List.getElem_toArray, List.getElem_cons_zero, List.getElem_cons_succ, List.setIfInBounds_toArray, List.set_cons_zero, List.set_cons_succ]
  refine wpAnyH_take (i := 5) (v := ?_) rfl (by kernel_rfl) (by kernel_rfl) (by kernel_rfl) (fun _ _ _ h => h) (Or.inl ⟨by rfl, ?_⟩) hHeld ?_
  rotate_left
  · intro w hSw
    go_simp
    with_reducible rfl
  try simp only [Act.put, List.getElem_toArray, List.getElem_cons_zero, List.getElem_cons_succ, List.setIfInBounds_toArray, List.set_cons_zero, List.set_cons_succ]
  refine wpAnyH_take (i := 6) (v := ?_) rfl (by kernel_rfl) (by kernel_rfl) (by kernel_rfl) (fun _ _ _ h => h) (Or.inl ⟨by rfl, ?_⟩) hHeld ?_
  rotate_left
  · intro w hSw
    go_simp
    with_reducible rfl
  try simp only [Act.put, List.getElem_toArray, List.getElem_cons_zero, List.getElem_cons_succ, List.setIfInBounds_toArray, List.set_cons_zero, List.set_cons_succ]
  refine wpAnyH_take (i := 8) (v := ?_) rfl (by kernel_rfl) (by kernel_rfl) (by kernel_rfl) (fun _ _ _ h => h) (Or.inl ⟨by rfl, ?_⟩) hHeld ?_
  rotate_left
  · intro w hSw
    go_simp
    with_reducible rfl
  try simp only [Act.put, List.getElem_toArray, List.getElem_cons_zero, List.getElem_cons_succ, List.setIfInBounds_toArray, List.set_cons_zero, List.set_cons_succ]
  refine wpAnyH_take (i := 9) (v := ?_) rfl (by kernel_rfl) (by kernel_rfl) (by kernel_rfl) (fun _ _ _ h => h) (Or.inl ⟨by rfl, ?_⟩) hHeld ?_
  rotate_left
  · intro w hSw
    go_simp
    with_reducible rfl
  try simp only [Act.put, List.getElem_toArray, List.getElem_cons_zero, List.getElem_cons_succ, List.setIfInBounds_toArray, List.set_cons_zero, List.set_cons_succ]
  refine wpAnyH_take (i := 10) (v := ?_) rfl (by kernel_rfl) (by kernel_rfl) (by kernel_rfl) (fun _ _ _ h => h) (Or.inl ⟨by rfl, ?_⟩) hHeld ?_
  rotate_left
  · intro w hSw
    go_simp
    with_reducible rfl
  try simp only [Act.put, List.getElem_toArray, List.getElem_cons_zero, List.getElem_cons_succ, List.setIfInBounds_toArray, List.set_cons_zero, List.set_cons_succ]
  refine wpAnyH_ready (rs := [3]) (by kernel_rfl) (by simp) ?_
  refine AllReadyH.cons rfl (fun K hK => ?_) AllReadyH.nil
  rw [if_pos (by rfl)]
  go_simp
  refine (fm_wholeB _ X 0 6 1 1099511627776 q ((cell_blk hHeld 0).trans H0.out) w.heap.size HF0.out.size).mono ?_
  rintro e w1 ⟨ft1, fs1, rfl, hT, h1, hF⟩
  have HT1 := hid hT
  have HO1 := hid h1
  have HS1 := hid hF
  have HF1 := hid (HF0.out.trans hF)
  refine hK.out _ _ ((hF.block X (HF0.out.lt hX) id).trans hHeld) (fun hHeld => ?_)
  clear hK K hT hF h1
  try simp only [Act.put, List.getElem_toArray, List.getElem_cons_zero, List.getElem_cons_succ, List.setIfInBounds_toArray, List.set_cons_zero, List.set_cons_succ]
  refine wpAnyH_ready (rs := [7]) (by kernel_rfl) (by simp) ?_
  refine AllReadyH.cons rfl (fun K hK => ?_) AllReadyH.nil
  rw [if_pos (by rfl)]
  go_simp
  refine (fm_wholeB _ X 1 6 0 1099511627776 l ((cell_blk hHeld 1).trans H1.out) w.heap.size HF1.out.size).mono ?_
  rintro e w2 ⟨ft2, fs2, rfl, hT, h1, hF⟩
  have HT2 := hid hT
  have HO2 := hid h1
  have HS2 := hid hF
  have HF2 := hid (HF1.out.trans hF)
  refine hK.out _ _ ((hF.block X (HF1.out.lt hX) id).trans hHeld) (fun hHeld => ?_)
  clear hK K hT hF h1
  try simp only [Act.put, List.getElem_toArray, List.getElem_cons_zero, List.getElem_cons_succ, List.setIfInBounds_toArray, List.set_cons_zero, List.set_cons_succ]
  refine wpAnyH_ready (rs := [11]) (by kernel_rfl) (by simp) ?_
  refine AllReadyH.cons rfl (fun K hK => ?_) AllReadyH.nil
  rw [if_pos (by rfl)]
  go_simp
  refine (fm_wholeB _ X 2 1 0 1 o ((cell_blk hHeld 2).trans H2.out) w.heap.size HF2.out.size).mono ?_
  rintro e w3 ⟨ft3, fs3, rfl, hT, h1, hF⟩
  have HT3 := hid hT
  have HO3 := hid h1
  have HS3 := hid hF
  have HF3 := hid (HF2.out.trans hF)
  refine hK.out _ _ ((hF.block X (HF2.out.lt hX) id).trans hHeld) (fun hHeld => ?_)
  clear hK K hT hF h1
  try simp only [Act.put, List.getElem_toArray, List.getElem_cons_zero, List.getElem_cons_succ, List.setIfInBounds_toArray, List.set_cons_zero, List.set_cons_succ]
  have HN := hid (nums_new [((⟨q, 6, 1, 1099511627776⟩, ft1, fs1) : NumT), ((⟨l, 6, 0, 1099511627776⟩, ft2, fs2) : NumT), ((⟨o, 1, 0, 1⟩, ft3, fs3) : NumT)] (by simp) (by simp) w3 w.heap.size HF3.out.size (fun q => q = X) (List.forall_mem_cons.2 ⟨((HT1.out.no HS2.out).no HS3.out), (List.forall_mem_cons.2 ⟨(HT2.out.no HS3.out), (List.forall_mem_cons.2 ⟨HT3.out, (fun _ h => by cases h)⟩)⟩)⟩) (List.forall_mem_cons.2 ⟨HO1.out, (List.forall_mem_cons.2 ⟨HO2.out, (List.forall_mem_cons.2 ⟨HO3.out, (fun _ h => by cases h)⟩)⟩)⟩) _ rfl)
  have HF4 := hid (HF3.out.alloc (.cells (List.flatMap numL [((⟨q, 6, 1, 1099511627776⟩, ft1, fs1) : NumT), ((⟨l, 6, 0, 1099511627776⟩, ft2, fs2) : NumT), ((⟨o, 1, 0, 1⟩, ft3, fs3) : NumT)]).toArray 87))
  have HBS := hid (num_slice [((⟨q, 6, 1, 1099511627776⟩, ft1, fs1) : NumT), ((⟨l, 6, 0, 1099511627776⟩, ft2, fs2) : NumT), ((⟨o, 1, 0, 1⟩, ft3, fs3) : NumT)] (by simp) (by simp) w3 #[(0, numT ((⟨q, 6, 1, 1099511627776⟩, ft1, fs1) : NumT)), (1, numT ((⟨l, 6, 0, 1099511627776⟩, ft2, fs2) : NumT)), (2, numT ((⟨o, 1, 0, 1⟩, ft3, fs3) : NumT))] rfl)
  refine wpAnyH_ready (rs := [12]) (by kernel_rfl) (by simp) ?_
  refine AllReadyH.cons rfl (fun K hK => ?_) AllReadyH.nil
  rw [if_pos (by rfl)]
  refine wp_buildS 82 3 _ rfl _ (by simp [Act.eval]) _ _ HBS.out ?_
  have hF := (Fr.refl No w3).alloc (.cells (List.flatMap numL [((⟨q, 6, 1, 1099511627776⟩, ft1, fs1) : NumT), ((⟨l, 6, 0, 1099511627776⟩, ft2, fs2) : NumT), ((⟨o, 1, 0, 1⟩, ft3, fs3) : NumT)]).toArray 87)
  refine hK.out _ _ ((hF.block X (HF3.out.lt hX) id).trans hHeld) (fun hHeld => ?_)
  clear hK K hF HBS
  try simp only [Act.put, List.getElem_toArray, List.getElem_cons_zero, List.getElem_cons_succ, List.setIfInBounds_toArray, List.set_cons_zero, List.set_cons_succ]
  obtain ⟨w4, hw⟩ : ∃ W, w3.alloc (.cells (List.flatMap numL [((⟨q, 6, 1, 1099511627776⟩, ft1, fs1) : NumT), ((⟨l, 6, 0, 1099511627776⟩, ft2, fs2) : NumT), ((⟨o, 1, 0, 1⟩, ft3, fs3) : NumT)]).toArray 87) = W := ⟨_, rfl⟩
  rw [hw] at HN HF4 hHeld ⊢
  clear hw
  refine wpAnyH_ready (rs := [13]) (by kernel_rfl) (by simp) ?_
  refine AllReadyH.cons rfl (fun K hK => ?_) AllReadyH.nil
  rw [if_pos (by rfl)]
  go_simp
  refine (fm_row _ _).mono ?_
  rintro e w5 ⟨rfl, rfl⟩
  refine hK.out _ _ hHeld (fun hHeld => ?_)
  clear hK K
  try simp only [Act.put, List.getElem_toArray, List.getElem_cons_zero, List.getElem_cons_succ, List.setIfInBounds_toArray, List.set_cons_zero, List.set_cons_succ]
  refine wpAnyH_take (i := 14) (v := ?_) rfl (by kernel_rfl) (by kernel_rfl) (by kernel_rfl) (fun _ _ _ h => h) (Or.inl ⟨by rfl, ?_⟩) hHeld ?_
  rotate_left
  · intro w hSw
    go_simp
    with_reducible rfl
  try simp only [Act.put, List.getElem_toArray, List.getElem_cons_zero, List.getElem_cons_succ, List.setIfInBounds_toArray, List.set_cons_zero, List.set_cons_succ]
  refine wpAnyH_done (by kernel_rfl) ?_ _
  go_wp2_with fail
  have hHb := hHeld
  clear hHeld
  refine wp_region_held_drew (S := fun W => W.heap[X]? = some (.cells cs T (0, 0))) (by kernel_rfl) hHb (fun hHeld => ?_)
  have HNz := hid (HN.out.no (Fr.refl No w5).drew)
  have HFz := hid HF4.out.drew
  obtain ⟨wz, hwz⟩ : ∃ z, w5.drew = z := ⟨_, rfl⟩
  rw [hwz] at HNz HFz hHeld ⊢
  clear hwz HN HF4
  refine wpAnyH_take (i := 0) (v := ?_) rfl (by kernel_rfl) (by kernel_rfl) (by kernel_rfl) (fun _ _ _ h => h) (Or.inl ⟨by rfl, ?_⟩) hHeld ?_
  rotate_left
  · intro w hSw
    go_simp
    with_reducible rfl
  try simp only [Act.put, List.getElem_toArray, List.getElem_cons_zero, List.getElem_cons_succ, List.setIfInBounds_toArray, List.set_cons_zero, List.set_cons_succ]
  refine wpAnyH_take (i := 1) (v := ?_) rfl (by kernel_rfl) (by kernel_rfl) (by kernel_rfl) (fun _ _ _ h => h) (Or.inl ⟨by rfl, ?_⟩) hHeld ?_
  rotate_left
  · intro w hSw
    go_simp
    with_reducible rfl
  try simp only [Act.put, List.getElem_toArray, List.getElem_cons_zero, List.getElem_cons_succ, List.setIfInBounds_toArray, List.set_cons_zero, List.set_cons_succ]
  refine wpAnyH_take (i := 2) (v := ?_) rfl (by kernel_rfl) (by kernel_rfl) (by kernel_rfl) (fun _ _ _ h => h) (Or.inl ⟨by rfl, ?_⟩) hHeld ?_
  rotate_left
  · intro w hSw
    go_simp
    with_reducible rfl
  try simp only [Act.put, List.getElem_toArray, List.getElem_cons_zero, List.getElem_cons_succ, List.setIfInBounds_toArray, List.set_cons_zero, List.set_cons_succ]
  refine wpAnyH_take (i := 3) (v := ?_) rfl (by kernel_rfl) (by kernel_rfl) (by kernel_rfl) (fun _ _ _ h => h) (Or.inl ⟨by rfl, ?_⟩) hHeld ?_
  rotate_left
  · intro w hSw
    go_simp
    with_reducible rfl
  try simp only [Act.put, List.getElem_toArray, List.getElem_cons_zero, List.getElem_cons_succ, List.setIfInBounds_toArray, List.set_cons_zero, List.set_cons_succ]
  refine wpAnyH_take (i := 4) (v := ?_) rfl (by kernel_rfl) (by kernel_rfl) (by kernel_rfl) (fun _ _ _ h => h) (Or.inl ⟨by rfl, ?_⟩) hHeld ?_
  rotate_left
  · intro w hSw
    go_simp
    with_reducible rfl
  try simp only [Act.put, List.getElem_toArray, List.getElem_cons_zero, List.getElem_cons_succ, List.setIfInBounds_toArray, List.set_cons_zero, List.set_cons_succ]
  refine wpAnyH_take (i := 5) (v := ?_) rfl (by kernel_rfl) (by kernel_rfl) (by kernel_rfl) (fun _ _ _ h => h) (Or.inl ⟨by rfl, ?_⟩) hHeld ?_
  rotate_left
  · intro w hSw
    go_simp
    with_reducible rfl
  try simp only [Act.put, List.getElem_toArray, List.getElem_cons_zero, List.getElem_cons_succ, List.setIfInBounds_toArray, List.set_cons_zero, List.set_cons_succ]
  refine wpAnyH_take (i := 6) (v := ?_) rfl (by kernel_rfl) (by kernel_rfl) (by kernel_rfl) (fun _ _ _ h => h) (Or.inl ⟨by rfl, ?_⟩) hHeld ?_
  rotate_left
  · intro w hSw
    go_simp
    with_reducible rfl
  try simp only [Act.put, List.getElem_toArray, List.getElem_cons_zero, List.getElem_cons_succ, List.setIfInBounds_toArray, List.set_cons_zero, List.set_cons_succ]
  refine wpAnyH_take (i := 7) (v := ?_) rfl (by kernel_rfl) (by kernel_rfl) (by kernel_rfl) (fun _ _ _ h => h) (Or.inl ⟨by rfl, ?_⟩) hHeld ?_
  rotate_left
  · intro w hSw
    go_simp
    with_reducible rfl
  try simp only [Act.put, List.getElem_toArray, List.getElem_cons_zero, List.getElem_cons_succ, List.setIfInBounds_toArray, List.set_cons_zero, List.set_cons_succ]
  refine wpAnyH_take (i := 8) (v := ?_) rfl (by kernel_rfl) (by kernel_rfl) (by kernel_rfl) (fun _ _ _ h => h) (Or.inl ⟨by rfl, ?_⟩) hHeld ?_
  rotate_left
  · intro w hSw
    go_simp
    with_reducible rfl
  try simp only [Act.put, List.getElem_toArray, List.getElem_cons_zero, List.getElem_cons_succ, List.setIfInBounds_toArray, List.set_cons_zero, List.set_cons_succ]
  refine wpAnyH_take (i := 9) (v := ?_) rfl (by kernel_rfl) (by kernel_rfl) (by kernel_rfl) (fun _ _ _ h => h) (Or.inl ⟨by rfl, ?_⟩) hHeld ?_
  rotate_left
  · intro w hSw
    go_simp
    with_reducible rfl
  try simp only [Act.put, List.getElem_toArray, List.getElem_cons_zero, List.getElem_cons_succ, List.setIfInBounds_toArray, List.set_cons_zero, List.set_cons_succ]
  refine wpAnyH_take (i := 10) (v := ?_) rfl (by kernel_rfl) (by kernel_rfl) (by kernel_rfl) (fun _ _ _ h => h) (Or.inl ⟨by rfl, ?_⟩) hHeld ?_
  rotate_left
  · intro w hSw
    go_simp
    with_reducible rfl
  try simp only [Act.put, List.getElem_toArray, List.getElem_cons_zero, List.getElem_cons_succ, List.setIfInBounds_toArray, List.set_cons_zero, List.set_cons_succ]
  refine wpAnyH_take (i := 11) (v := ?_) rfl (by kernel_rfl) (by kernel_rfl) (by kernel_rfl) (fun _ _ _ h => h) (Or.inl ⟨by rfl, ?_⟩) hHeld ?_
  rotate_left
  · intro w hSw
    go_simp
    with_reducible rfl
  try simp only [Act.put, List.getElem_toArray, List.getElem_cons_zero, List.getElem_cons_succ, List.setIfInBounds_toArray, List.set_cons_zero, List.set_cons_succ]
  refine wpAnyH_take (i := 12) (v := ?_) rfl (by kernel_rfl) (by kernel_rfl) (by kernel_rfl) (fun _ _ _ h => h) (Or.inl ⟨by rfl, ?_⟩) hHeld ?_
  rotate_left
  · intro w hSw
    go_simp
    with_reducible rfl
  try simp only [Act.put, List.getElem_toArray, List.getElem_cons_zero, List.getElem_cons_succ, List.setIfInBounds_toArray, List.set_cons_zero, List.set_cons_succ]
  refine wpAnyH_ready (rs := [13]) (by kernel_rfl) (by simp) ?_
  refine AllReadyH.cons rfl (fun K hK => ?_) AllReadyH.nil
  rw [if_pos (by rfl)]
  go_simp
  refine (fm_place wz X 3 4 5 6 b s u d ((cell_blk hHeld 3).trans H3.out) ((cell_blk hHeld 4).trans H4.out) ((cell_blk hHeld 5).trans H5.out) ((cell_blk hHeld 6).trans H6.out)).mono ?_
  rintro e wp ⟨v2, rfl, hN2, hF⟩
  refine hK.out _ _ ((hF.block X (HFz.out.lt hX) id).trans hHeld) (fun hHeld => ?_)
  have HNp := hid (HNz.out.no hF)
  have HN2 := hid hN2
  have HFp := hid (HFz.out.trans hF)
  have HLz := hid HNz.out.lt
  clear hK K hN2
  try simp only [Act.put, List.getElem_toArray, List.getElem_cons_zero, List.getElem_cons_succ, List.setIfInBounds_toArray, List.set_cons_zero, List.set_cons_succ]
  refine wpAnyH_ready (rs := [14]) (by kernel_rfl) (by simp) ?_
  refine AllReadyH.cons rfl (fun K hK => ?_) AllReadyH.nil
  rw [if_pos (by rfl)]
  refine wp_append_nums _ _ rfl _ _ (by rfl) (by rfl) _ _ (fun q => q = X) w.heap.size wz.heap.size HNp.out HN2.out (by simp [entP]) (by simp [entP]) HFz.out.size hF.size HLz.out (fun q e => by subst e; exact hX) (fun v' wq hNq hFq => ?_)
  refine hK.out _ _ ((hFq.block X (HFp.out.lt hX) (by omega)).trans hHeld) (fun hHeld => ?_)
  have HNq := hid hNq
  have HFq := hid (HFp.out.then hFq (fun i hi e => by have e : w.heap.size ≤ i := e; omega))
  clear hK K hNq hFq hF
  try simp only [Act.put, List.getElem_toArray, List.getElem_cons_zero, List.getElem_cons_succ, List.setIfInBounds_toArray, List.set_cons_zero, List.set_cons_succ]
  refine wpAnyH_take (i := 15) (v := ?_) rfl (by kernel_rfl) (by kernel_rfl) (by kernel_rfl) (fun _ _ _ h => h) (Or.inl ⟨by rfl, ?_⟩) hHeld ?_
  rotate_left
  · intro w hSw
    go_simp
    with_reducible rfl
  try simp only [Act.put, List.getElem_toArray, List.getElem_cons_zero, List.getElem_cons_succ, List.setIfInBounds_toArray, List.set_cons_zero, List.set_cons_succ]
  refine wpAnyH_done (by kernel_rfl) ?_ _
  go_wp2_with fail
  go_ret
  exact ⟨_, rfl, HNq.out, HFq.out⟩
end Go.Proofs.YtpifiamafgaadaaDoor
