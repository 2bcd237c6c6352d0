/- forms: the rows of numbers. -/
import Derived.Test.YtpifiamafgaadaaDoorFmR
namespace Go.Proofs.YtpifiamafgaadaaDoor
open Go.RowKit Go.Shelf
set_option maxRecDepth 1000000 in
set_option maxHeartbeats 4000000 in
theorem fm_supers1 (w : World) (X : Nat) (i b s j p g t : Int) (cs : Array Value) (T : TypeId) (hb : w.heap[X]? = some (.cells cs T (0, 0))) (h0 : cs[0]? = some (.int .i64 i)) (h1 : cs[1]? = some (.int .i64 b)) (h2 : cs[2]? = some (.int .i64 s)) (h3 : cs[3]? = some (.int .i64 j)) (h4 : cs[4]? = some (.int .i64 p)) (h5 : cs[5]? = some (.int .i64 g)) (h6 : cs[6]? = some (.int .i64 t)) :
    Calls Tryd.prog 30 #[.pointer (some ⟨X, 0, none⟩)] w fun e w' => ∃ v, e = .returned v ∧ Nums w' v (superN i b s j p g t) (fun q => q = X) w.heap.size ∧ Fr No w w' := by
  have hX := lt_of_block hb
  have HF0 := hid (Fr.refl No w).drew
  have H0 := hid h0
  have H1 := hid h1
  have H2 := hid h2
  have H3 := hid h3
  have H4 := hid h4
  have H5 := hid h5
  have H6 := hid h6
  clear h0 h1 h2 h3 h4 h5 h6
  go_enter Tryd.func30, Tryd.ntmps30
  go_wp2_with fail
  refine wp_region_held_drew (S := fun W => W.heap[X]? = some (.cells cs T (0, 0))) (by kernel_rfl) hb (fun hHeld => ?_)
  refine wpAnyH_take (i := 0) (v := ?_) rfl (by kernel_rfl) (by kernel_rfl) (by kernel_rfl) (fun _ _ _ h => h) (Or.inl ⟨by rfl, ?_⟩) hHeld ?_
  rotate_left
  · intro w hSw
    go_simp
    with_reducible rfl
  try simp only [Act.put, List.getElem_toArray, List.getElem_cons_zero, List.getElem_cons_succ, List.setIfInBounds_toArray, List.set_cons_zero, List.set_cons_succ]
  refine wpAnyH_take (i := 1) (v := ?_) rfl (by kernel_rfl) (by kernel_rfl) (by kernel_rfl) (fun _ _ _ h => h) (Or.inl ⟨by rfl, ?_⟩) hHeld ?_
  rotate_left
  · intro w hSw
    go_simp
    with_reducible rfl
  try simp only [Act.put, List.getElem_toArray, List.getElem_cons_zero, List.getElem_cons_succ, List.setIfInBounds_toArray, List.set_cons_zero, List.set_cons_succ]
  refine wpAnyH_take (i := 2) (v := ?_) rfl (by kernel_rfl) (by kernel_rfl) (by kernel_rfl) (fun _ _ _ h => h) (Or.inl ⟨by rfl, ?_⟩) hHeld ?_
  rotate_left
  · intro w hSw
    go_simp
    with_reducible rfl
  try simp only [Act.put, List.getElem_toArray, List.getElem_cons_zero, List.getElem_cons_succ, List.setIfInBounds_toArray, List.set_cons_zero, List.set_cons_succ]
  refine wpAnyH_take (i := 4) (v := ?_) rfl (by kernel_rfl) (by kernel_rfl) (by kernel_rfl) (fun _ _ _ h => h) (Or.inl ⟨by rfl, ?_⟩) hHeld ?_
  rotate_left
  · intro w hSw
    go_simp
    with_reducible rfl
  try simp only [Act.put, List.getElem_toArray, List.getElem_cons_zero, List.getElem_cons_succ, List.setIfInBounds_toArray, List.set_cons_zero, List.set_cons_succ]
  refine wpAnyH_take (i := 5) (v := ?_) rfl (by kernel_rfl) (by kernel_rfl) (by kernel_rfl) (fun _ _ _ h => h) (Or.inl ⟨by rfl, ?_⟩) hHeld ?_
  rotate_left
  · intro w hSw
    go_simp
    with_reducible rfl
  try simp only [Act.put, List.getElem_toArray, List.getElem_cons_zero, List.getElem_cons_succ, List.setIfInBounds_toArray, List.set_cons_zero, List.set_cons_succ]
  refine wpAnyH_take (i := 6) (v := ?_) rfl (by kernel_rfl) (by kernel_rfl) (by kernel_rfl) (fun _ _ _ h => h) (Or.inl ⟨by rfl, ?_⟩) hHeld ?_
  rotate_left
  · intro w hSw
    go_simp
    with_reducible rfl
  try simp only [Act.put, List.getElem_toArray, List.getElem_cons_zero, List.getElem_cons_succ, List.setIfInBounds_toArray, List.set_cons_zero, List.set_cons_succ]
  refine wpAnyH_take (i := 8) (v := ?_) rfl (by kernel_rfl) (by kernel_rfl) (by kernel_rfl) (fun _ _ _ h => h) (Or.inl ⟨by rfl, ?_⟩) hHeld ?_
  rotate_left
  · intro w hSw
    go_simp
    with_reducible rfl
  try simp only [Act.put, List.getElem_toArray, List.getElem_cons_zero, List.getElem_cons_succ, List.setIfInBounds_toArray, List.set_cons_zero, List.set_cons_succ]
  refine wpAnyH_take (i := 9) (v := ?_) rfl (by kernel_rfl) (by kernel_rfl) (by kernel_rfl) (fun _ _ _ h => h) (Or.inl ⟨by rfl, ?_⟩) hHeld ?_
  rotate_left
  · intro w hSw
    go_simp
    with_reducible rfl
  try simp only [Act.put, List.getElem_toArray, List.getElem_cons_zero, List.getElem_cons_succ, List.setIfInBounds_toArray, List.set_cons_zero, List.set_cons_succ]
  refine wpAnyH_take (i := 10) (v := ?_) rfl (by kernel_rfl) (by kernel_rfl) (by kernel_rfl) (fun _ _ _ h => h) (Or.inl ⟨by rfl, ?_⟩) hHeld ?_
  rotate_left
  · intro w hSw
    go_simp
    with_reducible rfl
  try simp only [Act.put, List.getElem_toArray, List.getElem_cons_zero, List.getElem_cons_succ, List.setIfInBounds_toArray, List.set_cons_zero, List.set_cons_succ]
  refine wpAnyH_take (i := 12) (v := ?_) rfl (by kernel_rfl) (by kernel_rfl) (by kernel_rfl) (fun _ _ _ h => h) (Or.inl ⟨by rfl, ?_⟩) hHeld ?_
  rotate_left
  · intro w hSw
    go_simp
    with_reducible rfl
  try simp only [Act.put, List.getElem_toArray, List.getElem_cons_zero, List.getElem_cons_succ, List.setIfInBounds_toArray, List.set_cons_zero, List.set_cons_succ]
  refine wpAnyH_take (i := 13) (v := ?_) rfl (by kernel_rfl) (by kernel_rfl) (by kernel_rfl) (fun _ _ _ h => h) (Or.inl ⟨by rfl, ?_⟩) hHeld ?_
  rotate_left
  · intro w hSw
    go_simp
    with_reducible rfl
  try simp only [Act.put, List.getElem_toArray, List.getElem_cons_zero, List.getElem_cons_succ, List.setIfInBounds_toArray, List.set_cons_zero, List.set_cons_succ]
  refine wpAnyH_take (i := 14) (v := ?_) rfl (by kernel_rfl) (by kernel_rfl) (by kernel_rfl) (fun _ _ _ h => h) (Or.inl ⟨by rfl, ?_⟩) hHeld ?_
  rotate_left
  · intro w hSw
    go_simp
    with_reducible rfl
  try simp only [Act.put, List.getElem_toArray, List.getElem_cons_zero, List.getElem_cons_succ, List.setIfInBounds_toArray, List.set_cons_zero, List.set_cons_succ]
  refine wpAnyH_take (i := 16) (v := ?_) rfl (by kernel_rfl) (by kernel_rfl) (by kernel_rfl) (fun _ _ _ h => h) (Or.inl ⟨by rfl, ?_⟩) hHeld ?_
  rotate_left
  · intro w hSw
    go_simp
    with_reducible rfl
  try simp only [Act.put, List.getElem_toArray, List.getElem_cons_zero, List.getElem_cons_succ, List.setIfInBounds_toArray, List.set_cons_zero, List.set_cons_succ]
  refine wpAnyH_take (i := 17) (v := ?_) rfl (by kernel_rfl) (by kernel_rfl) (by kernel_rfl) (fun _ _ _ h => h) (Or.inl ⟨by rfl, ?_⟩) hHeld ?_
  rotate_left
  · intro w hSw
    go_simp
    with_reducible rfl
  try simp only [Act.put, List.getElem_toArray, List.getElem_cons_zero, List.getElem_cons_succ, List.setIfInBounds_toArray, List.set_cons_zero, List.set_cons_succ]
  refine wpAnyH_take (i := 18) (v := ?_) rfl (by kernel_rfl) (by kernel_rfl) (by kernel_rfl) (fun _ _ _ h => h) (Or.inl ⟨by rfl, ?_⟩) hHeld ?_
  rotate_left
  · intro w hSw
    go_simp
    with_reducible rfl
  try simp only [Act.put, List.getElem_toArray, List.getElem_cons_zero, List.getElem_cons_succ, List.setIfInBounds_toArray, List.set_cons_zero, List.set_cons_succ]
  refine wpAnyH_take (i := 20) (v := ?_) rfl (by kernel_rfl) (by kernel_rfl) (by kernel_rfl) (fun _ _ _ h => h) (Or.inl ⟨by rfl, ?_⟩) hHeld ?_
  rotate_left
  · intro w hSw
    go_simp
    with_reducible rfl
  try simp only [Act.put, List.getElem_toArray, List.getElem_cons_zero, List.getElem_cons_succ, List.setIfInBounds_toArray, List.set_cons_zero, List.set_cons_succ]
  refine wpAnyH_take (i := 21) (v := ?_) rfl (by kernel_rfl) (by kernel_rfl) (by kernel_rfl) (fun _ _ _ h => h) (Or.inl ⟨by rfl, ?_⟩) hHeld ?_
  rotate_left
  · intro w hSw
    go_simp
    with_reducible rfl
  try simp only [Act.put, List.getElem_toArray, List.getElem_cons_zero, List.getElem_cons_succ, List.setIfInBounds_toArray, List.set_cons_zero, List.set_cons_succ]
  refine wpAnyH_take (i := 22) (v := ?_) rfl (by kernel_rfl) (by kernel_rfl) (by kernel_rfl) (fun _ _ _ h => h) (Or.inl ⟨by rfl, ?_⟩) hHeld ?_
  rotate_left
  · intro w hSw
    go_simp
    with_reducible rfl
  try simp only [Act.put, List.getElem_toArray, List.getElem_cons_zero, List.getElem_cons_succ, List.setIfInBounds_toArray, List.set_cons_zero, List.set_cons_succ]
  refine wpAnyH_take (i := 24) (v := ?_) rfl (by kernel_rfl) (by kernel_rfl) (by kernel_rfl) (fun _ _ _ h => h) (Or.inl ⟨by rfl, ?_⟩) hHeld ?_
  rotate_left
  · intro w hSw
    go_simp
    with_reducible rfl
  try simp only [Act.put, List.getElem_toArray, List.getElem_cons_zero, List.getElem_cons_succ, List.setIfInBounds_toArray, List.set_cons_zero, List.set_cons_succ]
  refine wpAnyH_take (i := 25) (v := ?_) rfl (by kernel_rfl) (by kernel_rfl) (by kernel_rfl) (fun _ _ _ h => h) (Or.inl ⟨by rfl, ?_⟩) hHeld ?_
  rotate_left
  · intro w hSw
    go_simp
    with_reducible rfl
  try simp only [Act.put, List.getElem_toArray, List.getElem_cons_zero, List.getElem_cons_succ, List.setIfInBounds_toArray, List.set_cons_zero, List.set_cons_succ]
  refine wpAnyH_take (i := 26) (v := ?_) rfl (by kernel_rfl) (by kernel_rfl) (by kernel_rfl) (fun _ _ _ h => h) (Or.inl ⟨by rfl, ?_⟩) hHeld ?_
  rotate_left
  · intro w hSw
    go_simp
    with_reducible rfl
  try simp only [Act.put, List.getElem_toArray, List.getElem_cons_zero, List.getElem_cons_succ, List.setIfInBounds_toArray, List.set_cons_zero, List.set_cons_succ]
  refine wpAnyH_ready (rs := [3]) (by kernel_rfl) (by simp) ?_
  refine AllReadyH.cons rfl (fun K hK => ?_) AllReadyH.nil
  rw [if_pos (by rfl)]
  go_simp
  refine (fm_wholeB _ X 0 6 0 1099511627776 i ((cell_blk hHeld 0).trans H0.out) w.heap.size HF0.out.size).mono ?_
  rintro e w1 ⟨ft1, fs1, rfl, hT, h1, hF⟩
  have HT1 := hid hT
  have HO1 := hid h1
  have HS1 := hid hF
  have HF1 := hid (HF0.out.trans hF)
  refine hK.out _ _ ((hF.block X (HF0.out.lt hX) id).trans hHeld) (fun hHeld => ?_)
  clear hK K hT hF h1
  try simp only [Act.put, List.getElem_toArray, List.getElem_cons_zero, List.getElem_cons_succ, List.setIfInBounds_toArray, List.set_cons_zero, List.set_cons_succ]
  refine wpAnyH_ready (rs := [7]) (by kernel_rfl) (by simp) ?_
  refine AllReadyH.cons rfl (fun K hK => ?_) AllReadyH.nil
  rw [if_pos (by rfl)]
  go_simp
  refine (fm_wholeB _ X 1 2 1 4096 b ((cell_blk hHeld 1).trans H1.out) w.heap.size HF1.out.size).mono ?_
  rintro e w2 ⟨ft2, fs2, rfl, hT, h1, hF⟩
  have HT2 := hid hT
  have HO2 := hid h1
  have HS2 := hid hF
  have HF2 := hid (HF1.out.trans hF)
  refine hK.out _ _ ((hF.block X (HF1.out.lt hX) id).trans hHeld) (fun hHeld => ?_)
  clear hK K hT hF h1
  try simp only [Act.put, List.getElem_toArray, List.getElem_cons_zero, List.getElem_cons_succ, List.setIfInBounds_toArray, List.set_cons_zero, List.set_cons_succ]
  refine wpAnyH_ready (rs := [11]) (by kernel_rfl) (by simp) ?_
  refine AllReadyH.cons rfl (fun K hK => ?_) AllReadyH.nil
  rw [if_pos (by rfl)]
  go_simp
  refine (fm_wholeB _ X 2 2 1 1024 s ((cell_blk hHeld 2).trans H2.out) w.heap.size HF2.out.size).mono ?_
  rintro e w3 ⟨ft3, fs3, rfl, hT, h1, hF⟩
  have HT3 := hid hT
  have HO3 := hid h1
  have HS3 := hid hF
  have HF3 := hid (HF2.out.trans hF)
  refine hK.out _ _ ((hF.block X (HF2.out.lt hX) id).trans hHeld) (fun hHeld => ?_)
  clear hK K hT hF h1
  try simp only [Act.put, List.getElem_toArray, List.getElem_cons_zero, List.getElem_cons_succ, List.setIfInBounds_toArray, List.set_cons_zero, List.set_cons_succ]
  refine wpAnyH_ready (rs := [15]) (by kernel_rfl) (by simp) ?_
  refine AllReadyH.cons rfl (fun K hK => ?_) AllReadyH.nil
  rw [if_pos (by rfl)]
  go_simp
  refine (fm_wholeB _ X 3 2 1 4096 j ((cell_blk hHeld 3).trans H3.out) w.heap.size HF3.out.size).mono ?_
  rintro e w4 ⟨ft4, fs4, rfl, hT, h1, hF⟩
  have HT4 := hid hT
  have HO4 := hid h1
  have HS4 := hid hF
  have HF4 := hid (HF3.out.trans hF)
  refine hK.out _ _ ((hF.block X (HF3.out.lt hX) id).trans hHeld) (fun hHeld => ?_)
  clear hK K hT hF h1
  try simp only [Act.put, List.getElem_toArray, List.getElem_cons_zero, List.getElem_cons_succ, List.setIfInBounds_toArray, List.set_cons_zero, List.set_cons_succ]
  refine wpAnyH_ready (rs := [19]) (by kernel_rfl) (by simp) ?_
  refine AllReadyH.cons rfl (fun K hK => ?_) AllReadyH.nil
  rw [if_pos (by rfl)]
  go_simp
  refine (fm_wholeB _ X 4 2 1 4096 p ((cell_blk hHeld 4).trans H4.out) w.heap.size HF4.out.size).mono ?_
  rintro e w5 ⟨ft5, fs5, rfl, hT, h1, hF⟩
  have HT5 := hid hT
  have HO5 := hid h1
  have HS5 := hid hF
  have HF5 := hid (HF4.out.trans hF)
  refine hK.out _ _ ((hF.block X (HF4.out.lt hX) id).trans hHeld) (fun hHeld => ?_)
  clear hK K hT hF h1
  try simp only [Act.put, List.getElem_toArray, List.getElem_cons_zero, List.getElem_cons_succ, List.setIfInBounds_toArray, List.set_cons_zero, List.set_cons_succ]
  refine wpAnyH_ready (rs := [23]) (by kernel_rfl) (by simp) ?_
  refine AllReadyH.cons rfl (fun K hK => ?_) AllReadyH.nil
  rw [if_pos (by rfl)]
  go_simp
  refine (fm_wholeB _ X 5 2 1 4096 g ((cell_blk hHeld 5).trans H5.out) w.heap.size HF5.out.size).mono ?_
  rintro e w6 ⟨ft6, fs6, rfl, hT, h1, hF⟩
  have HT6 := hid hT
  have HO6 := hid h1
  have HS6 := hid hF
  have HF6 := hid (HF5.out.trans hF)
  refine hK.out _ _ ((hF.block X (HF5.out.lt hX) id).trans hHeld) (fun hHeld => ?_)
  clear hK K hT hF h1
  try simp only [Act.put, List.getElem_toArray, List.getElem_cons_zero, List.getElem_cons_succ, List.setIfInBounds_toArray, List.set_cons_zero, List.set_cons_succ]
  refine wpAnyH_ready (rs := [27]) (by kernel_rfl) (by simp) ?_
  refine AllReadyH.cons rfl (fun K hK => ?_) AllReadyH.nil
  rw [if_pos (by rfl)]
  go_simp
  refine (fm_wholeB _ X 6 1 1 64 t ((cell_blk hHeld 6).trans H6.out) w.heap.size HF6.out.size).mono ?_
  rintro e w7 ⟨ft7, fs7, rfl, hT, h1, hF⟩
  have HT7 := hid hT
  have HO7 := hid h1
  have HS7 := hid hF
  have HF7 := hid (HF6.out.trans hF)
  refine hK.out _ _ ((hF.block X (HF6.out.lt hX) id).trans hHeld) (fun hHeld => ?_)
  clear hK K hT hF h1
  try simp only [Act.put, List.getElem_toArray, List.getElem_cons_zero, List.getElem_cons_succ, List.setIfInBounds_toArray, List.set_cons_zero, List.set_cons_succ]
  have HN := hid (nums_new [((⟨i, 6, 0, 1099511627776⟩, ft1, fs1) : NumT), ((⟨b, 2, 1, 4096⟩, ft2, fs2) : NumT), ((⟨s, 2, 1, 1024⟩, ft3, fs3) : NumT), ((⟨j, 2, 1, 4096⟩, ft4, fs4) : NumT), ((⟨p, 2, 1, 4096⟩, ft5, fs5) : NumT), ((⟨g, 2, 1, 4096⟩, ft6, fs6) : NumT), ((⟨t, 1, 1, 64⟩, ft7, fs7) : NumT)] (by simp) (by simp) w7 w.heap.size HF7.out.size (fun q => q = X) (List.forall_mem_cons.2 ⟨((((((HT1.out.no HS2.out).no HS3.out).no HS4.out).no HS5.out).no HS6.out).no HS7.out), (List.forall_mem_cons.2 ⟨(((((HT2.out.no HS3.out).no HS4.out).no HS5.out).no HS6.out).no HS7.out), (List.forall_mem_cons.2 ⟨((((HT3.out.no HS4.out).no HS5.out).no HS6.out).no HS7.out), (List.forall_mem_cons.2 ⟨(((HT4.out.no HS5.out).no HS6.out).no HS7.out), (List.forall_mem_cons.2 ⟨((HT5.out.no HS6.out).no HS7.out), (List.forall_mem_cons.2 ⟨(HT6.out.no HS7.out), (List.forall_mem_cons.2 ⟨HT7.out, (fun _ h => by cases h)⟩)⟩)⟩)⟩)⟩)⟩)⟩) (List.forall_mem_cons.2 ⟨HO1.out, (List.forall_mem_cons.2 ⟨HO2.out, (List.forall_mem_cons.2 ⟨HO3.out, (List.forall_mem_cons.2 ⟨HO4.out, (List.forall_mem_cons.2 ⟨HO5.out, (List.forall_mem_cons.2 ⟨HO6.out, (List.forall_mem_cons.2 ⟨HO7.out, (fun _ h => by cases h)⟩)⟩)⟩)⟩)⟩)⟩)⟩) _ rfl)
  have HF8 := hid (HF7.out.alloc (.cells (List.flatMap numL [((⟨i, 6, 0, 1099511627776⟩, ft1, fs1) : NumT), ((⟨b, 2, 1, 4096⟩, ft2, fs2) : NumT), ((⟨s, 2, 1, 1024⟩, ft3, fs3) : NumT), ((⟨j, 2, 1, 4096⟩, ft4, fs4) : NumT), ((⟨p, 2, 1, 4096⟩, ft5, fs5) : NumT), ((⟨g, 2, 1, 4096⟩, ft6, fs6) : NumT), ((⟨t, 1, 1, 64⟩, ft7, fs7) : NumT)]).toArray 87))
  have HBS := hid (num_slice [((⟨i, 6, 0, 1099511627776⟩, ft1, fs1) : NumT), ((⟨b, 2, 1, 4096⟩, ft2, fs2) : NumT), ((⟨s, 2, 1, 1024⟩, ft3, fs3) : NumT), ((⟨j, 2, 1, 4096⟩, ft4, fs4) : NumT), ((⟨p, 2, 1, 4096⟩, ft5, fs5) : NumT), ((⟨g, 2, 1, 4096⟩, ft6, fs6) : NumT), ((⟨t, 1, 1, 64⟩, ft7, fs7) : NumT)] (by simp) (by simp) w7 #[(0, numT ((⟨i, 6, 0, 1099511627776⟩, ft1, fs1) : NumT)), (1, numT ((⟨b, 2, 1, 4096⟩, ft2, fs2) : NumT)), (2, numT ((⟨s, 2, 1, 1024⟩, ft3, fs3) : NumT)), (3, numT ((⟨j, 2, 1, 4096⟩, ft4, fs4) : NumT)), (4, numT ((⟨p, 2, 1, 4096⟩, ft5, fs5) : NumT)), (5, numT ((⟨g, 2, 1, 4096⟩, ft6, fs6) : NumT)), (6, numT ((⟨t, 1, 1, 64⟩, ft7, fs7) : NumT))] rfl)
  refine wpAnyH_ready (rs := [28]) (by kernel_rfl) (by simp) ?_
  refine AllReadyH.cons rfl (fun K hK => ?_) AllReadyH.nil
  rw [if_pos (by rfl)]
  refine wp_buildS 82 7 _ rfl _ (by simp [Act.eval]) _ _ HBS.out ?_
  have hF := (Fr.refl No w7).alloc (.cells (List.flatMap numL [((⟨i, 6, 0, 1099511627776⟩, ft1, fs1) : NumT), ((⟨b, 2, 1, 4096⟩, ft2, fs2) : NumT), ((⟨s, 2, 1, 1024⟩, ft3, fs3) : NumT), ((⟨j, 2, 1, 4096⟩, ft4, fs4) : NumT), ((⟨p, 2, 1, 4096⟩, ft5, fs5) : NumT), ((⟨g, 2, 1, 4096⟩, ft6, fs6) : NumT), ((⟨t, 1, 1, 64⟩, ft7, fs7) : NumT)]).toArray 87)
  refine hK.out _ _ ((hF.block X (HF7.out.lt hX) id).trans hHeld) (fun hHeld => ?_)
  clear hK K hF HBS
  try simp only [Act.put, List.getElem_toArray, List.getElem_cons_zero, List.getElem_cons_succ, List.setIfInBounds_toArray, List.set_cons_zero, List.set_cons_succ]
  obtain ⟨w8, hw⟩ : ∃ W, w7.alloc (.cells (List.flatMap numL [((⟨i, 6, 0, 1099511627776⟩, ft1, fs1) : NumT), ((⟨b, 2, 1, 4096⟩, ft2, fs2) : NumT), ((⟨s, 2, 1, 1024⟩, ft3, fs3) : NumT), ((⟨j, 2, 1, 4096⟩, ft4, fs4) : NumT), ((⟨p, 2, 1, 4096⟩, ft5, fs5) : NumT), ((⟨g, 2, 1, 4096⟩, ft6, fs6) : NumT), ((⟨t, 1, 1, 64⟩, ft7, fs7) : NumT)]).toArray 87) = W := ⟨_, rfl⟩
  rw [hw] at HN HF8 hHeld ⊢
  clear hw
  refine wpAnyH_ready (rs := [29]) (by kernel_rfl) (by simp) ?_
  refine AllReadyH.cons rfl (fun K hK => ?_) AllReadyH.nil
  rw [if_pos (by rfl)]
  go_simp
  refine (fm_row _ _).mono ?_
  rintro e w9 ⟨rfl, rfl⟩
  refine hK.out _ _ hHeld (fun hHeld => ?_)
  clear hK K
  try simp only [Act.put, List.getElem_toArray, List.getElem_cons_zero, List.getElem_cons_succ, List.setIfInBounds_toArray, List.set_cons_zero, List.set_cons_succ]
  refine wpAnyH_take (i := 30) (v := ?_) rfl (by kernel_rfl) (by kernel_rfl) (by kernel_rfl) (fun _ _ _ h => h) (Or.inl ⟨by rfl, ?_⟩) hHeld ?_
  rotate_left
  · intro w hSw
    go_simp
    with_reducible rfl
  try simp only [Act.put, List.getElem_toArray, List.getElem_cons_zero, List.getElem_cons_succ, List.setIfInBounds_toArray, List.set_cons_zero, List.set_cons_succ]
  refine wpAnyH_done (by kernel_rfl) ?_ _
  go_wp2_with fail
  go_ret
  exact ⟨_, rfl, HN.out, HF8.out⟩
end Go.Proofs.YtpifiamafgaadaaDoor
