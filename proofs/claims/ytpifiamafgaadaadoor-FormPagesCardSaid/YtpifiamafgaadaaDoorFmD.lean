/- forms: the rows of numbers. -/
import Derived.Test.YtpifiamafgaadaaDoorFmR
namespace Go.Proofs.YtpifiamafgaadaaDoor
open Go.RowKit Go.Shelf
/-- the numbers of a purge -/
def spanN (i q f n : Int) : List NumI := [⟨i, 6, 0, 1099511627776⟩, ⟨q, 6, 0, 1099511627776⟩, ⟨f, 2, 0, 4095⟩, ⟨n, 2, 1, 4096⟩]
set_option maxRecDepth 1000000 in
set_option maxHeartbeats 4000000 in
theorem fm_purged (w : World) (X : Nat) (i q f n : Int) (cs : Array Value) (T : TypeId) (hb : w.heap[X]? = some (.cells cs T (0, 0))) (h0 : cs[0]? = some (.int .i64 i)) (h1 : cs[1]? = some (.int .i64 q)) (h2 : cs[2]? = some (.int .i64 f)) (h3 : cs[3]? = some (.int .i64 n)) :
    Calls Tryd.prog 57 #[.pointer (some ⟨X, 0, none⟩), .pointer (some ⟨X, 1, none⟩), .pointer (some ⟨X, 2, none⟩)] w fun e w' => ∃ v, e = .returned v ∧ Nums w' v (spanN i q f n) (fun q => q = X) w.heap.size ∧ Fr No w w' := by
  have hX := lt_of_block hb
  have HF0 := hid (Fr.refl No w).drew
  have H0 := hid h0
  have H1 := hid h1
  have H2 := hid h2
  have H3 := hid h3
  clear h0 h1 h2 h3
  go_enter Tryd.func57, Tryd.ntmps57
  go_wp2_with fail
  refine wp_region_held_drew (S := fun W => W.heap[X]? = some (.cells cs T (0, 0))) (by kernel_rfl) hb (fun hHeld => ?_)
  refine wpAnyH_take (i := 0) (v := ?_) rfl (by kernel_rfl) (by kernel_rfl) (by kernel_rfl) (fun _ _ _ h => h) (Or.inl ⟨by rfl, ?_⟩) hHeld ?_
  rotate_left
  · intro w hSw
    go_simp
    with_reducible rfl
  try simp only [Act.put, List.getElem_toArray, List.getElem_cons_zero, List.getElem_cons_succ, List.setIfInBounds_toArray, List.set_cons_zero, List.set_cons_succ]
  refine wpAnyH_take (i := 2) (v := ?_) rfl (by kernel_rfl) (by kernel_rfl) (by kernel_rfl) (fun _ _ _ h => h) (Or.inl ⟨by rfl, ?_⟩) hHeld ?_
  rotate_left
  · intro w hSw
    go_simp
    with_reducible rfl
  try simp only [Act.put, List.getElem_toArray, List.getElem_cons_zero, List.getElem_cons_succ, List.setIfInBounds_toArray, List.set_cons_zero, List.set_cons_succ]
  refine wpAnyH_take (i := 4) (v := ?_) rfl (by kernel_rfl) (by kernel_rfl) (by kernel_rfl) (fun _ _ _ h => h) (Or.inl ⟨by rfl, ?_⟩) hHeld ?_
  rotate_left
  · intro w hSw
    go_simp
    with_reducible rfl
  try simp only [Act.put, List.getElem_toArray, List.getElem_cons_zero, List.getElem_cons_succ, List.setIfInBounds_toArray, List.set_cons_zero, List.set_cons_succ]
  refine wpAnyH_take (i := 5) (v := ?_) rfl (by kernel_rfl) (by kernel_rfl) (by kernel_rfl) (fun _ _ _ h => h) (Or.inl ⟨by rfl, ?_⟩) hHeld ?_
  rotate_left
  · intro w hSw
    go_simp
    with_reducible rfl
  try simp only [Act.put, List.getElem_toArray, List.getElem_cons_zero, List.getElem_cons_succ, List.setIfInBounds_toArray, List.set_cons_zero, List.set_cons_succ]
  refine wpAnyH_take (i := 6) (v := ?_) rfl (by kernel_rfl) (by kernel_rfl) (by kernel_rfl) (fun _ _ _ h => h) (Or.inl ⟨by rfl, ?_⟩) hHeld ?_
  rotate_left
  · intro w hSw
    go_simp
    with_reducible rfl
  try simp only [Act.put, List.getElem_toArray, List.getElem_cons_zero, List.getElem_cons_succ, List.setIfInBounds_toArray, List.set_cons_zero, List.set_cons_succ]
  refine wpAnyH_take (i := 8) (v := ?_) rfl (by kernel_rfl) (by kernel_rfl) (by kernel_rfl) (fun _ _ _ h => h) (Or.inl ⟨by rfl, ?_⟩) hHeld ?_
  rotate_left
  · intro w hSw
    go_simp
    with_reducible rfl
  try simp only [Act.put, List.getElem_toArray, List.getElem_cons_zero, List.getElem_cons_succ, List.setIfInBounds_toArray, List.set_cons_zero, List.set_cons_succ]
  refine wpAnyH_take (i := 9) (v := ?_) rfl (by kernel_rfl) (by kernel_rfl) (by kernel_rfl) (fun _ _ _ h => h) (Or.inl ⟨by rfl, ?_⟩) hHeld ?_
  rotate_left
  · intro w hSw
    go_simp
    with_reducible rfl
  try simp only [Act.put, List.getElem_toArray, List.getElem_cons_zero, List.getElem_cons_succ, List.setIfInBounds_toArray, List.set_cons_zero, List.set_cons_succ]
  refine wpAnyH_take (i := 10) (v := ?_) rfl (by kernel_rfl) (by kernel_rfl) (by kernel_rfl) (fun _ _ _ h => h) (Or.inl ⟨by rfl, ?_⟩) hHeld ?_
  rotate_left
  · intro w hSw
    go_simp
    with_reducible rfl
  try simp only [Act.put, List.getElem_toArray, List.getElem_cons_zero, List.getElem_cons_succ, List.setIfInBounds_toArray, List.set_cons_zero, List.set_cons_succ]
  refine wpAnyH_ready (rs := [1]) (by kernel_rfl) (by simp) ?_
  refine AllReadyH.cons rfl (fun K hK => ?_) AllReadyH.nil
  rw [if_pos (by rfl)]
  go_simp
  refine (fm_wholeB _ X 0 6 0 1099511627776 i ((cell_blk hHeld 0).trans H0.out) w.heap.size HF0.out.size).mono ?_
  rintro e w1 ⟨ft1, fs1, rfl, hT, h1, hF⟩
  have HT1 := hid hT
  have HO1 := hid h1
  have HS1 := hid hF
  have HF1 := hid (HF0.out.trans hF)
  refine hK.out _ _ ((hF.block X (HF0.out.lt hX) id).trans hHeld) (fun hHeld => ?_)
  clear hK K hT hF h1
  try simp only [Act.put, List.getElem_toArray, List.getElem_cons_zero, List.getElem_cons_succ, List.setIfInBounds_toArray, List.set_cons_zero, List.set_cons_succ]
  refine wpAnyH_ready (rs := [3]) (by kernel_rfl) (by simp) ?_
  refine AllReadyH.cons rfl (fun K hK => ?_) AllReadyH.nil
  rw [if_pos (by rfl)]
  go_simp
  refine (fm_wholeB _ X 1 6 0 1099511627776 q ((cell_blk hHeld 1).trans H1.out) w.heap.size HF1.out.size).mono ?_
  rintro e w2 ⟨ft2, fs2, rfl, hT, h1, hF⟩
  have HT2 := hid hT
  have HO2 := hid h1
  have HS2 := hid hF
  have HF2 := hid (HF1.out.trans hF)
  refine hK.out _ _ ((hF.block X (HF1.out.lt hX) id).trans hHeld) (fun hHeld => ?_)
  clear hK K hT hF h1
  try simp only [Act.put, List.getElem_toArray, List.getElem_cons_zero, List.getElem_cons_succ, List.setIfInBounds_toArray, List.set_cons_zero, List.set_cons_succ]
  refine wpAnyH_ready (rs := [7]) (by kernel_rfl) (by simp) ?_
  refine AllReadyH.cons rfl (fun K hK => ?_) AllReadyH.nil
  rw [if_pos (by rfl)]
  go_simp
  refine (fm_wholeB _ X 2 2 0 4095 f ((cell_blk hHeld 2).trans H2.out) w.heap.size HF2.out.size).mono ?_
  rintro e w3 ⟨ft3, fs3, rfl, hT, h1, hF⟩
  have HT3 := hid hT
  have HO3 := hid h1
  have HS3 := hid hF
  have HF3 := hid (HF2.out.trans hF)
  refine hK.out _ _ ((hF.block X (HF2.out.lt hX) id).trans hHeld) (fun hHeld => ?_)
  clear hK K hT hF h1
  try simp only [Act.put, List.getElem_toArray, List.getElem_cons_zero, List.getElem_cons_succ, List.setIfInBounds_toArray, List.set_cons_zero, List.set_cons_succ]
  refine wpAnyH_ready (rs := [11]) (by kernel_rfl) (by simp) ?_
  refine AllReadyH.cons rfl (fun K hK => ?_) AllReadyH.nil
  rw [if_pos (by rfl)]
  go_simp
  refine (fm_wholeB _ X 3 2 1 4096 n ((cell_blk hHeld 3).trans H3.out) w.heap.size HF3.out.size).mono ?_
  rintro e w4 ⟨ft4, fs4, rfl, hT, h1, hF⟩
  have HT4 := hid hT
  have HO4 := hid h1
  have HS4 := hid hF
  have HF4 := hid (HF3.out.trans hF)
  refine hK.out _ _ ((hF.block X (HF3.out.lt hX) id).trans hHeld) (fun hHeld => ?_)
  clear hK K hT hF h1
  try simp only [Act.put, List.getElem_toArray, List.getElem_cons_zero, List.getElem_cons_succ, List.setIfInBounds_toArray, List.set_cons_zero, List.set_cons_succ]
  have HN := hid (nums_new [((⟨i, 6, 0, 1099511627776⟩, ft1, fs1) : NumT), ((⟨q, 6, 0, 1099511627776⟩, ft2, fs2) : NumT), ((⟨f, 2, 0, 4095⟩, ft3, fs3) : NumT), ((⟨n, 2, 1, 4096⟩, ft4, fs4) : NumT)] (by simp) (by simp) w4 w.heap.size HF4.out.size (fun q => q = X) (List.forall_mem_cons.2 ⟨(((HT1.out.no HS2.out).no HS3.out).no HS4.out), (List.forall_mem_cons.2 ⟨((HT2.out.no HS3.out).no HS4.out), (List.forall_mem_cons.2 ⟨(HT3.out.no HS4.out), (List.forall_mem_cons.2 ⟨HT4.out, (fun _ h => by cases h)⟩)⟩)⟩)⟩) (List.forall_mem_cons.2 ⟨HO1.out, (List.forall_mem_cons.2 ⟨HO2.out, (List.forall_mem_cons.2 ⟨HO3.out, (List.forall_mem_cons.2 ⟨HO4.out, (fun _ h => by cases h)⟩)⟩)⟩)⟩) _ rfl)
  have HF5 := hid (HF4.out.alloc (.cells (List.flatMap numL [((⟨i, 6, 0, 1099511627776⟩, ft1, fs1) : NumT), ((⟨q, 6, 0, 1099511627776⟩, ft2, fs2) : NumT), ((⟨f, 2, 0, 4095⟩, ft3, fs3) : NumT), ((⟨n, 2, 1, 4096⟩, ft4, fs4) : NumT)]).toArray 87))
  have HBS := hid (num_slice [((⟨i, 6, 0, 1099511627776⟩, ft1, fs1) : NumT), ((⟨q, 6, 0, 1099511627776⟩, ft2, fs2) : NumT), ((⟨f, 2, 0, 4095⟩, ft3, fs3) : NumT), ((⟨n, 2, 1, 4096⟩, ft4, fs4) : NumT)] (by simp) (by simp) w4 #[(0, numT ((⟨i, 6, 0, 1099511627776⟩, ft1, fs1) : NumT)), (1, numT ((⟨q, 6, 0, 1099511627776⟩, ft2, fs2) : NumT)), (2, numT ((⟨f, 2, 0, 4095⟩, ft3, fs3) : NumT)), (3, numT ((⟨n, 2, 1, 4096⟩, ft4, fs4) : NumT))] rfl)
  refine wpAnyH_ready (rs := [12]) (by kernel_rfl) (by simp) ?_
  refine AllReadyH.cons rfl (fun K hK => ?_) AllReadyH.nil
  rw [if_pos (by rfl)]
  refine wp_buildS 82 4 _ rfl _ (by simp [Act.eval]) _ _ HBS.out ?_
  have hF := (Fr.refl No w4).alloc (.cells (List.flatMap numL [((⟨i, 6, 0, 1099511627776⟩, ft1, fs1) : NumT), ((⟨q, 6, 0, 1099511627776⟩, ft2, fs2) : NumT), ((⟨f, 2, 0, 4095⟩, ft3, fs3) : NumT), ((⟨n, 2, 1, 4096⟩, ft4, fs4) : NumT)]).toArray 87)
  refine hK.out _ _ ((hF.block X (HF4.out.lt hX) id).trans hHeld) (fun hHeld => ?_)
  clear hK K hF HBS
  try simp only [Act.put, List.getElem_toArray, List.getElem_cons_zero, List.getElem_cons_succ, List.setIfInBounds_toArray, List.set_cons_zero, List.set_cons_succ]
  obtain ⟨w5, hw⟩ : ∃ W, w4.alloc (.cells (List.flatMap numL [((⟨i, 6, 0, 1099511627776⟩, ft1, fs1) : NumT), ((⟨q, 6, 0, 1099511627776⟩, ft2, fs2) : NumT), ((⟨f, 2, 0, 4095⟩, ft3, fs3) : NumT), ((⟨n, 2, 1, 4096⟩, ft4, fs4) : NumT)]).toArray 87) = W := ⟨_, rfl⟩
  rw [hw] at HN HF5 hHeld ⊢
  clear hw
  refine wpAnyH_ready (rs := [13]) (by kernel_rfl) (by simp) ?_
  refine AllReadyH.cons rfl (fun K hK => ?_) AllReadyH.nil
  rw [if_pos (by rfl)]
  go_simp
  refine (fm_row _ _).mono ?_
  rintro e w6 ⟨rfl, rfl⟩
  refine hK.out _ _ hHeld (fun hHeld => ?_)
  clear hK K
  try simp only [Act.put, List.getElem_toArray, List.getElem_cons_zero, List.getElem_cons_succ, List.setIfInBounds_toArray, List.set_cons_zero, List.set_cons_succ]
  refine wpAnyH_take (i := 14) (v := ?_) rfl (by kernel_rfl) (by kernel_rfl) (by kernel_rfl) (fun _ _ _ h => h) (Or.inl ⟨by rfl, ?_⟩) hHeld ?_
  rotate_left
  · intro w hSw
    go_simp
    with_reducible rfl
  try simp only [Act.put, List.getElem_toArray, List.getElem_cons_zero, List.getElem_cons_succ, List.setIfInBounds_toArray, List.set_cons_zero, List.set_cons_succ]
  refine wpAnyH_done (by kernel_rfl) ?_ _
  go_wp2_with fail
  go_ret
  exact ⟨_, rfl, HN.out, HF5.out⟩
end Go.Proofs.YtpifiamafgaadaaDoor
