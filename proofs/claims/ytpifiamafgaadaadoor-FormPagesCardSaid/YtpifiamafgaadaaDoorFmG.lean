/- forms: the rows of numbers. -/
import Derived.Test.YtpifiamafgaadaaDoorFmC
namespace Go.Proofs.YtpifiamafgaadaaDoor
open Go.RowKit Go.Shelf
/-- a page's numbers, its first k entries' -/
def pageL (q n o m : Int) (E : List EntI) (k : Nat) : List NumI := [⟨q, 6, 0, 1099511627776⟩, ⟨n, 2, 0, 255⟩, ⟨o, 2, 1, 256⟩, ⟨m, 1, 0, 4⟩] ++ (E.take k).flatMap entP
theorem pageL_succ (q n o m : Int) (E : List EntI) (k : Nat) (hk : k < E.length) : pageL q n o m E k ++ entP E[k] = pageL q n o m E (k + 1) := by
  unfold pageL
  rw [List.append_assoc, List.take_succ_eq_append_getElem hk, List.flatMap_append]
  simp
theorem pageL_len (q n o m : Int) (E : List EntI) (k : Nat) (hk : k ≤ E.length) : (pageL q n o m E k).length = 4 + 4 * k := by
  unfold pageL
  have : ∀ l : List EntI, (l.flatMap entP).length = 4 * l.length := fun l => by
    induction l with
    | nil => rfl
    | cons x l ih => rw [List.flatMap_cons, List.length_append, ih]; simp [entP]; omega
  simp only [List.length_append, this, List.length_take]
  simp; omega
set_option maxRecDepth 1000000 in
set_option maxHeartbeats 4000000 in
theorem fm_pages1 (w : World) (X : Nat) (q n o m : Int) (E : List EntI) (hE4 : E.length = 4) (cs : Array Value) (T : TypeId) (hb : w.heap[X]? = some (.cells cs T (0, 0))) (h0 : cs[0]? = some (.int .i64 q)) (h1 : cs[1]? = some (.int .i64 n)) (h2 : cs[2]? = some (.int .i64 o)) (h3 : cs[3]? = some (.int .i64 m)) (hE : ∀ (k : Nat) (hk : k < E.length), cs[4 + k * 4]? = some (.int .i64 E[k].b) ∧ cs[4 + k * 4 + 1]? = some (.int .i64 E[k].s) ∧ cs[4 + k * 4 + 2]? = some (.bool E[k].d) ∧ cs[4 + k * 4 + 3]? = some (.int .i64 E[k].u)) :
    Calls Tryd.prog 46 #[.pointer (some ⟨X, 0, none⟩)] w fun e w' => ∃ v, e = .returned v ∧ Nums w' v (pageL q n o m E 4) (fun q => q = X) w.heap.size ∧ Fr No w w' := by
  have hX := lt_of_block hb
  have HF0 := hid (Fr.refl No w).drew
  have H0 := hid h0
  have H1 := hid h1
  have H2 := hid h2
  have H3 := hid h3
  have HE := hid hE
  have HE4 := hid hE4
  clear h0 h1 h2 h3 hE hE4
  go_enter Tryd.func46, Tryd.ntmps46
  go_wp2_with fail
  refine wp_region_held_drew (S := fun W => W.heap[X]? = some (.cells cs T (0, 0))) (by kernel_rfl) hb (fun hHeld => ?_)
  refine wpAnyH_take (i := 0) (v := ?_) rfl (by kernel_rfl) (by kernel_rfl) (by kernel_rfl) (fun _ _ _ h => h) (Or.inl ⟨by rfl, ?_⟩) hHeld ?_
  rotate_left
  · intro w hSw
    go_simp
    with_reducible rfl
  try simp only [Act.put, List.getElem_toArray, List.getElem_cons_zero, List.getElem_cons_succ, List.setIfInBounds_toArray, List.set_cons_zero, List.set_cons_succ]
  refine wpAnyH_take (i := 1) (v := ?_) rfl (by kernel_rfl) (by kernel_rfl) (by kernel_rfl) (fun _ _ _ h => h) (Or.inl ⟨by rfl, ?_⟩) hHeld ?_
  rotate_left
  · intro w hSw
    go_simp
    with_reducible rfl
  try simp only [Act.put, List.getElem_toArray, List.getElem_cons_zero, List.getElem_cons_succ, List.setIfInBounds_toArray, List.set_cons_zero, List.set_cons_succ]
  refine wpAnyH_take (i := 2) (v := ?_) rfl (by kernel_rfl) (by kernel_rfl) (by kernel_rfl) (fun _ _ _ h => h) (Or.inl ⟨by rfl, ?_⟩) hHeld ?_
  rotate_left
  · intro w hSw
    go_simp
    with_reducible rfl
  try simp only [Act.put, List.getElem_toArray, List.getElem_cons_zero, List.getElem_cons_succ, List.setIfInBounds_toArray, List.set_cons_zero, List.set_cons_succ]
  refine wpAnyH_take (i := 4) (v := ?_) rfl (by kernel_rfl) (by kernel_rfl) (by kernel_rfl) (fun _ _ _ h => h) (Or.inl ⟨by rfl, ?_⟩) hHeld ?_
  rotate_left
  · intro w hSw
    go_simp
    with_reducible rfl
  try simp only [Act.put, List.getElem_toArray, List.getElem_cons_zero, List.getElem_cons_succ, List.setIfInBounds_toArray, List.set_cons_zero, List.set_cons_succ]
  refine wpAnyH_take (i := 5) (v := ?_) rfl (by kernel_rfl) (by kernel_rfl) (by kernel_rfl) (fun _ _ _ h => h) (Or.inl ⟨by rfl, ?_⟩) hHeld ?_
  rotate_left
  · intro w hSw
    go_simp
    with_reducible rfl
  try simp only [Act.put, List.getElem_toArray, List.getElem_cons_zero, List.getElem_cons_succ, List.setIfInBounds_toArray, List.set_cons_zero, List.set_cons_succ]
  refine wpAnyH_take (i := 6) (v := ?_) rfl (by kernel_rfl) (by kernel_rfl) (by kernel_rfl) (fun _ _ _ h => h) (Or.inl ⟨by rfl, ?_⟩) hHeld ?_
  rotate_left
  · intro w hSw
    go_simp
    with_reducible rfl
  try simp only [Act.put, List.getElem_toArray, List.getElem_cons_zero, List.getElem_cons_succ, List.setIfInBounds_toArray, List.set_cons_zero, List.set_cons_succ]
  refine wpAnyH_take (i := 8) (v := ?_) rfl (by kernel_rfl) (by kernel_rfl) (by kernel_rfl) (fun _ _ _ h => h) (Or.inl ⟨by rfl, ?_⟩) hHeld ?_
  rotate_left
  · intro w hSw
    go_simp
    with_reducible rfl
  try simp only [Act.put, List.getElem_toArray, List.getElem_cons_zero, List.getElem_cons_succ, List.setIfInBounds_toArray, List.set_cons_zero, List.set_cons_succ]
  refine wpAnyH_take (i := 9) (v := ?_) rfl (by kernel_rfl) (by kernel_rfl) (by kernel_rfl) (fun _ _ _ h => h) (Or.inl ⟨by rfl, ?_⟩) hHeld ?_
  rotate_left
  · intro w hSw
    go_simp
    with_reducible rfl
  try simp only [Act.put, List.getElem_toArray, List.getElem_cons_zero, List.getElem_cons_succ, List.setIfInBounds_toArray, List.set_cons_zero, List.set_cons_succ]
  refine wpAnyH_take (i := 10) (v := ?_) rfl (by kernel_rfl) (by kernel_rfl) (by kernel_rfl) (fun _ _ _ h => h) (Or.inl ⟨by rfl, ?_⟩) hHeld ?_
  rotate_left
  · intro w hSw
    go_simp
    with_reducible rfl
  try simp only [Act.put, List.getElem_toArray, List.getElem_cons_zero, List.getElem_cons_succ, List.setIfInBounds_toArray, List.set_cons_zero, List.set_cons_succ]
  refine wpAnyH_take (i := 12) (v := ?_) rfl (by kernel_rfl) (by kernel_rfl) (by kernel_rfl) (fun _ _ _ h => h) (Or.inl ⟨by rfl, ?_⟩) hHeld ?_
  rotate_left
  · intro w hSw
    go_simp
    with_reducible rfl
  try simp only [Act.put, List.getElem_toArray, List.getElem_cons_zero, List.getElem_cons_succ, List.setIfInBounds_toArray, List.set_cons_zero, List.set_cons_succ]
  refine wpAnyH_take (i := 13) (v := ?_) rfl (by kernel_rfl) (by kernel_rfl) (by kernel_rfl) (fun _ _ _ h => h) (Or.inl ⟨by rfl, ?_⟩) hHeld ?_
  rotate_left
  · intro w hSw
    go_simp
    with_reducible rfl
  try simp only [Act.put, List.getElem_toArray, List.getElem_cons_zero, List.getElem_cons_succ, List.setIfInBounds_toArray, List.set_cons_zero, List.set_cons_succ]
  refine wpAnyH_take (i := 14) (v := ?_) rfl (by kernel_rfl) (by kernel_rfl) (by kernel_rfl) (fun _ _ _ h => h) (Or.inl ⟨by rfl, ?_⟩) hHeld ?_
  rotate_left
  · intro w hSw
    go_simp
    with_reducible rfl
  try simp only [Act.put, List.getElem_toArray, List.getElem_cons_zero, List.getElem_cons_succ, List.setIfInBounds_toArray, List.set_cons_zero, List.set_cons_succ]
  refine wpAnyH_ready (rs := [3]) (by kernel_rfl) (by simp) ?_
  refine AllReadyH.cons rfl (fun K hK => ?_) AllReadyH.nil
  rw [if_pos (by rfl)]
  go_simp
  refine (fm_wholeB _ X 0 6 0 1099511627776 q ((cell_blk hHeld 0).trans H0.out) w.heap.size HF0.out.size).mono ?_
  rintro e w1 ⟨ft1, fs1, rfl, hT, h1, hF⟩
  have HT1 := hid hT
  have HO1 := hid h1
  have HS1 := hid hF
  have HF1 := hid (HF0.out.trans hF)
  refine hK.out _ _ ((hF.block X (HF0.out.lt hX) id).trans hHeld) (fun hHeld => ?_)
  clear hK K hT hF h1
  try simp only [Act.put, List.getElem_toArray, List.getElem_cons_zero, List.getElem_cons_succ, List.setIfInBounds_toArray, List.set_cons_zero, List.set_cons_succ]
  refine wpAnyH_ready (rs := [7]) (by kernel_rfl) (by simp) ?_
  refine AllReadyH.cons rfl (fun K hK => ?_) AllReadyH.nil
  rw [if_pos (by rfl)]
  go_simp
  refine (fm_wholeB _ X 1 2 0 255 n ((cell_blk hHeld 1).trans H1.out) w.heap.size HF1.out.size).mono ?_
  rintro e w2 ⟨ft2, fs2, rfl, hT, h1, hF⟩
  have HT2 := hid hT
  have HO2 := hid h1
  have HS2 := hid hF
  have HF2 := hid (HF1.out.trans hF)
  refine hK.out _ _ ((hF.block X (HF1.out.lt hX) id).trans hHeld) (fun hHeld => ?_)
  clear hK K hT hF h1
  try simp only [Act.put, List.getElem_toArray, List.getElem_cons_zero, List.getElem_cons_succ, List.setIfInBounds_toArray, List.set_cons_zero, List.set_cons_succ]
  refine wpAnyH_ready (rs := [11]) (by kernel_rfl) (by simp) ?_
  refine AllReadyH.cons rfl (fun K hK => ?_) AllReadyH.nil
  rw [if_pos (by rfl)]
  go_simp
  refine (fm_wholeB _ X 2 2 1 256 o ((cell_blk hHeld 2).trans H2.out) w.heap.size HF2.out.size).mono ?_
  rintro e w3 ⟨ft3, fs3, rfl, hT, h1, hF⟩
  have HT3 := hid hT
  have HO3 := hid h1
  have HS3 := hid hF
  have HF3 := hid (HF2.out.trans hF)
  refine hK.out _ _ ((hF.block X (HF2.out.lt hX) id).trans hHeld) (fun hHeld => ?_)
  clear hK K hT hF h1
  try simp only [Act.put, List.getElem_toArray, List.getElem_cons_zero, List.getElem_cons_succ, List.setIfInBounds_toArray, List.set_cons_zero, List.set_cons_succ]
  refine wpAnyH_ready (rs := [15]) (by kernel_rfl) (by simp) ?_
  refine AllReadyH.cons rfl (fun K hK => ?_) AllReadyH.nil
  rw [if_pos (by rfl)]
  go_simp
  refine (fm_wholeB _ X 3 1 0 4 m ((cell_blk hHeld 3).trans H3.out) w.heap.size HF3.out.size).mono ?_
  rintro e w4 ⟨ft4, fs4, rfl, hT, h1, hF⟩
  have HT4 := hid hT
  have HO4 := hid h1
  have HS4 := hid hF
  have HF4 := hid (HF3.out.trans hF)
  refine hK.out _ _ ((hF.block X (HF3.out.lt hX) id).trans hHeld) (fun hHeld => ?_)
  clear hK K hT hF h1
  try simp only [Act.put, List.getElem_toArray, List.getElem_cons_zero, List.getElem_cons_succ, List.setIfInBounds_toArray, List.set_cons_zero, List.set_cons_succ]
  have HN := hid (nums_new [((⟨q, 6, 0, 1099511627776⟩, ft1, fs1) : NumT), ((⟨n, 2, 0, 255⟩, ft2, fs2) : NumT), ((⟨o, 2, 1, 256⟩, ft3, fs3) : NumT), ((⟨m, 1, 0, 4⟩, ft4, fs4) : NumT)] (by simp) (by simp) w4 w.heap.size HF4.out.size (fun q => q = X) (List.forall_mem_cons.2 ⟨(((HT1.out.no HS2.out).no HS3.out).no HS4.out), (List.forall_mem_cons.2 ⟨((HT2.out.no HS3.out).no HS4.out), (List.forall_mem_cons.2 ⟨(HT3.out.no HS4.out), (List.forall_mem_cons.2 ⟨HT4.out, (fun _ h => by cases h)⟩)⟩)⟩)⟩) (List.forall_mem_cons.2 ⟨HO1.out, (List.forall_mem_cons.2 ⟨HO2.out, (List.forall_mem_cons.2 ⟨HO3.out, (List.forall_mem_cons.2 ⟨HO4.out, (fun _ h => by cases h)⟩)⟩)⟩)⟩) _ rfl)
  have HF5 := hid (HF4.out.alloc (.cells (List.flatMap numL [((⟨q, 6, 0, 1099511627776⟩, ft1, fs1) : NumT), ((⟨n, 2, 0, 255⟩, ft2, fs2) : NumT), ((⟨o, 2, 1, 256⟩, ft3, fs3) : NumT), ((⟨m, 1, 0, 4⟩, ft4, fs4) : NumT)]).toArray 87))
  have HBS := hid (num_slice [((⟨q, 6, 0, 1099511627776⟩, ft1, fs1) : NumT), ((⟨n, 2, 0, 255⟩, ft2, fs2) : NumT), ((⟨o, 2, 1, 256⟩, ft3, fs3) : NumT), ((⟨m, 1, 0, 4⟩, ft4, fs4) : NumT)] (by simp) (by simp) w4 #[(0, numT ((⟨q, 6, 0, 1099511627776⟩, ft1, fs1) : NumT)), (1, numT ((⟨n, 2, 0, 255⟩, ft2, fs2) : NumT)), (2, numT ((⟨o, 2, 1, 256⟩, ft3, fs3) : NumT)), (3, numT ((⟨m, 1, 0, 4⟩, ft4, fs4) : NumT))] rfl)
  refine wpAnyH_ready (rs := [16]) (by kernel_rfl) (by simp) ?_
  refine AllReadyH.cons rfl (fun K hK => ?_) AllReadyH.nil
  rw [if_pos (by rfl)]
  refine wp_buildS 82 4 _ rfl _ (by simp [Act.eval]) _ _ HBS.out ?_
  have hF := (Fr.refl No w4).alloc (.cells (List.flatMap numL [((⟨q, 6, 0, 1099511627776⟩, ft1, fs1) : NumT), ((⟨n, 2, 0, 255⟩, ft2, fs2) : NumT), ((⟨o, 2, 1, 256⟩, ft3, fs3) : NumT), ((⟨m, 1, 0, 4⟩, ft4, fs4) : NumT)]).toArray 87)
  refine hK.out _ _ ((hF.block X (HF4.out.lt hX) id).trans hHeld) (fun hHeld => ?_)
  clear hK K hF HBS
  try simp only [Act.put, List.getElem_toArray, List.getElem_cons_zero, List.getElem_cons_succ, List.setIfInBounds_toArray, List.set_cons_zero, List.set_cons_succ]
  obtain ⟨w5, hw⟩ : ∃ W, w4.alloc (.cells (List.flatMap numL [((⟨q, 6, 0, 1099511627776⟩, ft1, fs1) : NumT), ((⟨n, 2, 0, 255⟩, ft2, fs2) : NumT), ((⟨o, 2, 1, 256⟩, ft3, fs3) : NumT), ((⟨m, 1, 0, 4⟩, ft4, fs4) : NumT)]).toArray 87) = W := ⟨_, rfl⟩
  rw [hw] at HN HF5 hHeld ⊢
  clear hw
  refine wpAnyH_ready (rs := [17]) (by kernel_rfl) (by simp) ?_
  refine AllReadyH.cons rfl (fun K hK => ?_) AllReadyH.nil
  rw [if_pos (by rfl)]
  go_simp
  refine (fm_row _ _).mono ?_
  rintro e w6 ⟨rfl, rfl⟩
  refine hK.out _ _ hHeld (fun hHeld => ?_)
  clear hK K
  try simp only [Act.put, List.getElem_toArray, List.getElem_cons_zero, List.getElem_cons_succ, List.setIfInBounds_toArray, List.set_cons_zero, List.set_cons_succ]
  refine wpAnyH_take (i := 18) (v := ?_) rfl (by kernel_rfl) (by kernel_rfl) (by kernel_rfl) (fun _ _ _ h => h) (Or.inl ⟨by rfl, ?_⟩) hHeld ?_
  rotate_left
  · intro w hSw
    go_simp
    with_reducible rfl
  try simp only [Act.put, List.getElem_toArray, List.getElem_cons_zero, List.getElem_cons_succ, List.setIfInBounds_toArray, List.set_cons_zero, List.set_cons_succ]
  refine wpAnyH_done (by kernel_rfl) ?_ _
  have HN : Hid (Nums w6 _ (pageL q n o m E 0) (fun q => q = X) w.heap.size) := hid HN.out
  have HB5 := hid hHeld
  clear hHeld
  go_wp2_with fail
  go_loopg [3, 24] 4 (fun g v i wr => ∃ k : Nat, k + g = 4 ∧ i = .int .i64 k ∧ Hid (Nums wr v (pageL q n o m E k) (fun q => q = X) w.heap.size) ∧ Hid (Fr No w wr) ∧ Hid (wr.heap[X]? = some (.cells cs T (0, 0))))
  case atStart => exact ⟨0, by omega, rfl, HN.out, HF5.out, HB5.out⟩
  case round =>
    obtain ⟨k, hk, rfl, HN, HF, HB⟩ := hrel
    cases gk with
    | succ g =>
      have hk4 : k < 4 := by omega
      obtain ⟨⟨eb, es, ed, eu⟩, he⟩ : ∃ e, E[k]'(by rw [HE4.out]; exact hk4) = e := ⟨_, rfl⟩
      have HP := hid (pageL_succ q n o m E k (by rw [HE4.out]; exact hk4))
      have hc := HE.out k (by rw [HE4.out]; exact hk4)
      have HL := hid (pageL_len q n o m E k (by rw [HE4.out]; omega))
      rw [he] at hc HP
      obtain ⟨a0, a1, a2, a3⟩ := hc
      have A0 := hid a0
      have A1 := hid a1
      have A2 := hid a2
      have A3 := hid a3
      have hk5 : (k : Int) < 4 := by omega
      clear a0 a1 a2 a3 he
      go_wp2_with fail
      refine wp_region_held_drew (S := fun W => W.heap[X]? = some (.cells cs T (0, 0))) (by kernel_rfl) HB.out (fun hHeld => ?_)
      have HNz := hid (HN.out.no (Fr.refl No wr).drew)
      have HFz := hid HF.out.drew
      obtain ⟨wz, hwz⟩ : ∃ z, wr.drew = z := ⟨_, rfl⟩
      rw [hwz] at HNz HFz hHeld ⊢
      clear hwz HN HF HB
      refine wpAnyH_take (i := 0) (v := ?_) rfl (by kernel_rfl) (by kernel_rfl) (by kernel_rfl) (fun _ _ _ h => h) (Or.inl ⟨by rfl, ?_⟩) hHeld ?_
      rotate_left
      · intro w hSw
        go_simp
        with_reducible rfl
      try simp only [Act.put, List.getElem_toArray, List.getElem_cons_zero, List.getElem_cons_succ, List.setIfInBounds_toArray, List.set_cons_zero, List.set_cons_succ]
      refine wpAnyH_take (i := 1) (v := ?_) rfl (by kernel_rfl) (by kernel_rfl) (by kernel_rfl) (fun _ _ _ h => h) (Or.inl ⟨by rfl, ?_⟩) hHeld ?_
      rotate_left
      · intro w hSw
        go_simp
        with_reducible rfl
      try simp only [Act.put, List.getElem_toArray, List.getElem_cons_zero, List.getElem_cons_succ, List.setIfInBounds_toArray, List.set_cons_zero, List.set_cons_succ]
      refine wpAnyH_take (i := 2) (v := ?_) rfl (by kernel_rfl) (by kernel_rfl) (by kernel_rfl) (fun _ _ _ h => h) (Or.inl ⟨by rfl, ?_⟩) hHeld ?_
      rotate_left
      · intro w hSw
        go_simp
        with_reducible rfl
      try simp only [Act.put, List.getElem_toArray, List.getElem_cons_zero, List.getElem_cons_succ, List.setIfInBounds_toArray, List.set_cons_zero, List.set_cons_succ]
      refine wpAnyH_take (i := 3) (v := ?_) rfl (by kernel_rfl) (by kernel_rfl) (by kernel_rfl) (fun _ _ _ h => h) (Or.inl ⟨by rfl, ?_⟩) hHeld ?_
      rotate_left
      · intro w hSw
        go_simp
        with_reducible rfl
      try simp only [Act.put, List.getElem_toArray, List.getElem_cons_zero, List.getElem_cons_succ, List.setIfInBounds_toArray, List.set_cons_zero, List.set_cons_succ]
      refine wpAnyH_take (i := 4) (v := ?_) rfl (by kernel_rfl) (by kernel_rfl) (by kernel_rfl) (fun _ _ _ h => h) (Or.inl ⟨by rfl, ?_⟩) hHeld ?_
      rotate_left
      · intro w hSw
        go_simp
        with_reducible rfl
      try simp only [Act.put, List.getElem_toArray, List.getElem_cons_zero, List.getElem_cons_succ, List.setIfInBounds_toArray, List.set_cons_zero, List.set_cons_succ]
      refine wpAnyH_take (i := 5) (v := ?_) rfl (by kernel_rfl) (by kernel_rfl) (by kernel_rfl) (fun _ _ _ h => h) (Or.inl ⟨by rfl, ?_⟩) hHeld ?_
      rotate_left
      · intro w hSw
        go_simp
        with_reducible rfl
      try simp only [Act.put, List.getElem_toArray, List.getElem_cons_zero, List.getElem_cons_succ, List.setIfInBounds_toArray, List.set_cons_zero, List.set_cons_succ]
      refine wpAnyH_take (i := 6) (v := ?_) rfl (by kernel_rfl) (by kernel_rfl) (by kernel_rfl) (fun _ _ _ h => h) (Or.inl ⟨by rfl, ?_⟩) hHeld ?_
      rotate_left
      · intro w hSw
        go_simp
        with_reducible rfl
      try simp only [Act.put, List.getElem_toArray, List.getElem_cons_zero, List.getElem_cons_succ, List.setIfInBounds_toArray, List.set_cons_zero, List.set_cons_succ]
      refine wpAnyH_take (i := 7) (v := ?_) rfl (by kernel_rfl) (by kernel_rfl) (by kernel_rfl) (fun _ _ _ h => h) (Or.inl ⟨by rfl, ?_⟩) hHeld ?_
      rotate_left
      · intro w hSw
        go_simp
        with_reducible rfl
      try simp only [Act.put, List.getElem_toArray, List.getElem_cons_zero, List.getElem_cons_succ, List.setIfInBounds_toArray, List.set_cons_zero, List.set_cons_succ]
      refine wpAnyH_take (i := 8) (v := ?_) rfl (by kernel_rfl) (by kernel_rfl) (by kernel_rfl) (fun _ _ _ h => h) (Or.inl ⟨by rfl, ?_⟩) hHeld ?_
      rotate_left
      · intro w hSw
        go_simp
        with_reducible rfl
      try simp only [Act.put, List.getElem_toArray, List.getElem_cons_zero, List.getElem_cons_succ, List.setIfInBounds_toArray, List.set_cons_zero, List.set_cons_succ]
      refine wpAnyH_take (i := 9) (v := ?_) rfl (by kernel_rfl) (by kernel_rfl) (by kernel_rfl) (fun _ _ _ h => h) (Or.inl ⟨by rfl, ?_⟩) hHeld ?_
      rotate_left
      · intro w hSw
        go_simp
        with_reducible rfl
      try simp only [Act.put, List.getElem_toArray, List.getElem_cons_zero, List.getElem_cons_succ, List.setIfInBounds_toArray, List.set_cons_zero, List.set_cons_succ]
      refine wpAnyH_take (i := 10) (v := ?_) rfl (by kernel_rfl) (by kernel_rfl) (by kernel_rfl) (fun _ _ _ h => h) (Or.inl ⟨by rfl, ?_⟩) hHeld ?_
      rotate_left
      · intro w hSw
        go_simp
        with_reducible rfl
      try simp only [Act.put, List.getElem_toArray, List.getElem_cons_zero, List.getElem_cons_succ, List.setIfInBounds_toArray, List.set_cons_zero, List.set_cons_succ]
      refine wpAnyH_take (i := 11) (v := ?_) rfl (by kernel_rfl) (by kernel_rfl) (by kernel_rfl) (fun _ _ _ h => h) (Or.inl ⟨by rfl, ?_⟩) hHeld ?_
      rotate_left
      · intro w hSw
        go_simp
        with_reducible rfl
      try simp only [Act.put, List.getElem_toArray, List.getElem_cons_zero, List.getElem_cons_succ, List.setIfInBounds_toArray, List.set_cons_zero, List.set_cons_succ]
      refine wpAnyH_take (i := 12) (v := ?_) rfl (by kernel_rfl) (by kernel_rfl) (by kernel_rfl) (fun _ _ _ h => h) (Or.inl ⟨by rfl, ?_⟩) hHeld ?_
      rotate_left
      · intro w hSw
        go_simp
        with_reducible rfl
      try simp only [Act.put, List.getElem_toArray, List.getElem_cons_zero, List.getElem_cons_succ, List.setIfInBounds_toArray, List.set_cons_zero, List.set_cons_succ]
      refine wpAnyH_ready (rs := [13]) (by kernel_rfl) (by simp) ?_
      refine AllReadyH.cons rfl (fun K hK => ?_) AllReadyH.nil
      rw [if_pos (by rfl)]
      go_simp
      refine (fm_place wz X (4 + k * 4) (4 + k * 4 + 1) (4 + k * 4 + 2) (4 + k * 4 + 3) eb es eu ed ((cell_blk hHeld _).trans A0.out) ((cell_blk hHeld _).trans A1.out) ((cell_blk hHeld _).trans A2.out) ((cell_blk hHeld _).trans A3.out)).mono ?_
      rintro e wp ⟨v2, rfl, hN2, hF⟩
      refine hK.out _ _ ((hF.block X (HFz.out.lt hX) id).trans hHeld) (fun hHeld => ?_)
      have HNp := hid (HNz.out.no hF)
      have HN2 := hid hN2
      have HFp := hid (HFz.out.trans hF)
      have HLz := hid HNz.out.lt
      clear hK K hN2
      try simp only [Act.put, List.getElem_toArray, List.getElem_cons_zero, List.getElem_cons_succ, List.setIfInBounds_toArray, List.set_cons_zero, List.set_cons_succ]
      refine wpAnyH_ready (rs := [14]) (by kernel_rfl) (by simp) ?_
      refine AllReadyH.cons rfl (fun K hK => ?_) AllReadyH.nil
      rw [if_pos (by rfl)]
      refine wp_append_nums _ _ rfl _ _ (by rfl) (by rfl) _ _ (fun q => q = X) w.heap.size wz.heap.size HNp.out HN2.out (by simp [entP]) (by rw [HL.out]; simp [entP]; omega) HFz.out.size hF.size HLz.out (fun q e => by subst e; exact hX) (fun v' wq hNq hFq => ?_)
      refine hK.out _ _ ((hFq.block X (HFp.out.lt hX) (by omega)).trans hHeld) (fun hHeld => ?_)
      have HNq := hid hNq
      have HFq := hid (HFp.out.then hFq (fun i hi e => by have e : w.heap.size ≤ i := e; omega))
      clear hK K hNq hFq hF
      try simp only [Act.put, List.getElem_toArray, List.getElem_cons_zero, List.getElem_cons_succ, List.setIfInBounds_toArray, List.set_cons_zero, List.set_cons_succ]
      refine wpAnyH_take (i := 15) (v := ?_) rfl (by kernel_rfl) (by kernel_rfl) (by kernel_rfl) (fun _ _ _ h => h) (Or.inl ⟨by rfl, ?_⟩) hHeld ?_
      rotate_left
      · intro w hSw
        go_simp
        with_reducible rfl
      try simp only [Act.put, List.getElem_toArray, List.getElem_cons_zero, List.getElem_cons_succ, List.setIfInBounds_toArray, List.set_cons_zero, List.set_cons_succ]
      refine wpAnyH_done (by kernel_rfl) ?_ _
      have HN7 : Hid (Nums wq v' (pageL q n o m E (k + 1)) (fun q => q = X) w.heap.size) := by have := HNq.out; rw [HP.out] at this; exact this
      have HB7 := hid hHeld
      clear hHeld
      go_wp2_with fail
      go_roundg g
      case measure => omega
      case rel => exact ⟨k + 1, by omega, by go_num, HN7, HFq, HB7⟩
    | zero => 
      obtain rfl : k = 4 := by omega
      go_wp2_with fail
      go_ret
      exact ⟨_, rfl, HN.out, HF.out⟩
end Go.Proofs.YtpifiamafgaadaaDoor
