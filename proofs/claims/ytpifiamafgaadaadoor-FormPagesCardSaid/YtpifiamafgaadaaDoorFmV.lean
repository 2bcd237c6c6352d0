/- forms: the reference's numbers. -/
import Derived.Test.YtpifiamafgaadaaDoorFmT
namespace Go.Proofs.YtpifiamafgaadaaDoor
open Go.RowKit Go.Shelf
set_option maxRecDepth 1000000 in
set_option maxHeartbeats 4000000 in
theorem rf_Page (w : World) (q n o m : Int) : Calls Tryd.prog 25 #[.agg #[.int .i64 q, .int .i64 n, .int .i64 o, .int .i64 m]] w fun e w' => ∃ v, e = .returned v ∧ Refs w' v [⟨q, 6, 0, 1099511627776⟩, ⟨n, 2, 0, IntKind.i64.wrap (o - 1)⟩, ⟨o, 2, 1, 256⟩, ⟨m, 1, 0, 4⟩] w.heap.size ∧ Fr No w w' := by
  go_enter Tryd.func25, Tryd.ntmps25
  have hb := heap_new w (.cells #[.int .i64 q, .int .i64 n, .int .i64 o, .int .i64 m] 77)
  have g0 := (cell_blk hb 0).trans rfl
  have g1 := (cell_blk hb 1).trans rfl
  have g2 := (cell_blk hb 2).trans rfl
  have g3 := (cell_blk hb 3).trans rfl
  have HF0 := hid (((Fr.refl No w).alloc (.cells #[.int .i64 q, .int .i64 n, .int .i64 o, .int .i64 m] 77)).drew)
  clear hb
  go_wp2_with fail
  obtain ⟨X, hX⟩ : ∃ X, w.heap.size = X := ⟨_, rfl⟩
  have HX := hid hX
  rw [hX] at g0 g1 g2 g3 ⊢
  refine wp_region_held_drew (S := fun W => W.cell? ⟨X, 0, none⟩ = some (.int .i64 q) ∧ W.cell? ⟨X, 1, none⟩ = some (.int .i64 n) ∧ W.cell? ⟨X, 2, none⟩ = some (.int .i64 o) ∧ W.cell? ⟨X, 3, none⟩ = some (.int .i64 m)) (by kernel_rfl) ⟨g0, g1, g2, g3⟩ (fun hHeld => ?_)
  clear g0 g1 g2 g3
  obtain ⟨w0, hw0⟩ : ∃ W, (w.alloc (.cells #[.int .i64 q, .int .i64 n, .int .i64 o, .int .i64 m] 77)).drew = W := ⟨_, rfl⟩
  rw [hw0] at HF0 hHeld ⊢
  clear hw0 hX
  refine wpAnyH_take (i := 0) (v := ?_) rfl (by kernel_rfl) (by kernel_rfl) (by kernel_rfl) (fun _ _ _ h => h) (Or.inl ⟨by rfl, ?_⟩) hHeld ?_
  rotate_left
  · intro w hSw; obtain ⟨g0, g1, g2, g3⟩ := hSw
    go_simp
    with_reducible rfl
  try simp only [Act.put, List.getElem_toArray, List.getElem_cons_zero, List.getElem_cons_succ, List.setIfInBounds_toArray, List.set_cons_zero, List.set_cons_succ]
  refine wpAnyH_take (i := 1) (v := ?_) rfl (by kernel_rfl) (by kernel_rfl) (by kernel_rfl) (fun _ _ _ h => h) (Or.inl ⟨by rfl, ?_⟩) hHeld ?_
  rotate_left
  · intro w hSw; obtain ⟨g0, g1, g2, g3⟩ := hSw
    go_simp
    with_reducible rfl
  try simp only [Act.put, List.getElem_toArray, List.getElem_cons_zero, List.getElem_cons_succ, List.setIfInBounds_toArray, List.set_cons_zero, List.set_cons_succ]
  refine wpAnyH_take (i := 3) (v := ?_) rfl (by kernel_rfl) (by kernel_rfl) (by kernel_rfl) (fun _ _ _ h => h) (Or.inl ⟨by rfl, ?_⟩) hHeld ?_
  rotate_left
  · intro w hSw; obtain ⟨g0, g1, g2, g3⟩ := hSw
    go_simp
    with_reducible rfl
  try simp only [Act.put, List.getElem_toArray, List.getElem_cons_zero, List.getElem_cons_succ, List.setIfInBounds_toArray, List.set_cons_zero, List.set_cons_succ]
  refine wpAnyH_take (i := 4) (v := ?_) rfl (by kernel_rfl) (by kernel_rfl) (by kernel_rfl) (fun _ _ _ h => h) (Or.inl ⟨by rfl, ?_⟩) hHeld ?_
  rotate_left
  · intro w hSw; obtain ⟨g0, g1, g2, g3⟩ := hSw
    go_simp
    with_reducible rfl
  try simp only [Act.put, List.getElem_toArray, List.getElem_cons_zero, List.getElem_cons_succ, List.setIfInBounds_toArray, List.set_cons_zero, List.set_cons_succ]
  refine wpAnyH_take (i := 5) (v := ?_) rfl (by kernel_rfl) (by kernel_rfl) (by kernel_rfl) (fun _ _ _ h => h) (Or.inl ⟨by rfl, ?_⟩) hHeld ?_
  rotate_left
  · intro w hSw; obtain ⟨g0, g1, g2, g3⟩ := hSw
    go_simp
    with_reducible rfl
  try simp only [Act.put, List.getElem_toArray, List.getElem_cons_zero, List.getElem_cons_succ, List.setIfInBounds_toArray, List.set_cons_zero, List.set_cons_succ]
  refine wpAnyH_take (i := 6) (v := ?_) rfl (by kernel_rfl) (by kernel_rfl) (by kernel_rfl) (fun _ _ _ h => h) (Or.inl ⟨by rfl, ?_⟩) hHeld ?_
  rotate_left
  · intro w hSw; obtain ⟨g0, g1, g2, g3⟩ := hSw
    go_simp
    with_reducible rfl
  try simp only [Act.put, List.getElem_toArray, List.getElem_cons_zero, List.getElem_cons_succ, List.setIfInBounds_toArray, List.set_cons_zero, List.set_cons_succ]
  refine wpAnyH_take (i := 7) (v := ?_) rfl (by kernel_rfl) (by kernel_rfl) (by kernel_rfl) (fun _ _ _ h => h) (Or.inl ⟨by rfl, ?_⟩) hHeld ?_
  rotate_left
  · intro w hSw; obtain ⟨g0, g1, g2, g3⟩ := hSw
    go_simp
    with_reducible rfl
  try simp only [Act.put, List.getElem_toArray, List.getElem_cons_zero, List.getElem_cons_succ, List.setIfInBounds_toArray, List.set_cons_zero, List.set_cons_succ]
  refine wpAnyH_take (i := 9) (v := ?_) rfl (by kernel_rfl) (by kernel_rfl) (by kernel_rfl) (fun _ _ _ h => h) (Or.inl ⟨by rfl, ?_⟩) hHeld ?_
  rotate_left
  · intro w hSw; obtain ⟨g0, g1, g2, g3⟩ := hSw
    go_simp
    with_reducible rfl
  try simp only [Act.put, List.getElem_toArray, List.getElem_cons_zero, List.getElem_cons_succ, List.setIfInBounds_toArray, List.set_cons_zero, List.set_cons_succ]
  refine wpAnyH_take (i := 10) (v := ?_) rfl (by kernel_rfl) (by kernel_rfl) (by kernel_rfl) (fun _ _ _ h => h) (Or.inl ⟨by rfl, ?_⟩) hHeld ?_
  rotate_left
  · intro w hSw; obtain ⟨g0, g1, g2, g3⟩ := hSw
    go_simp
    with_reducible rfl
  try simp only [Act.put, List.getElem_toArray, List.getElem_cons_zero, List.getElem_cons_succ, List.setIfInBounds_toArray, List.set_cons_zero, List.set_cons_succ]
  refine wpAnyH_take (i := 12) (v := ?_) rfl (by kernel_rfl) (by kernel_rfl) (by kernel_rfl) (fun _ _ _ h => h) (Or.inl ⟨by rfl, ?_⟩) hHeld ?_
  rotate_left
  · intro w hSw; obtain ⟨g0, g1, g2, g3⟩ := hSw
    go_simp
    with_reducible rfl
  try simp only [Act.put, List.getElem_toArray, List.getElem_cons_zero, List.getElem_cons_succ, List.setIfInBounds_toArray, List.set_cons_zero, List.set_cons_succ]
  refine wpAnyH_take (i := 13) (v := ?_) rfl (by kernel_rfl) (by kernel_rfl) (by kernel_rfl) (fun _ _ _ h => h) (Or.inl ⟨by rfl, ?_⟩) hHeld ?_
  rotate_left
  · intro w hSw; obtain ⟨g0, g1, g2, g3⟩ := hSw
    go_simp
    with_reducible rfl
  try simp only [Act.put, List.getElem_toArray, List.getElem_cons_zero, List.getElem_cons_succ, List.setIfInBounds_toArray, List.set_cons_zero, List.set_cons_succ]
  refine wpAnyH_take (i := 14) (v := ?_) rfl (by kernel_rfl) (by kernel_rfl) (by kernel_rfl) (fun _ _ _ h => h) (Or.inl ⟨by rfl, ?_⟩) hHeld ?_
  rotate_left
  · intro w hSw; obtain ⟨g0, g1, g2, g3⟩ := hSw
    go_simp
    with_reducible rfl
  try simp only [Act.put, List.getElem_toArray, List.getElem_cons_zero, List.getElem_cons_succ, List.setIfInBounds_toArray, List.set_cons_zero, List.set_cons_succ]
  refine wpAnyH_ready (rs := [2]) (by kernel_rfl) (by simp) ?_
  refine AllReadyH.cons rfl (fun K hK => ?_) AllReadyH.nil
  rw [if_pos (by rfl)]
  go_simp
  refine (rf_seq _ q 0).mono ?_
  rintro e w1 ⟨rfl, hF⟩
  have HF1 := hid (HF0.out.trans hF)
  refine hK.out _ _ ⟨(hF.cell (p := ⟨X, 0, none⟩) (lt_of_cell (hHeld.1)) id).trans (hHeld.1), (hF.cell (p := ⟨X, 1, none⟩) (lt_of_cell (hHeld.2.1)) id).trans (hHeld.2.1), (hF.cell (p := ⟨X, 2, none⟩) (lt_of_cell (hHeld.2.2.1)) id).trans (hHeld.2.2.1), (hF.cell (p := ⟨X, 3, none⟩) (lt_of_cell (hHeld.2.2.2)) id).trans (hHeld.2.2.2)⟩ (fun hHeld => ?_)
  clear hK K hF
  try simp only [Act.put, List.getElem_toArray, List.getElem_cons_zero, List.getElem_cons_succ, List.setIfInBounds_toArray, List.set_cons_zero, List.set_cons_succ]
  refine wpAnyH_ready (rs := [8]) (by kernel_rfl) (by simp) ?_
  refine AllReadyH.cons rfl (fun K hK => ?_) AllReadyH.nil
  rw [if_pos (by rfl)]
  go_simp
  refine (rf_two _ n 0 (IntKind.i64.wrap (o - 1))).mono ?_
  rintro e w2 ⟨rfl, hF⟩
  have HF2 := hid (HF1.out.trans hF)
  refine hK.out _ _ ⟨(hF.cell (p := ⟨X, 0, none⟩) (lt_of_cell (hHeld.1)) id).trans (hHeld.1), (hF.cell (p := ⟨X, 1, none⟩) (lt_of_cell (hHeld.2.1)) id).trans (hHeld.2.1), (hF.cell (p := ⟨X, 2, none⟩) (lt_of_cell (hHeld.2.2.1)) id).trans (hHeld.2.2.1), (hF.cell (p := ⟨X, 3, none⟩) (lt_of_cell (hHeld.2.2.2)) id).trans (hHeld.2.2.2)⟩ (fun hHeld => ?_)
  clear hK K hF
  try simp only [Act.put, List.getElem_toArray, List.getElem_cons_zero, List.getElem_cons_succ, List.setIfInBounds_toArray, List.set_cons_zero, List.set_cons_succ]
  refine wpAnyH_ready (rs := [11]) (by kernel_rfl) (by simp) ?_
  refine AllReadyH.cons rfl (fun K hK => ?_) AllReadyH.nil
  rw [if_pos (by rfl)]
  go_simp
  refine (rf_two _ o 1 256).mono ?_
  rintro e w3 ⟨rfl, hF⟩
  have HF3 := hid (HF2.out.trans hF)
  refine hK.out _ _ ⟨(hF.cell (p := ⟨X, 0, none⟩) (lt_of_cell (hHeld.1)) id).trans (hHeld.1), (hF.cell (p := ⟨X, 1, none⟩) (lt_of_cell (hHeld.2.1)) id).trans (hHeld.2.1), (hF.cell (p := ⟨X, 2, none⟩) (lt_of_cell (hHeld.2.2.1)) id).trans (hHeld.2.2.1), (hF.cell (p := ⟨X, 3, none⟩) (lt_of_cell (hHeld.2.2.2)) id).trans (hHeld.2.2.2)⟩ (fun hHeld => ?_)
  clear hK K hF
  try simp only [Act.put, List.getElem_toArray, List.getElem_cons_zero, List.getElem_cons_succ, List.setIfInBounds_toArray, List.set_cons_zero, List.set_cons_succ]
  have HBS := hid (ref_slice [(⟨q, 6, 0, 1099511627776⟩ : NumI), (⟨n, 2, 0, IntKind.i64.wrap (o - 1)⟩ : NumI), (⟨o, 2, 1, 256⟩ : NumI), (⟨m, 1, 0, 4⟩ : NumI)] (by simp) (by simp) w3 #[(0, refT (⟨q, 6, 0, 1099511627776⟩ : NumI)), (1, refT (⟨n, 2, 0, IntKind.i64.wrap (o - 1)⟩ : NumI)), (2, refT (⟨o, 2, 1, 256⟩ : NumI)), (3, refT (⟨m, 1, 0, 4⟩ : NumI))] rfl)
  have HN := hid (refs_new [(⟨q, 6, 0, 1099511627776⟩ : NumI), (⟨n, 2, 0, IntKind.i64.wrap (o - 1)⟩ : NumI), (⟨o, 2, 1, 256⟩ : NumI), (⟨m, 1, 0, 4⟩ : NumI)] (by simp) w3 w.heap.size HF3.out.size)
  refine wpAnyH_ready (rs := [15]) (by kernel_rfl) (by simp) ?_
  refine AllReadyH.cons rfl (fun K hK => ?_) AllReadyH.nil
  rw [if_pos (by rfl)]
  refine wp_buildS 33 4 _ rfl _ (by simp [Act.eval, refT]) _ _ HBS.out ?_
  have hF := (Fr.refl No w3).alloc (.cells (List.flatMap refL [(⟨q, 6, 0, 1099511627776⟩ : NumI), (⟨n, 2, 0, IntKind.i64.wrap (o - 1)⟩ : NumI), (⟨o, 2, 1, 256⟩ : NumI), (⟨m, 1, 0, 4⟩ : NumI)]).toArray 96)
  have HF4 := hid (HF3.out.trans hF)
  refine hK.out _ _ ⟨(hF.cell (p := ⟨X, 0, none⟩) (lt_of_cell (hHeld.1)) id).trans (hHeld.1), (hF.cell (p := ⟨X, 1, none⟩) (lt_of_cell (hHeld.2.1)) id).trans (hHeld.2.1), (hF.cell (p := ⟨X, 2, none⟩) (lt_of_cell (hHeld.2.2.1)) id).trans (hHeld.2.2.1), (hF.cell (p := ⟨X, 3, none⟩) (lt_of_cell (hHeld.2.2.2)) id).trans (hHeld.2.2.2)⟩ (fun hHeld => ?_)
  clear hK K hF HBS
  try simp only [Act.put, List.getElem_toArray, List.getElem_cons_zero, List.getElem_cons_succ, List.setIfInBounds_toArray, List.set_cons_zero, List.set_cons_succ]
  obtain ⟨w4, hw⟩ : ∃ W, w3.alloc (.cells (List.flatMap refL [(⟨q, 6, 0, 1099511627776⟩ : NumI), (⟨n, 2, 0, IntKind.i64.wrap (o - 1)⟩ : NumI), (⟨o, 2, 1, 256⟩ : NumI), (⟨m, 1, 0, 4⟩ : NumI)]).toArray 96) = W := ⟨_, rfl⟩
  rw [hw] at HN HF4 hHeld ⊢
  clear hw
  refine wpAnyH_take (i := 16) (v := ?_) rfl (by kernel_rfl) (by kernel_rfl) (by kernel_rfl) (fun _ _ _ h => h) (Or.inl ⟨by rfl, ?_⟩) hHeld ?_
  rotate_left
  · intro w hSw
    go_simp
    with_reducible rfl
  try simp only [Act.put, List.getElem_toArray, List.getElem_cons_zero, List.getElem_cons_succ, List.setIfInBounds_toArray, List.set_cons_zero, List.set_cons_succ]
  refine wpAnyH_done (by kernel_rfl) ?_ _
  go_wp2_with fail
  go_ret
  exact ⟨_, rfl, HN.out, HF4.out⟩
end Go.Proofs.YtpifiamafgaadaaDoor
