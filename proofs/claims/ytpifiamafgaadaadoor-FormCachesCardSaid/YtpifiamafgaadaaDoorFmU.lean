/- forms: the reference's numbers. -/
import Derived.Test.YtpifiamafgaadaaDoorFmT
namespace Go.Proofs.YtpifiamafgaadaaDoor
open Go.RowKit Go.Shelf
set_option maxRecDepth 1000000 in
set_option maxHeartbeats 4000000 in
theorem rf_Super (w : World) (i b s j p g t : Int) : Calls Tryd.prog 19 #[.agg #[.int .i64 i, .int .i64 b, .int .i64 s, .int .i64 j, .int .i64 p, .int .i64 g, .int .i64 t]] w fun e w' => ∃ v, e = .returned v ∧ Refs w' v (superN i b s j p g t) w.heap.size ∧ Fr No w w' := by
  go_enter Tryd.func19, Tryd.ntmps19
  have hb := heap_new w (.cells #[.int .i64 i, .int .i64 b, .int .i64 s, .int .i64 j, .int .i64 p, .int .i64 g, .int .i64 t] 61)
  have g0 := (cell_blk hb 0).trans rfl
  have g1 := (cell_blk hb 1).trans rfl
  have g2 := (cell_blk hb 2).trans rfl
  have g3 := (cell_blk hb 3).trans rfl
  have g4 := (cell_blk hb 4).trans rfl
  have g5 := (cell_blk hb 5).trans rfl
  have g6 := (cell_blk hb 6).trans rfl
  have HF0 := hid (((Fr.refl No w).alloc (.cells #[.int .i64 i, .int .i64 b, .int .i64 s, .int .i64 j, .int .i64 p, .int .i64 g, .int .i64 t] 61)).drew)
  clear hb
  go_wp2_with fail
  obtain ⟨X, hX⟩ : ∃ X, w.heap.size = X := ⟨_, rfl⟩
  have HX := hid hX
  rw [hX] at g0 g1 g2 g3 g4 g5 g6 ⊢
  refine wp_region_held_drew (S := fun W => W.cell? ⟨X, 0, none⟩ = some (.int .i64 i) ∧ W.cell? ⟨X, 1, none⟩ = some (.int .i64 b) ∧ W.cell? ⟨X, 2, none⟩ = some (.int .i64 s) ∧ W.cell? ⟨X, 3, none⟩ = some (.int .i64 j) ∧ W.cell? ⟨X, 4, none⟩ = some (.int .i64 p) ∧ W.cell? ⟨X, 5, none⟩ = some (.int .i64 g) ∧ W.cell? ⟨X, 6, none⟩ = some (.int .i64 t)) (by kernel_rfl) ⟨g0, g1, g2, g3, g4, g5, g6⟩ (fun hHeld => ?_)
  clear g0 g1 g2 g3 g4 g5 g6
  obtain ⟨w0, hw0⟩ : ∃ W, (w.alloc (.cells #[.int .i64 i, .int .i64 b, .int .i64 s, .int .i64 j, .int .i64 p, .int .i64 g, .int .i64 t] 61)).drew = W := ⟨_, rfl⟩
  rw [hw0] at HF0 hHeld ⊢
  clear hw0 hX
  refine wpAnyH_take (i := 0) (v := ?_) rfl (by kernel_rfl) (by kernel_rfl) (by kernel_rfl) (fun _ _ _ h => h) (Or.inl ⟨by rfl, ?_⟩) hHeld ?_
  rotate_left
  · intro w hSw; obtain ⟨g0, g1, g2, g3, g4, g5, g6⟩ := hSw
    go_simp
    with_reducible rfl
  try simp only [Act.put, List.getElem_toArray, List.getElem_cons_zero, List.getElem_cons_succ, List.setIfInBounds_toArray, List.set_cons_zero, List.set_cons_succ]
  refine wpAnyH_take (i := 1) (v := ?_) rfl (by kernel_rfl) (by kernel_rfl) (by kernel_rfl) (fun _ _ _ h => h) (Or.inl ⟨by rfl, ?_⟩) hHeld ?_
  rotate_left
  · intro w hSw; obtain ⟨g0, g1, g2, g3, g4, g5, g6⟩ := hSw
    go_simp
    with_reducible rfl
  try simp only [Act.put, List.getElem_toArray, List.getElem_cons_zero, List.getElem_cons_succ, List.setIfInBounds_toArray, List.set_cons_zero, List.set_cons_succ]
  refine wpAnyH_take (i := 3) (v := ?_) rfl (by kernel_rfl) (by kernel_rfl) (by kernel_rfl) (fun _ _ _ h => h) (Or.inl ⟨by rfl, ?_⟩) hHeld ?_
  rotate_left
  · intro w hSw; obtain ⟨g0, g1, g2, g3, g4, g5, g6⟩ := hSw
    go_simp
    with_reducible rfl
  try simp only [Act.put, List.getElem_toArray, List.getElem_cons_zero, List.getElem_cons_succ, List.setIfInBounds_toArray, List.set_cons_zero, List.set_cons_succ]
  refine wpAnyH_take (i := 4) (v := ?_) rfl (by kernel_rfl) (by kernel_rfl) (by kernel_rfl) (fun _ _ _ h => h) (Or.inl ⟨by rfl, ?_⟩) hHeld ?_
  rotate_left
  · intro w hSw; obtain ⟨g0, g1, g2, g3, g4, g5, g6⟩ := hSw
    go_simp
    with_reducible rfl
  try simp only [Act.put, List.getElem_toArray, List.getElem_cons_zero, List.getElem_cons_succ, List.setIfInBounds_toArray, List.set_cons_zero, List.set_cons_succ]
  refine wpAnyH_take (i := 6) (v := ?_) rfl (by kernel_rfl) (by kernel_rfl) (by kernel_rfl) (fun _ _ _ h => h) (Or.inl ⟨by rfl, ?_⟩) hHeld ?_
  rotate_left
  · intro w hSw; obtain ⟨g0, g1, g2, g3, g4, g5, g6⟩ := hSw
    go_simp
    with_reducible rfl
  try simp only [Act.put, List.getElem_toArray, List.getElem_cons_zero, List.getElem_cons_succ, List.setIfInBounds_toArray, List.set_cons_zero, List.set_cons_succ]
  refine wpAnyH_take (i := 7) (v := ?_) rfl (by kernel_rfl) (by kernel_rfl) (by kernel_rfl) (fun _ _ _ h => h) (Or.inl ⟨by rfl, ?_⟩) hHeld ?_
  rotate_left
  · intro w hSw; obtain ⟨g0, g1, g2, g3, g4, g5, g6⟩ := hSw
    go_simp
    with_reducible rfl
  try simp only [Act.put, List.getElem_toArray, List.getElem_cons_zero, List.getElem_cons_succ, List.setIfInBounds_toArray, List.set_cons_zero, List.set_cons_succ]
  refine wpAnyH_take (i := 9) (v := ?_) rfl (by kernel_rfl) (by kernel_rfl) (by kernel_rfl) (fun _ _ _ h => h) (Or.inl ⟨by rfl, ?_⟩) hHeld ?_
  rotate_left
  · intro w hSw; obtain ⟨g0, g1, g2, g3, g4, g5, g6⟩ := hSw
    go_simp
    with_reducible rfl
  try simp only [Act.put, List.getElem_toArray, List.getElem_cons_zero, List.getElem_cons_succ, List.setIfInBounds_toArray, List.set_cons_zero, List.set_cons_succ]
  refine wpAnyH_take (i := 10) (v := ?_) rfl (by kernel_rfl) (by kernel_rfl) (by kernel_rfl) (fun _ _ _ h => h) (Or.inl ⟨by rfl, ?_⟩) hHeld ?_
  rotate_left
  · intro w hSw; obtain ⟨g0, g1, g2, g3, g4, g5, g6⟩ := hSw
    go_simp
    with_reducible rfl
  try simp only [Act.put, List.getElem_toArray, List.getElem_cons_zero, List.getElem_cons_succ, List.setIfInBounds_toArray, List.set_cons_zero, List.set_cons_succ]
  refine wpAnyH_take (i := 12) (v := ?_) rfl (by kernel_rfl) (by kernel_rfl) (by kernel_rfl) (fun _ _ _ h => h) (Or.inl ⟨by rfl, ?_⟩) hHeld ?_
  rotate_left
  · intro w hSw; obtain ⟨g0, g1, g2, g3, g4, g5, g6⟩ := hSw
    go_simp
    with_reducible rfl
  try simp only [Act.put, List.getElem_toArray, List.getElem_cons_zero, List.getElem_cons_succ, List.setIfInBounds_toArray, List.set_cons_zero, List.set_cons_succ]
  refine wpAnyH_take (i := 13) (v := ?_) rfl (by kernel_rfl) (by kernel_rfl) (by kernel_rfl) (fun _ _ _ h => h) (Or.inl ⟨by rfl, ?_⟩) hHeld ?_
  rotate_left
  · intro w hSw; obtain ⟨g0, g1, g2, g3, g4, g5, g6⟩ := hSw
    go_simp
    with_reducible rfl
  try simp only [Act.put, List.getElem_toArray, List.getElem_cons_zero, List.getElem_cons_succ, List.setIfInBounds_toArray, List.set_cons_zero, List.set_cons_succ]
  refine wpAnyH_take (i := 15) (v := ?_) rfl (by kernel_rfl) (by kernel_rfl) (by kernel_rfl) (fun _ _ _ h => h) (Or.inl ⟨by rfl, ?_⟩) hHeld ?_
  rotate_left
  · intro w hSw; obtain ⟨g0, g1, g2, g3, g4, g5, g6⟩ := hSw
    go_simp
    with_reducible rfl
  try simp only [Act.put, List.getElem_toArray, List.getElem_cons_zero, List.getElem_cons_succ, List.setIfInBounds_toArray, List.set_cons_zero, List.set_cons_succ]
  refine wpAnyH_take (i := 16) (v := ?_) rfl (by kernel_rfl) (by kernel_rfl) (by kernel_rfl) (fun _ _ _ h => h) (Or.inl ⟨by rfl, ?_⟩) hHeld ?_
  rotate_left
  · intro w hSw; obtain ⟨g0, g1, g2, g3, g4, g5, g6⟩ := hSw
    go_simp
    with_reducible rfl
  try simp only [Act.put, List.getElem_toArray, List.getElem_cons_zero, List.getElem_cons_succ, List.setIfInBounds_toArray, List.set_cons_zero, List.set_cons_succ]
  refine wpAnyH_take (i := 18) (v := ?_) rfl (by kernel_rfl) (by kernel_rfl) (by kernel_rfl) (fun _ _ _ h => h) (Or.inl ⟨by rfl, ?_⟩) hHeld ?_
  rotate_left
  · intro w hSw; obtain ⟨g0, g1, g2, g3, g4, g5, g6⟩ := hSw
    go_simp
    with_reducible rfl
  try simp only [Act.put, List.getElem_toArray, List.getElem_cons_zero, List.getElem_cons_succ, List.setIfInBounds_toArray, List.set_cons_zero, List.set_cons_succ]
  refine wpAnyH_take (i := 19) (v := ?_) rfl (by kernel_rfl) (by kernel_rfl) (by kernel_rfl) (fun _ _ _ h => h) (Or.inl ⟨by rfl, ?_⟩) hHeld ?_
  rotate_left
  · intro w hSw; obtain ⟨g0, g1, g2, g3, g4, g5, g6⟩ := hSw
    go_simp
    with_reducible rfl
  try simp only [Act.put, List.getElem_toArray, List.getElem_cons_zero, List.getElem_cons_succ, List.setIfInBounds_toArray, List.set_cons_zero, List.set_cons_succ]
  refine wpAnyH_take (i := 20) (v := ?_) rfl (by kernel_rfl) (by kernel_rfl) (by kernel_rfl) (fun _ _ _ h => h) (Or.inl ⟨by rfl, ?_⟩) hHeld ?_
  rotate_left
  · intro w hSw; obtain ⟨g0, g1, g2, g3, g4, g5, g6⟩ := hSw
    go_simp
    with_reducible rfl
  try simp only [Act.put, List.getElem_toArray, List.getElem_cons_zero, List.getElem_cons_succ, List.setIfInBounds_toArray, List.set_cons_zero, List.set_cons_succ]
  refine wpAnyH_ready (rs := [2]) (by kernel_rfl) (by simp) ?_
  refine AllReadyH.cons rfl (fun K hK => ?_) AllReadyH.nil
  rw [if_pos (by rfl)]
  go_simp
  refine (rf_seq _ i 0).mono ?_
  rintro e w1 ⟨rfl, hF⟩
  have HF1 := hid (HF0.out.trans hF)
  refine hK.out _ _ ⟨(hF.cell (p := ⟨X, 0, none⟩) (lt_of_cell (hHeld.1)) id).trans (hHeld.1), (hF.cell (p := ⟨X, 1, none⟩) (lt_of_cell (hHeld.2.1)) id).trans (hHeld.2.1), (hF.cell (p := ⟨X, 2, none⟩) (lt_of_cell (hHeld.2.2.1)) id).trans (hHeld.2.2.1), (hF.cell (p := ⟨X, 3, none⟩) (lt_of_cell (hHeld.2.2.2.1)) id).trans (hHeld.2.2.2.1), (hF.cell (p := ⟨X, 4, none⟩) (lt_of_cell (hHeld.2.2.2.2.1)) id).trans (hHeld.2.2.2.2.1), (hF.cell (p := ⟨X, 5, none⟩) (lt_of_cell (hHeld.2.2.2.2.2.1)) id).trans (hHeld.2.2.2.2.2.1), (hF.cell (p := ⟨X, 6, none⟩) (lt_of_cell (hHeld.2.2.2.2.2.2)) id).trans (hHeld.2.2.2.2.2.2)⟩ (fun hHeld => ?_)
  clear hK K hF
  try simp only [Act.put, List.getElem_toArray, List.getElem_cons_zero, List.getElem_cons_succ, List.setIfInBounds_toArray, List.set_cons_zero, List.set_cons_succ]
  refine wpAnyH_ready (rs := [5]) (by kernel_rfl) (by simp) ?_
  refine AllReadyH.cons rfl (fun K hK => ?_) AllReadyH.nil
  rw [if_pos (by rfl)]
  go_simp
  refine (rf_two _ b 1 4096).mono ?_
  rintro e w2 ⟨rfl, hF⟩
  have HF2 := hid (HF1.out.trans hF)
  refine hK.out _ _ ⟨(hF.cell (p := ⟨X, 0, none⟩) (lt_of_cell (hHeld.1)) id).trans (hHeld.1), (hF.cell (p := ⟨X, 1, none⟩) (lt_of_cell (hHeld.2.1)) id).trans (hHeld.2.1), (hF.cell (p := ⟨X, 2, none⟩) (lt_of_cell (hHeld.2.2.1)) id).trans (hHeld.2.2.1), (hF.cell (p := ⟨X, 3, none⟩) (lt_of_cell (hHeld.2.2.2.1)) id).trans (hHeld.2.2.2.1), (hF.cell (p := ⟨X, 4, none⟩) (lt_of_cell (hHeld.2.2.2.2.1)) id).trans (hHeld.2.2.2.2.1), (hF.cell (p := ⟨X, 5, none⟩) (lt_of_cell (hHeld.2.2.2.2.2.1)) id).trans (hHeld.2.2.2.2.2.1), (hF.cell (p := ⟨X, 6, none⟩) (lt_of_cell (hHeld.2.2.2.2.2.2)) id).trans (hHeld.2.2.2.2.2.2)⟩ (fun hHeld => ?_)
  clear hK K hF
  try simp only [Act.put, List.getElem_toArray, List.getElem_cons_zero, List.getElem_cons_succ, List.setIfInBounds_toArray, List.set_cons_zero, List.set_cons_succ]
  refine wpAnyH_ready (rs := [8]) (by kernel_rfl) (by simp) ?_
  refine AllReadyH.cons rfl (fun K hK => ?_) AllReadyH.nil
  rw [if_pos (by rfl)]
  go_simp
  refine (rf_two _ s 1 1024).mono ?_
  rintro e w3 ⟨rfl, hF⟩
  have HF3 := hid (HF2.out.trans hF)
  refine hK.out _ _ ⟨(hF.cell (p := ⟨X, 0, none⟩) (lt_of_cell (hHeld.1)) id).trans (hHeld.1), (hF.cell (p := ⟨X, 1, none⟩) (lt_of_cell (hHeld.2.1)) id).trans (hHeld.2.1), (hF.cell (p := ⟨X, 2, none⟩) (lt_of_cell (hHeld.2.2.1)) id).trans (hHeld.2.2.1), (hF.cell (p := ⟨X, 3, none⟩) (lt_of_cell (hHeld.2.2.2.1)) id).trans (hHeld.2.2.2.1), (hF.cell (p := ⟨X, 4, none⟩) (lt_of_cell (hHeld.2.2.2.2.1)) id).trans (hHeld.2.2.2.2.1), (hF.cell (p := ⟨X, 5, none⟩) (lt_of_cell (hHeld.2.2.2.2.2.1)) id).trans (hHeld.2.2.2.2.2.1), (hF.cell (p := ⟨X, 6, none⟩) (lt_of_cell (hHeld.2.2.2.2.2.2)) id).trans (hHeld.2.2.2.2.2.2)⟩ (fun hHeld => ?_)
  clear hK K hF
  try simp only [Act.put, List.getElem_toArray, List.getElem_cons_zero, List.getElem_cons_succ, List.setIfInBounds_toArray, List.set_cons_zero, List.set_cons_succ]
  refine wpAnyH_ready (rs := [11]) (by kernel_rfl) (by simp) ?_
  refine AllReadyH.cons rfl (fun K hK => ?_) AllReadyH.nil
  rw [if_pos (by rfl)]
  go_simp
  refine (rf_two _ j 1 4096).mono ?_
  rintro e w4 ⟨rfl, hF⟩
  have HF4 := hid (HF3.out.trans hF)
  refine hK.out _ _ ⟨(hF.cell (p := ⟨X, 0, none⟩) (lt_of_cell (hHeld.1)) id).trans (hHeld.1), (hF.cell (p := ⟨X, 1, none⟩) (lt_of_cell (hHeld.2.1)) id).trans (hHeld.2.1), (hF.cell (p := ⟨X, 2, none⟩) (lt_of_cell (hHeld.2.2.1)) id).trans (hHeld.2.2.1), (hF.cell (p := ⟨X, 3, none⟩) (lt_of_cell (hHeld.2.2.2.1)) id).trans (hHeld.2.2.2.1), (hF.cell (p := ⟨X, 4, none⟩) (lt_of_cell (hHeld.2.2.2.2.1)) id).trans (hHeld.2.2.2.2.1), (hF.cell (p := ⟨X, 5, none⟩) (lt_of_cell (hHeld.2.2.2.2.2.1)) id).trans (hHeld.2.2.2.2.2.1), (hF.cell (p := ⟨X, 6, none⟩) (lt_of_cell (hHeld.2.2.2.2.2.2)) id).trans (hHeld.2.2.2.2.2.2)⟩ (fun hHeld => ?_)
  clear hK K hF
  try simp only [Act.put, List.getElem_toArray, List.getElem_cons_zero, List.getElem_cons_succ, List.setIfInBounds_toArray, List.set_cons_zero, List.set_cons_succ]
  refine wpAnyH_ready (rs := [14]) (by kernel_rfl) (by simp) ?_
  refine AllReadyH.cons rfl (fun K hK => ?_) AllReadyH.nil
  rw [if_pos (by rfl)]
  go_simp
  refine (rf_two _ p 1 4096).mono ?_
  rintro e w5 ⟨rfl, hF⟩
  have HF5 := hid (HF4.out.trans hF)
  refine hK.out _ _ ⟨(hF.cell (p := ⟨X, 0, none⟩) (lt_of_cell (hHeld.1)) id).trans (hHeld.1), (hF.cell (p := ⟨X, 1, none⟩) (lt_of_cell (hHeld.2.1)) id).trans (hHeld.2.1), (hF.cell (p := ⟨X, 2, none⟩) (lt_of_cell (hHeld.2.2.1)) id).trans (hHeld.2.2.1), (hF.cell (p := ⟨X, 3, none⟩) (lt_of_cell (hHeld.2.2.2.1)) id).trans (hHeld.2.2.2.1), (hF.cell (p := ⟨X, 4, none⟩) (lt_of_cell (hHeld.2.2.2.2.1)) id).trans (hHeld.2.2.2.2.1), (hF.cell (p := ⟨X, 5, none⟩) (lt_of_cell (hHeld.2.2.2.2.2.1)) id).trans (hHeld.2.2.2.2.2.1), (hF.cell (p := ⟨X, 6, none⟩) (lt_of_cell (hHeld.2.2.2.2.2.2)) id).trans (hHeld.2.2.2.2.2.2)⟩ (fun hHeld => ?_)
  clear hK K hF
  try simp only [Act.put, List.getElem_toArray, List.getElem_cons_zero, List.getElem_cons_succ, List.setIfInBounds_toArray, List.set_cons_zero, List.set_cons_succ]
  refine wpAnyH_ready (rs := [17]) (by kernel_rfl) (by simp) ?_
  refine AllReadyH.cons rfl (fun K hK => ?_) AllReadyH.nil
  rw [if_pos (by rfl)]
  go_simp
  refine (rf_two _ g 1 4096).mono ?_
  rintro e w6 ⟨rfl, hF⟩
  have HF6 := hid (HF5.out.trans hF)
  refine hK.out _ _ ⟨(hF.cell (p := ⟨X, 0, none⟩) (lt_of_cell (hHeld.1)) id).trans (hHeld.1), (hF.cell (p := ⟨X, 1, none⟩) (lt_of_cell (hHeld.2.1)) id).trans (hHeld.2.1), (hF.cell (p := ⟨X, 2, none⟩) (lt_of_cell (hHeld.2.2.1)) id).trans (hHeld.2.2.1), (hF.cell (p := ⟨X, 3, none⟩) (lt_of_cell (hHeld.2.2.2.1)) id).trans (hHeld.2.2.2.1), (hF.cell (p := ⟨X, 4, none⟩) (lt_of_cell (hHeld.2.2.2.2.1)) id).trans (hHeld.2.2.2.2.1), (hF.cell (p := ⟨X, 5, none⟩) (lt_of_cell (hHeld.2.2.2.2.2.1)) id).trans (hHeld.2.2.2.2.2.1), (hF.cell (p := ⟨X, 6, none⟩) (lt_of_cell (hHeld.2.2.2.2.2.2)) id).trans (hHeld.2.2.2.2.2.2)⟩ (fun hHeld => ?_)
  clear hK K hF
  try simp only [Act.put, List.getElem_toArray, List.getElem_cons_zero, List.getElem_cons_succ, List.setIfInBounds_toArray, List.set_cons_zero, List.set_cons_succ]
  have HBS := hid (ref_slice [(⟨i, 6, 0, 1099511627776⟩ : NumI), (⟨b, 2, 1, 4096⟩ : NumI), (⟨s, 2, 1, 1024⟩ : NumI), (⟨j, 2, 1, 4096⟩ : NumI), (⟨p, 2, 1, 4096⟩ : NumI), (⟨g, 2, 1, 4096⟩ : NumI), (⟨t, 1, 1, 64⟩ : NumI)] (by simp) (by simp) w6 #[(0, refT (⟨i, 6, 0, 1099511627776⟩ : NumI)), (1, refT (⟨b, 2, 1, 4096⟩ : NumI)), (2, refT (⟨s, 2, 1, 1024⟩ : NumI)), (3, refT (⟨j, 2, 1, 4096⟩ : NumI)), (4, refT (⟨p, 2, 1, 4096⟩ : NumI)), (5, refT (⟨g, 2, 1, 4096⟩ : NumI)), (6, refT (⟨t, 1, 1, 64⟩ : NumI))] rfl)
  have HN := hid (refs_new [(⟨i, 6, 0, 1099511627776⟩ : NumI), (⟨b, 2, 1, 4096⟩ : NumI), (⟨s, 2, 1, 1024⟩ : NumI), (⟨j, 2, 1, 4096⟩ : NumI), (⟨p, 2, 1, 4096⟩ : NumI), (⟨g, 2, 1, 4096⟩ : NumI), (⟨t, 1, 1, 64⟩ : NumI)] (by simp) w6 w.heap.size HF6.out.size)
  refine wpAnyH_ready (rs := [21]) (by kernel_rfl) (by simp) ?_
  refine AllReadyH.cons rfl (fun K hK => ?_) AllReadyH.nil
  rw [if_pos (by rfl)]
  refine wp_buildS 33 7 _ rfl _ (by simp [Act.eval, refT]) _ _ HBS.out ?_
  have hF := (Fr.refl No w6).alloc (.cells (List.flatMap refL [(⟨i, 6, 0, 1099511627776⟩ : NumI), (⟨b, 2, 1, 4096⟩ : NumI), (⟨s, 2, 1, 1024⟩ : NumI), (⟨j, 2, 1, 4096⟩ : NumI), (⟨p, 2, 1, 4096⟩ : NumI), (⟨g, 2, 1, 4096⟩ : NumI), (⟨t, 1, 1, 64⟩ : NumI)]).toArray 96)
  have HF7 := hid (HF6.out.trans hF)
  refine hK.out _ _ ⟨(hF.cell (p := ⟨X, 0, none⟩) (lt_of_cell (hHeld.1)) id).trans (hHeld.1), (hF.cell (p := ⟨X, 1, none⟩) (lt_of_cell (hHeld.2.1)) id).trans (hHeld.2.1), (hF.cell (p := ⟨X, 2, none⟩) (lt_of_cell (hHeld.2.2.1)) id).trans (hHeld.2.2.1), (hF.cell (p := ⟨X, 3, none⟩) (lt_of_cell (hHeld.2.2.2.1)) id).trans (hHeld.2.2.2.1), (hF.cell (p := ⟨X, 4, none⟩) (lt_of_cell (hHeld.2.2.2.2.1)) id).trans (hHeld.2.2.2.2.1), (hF.cell (p := ⟨X, 5, none⟩) (lt_of_cell (hHeld.2.2.2.2.2.1)) id).trans (hHeld.2.2.2.2.2.1), (hF.cell (p := ⟨X, 6, none⟩) (lt_of_cell (hHeld.2.2.2.2.2.2)) id).trans (hHeld.2.2.2.2.2.2)⟩ (fun hHeld => ?_)
  clear hK K hF HBS
  try simp only [Act.put, List.getElem_toArray, List.getElem_cons_zero, List.getElem_cons_succ, List.setIfInBounds_toArray, List.set_cons_zero, List.set_cons_succ]
  obtain ⟨w7, hw⟩ : ∃ W, w6.alloc (.cells (List.flatMap refL [(⟨i, 6, 0, 1099511627776⟩ : NumI), (⟨b, 2, 1, 4096⟩ : NumI), (⟨s, 2, 1, 1024⟩ : NumI), (⟨j, 2, 1, 4096⟩ : NumI), (⟨p, 2, 1, 4096⟩ : NumI), (⟨g, 2, 1, 4096⟩ : NumI), (⟨t, 1, 1, 64⟩ : NumI)]).toArray 96) = W := ⟨_, rfl⟩
  rw [hw] at HN HF7 hHeld ⊢
  clear hw
  refine wpAnyH_take (i := 22) (v := ?_) rfl (by kernel_rfl) (by kernel_rfl) (by kernel_rfl) (fun _ _ _ h => h) (Or.inl ⟨by rfl, ?_⟩) hHeld ?_
  rotate_left
  · intro w hSw
    go_simp
    with_reducible rfl
  try simp only [Act.put, List.getElem_toArray, List.getElem_cons_zero, List.getElem_cons_succ, List.setIfInBounds_toArray, List.set_cons_zero, List.set_cons_succ]
  refine wpAnyH_done (by kernel_rfl) ?_ _
  go_wp2_with fail
  go_ret
  exact ⟨_, rfl, HN.out, HF7.out⟩
end Go.Proofs.YtpifiamafgaadaaDoor
