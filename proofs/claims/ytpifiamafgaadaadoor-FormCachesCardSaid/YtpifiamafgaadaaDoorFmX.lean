/- forms: the reference's numbers. -/
import Derived.Test.YtpifiamafgaadaaDoorFmW
namespace Go.Proofs.YtpifiamafgaadaaDoor
open Go.RowKit Go.Shelf
set_option maxRecDepth 1000000 in
set_option maxHeartbeats 4000000 in
theorem rf_Record (w : World) (q l o b s u : Int) (d : Bool) : Calls Tryd.prog 20 #[.agg #[.int .i64 q, .int .i64 l, .int .i64 o, .int .i64 b, .int .i64 s, .int .i64 u], .bool d] w fun e w' => ∃ v, e = .returned v ∧ Refs w' v (recR q l o ⟨b, s, d, u⟩) w.heap.size ∧ Fr No w w' := by
  go_enter Tryd.func20, Tryd.ntmps20
  have hb := heap_new w (.cells #[.int .i64 q, .int .i64 l, .int .i64 o, .int .i64 b, .int .i64 s, .int .i64 u] 63)
  have g0 := (cell_blk hb 0).trans rfl
  have g1 := (cell_blk hb 1).trans rfl
  have g2 := (cell_blk hb 2).trans rfl
  have g3 := (cell_blk hb 3).trans rfl
  have g4 := (cell_blk hb 4).trans rfl
  have g5 := (cell_blk hb 5).trans rfl
  have HF0 := hid (((Fr.refl No w).alloc (.cells #[.int .i64 q, .int .i64 l, .int .i64 o, .int .i64 b, .int .i64 s, .int .i64 u] 63)).drew)
  clear hb
  go_wp2_with fail
  obtain ⟨X, hX⟩ : ∃ X, w.heap.size = X := ⟨_, rfl⟩
  have HX := hid hX
  rw [hX] at g0 g1 g2 g3 g4 g5 ⊢
  refine wp_region_held_drew (S := fun W => W.cell? ⟨X, 0, none⟩ = some (.int .i64 q) ∧ W.cell? ⟨X, 1, none⟩ = some (.int .i64 l) ∧ W.cell? ⟨X, 2, none⟩ = some (.int .i64 o) ∧ W.cell? ⟨X, 3, none⟩ = some (.int .i64 b) ∧ W.cell? ⟨X, 4, none⟩ = some (.int .i64 s) ∧ W.cell? ⟨X, 5, none⟩ = some (.int .i64 u)) (by kernel_rfl) ⟨g0, g1, g2, g3, g4, g5⟩ (fun hHeld => ?_)
  clear g0 g1 g2 g3 g4 g5
  obtain ⟨w0, hw0⟩ : ∃ W, (w.alloc (.cells #[.int .i64 q, .int .i64 l, .int .i64 o, .int .i64 b, .int .i64 s, .int .i64 u] 63)).drew = W := ⟨_, rfl⟩
  rw [hw0] at HF0 hHeld ⊢
  clear hw0 hX
  refine wpAnyH_take (i := 0) (v := ?_) rfl (by kernel_rfl) (by kernel_rfl) (by kernel_rfl) (fun _ _ _ h => h) (Or.inl ⟨by rfl, ?_⟩) hHeld ?_
  rotate_left
  · intro w hSw; obtain ⟨g0, g1, g2, g3, g4, g5⟩ := hSw
    go_simp
    with_reducible rfl
  try simp only [Act.put, List.getElem_toArray, List.getElem_cons_zero, List.getElem_cons_succ, List.setIfInBounds_toArray, List.set_cons_zero, List.set_cons_succ]
  refine wpAnyH_take (i := 1) (v := ?_) rfl (by kernel_rfl) (by kernel_rfl) (by kernel_rfl) (fun _ _ _ h => h) (Or.inl ⟨by rfl, ?_⟩) hHeld ?_
  rotate_left
  · intro w hSw; obtain ⟨g0, g1, g2, g3, g4, g5⟩ := hSw
    go_simp
    with_reducible rfl
  try simp only [Act.put, List.getElem_toArray, List.getElem_cons_zero, List.getElem_cons_succ, List.setIfInBounds_toArray, List.set_cons_zero, List.set_cons_succ]
  refine wpAnyH_take (i := 3) (v := ?_) rfl (by kernel_rfl) (by kernel_rfl) (by kernel_rfl) (fun _ _ _ h => h) (Or.inl ⟨by rfl, ?_⟩) hHeld ?_
  rotate_left
  · intro w hSw; obtain ⟨g0, g1, g2, g3, g4, g5⟩ := hSw
    go_simp
    with_reducible rfl
  try simp only [Act.put, List.getElem_toArray, List.getElem_cons_zero, List.getElem_cons_succ, List.setIfInBounds_toArray, List.set_cons_zero, List.set_cons_succ]
  refine wpAnyH_take (i := 4) (v := ?_) rfl (by kernel_rfl) (by kernel_rfl) (by kernel_rfl) (fun _ _ _ h => h) (Or.inl ⟨by rfl, ?_⟩) hHeld ?_
  rotate_left
  · intro w hSw; obtain ⟨g0, g1, g2, g3, g4, g5⟩ := hSw
    go_simp
    with_reducible rfl
  try simp only [Act.put, List.getElem_toArray, List.getElem_cons_zero, List.getElem_cons_succ, List.setIfInBounds_toArray, List.set_cons_zero, List.set_cons_succ]
  refine wpAnyH_take (i := 6) (v := ?_) rfl (by kernel_rfl) (by kernel_rfl) (by kernel_rfl) (fun _ _ _ h => h) (Or.inl ⟨by rfl, ?_⟩) hHeld ?_
  rotate_left
  · intro w hSw; obtain ⟨g0, g1, g2, g3, g4, g5⟩ := hSw
    go_simp
    with_reducible rfl
  try simp only [Act.put, List.getElem_toArray, List.getElem_cons_zero, List.getElem_cons_succ, List.setIfInBounds_toArray, List.set_cons_zero, List.set_cons_succ]
  refine wpAnyH_take (i := 7) (v := ?_) rfl (by kernel_rfl) (by kernel_rfl) (by kernel_rfl) (fun _ _ _ h => h) (Or.inl ⟨by rfl, ?_⟩) hHeld ?_
  rotate_left
  · intro w hSw; obtain ⟨g0, g1, g2, g3, g4, g5⟩ := hSw
    go_simp
    with_reducible rfl
  try simp only [Act.put, List.getElem_toArray, List.getElem_cons_zero, List.getElem_cons_succ, List.setIfInBounds_toArray, List.set_cons_zero, List.set_cons_succ]
  refine wpAnyH_take (i := 8) (v := ?_) rfl (by kernel_rfl) (by kernel_rfl) (by kernel_rfl) (fun _ _ _ h => h) (Or.inl ⟨by rfl, ?_⟩) hHeld ?_
  rotate_left
  · intro w hSw; obtain ⟨g0, g1, g2, g3, g4, g5⟩ := hSw
    go_simp
    with_reducible rfl
  try simp only [Act.put, List.getElem_toArray, List.getElem_cons_zero, List.getElem_cons_succ, List.setIfInBounds_toArray, List.set_cons_zero, List.set_cons_succ]
  refine wpAnyH_ready (rs := [2]) (by kernel_rfl) (by simp) ?_
  refine AllReadyH.cons rfl (fun K hK => ?_) AllReadyH.nil
  rw [if_pos (by rfl)]
  go_simp
  refine (rf_seq _ q 1).mono ?_
  rintro e w1 ⟨rfl, hF⟩
  have HF1 := hid (HF0.out.trans hF)
  refine hK.out _ _ ⟨(hF.cell (p := ⟨X, 0, none⟩) (lt_of_cell (hHeld.1)) id).trans (hHeld.1), (hF.cell (p := ⟨X, 1, none⟩) (lt_of_cell (hHeld.2.1)) id).trans (hHeld.2.1), (hF.cell (p := ⟨X, 2, none⟩) (lt_of_cell (hHeld.2.2.1)) id).trans (hHeld.2.2.1), (hF.cell (p := ⟨X, 3, none⟩) (lt_of_cell (hHeld.2.2.2.1)) id).trans (hHeld.2.2.2.1), (hF.cell (p := ⟨X, 4, none⟩) (lt_of_cell (hHeld.2.2.2.2.1)) id).trans (hHeld.2.2.2.2.1), (hF.cell (p := ⟨X, 5, none⟩) (lt_of_cell (hHeld.2.2.2.2.2)) id).trans (hHeld.2.2.2.2.2)⟩ (fun hHeld => ?_)
  clear hK K hF
  try simp only [Act.put, List.getElem_toArray, List.getElem_cons_zero, List.getElem_cons_succ, List.setIfInBounds_toArray, List.set_cons_zero, List.set_cons_succ]
  refine wpAnyH_ready (rs := [5]) (by kernel_rfl) (by simp) ?_
  refine AllReadyH.cons rfl (fun K hK => ?_) AllReadyH.nil
  rw [if_pos (by rfl)]
  go_simp
  refine (rf_seq _ l 0).mono ?_
  rintro e w2 ⟨rfl, hF⟩
  have HF2 := hid (HF1.out.trans hF)
  refine hK.out _ _ ⟨(hF.cell (p := ⟨X, 0, none⟩) (lt_of_cell (hHeld.1)) id).trans (hHeld.1), (hF.cell (p := ⟨X, 1, none⟩) (lt_of_cell (hHeld.2.1)) id).trans (hHeld.2.1), (hF.cell (p := ⟨X, 2, none⟩) (lt_of_cell (hHeld.2.2.1)) id).trans (hHeld.2.2.1), (hF.cell (p := ⟨X, 3, none⟩) (lt_of_cell (hHeld.2.2.2.1)) id).trans (hHeld.2.2.2.1), (hF.cell (p := ⟨X, 4, none⟩) (lt_of_cell (hHeld.2.2.2.2.1)) id).trans (hHeld.2.2.2.2.1), (hF.cell (p := ⟨X, 5, none⟩) (lt_of_cell (hHeld.2.2.2.2.2)) id).trans (hHeld.2.2.2.2.2)⟩ (fun hHeld => ?_)
  clear hK K hF
  try simp only [Act.put, List.getElem_toArray, List.getElem_cons_zero, List.getElem_cons_succ, List.setIfInBounds_toArray, List.set_cons_zero, List.set_cons_succ]
  have HBS := hid (ref_slice [(⟨q, 6, 1, 1099511627776⟩ : NumI), (⟨l, 6, 0, 1099511627776⟩ : NumI), (⟨o, 1, 0, 1⟩ : NumI)] (by simp) (by simp) w2 #[(0, refT (⟨q, 6, 1, 1099511627776⟩ : NumI)), (1, refT (⟨l, 6, 0, 1099511627776⟩ : NumI)), (2, refT (⟨o, 1, 0, 1⟩ : NumI))] rfl)
  have HN := hid (refs_new [(⟨q, 6, 1, 1099511627776⟩ : NumI), (⟨l, 6, 0, 1099511627776⟩ : NumI), (⟨o, 1, 0, 1⟩ : NumI)] (by simp) w2 w.heap.size HF2.out.size)
  refine wpAnyH_ready (rs := [9]) (by kernel_rfl) (by simp) ?_
  refine AllReadyH.cons rfl (fun K hK => ?_) AllReadyH.nil
  rw [if_pos (by rfl)]
  refine wp_buildS 33 3 _ rfl _ (by simp [Act.eval, refT]) _ _ HBS.out ?_
  have hF := (Fr.refl No w2).alloc (.cells (List.flatMap refL [(⟨q, 6, 1, 1099511627776⟩ : NumI), (⟨l, 6, 0, 1099511627776⟩ : NumI), (⟨o, 1, 0, 1⟩ : NumI)]).toArray 96)
  have HF3 := hid (HF2.out.trans hF)
  refine hK.out _ _ ⟨(hF.cell (p := ⟨X, 0, none⟩) (lt_of_cell (hHeld.1)) id).trans (hHeld.1), (hF.cell (p := ⟨X, 1, none⟩) (lt_of_cell (hHeld.2.1)) id).trans (hHeld.2.1), (hF.cell (p := ⟨X, 2, none⟩) (lt_of_cell (hHeld.2.2.1)) id).trans (hHeld.2.2.1), (hF.cell (p := ⟨X, 3, none⟩) (lt_of_cell (hHeld.2.2.2.1)) id).trans (hHeld.2.2.2.1), (hF.cell (p := ⟨X, 4, none⟩) (lt_of_cell (hHeld.2.2.2.2.1)) id).trans (hHeld.2.2.2.2.1), (hF.cell (p := ⟨X, 5, none⟩) (lt_of_cell (hHeld.2.2.2.2.2)) id).trans (hHeld.2.2.2.2.2)⟩ (fun hHeld => ?_)
  clear hK K hF HBS
  try simp only [Act.put, List.getElem_toArray, List.getElem_cons_zero, List.getElem_cons_succ, List.setIfInBounds_toArray, List.set_cons_zero, List.set_cons_succ]
  obtain ⟨w3, hw⟩ : ∃ W, w2.alloc (.cells (List.flatMap refL [(⟨q, 6, 1, 1099511627776⟩ : NumI), (⟨l, 6, 0, 1099511627776⟩ : NumI), (⟨o, 1, 0, 1⟩ : NumI)]).toArray 96) = W := ⟨_, rfl⟩
  rw [hw] at HN HF3 hHeld ⊢
  clear hw
  refine wpAnyH_take (i := 10) (v := ?_) rfl (by kernel_rfl) (by kernel_rfl) (by kernel_rfl) (fun _ _ _ h => h) (Or.inl ⟨by rfl, ?_⟩) hHeld ?_
  rotate_left
  · intro w hSw
    go_simp
    with_reducible rfl
  try simp only [Act.put, List.getElem_toArray, List.getElem_cons_zero, List.getElem_cons_succ, List.setIfInBounds_toArray, List.set_cons_zero, List.set_cons_succ]
  refine wpAnyH_done (by kernel_rfl) ?_ _
  go_wp2_with fail
  refine (rf_Entry w3 b s u d false).mono ?_
  rintro e wy ⟨v, rfl, hE, hF⟩
  have HE := hid (hE.lower HF3.out.size)
  have HNz := HN
  have HFz := HF3
  have HNy := hid (HNz.out.no hF)
  have HFy := hid (HFz.out.trans hF)
  have HGE := hid (show ∀ k, v.ownBlock = some k → w3.heap.size ≤ k from fun k hk => (World.ownsRow.lt hE k hk).1)
  have c2 := (hF.cell (p := ⟨X, 2, none⟩) (lt_of_cell hHeld.2.2.1) id).trans hHeld.2.2.1
  clear hF hE hHeld
  by_cases ho : o = 1
  · have HO := hid ho
    have ho' : (o == 1) = true := by simp [ho]
    clear ho
    obtain ⟨e0, ⟨_, e1⟩ | ⟨g, cap, cur, hv, hg, hb, k4, k5, k6, k7⟩⟩ := HE.out
    · exact absurd e1 (by simp [entR, entP])
    have hv : v = .slice (some ⟨g, 0, none⟩) 4 cap := hv
    subst hv
    have HGZ := hid (show w3.heap.size ≤ g from HGE.out g rfl)
    have HE : Hid (Refs wy (.slice (some ⟨g, 0, none⟩) 4 cap) (entK ⟨b, s, d, u⟩ 1 1) w.heap.size) := HE
    clear e0 hg hb k4 k5 k6 k7
    go_wp2_with fail
    go_loopg [7] 3 (fun gk i wr => ∃ k : Nat, k + gk = 4 ∧ 1 ≤ k ∧ i = .int .i64 k ∧ Hid (Refs wr (.slice (some ⟨g, 0, none⟩) 4 cap) (entK ⟨b, s, d, u⟩ 1 k) w.heap.size) ∧ Hid (Fr (fun q => q = g) wy wr))
    case atStart => exact ⟨1, by omega, by omega, rfl, HE.out, Fr.refl _ _⟩
    case round =>
      obtain ⟨k, hk, hk1, rfl, HR, HF⟩ := hrel
      cases gk with
      | succ gk =>
        have hk4 : k < 4 := by omega
        have hk5 : (k : Int) < 4 := by omega
        obtain ⟨⟨v0, c0⟩, f0, hR, hB⟩ := refs_zero hk4 hk1 HR.out
        have HR2 := hid hR
        have HF2 := hid (HF.out.setCell (p := ⟨g, k * 4 + 3, none⟩) (fun h => rfl) (.int .i64 0))
        clear hR HR HF
        go_wp2_with fail
        go_roundg gk
        case measure => omega
        case rel => exact ⟨k + 1, by omega, by omega, by go_num, HR2, HF2⟩
      | zero =>
        obtain rfl : k = 4 := by omega
        have HNr := hid (HNy.out.frk HF.out (fun q hq e => by
          have e : q = g := e
          have := HNz.out.lt q hq
          have := HGZ.out
          have h5 := this
          have h6 := (World.ownsRow.lt HNz.out q hq).2
          omega))
        have HFr := hid (HFy.out.then HF.out (fun i hi e => by have e : i = g := e; have := HGZ.out; have := HFz.out.size; omega))
        go_wp2_with (at_builtin; refine wpList_append_refs rfl (.tmp 37) (.tmp 38) rfl _ _ rfl rfl _ _ w.heap.size w.heap.size HNr.out HR.out (by simp [entK]) (by simp [entK]) HFr.out.size ?_; intro v' w' hN hF; have HNq := hid hN; have HFq := hid (HFr.out.then hF (fun i hi e => by have e : w.heap.size ≤ i := e; omega)); clear hN hF)
        go_ret
        exact ⟨_, rfl, by have := HNq.out; unfold recR; rw [if_pos HO.out]; exact this, HFq.out⟩
  · have HO := hid ho
    have ho' : (o == 1) = false := by simp [ho]
    clear ho
    go_wp2_with (at_builtin; refine wpList_append_refs rfl (.tmp 37) (.tmp 38) rfl _ _ rfl rfl _ _ w.heap.size w.heap.size HNy.out HE.out (by simp [entR, entP]) (by simp [entR, entP]) HFy.out.size ?_; intro v' w' hN hF; have HNq := hid hN; have HFq := hid (HFy.out.then hF (fun i hi e => by have e : w.heap.size ≤ i := e; omega)); clear hN hF)
    go_ret
    exact ⟨_, rfl, by have := HNq.out; unfold recR; rw [if_neg HO.out]; exact this, HFq.out⟩
end Go.Proofs.YtpifiamafgaadaaDoor
