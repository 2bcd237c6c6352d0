/- forms: what the forms are, and which numbers go together. -/
import Derived.Test.YtpifiamafgaadaaDoorFmD
namespace Go.Proofs.YtpifiamafgaadaaDoor
open Go.RowKit Go.Shelf
theorem fm_records (w : World) : Calls Tryd.prog 16 #[] w fun e w' => e = .returned (.agg #[.int .i64 2, .func (.func 34) #[] #[], .func (.func 36) #[] #[]]) ∧ Fr No w w' := by
  go_enter Tryd.func16, Tryd.ntmps16
  go_wp2_with fail
  exact bodyPost_ret (results_cell_row (fn := Tryd.f16) (p := 0) rfl _ _ w.heap.size 56 _ (0, 0) _ rfl (heap_new w _) Tryd.underlying56 rfl (by kernel_rfl)) rfl ⟨rfl, (Fr.refl No w).alloc _⟩
theorem fm_pages (w : World) : Calls Tryd.prog 24 #[] w fun e w' => e = .returned (.agg #[.int .i64 3, .func (.func 46) #[] #[], .func (.func 47) #[] #[]]) ∧ Fr No w w' := by
  go_enter Tryd.func24, Tryd.ntmps24
  go_wp2_with fail
  exact bodyPost_ret (results_cell_row (fn := Tryd.f24) (p := 0) rfl _ _ w.heap.size 74 _ (0, 0) _ rfl (heap_new w _) Tryd.underlying74 rfl (by kernel_rfl)) rfl ⟨rfl, (Fr.refl No w).alloc _⟩
theorem fm_intents (w : World) : Calls Tryd.prog 42 #[] w fun e w' => e = .returned (.agg #[.int .i64 4, .func (.func 56) #[] #[], .func (.func 58) #[] #[]]) ∧ Fr No w w' := by
  go_enter Tryd.func42, Tryd.ntmps42
  go_wp2_with fail
  exact bodyPost_ret (results_cell_row (fn := Tryd.f42) (p := 0) rfl _ _ w.heap.size 107 _ (0, 0) _ rfl (heap_new w _) Tryd.underlying107 rfl (by kernel_rfl)) rfl ⟨rfl, (Fr.refl No w).alloc _⟩
theorem fm_supers2 (w : World) (cs : Array Value) : Calls Tryd.prog 33 #[.agg cs] w fun e w' => e = .returned (.bool true) ∧ Fr No w w' := by
  go_enter Tryd.func33, Tryd.ntmps33
  go_wp2_with fail
  go_ret
  exact ⟨rfl, (Fr.refl No w).alloc _⟩
set_option maxRecDepth 100000 in
theorem fm_intents1 (w : World) (X : Nat) (i q f n : Int) (cs : Array Value) (T : TypeId) (hb : w.heap[X]? = some (.cells cs T (0, 0))) (h0 : cs[0]? = some (.int .i64 i)) (h1 : cs[1]? = some (.int .i64 q)) (h2 : cs[2]? = some (.int .i64 f)) (h3 : cs[3]? = some (.int .i64 n)) :
    Calls Tryd.prog 56 #[.pointer (some ⟨X, 0, none⟩)] w fun e w' => ∃ v, e = .returned v ∧ Nums w' v (spanN i q f n) (fun q => q = X) w.heap.size ∧ Fr No w w' := by
  go_enter Tryd.func56, Tryd.ntmps56
  go_wp2_with fail
  have hX := lt_of_block hb
  refine wp_region_held_drew (S := fun W => W.heap[X]? = some (.cells cs T (0, 0))) (by kernel_rfl) hb (fun hHeld => ?_)
  have H0 := hid h0
  have H1 := hid h1
  have H2 := hid h2
  have H3 := hid h3
  clear h0 h1 h2 h3
  have HD := hid (Fr.refl No w).drew
  obtain ⟨wz, hwz⟩ : ∃ z, w.drew = z := ⟨_, rfl⟩
  have HZ : Hid (w.heap.size = wz.heap.size) := by rw [← hwz]; rfl
  rw [hwz] at HD hHeld ⊢
  refine wpAnyH_take (i := 0) (v := ?_) rfl (by kernel_rfl) (by kernel_rfl) (by kernel_rfl) (fun _ _ _ h => h) (Or.inl ⟨by rfl, ?_⟩) hHeld ?_
  rotate_left
  · intro w hSw
    go_simp
    with_reducible rfl
  try simp only [Act.put, List.getElem_toArray, List.getElem_cons_zero, List.getElem_cons_succ, List.setIfInBounds_toArray, List.set_cons_zero, List.set_cons_succ]
  refine wpAnyH_take (i := 1) (v := ?_) rfl (by kernel_rfl) (by kernel_rfl) (by kernel_rfl) (fun _ _ _ h => h) (Or.inl ⟨by rfl, ?_⟩) hHeld ?_
  rotate_left
  · intro w hSw
    go_simp
    with_reducible rfl
  try simp only [Act.put, List.getElem_toArray, List.getElem_cons_zero, List.getElem_cons_succ, List.setIfInBounds_toArray, List.set_cons_zero, List.set_cons_succ]
  refine wpAnyH_take (i := 2) (v := ?_) rfl (by kernel_rfl) (by kernel_rfl) (by kernel_rfl) (fun _ _ _ h => h) (Or.inl ⟨by rfl, ?_⟩) hHeld ?_
  rotate_left
  · intro w hSw
    go_simp
    with_reducible rfl
  try simp only [Act.put, List.getElem_toArray, List.getElem_cons_zero, List.getElem_cons_succ, List.setIfInBounds_toArray, List.set_cons_zero, List.set_cons_succ]
  refine wpAnyH_take (i := 3) (v := ?_) rfl (by kernel_rfl) (by kernel_rfl) (by kernel_rfl) (fun _ _ _ h => h) (Or.inl ⟨by rfl, ?_⟩) hHeld ?_
  rotate_left
  · intro w hSw
    go_simp
    with_reducible rfl
  try simp only [Act.put, List.getElem_toArray, List.getElem_cons_zero, List.getElem_cons_succ, List.setIfInBounds_toArray, List.set_cons_zero, List.set_cons_succ]
  refine wpAnyH_take (i := 4) (v := ?_) rfl (by kernel_rfl) (by kernel_rfl) (by kernel_rfl) (fun _ _ _ h => h) (Or.inl ⟨by rfl, ?_⟩) hHeld ?_
  rotate_left
  · intro w hSw
    go_simp
    with_reducible rfl
  try simp only [Act.put, List.getElem_toArray, List.getElem_cons_zero, List.getElem_cons_succ, List.setIfInBounds_toArray, List.set_cons_zero, List.set_cons_succ]
  refine wpAnyH_take (i := 5) (v := ?_) rfl (by kernel_rfl) (by kernel_rfl) (by kernel_rfl) (fun _ _ _ h => h) (Or.inl ⟨by rfl, ?_⟩) hHeld ?_
  rotate_left
  · intro w hSw
    go_simp
    with_reducible rfl
  try simp only [Act.put, List.getElem_toArray, List.getElem_cons_zero, List.getElem_cons_succ, List.setIfInBounds_toArray, List.set_cons_zero, List.set_cons_succ]
  refine wpAnyH_take (i := 6) (v := ?_) rfl (by kernel_rfl) (by kernel_rfl) (by kernel_rfl) (fun _ _ _ h => h) (Or.inl ⟨by rfl, ?_⟩) hHeld ?_
  rotate_left
  · intro w hSw
    go_simp
    with_reducible rfl
  try simp only [Act.put, List.getElem_toArray, List.getElem_cons_zero, List.getElem_cons_succ, List.setIfInBounds_toArray, List.set_cons_zero, List.set_cons_succ]
  refine wpAnyH_take (i := 7) (v := ?_) rfl (by kernel_rfl) (by kernel_rfl) (by kernel_rfl) (fun _ _ _ h => h) (Or.inl ⟨by rfl, ?_⟩) hHeld ?_
  rotate_left
  · intro w hSw
    go_simp
    with_reducible rfl
  try simp only [Act.put, List.getElem_toArray, List.getElem_cons_zero, List.getElem_cons_succ, List.setIfInBounds_toArray, List.set_cons_zero, List.set_cons_succ]
  refine wpAnyH_take (i := 8) (v := ?_) rfl (by kernel_rfl) (by kernel_rfl) (by kernel_rfl) (fun _ _ _ h => h) (Or.inl ⟨by rfl, ?_⟩) hHeld ?_
  rotate_left
  · intro w hSw
    go_simp
    with_reducible rfl
  try simp only [Act.put, List.getElem_toArray, List.getElem_cons_zero, List.getElem_cons_succ, List.setIfInBounds_toArray, List.set_cons_zero, List.set_cons_succ]
  refine wpAnyH_ready (rs := [9]) (by kernel_rfl) (by simp) ?_
  refine AllReadyH.cons rfl (fun K hK => ?_) AllReadyH.nil
  rw [if_pos (by rfl)]
  go_simp
  refine (fm_purged wz X i q f n cs T hHeld H0.out H1.out H2.out H3.out).mono ?_
  rintro e w1 ⟨v, rfl, hN, hF⟩
  refine hK.out _ _ ((hF.block X (HD.out.lt hX) id).trans hHeld) (fun hHeld => ?_)
  have HN := hid hN
  have HF := hid (HD.out.trans hF)
  clear hK K hN hF
  try simp only [Act.put, List.getElem_toArray, List.getElem_cons_zero, List.getElem_cons_succ, List.setIfInBounds_toArray, List.set_cons_zero, List.set_cons_succ]
  refine wpAnyH_take (i := 10) (v := ?_) rfl (by kernel_rfl) (by kernel_rfl) (by kernel_rfl) (fun _ _ _ h => h) (Or.inl ⟨by rfl, ?_⟩) hHeld ?_
  rotate_left
  · intro w hSw
    go_simp
    with_reducible rfl
  try simp only [Act.put, List.getElem_toArray, List.getElem_cons_zero, List.getElem_cons_succ, List.setIfInBounds_toArray, List.set_cons_zero, List.set_cons_succ]
  refine wpAnyH_done (by kernel_rfl) ?_ _
  go_wp2_with fail
  go_ret
  exact ⟨_, rfl, by rw [HZ.out]; exact HN.out, HF.out⟩
theorem fm_spanFits (w : World) : Calls Tryd.prog 59 #[.agg #[.int .i64 3, .int .i64 2]] w fun e w' => e = .returned (.bool true) ∧ Fr No w w' := by
  go_enter Tryd.func59, Tryd.ntmps59
  go_wp2_with fail
  go_ret
  exact ⟨rfl, (Fr.refl No w).alloc _⟩
set_option maxRecDepth 100000 in
theorem fm_intents2 (w : World) : Calls Tryd.prog 58 #[.agg #[.int .i64 5, .int .i64 9, .int .i64 3, .int .i64 2]] w fun e w' => e = .returned (.bool true) ∧ Fr No w w' := by
  go_enter Tryd.func58, Tryd.ntmps58
  go_wp2_with fail
  refine (fm_spanFits _).mono ?_
  rintro e w' ⟨rfl, hF⟩
  have HF := hid (((Fr.refl No w).alloc _).trans hF)
  clear hF
  go_wp2_with fail
  go_ret
  exact ⟨rfl, HF.out⟩
set_option maxRecDepth 100000 in
theorem fm_records2 (w : World) (q l o b s u : Int) (d : Bool) : Calls Tryd.prog 36 #[.agg #[.int .i64 q, .int .i64 l, .int .i64 o, .int .i64 b, .int .i64 s, .bool d, .int .i64 u]] w fun e w' => e = .returned (.bool (recFits o ⟨b, s, d, u⟩)) ∧ Fr No w w' := by
  unfold recFits
  obtain ⟨R, hR⟩ : ∃ R, (decide (o = 0) || (decide (s = 0) && !d && decide (u = 0))) = R := ⟨_, rfl⟩
  show Calls _ _ _ _ fun e w' => e = .returned (.bool (decide (o = 0) || (decide (s = 0) && !d && decide (u = 0)))) ∧ Fr No w w'
  rw [hR]
  have HR := hid hR
  clear hR
  by_cases ho : o = 0
  · subst ho
    go_enter Tryd.func36, Tryd.ntmps36
    go_wp2_with fail
    all_goals
      go_ret
      have hR := HR.out
      exact ⟨by rw [← hR]; simp, (Fr.refl No w).alloc _⟩
  · go_enter Tryd.func36, Tryd.ntmps36
    go_wp2_with fail
    all_goals
      go_ret
      have hR := HR.out
      have ho' : (o == 0) = false := by simp [ho]
      exact ⟨by rw [← hR]; simp_all [BEq.beq], (Fr.refl No w).alloc _⟩
end Go.Proofs.YtpifiamafgaadaaDoor
