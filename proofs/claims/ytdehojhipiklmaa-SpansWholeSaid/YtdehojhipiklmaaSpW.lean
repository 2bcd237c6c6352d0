/- slices.Replace at spans: in the middle, going on into the room; Replace. -/
import Derived.Test.YtdehojhipiklmaaSpV
namespace Go.Proofs.Ytdehojhipiklmaa
open Go.RowKit

set_option maxRecDepth 100000 in
set_option maxHeartbeats 2000000 in
theorem sp_rep_expand (w : World) (g n c : Nat) (L : List Sp) (hln : L.length = n) (h : w.ownsRow 0 24 2 (.slice (some ⟨g, 0, none⟩) n c) n (L.flatMap spV)) (i j d : Nat) (hij : i < j) (hjd : j + d = n) (hd : 0 < d) (hn : n ≤ 1500000) (gN m cN : Nat) (N : List Sp) (hlm : N.length = m) (hN : w.ownsRow 0 24 2 (.slice (some ⟨gN, 0, none⟩) m cN) m (N.flatMap spV)) (hm2 : m ≤ 1500000) (hne : gN ≠ g) (hfit : j < i + m) (hroom : i + m + d ≤ c) (hc63 : c ≤ 9223372036854775807) :
    Calls Try.prog 34 #[.slice (some ⟨g, 0, none⟩) n c, .int .i64 i, .int .i64 j, .slice (some ⟨gN, 0, none⟩) m cN] w fun e w' => e = .returned (.slice (some ⟨g, 0, none⟩) (i + m + d) c) ∧ w'.ownsRow 0 24 2 (.slice (some ⟨g, 0, none⟩) (i + m + d) c) (i + m + d) ((spI L i N j).flatMap spV) ∧ Fr (fun k => k = g) w w' := by
  have hnc := own_room h
  have hBl : ((L.drop j).flatMap spV).length = d * 2 := by rw [flat_l, List.length_drop, hln]; omega
  have hVl : (N.flatMap spV).length = m * 2 := by rw [flat_l, hlm]
  obtain ⟨ys, hys, hX⟩ := own_ext h (i + m + d) (by omega) hroom
  have hXl := hX.1
  have hX1 := own_sets ((L.drop j).flatMap spV) ((i + m) * 2) w.drew.drew _ hX.drew.drew
  have hX2 := own_sets (N.flatMap spV) (i * 2) _ _ hX1.1
  have hlist : setsL (setsL (L.flatMap spV ++ ys) ((i + m) * 2) ((L.drop j).flatMap spV)) (i * 2) (N.flatMap spV) = (spI L i N j).flatMap spV := by
    have e := sets_shift (L.flatMap spV ++ ys) ((L.drop j).flatMap spV) (N.flatMap spV) (i * 2) (by rw [hXl, hVl, hBl]; omega)
    rw [hVl, show i * 2 + m * 2 = (i + m) * 2 by omega] at e
    rw [e, List.take_append_of_le_length (by rw [flat_l, hln]; omega), flat_take]
    unfold spI; rw [List.flatMap_append, List.flatMap_append]
  rw [hlist] at hX2
  have hov : ∀ lb cb, (callFunc 39 #[.slice (some ⟨g, (i + m) * 2, none⟩) lb cb, .slice (some ⟨gN, 0, none⟩) m cN]).run Try.prog w.drew = .ok (.value (.bool false)) w.drew := fun lb cb => by
    rw [run_callFunc_extern Try.func39 (by kernel_rfl) (by kernel_rfl) (by kernel_rfl) (e := Extern.SlicesOverlaps.overlaps #[39, 39] #[4]) (by kernel_rfl),
      Lib.run_overlaps_apart w.drew 39 4 24 Try.underlying39 2 (fun w => by kernel_rfl) ⟨g, (i + m) * 2, none⟩ ⟨gN, 0, none⟩ lb cb m cN (fun e => hne e.symm) _ _ _ _ (own_shape h.drew).1 (own_shape hN.drew).1 (by have := own_room hN; omega) ((own_shape h.drew).2 _) ((own_shape h.drew).2 _)]
    rfl
  have hsz : (Try.prog.info? 24).map (·.size) = some 2 := by kernel_rfl
  have hcs := own_cells h
  have hcp1 : ∀ ty dc sc, ∃ v', (Builtin.copy_ #[39, 39] ty #[.slice (some ⟨g, (i + m) * 2, none⟩) (i + m + d - (i + m)) dc, .slice (some ⟨g, j * 2, none⟩) d sc]).run Try.prog w.drew.drew = .ok v' (w.drew.drew.setCells g ((i + m) * 2) ((L.drop j).flatMap spV)) := fun ty dc sc =>
    run_copy_k _ _ _ ty 24 2 g ((i + m) * 2) (i + m + d - (i + m)) dc ⟨g, j * 2, none⟩ d sc ((L.drop j).flatMap spV) Try.underlying39 hsz (by rw [hBl]; simp only [Nat.min_def]; split <;> omega)
      (fun t v hj => by rw [Addr.add_mid]; exact hcs.1 (j * 2 + t) v (by rw [← flat_drop, List.getElem?_drop] at hj; exact hj))
      (fun t hj => (hcs.2 ((i + m) * 2 + t) (by rw [hBl] at hj; omega)).1) (fun t hj => (hcs.2 ((i + m) * 2 + t) (by rw [hBl] at hj; omega)).2) (flat_one spV_one _)
  have hcp2 : ∀ ty dc, ∃ v', (Builtin.copy_ #[39, 39] ty #[.slice (some ⟨g, i * 2, none⟩) (i + m + d - i) dc, .slice (some ⟨gN, 0, none⟩) m cN]).run Try.prog (w.drew.drew.setCells g ((i + m) * 2) ((L.drop j).flatMap spV)) = .ok v' ((w.drew.drew.setCells g ((i + m) * 2) ((L.drop j).flatMap spV)).setCells g (i * 2) (N.flatMap spV)) := fun ty dc =>
    sp_copy_from _ g _ c _ hX1.1 (some ⟨gN, 0, none⟩) m cN N hlm (own_frk hN.drew.drew hX1.2 (fun k hk e => hne (by have : gN = k := (by simpa [Value.ownBlock] using hk); omega))) i (i + m + d - i) dc (by omega) (by omega) ty
  have hFR : Fr (fun k => k = g) w ((w.drew.drew.setCells g ((i + m) * 2) ((L.drop j).flatMap spV)).setCells g (i * 2) (N.flatMap spV)) := (((Fr.refl (fun k => k = g) w).drew.drew).trans hX1.2).trans hX2.2
  have HRES := hid hX2.1
  have HFR := hid hFR
  have HCP1 := hid hcp1
  have HCP2 := hid hcp2
  obtain ⟨W1, hW1⟩ : ∃ W1, w.drew.drew.setCells g ((i + m) * 2) ((L.drop j).flatMap spV) = W1 := ⟨_, rfl⟩
  rw [hW1] at HRES HFR HCP1 HCP2
  obtain ⟨W2, hW2⟩ : ∃ W2, W1.setCells g (i * 2) (N.flatMap spV) = W2 := ⟨_, rfl⟩
  rw [hW2] at HRES HFR HCP2
  clear hW1 hW2 hX hX1 hX2 hXl hys hlist hcs hcp1 hcp2 hBl hVl h hN hln hlm hFR hne
  obtain ⟨tot, ht⟩ : ∃ tot, i + m + d = tot := ⟨_, rfl⟩
  rw [ht] at HRES HCP1 HCP2 hroom ⊢
  have t1 : (i : Int) + (m : Int) + (d : Int) = (tot : Int) := by omega
  have t2 : IntKind.i64.wrap ((i : Int) + (m : Int)) = (i : Int) + (m : Int) := by rw [IntKind.wrap_i64]; omega
  have t3 : IntKind.i64.wrap (tot : Int) = (tot : Int) := by rw [IntKind.wrap_i64]; omega
  have t4 : n - j = d := by omega
  have a0 : (i : Int) < (j : Int) := by omega
  have a1 : (j : Int) < (n : Int) := by omega
  have a2 : ((i : Int) == (j : Int)) = false := by simp; omega
  have a3 : ((j : Int) == (n : Int)) = false := by simp; omega
  have a4 : (tot : Int) ≤ (c : Int) := by omega
  have a5 : (j : Int) < (i : Int) + (m : Int) := by omega
  have a6 : ¬ c = i := by omega
  have a7 : ¬ c = j := by omega
  have a8 : ¬ c = i + m := by omega
  have b1 : (0 : Int) ≤ (i : Int) + (m : Int) := by omega
  have b2 : ((i : Int) + (m : Int)).toNat = i + m := by omega
  have b3 : (i : Int) + (m : Int) ≤ (tot : Int) := by omega
  have b4 : i ≤ c := by omega
  have b5 : j ≤ n := by omega
  have b6 : i ≤ j := by omega
  have b7 : i ≤ tot := by omega
  have b8 : tot ≤ c := by omega
  go_enter Try.func34, Try.ntmps34
  go_wp2_with fail
  refine wp_region_held_drew (S := fun _ => True) (by kernel_rfl) trivial (fun hHeld => ?_)
  refine wpAnyH_take (i := 0) (v := ?_) rfl (by kernel_rfl) (by kernel_rfl) (by kernel_rfl) (fun _ _ _ h => h) (Or.inl ⟨by rfl, ?_⟩) hHeld ?_
  rotate_left
  · intro w hSw
    go_simp
    with_reducible rfl
  try simp only [Act.put, List.getElem_toArray, List.getElem_cons_zero, List.getElem_cons_succ, List.setIfInBounds_toArray, List.set_cons_zero, List.set_cons_succ]
  refine wpAnyH_take (i := 1) (v := ?_) rfl (by kernel_rfl) (by kernel_rfl) (by kernel_rfl) (fun _ _ _ h => h) (Or.inl ⟨by rfl, ?_⟩) hHeld ?_
  rotate_left
  · intro w hSw
    go_simp
    with_reducible rfl
  try simp only [Act.put, List.getElem_toArray, List.getElem_cons_zero, List.getElem_cons_succ, List.setIfInBounds_toArray, List.set_cons_zero, List.set_cons_succ]
  refine wpAnyH_take (i := 2) (v := ?_) rfl (by kernel_rfl) (by kernel_rfl) (by kernel_rfl) (fun _ _ _ h => h) (Or.inl ⟨by rfl, ?_⟩) hHeld ?_
  rotate_left
  · intro w hSw
    go_simp
    with_reducible rfl
  try simp only [Act.put, List.getElem_toArray, List.getElem_cons_zero, List.getElem_cons_succ, List.setIfInBounds_toArray, List.set_cons_zero, List.set_cons_succ]
  refine wpAnyH_take (i := 3) (v := ?_) rfl (by kernel_rfl) (by kernel_rfl) (by kernel_rfl) (fun _ _ _ h => h) (Or.inl ⟨by rfl, ?_⟩) hHeld ?_
  rotate_left
  · intro w hSw
    go_simp
    with_reducible rfl
  try simp only [Act.put, List.getElem_toArray, List.getElem_cons_zero, List.getElem_cons_succ, List.setIfInBounds_toArray, List.set_cons_zero, List.set_cons_succ]
  refine wpAnyH_take (i := 4) (v := ?_) rfl (by kernel_rfl) (by kernel_rfl) (by kernel_rfl) (fun _ _ _ h => h) (Or.inl ⟨by rfl, ?_⟩) hHeld ?_
  rotate_left
  · intro w hSw
    go_simp
    with_reducible rfl
  try simp only [Act.put, List.getElem_toArray, List.getElem_cons_zero, List.getElem_cons_succ, List.setIfInBounds_toArray, List.set_cons_zero, List.set_cons_succ]
  refine wpAnyH_take (i := 5) (v := ?_) rfl (by kernel_rfl) (by kernel_rfl) (by kernel_rfl) (fun _ _ _ h => h) (Or.inl ⟨by rfl, ?_⟩) hHeld ?_
  rotate_left
  · intro w hSw
    go_simp
    with_reducible rfl
  try simp only [Act.put, List.getElem_toArray, List.getElem_cons_zero, List.getElem_cons_succ, List.setIfInBounds_toArray, List.set_cons_zero, List.set_cons_succ]
  refine wpAnyH_take (i := 6) (v := ?_) rfl (by kernel_rfl) (by kernel_rfl) (by kernel_rfl) (fun _ _ _ h => h) (Or.inl ⟨by rfl, ?_⟩) hHeld ?_
  rotate_left
  · intro w hSw
    go_simp
    with_reducible rfl
  try simp only [Act.put, List.getElem_toArray, List.getElem_cons_zero, List.getElem_cons_succ, List.setIfInBounds_toArray, List.set_cons_zero, List.set_cons_succ]
  refine wpAnyH_take (i := 7) (v := ?_) rfl (by kernel_rfl) (by kernel_rfl) (by kernel_rfl) (fun _ _ _ h => h) (Or.inl ⟨by rfl, ?_⟩) hHeld ?_
  rotate_left
  · intro w hSw
    go_simp
    with_reducible rfl
  try simp only [Act.put, List.getElem_toArray, List.getElem_cons_zero, List.getElem_cons_succ, List.setIfInBounds_toArray, List.set_cons_zero, List.set_cons_succ]
  refine wpAnyH_take (i := 8) (v := ?_) rfl (by kernel_rfl) (by kernel_rfl) (by kernel_rfl) (fun _ _ _ h => h) (Or.inl ⟨by rfl, ?_⟩) hHeld ?_
  rotate_left
  · intro w hSw
    go_simp
    with_reducible rfl
  try simp only [Act.put, List.getElem_toArray, List.getElem_cons_zero, List.getElem_cons_succ, List.setIfInBounds_toArray, List.set_cons_zero, List.set_cons_succ]
  refine wpAnyH_take (i := 9) (v := ?_) rfl (by kernel_rfl) (by kernel_rfl) (by kernel_rfl) (fun _ _ _ h => h) (Or.inl ⟨by rfl, ?_⟩) hHeld ?_
  rotate_left
  · intro w hSw
    go_simp
    with_reducible rfl
  try simp only [Act.put, List.getElem_toArray, List.getElem_cons_zero, List.getElem_cons_succ, List.setIfInBounds_toArray, List.set_cons_zero, List.set_cons_succ]
  refine wpAnyH_take (i := 10) (v := ?_) rfl (by kernel_rfl) (by kernel_rfl) (by kernel_rfl) (fun _ _ _ h => h) (Or.inl ⟨by rfl, ?_⟩) hHeld ?_
  rotate_left
  · intro w hSw
    go_simp
    with_reducible rfl
  try simp only [Act.put, List.getElem_toArray, List.getElem_cons_zero, List.getElem_cons_succ, List.setIfInBounds_toArray, List.set_cons_zero, List.set_cons_succ]
  refine wpAnyH_take (i := 11) (v := ?_) rfl (by kernel_rfl) (by kernel_rfl) (by kernel_rfl) (fun _ _ _ h => h) (Or.inl ⟨by rfl, ?_⟩) hHeld ?_
  rotate_left
  · intro w hSw
    go_simp
    with_reducible rfl
  try simp only [Act.put, List.getElem_toArray, List.getElem_cons_zero, List.getElem_cons_succ, List.setIfInBounds_toArray, List.set_cons_zero, List.set_cons_succ]
  refine wpAnyH_take (i := 12) (v := ?_) rfl (by kernel_rfl) (by kernel_rfl) (by kernel_rfl) (fun _ _ _ h => h) (Or.inl ⟨by rfl, ?_⟩) hHeld ?_
  rotate_left
  · intro w hSw
    go_simp
    with_reducible rfl
  try simp only [Act.put, List.getElem_toArray, List.getElem_cons_zero, List.getElem_cons_succ, List.setIfInBounds_toArray, List.set_cons_zero, List.set_cons_succ]
  refine wpAnyH_done (by kernel_rfl) ?_ _
  go_wp2_with (simp only [hov])
  refine wp_region_held_drew (S := fun _ => True) (by kernel_rfl) trivial (fun hHeld => ?_)
  refine wpAnyH_take (i := 0) (v := ?_) rfl (by kernel_rfl) (by kernel_rfl) (by kernel_rfl) (fun _ _ _ h => h) (Or.inl ⟨by rfl, ?_⟩) hHeld ?_
  rotate_left
  · intro w hSw
    go_simp
    with_reducible rfl
  try simp only [Act.put, List.getElem_toArray, List.getElem_cons_zero, List.getElem_cons_succ, List.setIfInBounds_toArray, List.set_cons_zero, List.set_cons_succ]
  refine wpAnyH_take (i := 1) (v := ?_) rfl (by kernel_rfl) (by kernel_rfl) (by kernel_rfl) (fun _ _ _ h => h) (Or.inl ⟨by rfl, ?_⟩) hHeld ?_
  rotate_left
  · intro w hSw
    go_simp
    with_reducible rfl
  try simp only [Act.put, List.getElem_toArray, List.getElem_cons_zero, List.getElem_cons_succ, List.setIfInBounds_toArray, List.set_cons_zero, List.set_cons_succ]
  refine wpAnyH_take (i := 2) (v := ?_) rfl (by kernel_rfl) (by kernel_rfl) (by kernel_rfl) (fun _ _ _ h => h) (Or.inl ⟨by rfl, ?_⟩) hHeld ?_
  rotate_left
  · intro w hSw
    go_simp
    with_reducible rfl
  try simp only [Act.put, List.getElem_toArray, List.getElem_cons_zero, List.getElem_cons_succ, List.setIfInBounds_toArray, List.set_cons_zero, List.set_cons_succ]
  refine wpAnyH_take (i := 3) (v := ?_) rfl (by kernel_rfl) (by kernel_rfl) (by kernel_rfl) (fun _ _ _ h => h) (Or.inl ⟨by rfl, ?_⟩) hHeld ?_
  rotate_left
  · intro w hSw
    go_simp
    with_reducible rfl
  try simp only [Act.put, List.getElem_toArray, List.getElem_cons_zero, List.getElem_cons_succ, List.setIfInBounds_toArray, List.set_cons_zero, List.set_cons_succ]
  refine wpAnyH_take (i := 4) (v := ?_) rfl (by kernel_rfl) (by kernel_rfl) (by kernel_rfl) (fun _ _ _ h => h) (Or.inl ⟨by rfl, ?_⟩) hHeld ?_
  rotate_left
  · intro w hSw
    go_simp
    with_reducible rfl
  try simp only [Act.put, List.getElem_toArray, List.getElem_cons_zero, List.getElem_cons_succ, List.setIfInBounds_toArray, List.set_cons_zero, List.set_cons_succ]
  refine wpAnyH_take (i := 5) (v := ?_) rfl (by kernel_rfl) (by kernel_rfl) (by kernel_rfl) (fun _ _ _ h => h) (Or.inl ⟨by rfl, ?_⟩) hHeld ?_
  rotate_left
  · intro w hSw
    go_simp
    with_reducible rfl
  try simp only [Act.put, List.getElem_toArray, List.getElem_cons_zero, List.getElem_cons_succ, List.setIfInBounds_toArray, List.set_cons_zero, List.set_cons_succ]
  refine wpAnyH_take (i := 6) (v := ?_) rfl (by kernel_rfl) (by kernel_rfl) (by kernel_rfl) (fun _ _ _ h => h) (Or.inl ⟨by rfl, ?_⟩) hHeld ?_
  rotate_left
  · intro w hSw
    go_simp
    with_reducible rfl
  try simp only [Act.put, List.getElem_toArray, List.getElem_cons_zero, List.getElem_cons_succ, List.setIfInBounds_toArray, List.set_cons_zero, List.set_cons_succ]
  refine wpAnyH_take (i := 7) (v := ?_) rfl (by kernel_rfl) (by kernel_rfl) (by kernel_rfl) (fun _ _ _ h => h) (Or.inl ⟨by rfl, ?_⟩) hHeld ?_
  rotate_left
  · intro w hSw
    go_simp
    with_reducible rfl
  try simp only [Act.put, List.getElem_toArray, List.getElem_cons_zero, List.getElem_cons_succ, List.setIfInBounds_toArray, List.set_cons_zero, List.set_cons_succ]
  refine wpAnyH_take (i := 8) (v := ?_) rfl (by kernel_rfl) (by kernel_rfl) (by kernel_rfl) (fun _ _ _ h => h) (Or.inl ⟨by rfl, ?_⟩) hHeld ?_
  rotate_left
  · intro w hSw
    go_simp
    with_reducible rfl
  try simp only [Act.put, List.getElem_toArray, List.getElem_cons_zero, List.getElem_cons_succ, List.setIfInBounds_toArray, List.set_cons_zero, List.set_cons_succ]
  refine wpAnyH_ready (rs := [9]) (by kernel_rfl) (by simp) ?_
  refine AllReadyH.cons rfl (fun K hK => ?_) AllReadyH.nil
  rw [if_pos (by rfl)]
  refine wp_copy_run (.tmp 126) (.tmp 129) 39 39 rfl _ _ rfl rfl (HCP1.out _ _ _) (fun v1 => ?_)
  refine hK.out _ _ trivial (fun hHeld => ?_)
  clear hK K
  try simp only [Act.put, List.getElem_toArray, List.getElem_cons_zero, List.getElem_cons_succ, List.setIfInBounds_toArray, List.set_cons_zero, List.set_cons_succ]
  refine wpAnyH_done (by kernel_rfl) ?_ _
  go_wp2_with (refine wpList_copy_run rfl (.tmp 133) (.tmp 134) 39 39 rfl _ _ rfl rfl (HCP2.out _ _) (fun v2 => ?_))
  all_goals
    go_ret
    exact ⟨rfl, HRES.out, HFR.out⟩
end Go.Proofs.Ytdehojhipiklmaa
