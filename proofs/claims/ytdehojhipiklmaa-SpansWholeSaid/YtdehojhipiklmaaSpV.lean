/- slices.Replace at spans: in the middle, without room. -/
import Derived.Test.YtdehojhipiklmaaSpT
namespace Go.Proofs.Ytdehojhipiklmaa
open Go.RowKit

set_option maxRecDepth 100000 in
set_option maxHeartbeats 2000000 in
theorem sp_rep_grow (w : World) (g n c : Nat) (L : List Sp) (hln : L.length = n) (h : w.ownsRow 0 24 2 (.slice (some ⟨g, 0, none⟩) n c) n (L.flatMap spV)) (i j d : Nat) (hij : i < j) (hjd : j + d = n) (hd : 0 < d) (hn : n ≤ 1500000) (gN m cN : Nat) (N : List Sp) (hlm : N.length = m) (hN : w.ownsRow 0 24 2 (.slice (some ⟨gN, 0, none⟩) m cN) m (N.flatMap spV)) (hm2 : m ≤ 1500000) (hroom : c < i + m + d) :
    Calls Try.prog 34 #[.slice (some ⟨g, 0, none⟩) n c, .int .i64 i, .int .i64 j, .slice (some ⟨gN, 0, none⟩) m cN] w fun e w' => ∃ G, e = .returned (.slice (some ⟨w.heap.size, 0, none⟩) (i + m + d) G) ∧ w'.ownsRow 0 24 2 (.slice (some ⟨w.heap.size, 0, none⟩) (i + m + d) G) (i + m + d) ((spI L i N j).flatMap spV) ∧ Fr No w w' := by
  obtain ⟨i0, hi0, hz0, hz1, hz2⟩ := info_parts sp_info
  have hnc := own_room h
  have hBl : ((L.drop j).flatMap spV).length = d * 2 := by rw [flat_l, List.length_drop, hln]; omega
  have hVl : (N.flatMap spV).length = m * 2 := by rw [flat_l, hlm]
  have hik : i + (m + d) = i + m + d := by omega
  obtain ⟨G, W0, zs, hrz, hzs, hX, hF0⟩ := run_zeros w.drew i0 hi0 hz0 hz1 hz2 g i c (m + d) _ (own_cut h i (by omega)).drew (by omega) (by omega) (by omega)
  rw [flat_take] at hX
  rw [hik] at hrz hX
  have hXl := hX.1
  have hgw : g < w.heap.size := (h.lt g rfl).2
  have hgNw : gN < w.heap.size := (hN.lt gN rfl).2
  have hF0' : Fr No w W0 := ((Fr.refl No w).drew).trans hF0
  rw [show w.drew.heap.size = w.heap.size from rfl] at hrz hX
  obtain ⟨q, hq⟩ : ∃ q, w.heap.size = q := ⟨_, rfl⟩
  rw [hq] at hrz hX hgw hgNw
  have hX1 := own_sets (N.flatMap spV) (i * 2) W0 _ hX
  have hX2 := own_sets ((L.drop j).flatMap spV) ((i + m) * 2) (W0.setCells q (i * 2) (N.flatMap spV)).drew _ hX1.1.drew
  have hlist : setsL (setsL ((L.take i).flatMap spV ++ zs) (i * 2) (N.flatMap spV)) ((i + m) * 2) ((L.drop j).flatMap spV) = (spI L i N j).flatMap spV := by
    have e := sets_fill ((L.take i).flatMap spV ++ zs) ((L.drop j).flatMap spV) (N.flatMap spV) (i * 2) (by rw [hXl, hVl, hBl]; omega)
    rw [hVl, show i * 2 + m * 2 = (i + m) * 2 by omega] at e
    rw [e, List.take_left' (by rw [flat_l, List.length_take, hln]; omega)]
    unfold spI; rw [List.flatMap_append, List.flatMap_append]
  rw [hlist] at hX2
  have hGn := own_room hX
  have hsz : (Try.prog.info? 24).map (·.size) = some 2 := by kernel_rfl
  have hcp1 : ∀ ty dc, ∃ v', (Builtin.copy_ #[39, 39] ty #[.slice (some ⟨q, i * 2, none⟩) (i + m + d - i) dc, .slice (some ⟨gN, 0, none⟩) m cN]).run Try.prog W0 = .ok v' (W0.setCells q (i * 2) (N.flatMap spV)) := fun ty dc =>
    sp_copy_from W0 q _ G _ (own_mono hX) (some ⟨gN, 0, none⟩) m cN N hlm (own_frk hN hF0' (fun _ _ => id)) i (i + m + d - i) dc (by omega) (by omega) ty
  have hcs1 := own_cells hX1.1
  have hcL := own_cells (own_frk (own_frk h hF0' (fun _ _ => id)) hX1.2 (fun k hk e => by have : g = k := (by simpa [Value.ownBlock] using hk); omega))
  have hcp2 : ∀ ty dc sc, ∃ v', (Builtin.copy_ #[39, 39] ty #[.slice (some ⟨q, (i + m) * 2, none⟩) (i + m + d - (i + m)) dc, .slice (some ⟨g, j * 2, none⟩) d sc]).run Try.prog (W0.setCells q (i * 2) (N.flatMap spV)).drew = .ok v' ((W0.setCells q (i * 2) (N.flatMap spV)).drew.setCells q ((i + m) * 2) ((L.drop j).flatMap spV)) := fun ty dc sc =>
    run_copy_k _ _ _ ty 24 2 q ((i + m) * 2) (i + m + d - (i + m)) dc ⟨g, j * 2, none⟩ d sc ((L.drop j).flatMap spV) Try.underlying39 hsz (by rw [hBl]; simp only [Nat.min_def]; split <;> omega)
      (fun t v hj => by rw [Addr.add_mid]; exact hcL.1 (j * 2 + t) v (by rw [← flat_drop, List.getElem?_drop] at hj; exact hj))
      (fun t hj => (hcs1.2 ((i + m) * 2 + t) (by rw [hBl] at hj; omega)).1) (fun t hj => (hcs1.2 ((i + m) * 2 + t) (by rw [hBl] at hj; omega)).2) (flat_one spV_one _)
  have hFR : Fr No w ((W0.setCells q (i * 2) (N.flatMap spV)).drew.setCells q ((i + m) * 2) ((L.drop j).flatMap spV)) := (hF0'.then hX1.2 (fun k hk e => by omega)).drew.then hX2.2 (fun k hk e => by omega)
  have HRES := hid (own_mono hX2.1)
  have HFR := hid hFR
  have HRZ := hid hrz
  have HCP1 := hid hcp1
  have HCP2 := hid hcp2
  obtain ⟨W1, hW1⟩ : ∃ W1, W0.setCells q (i * 2) (N.flatMap spV) = W1 := ⟨_, rfl⟩
  rw [hW1] at HRES HFR HCP1 HCP2
  obtain ⟨W2, hW2⟩ : ∃ W2, W1.drew.setCells q ((i + m) * 2) ((L.drop j).flatMap spV) = W2 := ⟨_, rfl⟩
  rw [hW2] at HRES HFR HCP2
  rw [hq]
  clear hW1 hW2 hX hX1 hX2 hXl hzs hlist hcs1 hcL hcp1 hcp2 hBl hVl h hN hln hlm hrz hFR hF0 hF0' hik hq
  have hkk : ((i + m + d : Nat) : Int) - (i : Int) = ((m + d : Nat) : Int) := by omega
  obtain ⟨kz, hkz⟩ : ∃ kz, m + d = kz := ⟨_, rfl⟩
  obtain ⟨tot, ht⟩ : ∃ tot, i + m + d = tot := ⟨_, rfl⟩
  rw [ht] at HRES HRZ HCP1 HCP2 hkk hGn hroom ⊢
  rw [hkz] at HRZ hkk
  have t1 : (i : Int) + (m : Int) + (d : Int) = (tot : Int) := by omega
  have t2 : IntKind.i64.wrap ((i : Int) + (m : Int)) = (i : Int) + (m : Int) := by rw [IntKind.wrap_i64]; omega
  have t3 : IntKind.i64.wrap (tot : Int) = (tot : Int) := by rw [IntKind.wrap_i64]; omega
  have t4 : n - j = d := by omega
  have t5 : IntKind.i64.wrap (kz : Int) = (kz : Int) := by rw [IntKind.wrap_i64]; omega
  have a0 : (i : Int) < (j : Int) := by omega
  have a1 : (j : Int) < (n : Int) := by omega
  have a2 : ((i : Int) == (j : Int)) = false := by simp; omega
  have a3 : ((j : Int) == (n : Int)) = false := by simp; omega
  have a4 : (c : Int) < (tot : Int) := by omega
  have a6 : ¬ c = i := by omega
  have a7 : ¬ c = j := by omega
  have a8 : ¬ G = i := by omega
  have a9 : ¬ G = i + m := by omega
  have b1 : (0 : Int) ≤ (i : Int) + (m : Int) := by omega
  have b2 : ((i : Int) + (m : Int)).toNat = i + m := by omega
  have b3 : (i : Int) + (m : Int) ≤ (tot : Int) := by omega
  have b4 : i ≤ c := by omega
  have b5 : j ≤ n := by omega
  have b6 : i ≤ j := by omega
  have b7 : i ≤ tot := by omega
  go_enter Try.func34, Try.ntmps34
  go_wp2_with fail
  refine wp_region_held_drew (S := fun _ => True) (by kernel_rfl) trivial (fun hHeld => ?_)
  refine wpAnyH_take (i := 0) (v := ?_) rfl (by kernel_rfl) (by kernel_rfl) (by kernel_rfl) (fun _ _ _ h => h) (Or.inl ⟨by rfl, ?_⟩) hHeld ?_
  rotate_left
  · intro w hSw
    go_simp
    with_reducible rfl
  try simp only [Act.put, List.getElem_toArray, List.getElem_cons_zero, List.getElem_cons_succ, List.setIfInBounds_toArray, List.set_cons_zero, List.set_cons_succ]
  refine wpAnyH_take (i := 1) (v := ?_) rfl (by kernel_rfl) (by kernel_rfl) (by kernel_rfl) (fun _ _ _ h => h) (Or.inl ⟨by rfl, ?_⟩) hHeld ?_
  rotate_left
  · intro w hSw
    go_simp
    with_reducible rfl
  try simp only [Act.put, List.getElem_toArray, List.getElem_cons_zero, List.getElem_cons_succ, List.setIfInBounds_toArray, List.set_cons_zero, List.set_cons_succ]
  refine wpAnyH_take (i := 2) (v := ?_) rfl (by kernel_rfl) (by kernel_rfl) (by kernel_rfl) (fun _ _ _ h => h) (Or.inl ⟨by rfl, ?_⟩) hHeld ?_
  rotate_left
  · intro w hSw
    go_simp
    with_reducible rfl
  try simp only [Act.put, List.getElem_toArray, List.getElem_cons_zero, List.getElem_cons_succ, List.setIfInBounds_toArray, List.set_cons_zero, List.set_cons_succ]
  refine wpAnyH_take (i := 3) (v := ?_) rfl (by kernel_rfl) (by kernel_rfl) (by kernel_rfl) (fun _ _ _ h => h) (Or.inl ⟨by rfl, ?_⟩) hHeld ?_
  rotate_left
  · intro w hSw
    go_simp
    with_reducible rfl
  try simp only [Act.put, List.getElem_toArray, List.getElem_cons_zero, List.getElem_cons_succ, List.setIfInBounds_toArray, List.set_cons_zero, List.set_cons_succ]
  refine wpAnyH_take (i := 4) (v := ?_) rfl (by kernel_rfl) (by kernel_rfl) (by kernel_rfl) (fun _ _ _ h => h) (Or.inl ⟨by rfl, ?_⟩) hHeld ?_
  rotate_left
  · intro w hSw
    go_simp
    with_reducible rfl
  try simp only [Act.put, List.getElem_toArray, List.getElem_cons_zero, List.getElem_cons_succ, List.setIfInBounds_toArray, List.set_cons_zero, List.set_cons_succ]
  refine wpAnyH_take (i := 5) (v := ?_) rfl (by kernel_rfl) (by kernel_rfl) (by kernel_rfl) (fun _ _ _ h => h) (Or.inl ⟨by rfl, ?_⟩) hHeld ?_
  rotate_left
  · intro w hSw
    go_simp
    with_reducible rfl
  try simp only [Act.put, List.getElem_toArray, List.getElem_cons_zero, List.getElem_cons_succ, List.setIfInBounds_toArray, List.set_cons_zero, List.set_cons_succ]
  refine wpAnyH_take (i := 6) (v := ?_) rfl (by kernel_rfl) (by kernel_rfl) (by kernel_rfl) (fun _ _ _ h => h) (Or.inl ⟨by rfl, ?_⟩) hHeld ?_
  rotate_left
  · intro w hSw
    go_simp
    with_reducible rfl
  try simp only [Act.put, List.getElem_toArray, List.getElem_cons_zero, List.getElem_cons_succ, List.setIfInBounds_toArray, List.set_cons_zero, List.set_cons_succ]
  refine wpAnyH_take (i := 7) (v := ?_) rfl (by kernel_rfl) (by kernel_rfl) (by kernel_rfl) (fun _ _ _ h => h) (Or.inl ⟨by rfl, ?_⟩) hHeld ?_
  rotate_left
  · intro w hSw
    go_simp
    with_reducible rfl
  try simp only [Act.put, List.getElem_toArray, List.getElem_cons_zero, List.getElem_cons_succ, List.setIfInBounds_toArray, List.set_cons_zero, List.set_cons_succ]
  refine wpAnyH_take (i := 8) (v := ?_) rfl (by kernel_rfl) (by kernel_rfl) (by kernel_rfl) (fun _ _ _ h => h) (Or.inl ⟨by rfl, ?_⟩) hHeld ?_
  rotate_left
  · intro w hSw
    go_simp
    with_reducible rfl
  try simp only [Act.put, List.getElem_toArray, List.getElem_cons_zero, List.getElem_cons_succ, List.setIfInBounds_toArray, List.set_cons_zero, List.set_cons_succ]
  refine wpAnyH_take (i := 9) (v := ?_) rfl (by kernel_rfl) (by kernel_rfl) (by kernel_rfl) (fun _ _ _ h => h) (Or.inl ⟨by rfl, ?_⟩) hHeld ?_
  rotate_left
  · intro w hSw
    go_simp
    with_reducible rfl
  try simp only [Act.put, List.getElem_toArray, List.getElem_cons_zero, List.getElem_cons_succ, List.setIfInBounds_toArray, List.set_cons_zero, List.set_cons_succ]
  refine wpAnyH_take (i := 10) (v := ?_) rfl (by kernel_rfl) (by kernel_rfl) (by kernel_rfl) (fun _ _ _ h => h) (Or.inl ⟨by rfl, ?_⟩) hHeld ?_
  rotate_left
  · intro w hSw
    go_simp
    with_reducible rfl
  try simp only [Act.put, List.getElem_toArray, List.getElem_cons_zero, List.getElem_cons_succ, List.setIfInBounds_toArray, List.set_cons_zero, List.set_cons_succ]
  refine wpAnyH_take (i := 11) (v := ?_) rfl (by kernel_rfl) (by kernel_rfl) (by kernel_rfl) (fun _ _ _ h => h) (Or.inl ⟨by rfl, ?_⟩) hHeld ?_
  rotate_left
  · intro w hSw
    go_simp
    with_reducible rfl
  try simp only [Act.put, List.getElem_toArray, List.getElem_cons_zero, List.getElem_cons_succ, List.setIfInBounds_toArray, List.set_cons_zero, List.set_cons_succ]
  refine wpAnyH_take (i := 12) (v := ?_) rfl (by kernel_rfl) (by kernel_rfl) (by kernel_rfl) (fun _ _ _ h => h) (Or.inl ⟨by rfl, ?_⟩) hHeld ?_
  rotate_left
  · intro w hSw
    go_simp
    with_reducible rfl
  try simp only [Act.put, List.getElem_toArray, List.getElem_cons_zero, List.getElem_cons_succ, List.setIfInBounds_toArray, List.set_cons_zero, List.set_cons_succ]
  refine wpAnyH_done (by kernel_rfl) ?_ _
  go_wp2_with (first
    | (at_builtin; refine Lib.wpList_append_run _ rfl (.tmp 63) (.tmp 66) 39 3 rfl (.slice (some ⟨g, 0, none⟩) i c) (.int .i64 (kz : Int)) rfl rfl _ _ (HRZ.out _) ?_)
    | (refine wpList_copy_run rfl (.tmp 70) (.tmp 71) 39 39 rfl _ _ rfl rfl (HCP1.out _ _) (fun v2 => ?_)))
  refine wp_region_held_drew (S := fun _ => True) (by kernel_rfl) trivial (fun hHeld => ?_)
  refine wpAnyH_take (i := 0) (v := ?_) rfl (by kernel_rfl) (by kernel_rfl) (by kernel_rfl) (fun _ _ _ h => h) (Or.inl ⟨by rfl, ?_⟩) hHeld ?_
  rotate_left
  · intro w hSw
    go_simp
    with_reducible rfl
  try simp only [Act.put, List.getElem_toArray, List.getElem_cons_zero, List.getElem_cons_succ, List.setIfInBounds_toArray, List.set_cons_zero, List.set_cons_succ]
  refine wpAnyH_take (i := 1) (v := ?_) rfl (by kernel_rfl) (by kernel_rfl) (by kernel_rfl) (fun _ _ _ h => h) (Or.inl ⟨by rfl, ?_⟩) hHeld ?_
  rotate_left
  · intro w hSw
    go_simp
    with_reducible rfl
  try simp only [Act.put, List.getElem_toArray, List.getElem_cons_zero, List.getElem_cons_succ, List.setIfInBounds_toArray, List.set_cons_zero, List.set_cons_succ]
  refine wpAnyH_take (i := 2) (v := ?_) rfl (by kernel_rfl) (by kernel_rfl) (by kernel_rfl) (fun _ _ _ h => h) (Or.inl ⟨by rfl, ?_⟩) hHeld ?_
  rotate_left
  · intro w hSw
    go_simp
    with_reducible rfl
  try simp only [Act.put, List.getElem_toArray, List.getElem_cons_zero, List.getElem_cons_succ, List.setIfInBounds_toArray, List.set_cons_zero, List.set_cons_succ]
  refine wpAnyH_take (i := 3) (v := ?_) rfl (by kernel_rfl) (by kernel_rfl) (by kernel_rfl) (fun _ _ _ h => h) (Or.inl ⟨by rfl, ?_⟩) hHeld ?_
  rotate_left
  · intro w hSw
    go_simp
    with_reducible rfl
  try simp only [Act.put, List.getElem_toArray, List.getElem_cons_zero, List.getElem_cons_succ, List.setIfInBounds_toArray, List.set_cons_zero, List.set_cons_succ]
  refine wpAnyH_take (i := 4) (v := ?_) rfl (by kernel_rfl) (by kernel_rfl) (by kernel_rfl) (fun _ _ _ h => h) (Or.inl ⟨by rfl, ?_⟩) hHeld ?_
  rotate_left
  · intro w hSw
    go_simp
    with_reducible rfl
  try simp only [Act.put, List.getElem_toArray, List.getElem_cons_zero, List.getElem_cons_succ, List.setIfInBounds_toArray, List.set_cons_zero, List.set_cons_succ]
  refine wpAnyH_take (i := 5) (v := ?_) rfl (by kernel_rfl) (by kernel_rfl) (by kernel_rfl) (fun _ _ _ h => h) (Or.inl ⟨by rfl, ?_⟩) hHeld ?_
  rotate_left
  · intro w hSw
    go_simp
    with_reducible rfl
  try simp only [Act.put, List.getElem_toArray, List.getElem_cons_zero, List.getElem_cons_succ, List.setIfInBounds_toArray, List.set_cons_zero, List.set_cons_succ]
  refine wpAnyH_take (i := 6) (v := ?_) rfl (by kernel_rfl) (by kernel_rfl) (by kernel_rfl) (fun _ _ _ h => h) (Or.inl ⟨by rfl, ?_⟩) hHeld ?_
  rotate_left
  · intro w hSw
    go_simp
    with_reducible rfl
  try simp only [Act.put, List.getElem_toArray, List.getElem_cons_zero, List.getElem_cons_succ, List.setIfInBounds_toArray, List.set_cons_zero, List.set_cons_succ]
  refine wpAnyH_take (i := 7) (v := ?_) rfl (by kernel_rfl) (by kernel_rfl) (by kernel_rfl) (fun _ _ _ h => h) (Or.inl ⟨by rfl, ?_⟩) hHeld ?_
  rotate_left
  · intro w hSw
    go_simp
    with_reducible rfl
  try simp only [Act.put, List.getElem_toArray, List.getElem_cons_zero, List.getElem_cons_succ, List.setIfInBounds_toArray, List.set_cons_zero, List.set_cons_succ]
  refine wpAnyH_take (i := 8) (v := ?_) rfl (by kernel_rfl) (by kernel_rfl) (by kernel_rfl) (fun _ _ _ h => h) (Or.inl ⟨by rfl, ?_⟩) hHeld ?_
  rotate_left
  · intro w hSw
    go_simp
    with_reducible rfl
  try simp only [Act.put, List.getElem_toArray, List.getElem_cons_zero, List.getElem_cons_succ, List.setIfInBounds_toArray, List.set_cons_zero, List.set_cons_succ]
  refine wpAnyH_ready (rs := [9]) (by kernel_rfl) (by simp) ?_
  refine AllReadyH.cons rfl (fun K hK => ?_) AllReadyH.nil
  rw [if_pos (by rfl)]
  refine wp_copy_run (.tmp 78) (.tmp 81) 39 39 rfl _ _ rfl rfl (HCP2.out _ _ _) (fun v1 => ?_)
  refine hK.out _ _ trivial (fun hHeld => ?_)
  clear hK K
  try simp only [Act.put, List.getElem_toArray, List.getElem_cons_zero, List.getElem_cons_succ, List.setIfInBounds_toArray, List.set_cons_zero, List.set_cons_succ]
  refine wpAnyH_done (by kernel_rfl) ?_ _
  go_wp2_with fail
  all_goals
    go_ret
    exact ⟨G, rfl, HRES.out, HFR.out⟩
end Go.Proofs.Ytdehojhipiklmaa
