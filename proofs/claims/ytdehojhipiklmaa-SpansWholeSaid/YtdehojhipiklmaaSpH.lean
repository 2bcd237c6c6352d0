/- slices.Insert at spans: where there is no room; Insert. -/
import Derived.Test.YtdehojhipiklmaaSpG
namespace Go.Proofs.Ytdehojhipiklmaa
open Go.RowKit

theorem zeroCells_len (z : Array Value) (k : Nat) : (Builtin.zeroCells z k).size = k * z.size := by simp [Builtin.zeroCells]
/-- append(s, make(S, k)...), where there is no room: a new row -/
theorem run_zeros (w : World) (i0 : TypeInfo) (hi : Try.prog.info? 24 = some i0) (hz0 : i0.zero = some (.agg #[.int .i64 0, .int .i64 0])) (hz1 : i0.size = 2) (hz2 : i0.bytes = 16)
    (g i c k : Nat) (xs : List Value) (h : w.ownsRow 0 24 2 (.slice (some ⟨g, 0, none⟩) i c) i xs) (hk : 0 < k) (hroom : c < i + k) (hbig : i + k ≤ 4000000) :
    ∃ G W0 zs, (∀ ty, (Builtin.append_ #[39, 3] ty #[.slice (some ⟨g, 0, none⟩) i c, .int .i64 (k : Nat)]).run Try.prog w = .ok (.slice (some ⟨w.heap.size, 0, none⟩) (i + k) G) W0) ∧
      zs.length = k * 2 ∧ W0.ownsRow w.heap.size 24 2 (.slice (some ⟨w.heap.size, 0, none⟩) (i + k) G) (i + k) (xs ++ zs) ∧ Fr No w W0 := by
  have hxl := h.1
  have hcs := own_cells h
  have hold : (Builtin.firstCells i0.size i (.slice (some ⟨g, 0, none⟩) i c)).run Try.prog w.drew = .ok xs.toArray w.drew := by
    rw [hz1]
    exact run_firstCells_some w.drew 2 i ⟨g, 0, none⟩ i c xs (by rw [hxl]) (fun j v hj => by rw [Addr.add_mid, Nat.zero_add]; exact hcs.1 j v hj)
  have hrun : ∀ ty, _ := fun ty => Lib.run_append_grow_zeros w 39 3 ty 24 i0 _ .i64 .i64 Try.underlying39 Try.underlying3 hi hz0 (some ⟨g, 0, none⟩) i c xs hold k hk (by omega) hroom (by omega) (by rw [hz2]; omega) (by rw [hz2]; exact growslice_fits hroom (by omega))
  refine ⟨_, _, (Builtin.zeroCells (Value.agg #[.int .i64 0, .int .i64 0]).cells k).toList, hrun, ?_, ?_, ?_⟩
  · rw [Array.length_toList, zeroCells_len]; rfl
  · have hG := grownCap_ge w (i + k) c 24
    have hG2 := grownCap_le_maxLen w (i + k) c 24 (by unfold maxLen; omega)
    have hzl : (Builtin.zeroCells (Value.agg #[.int .i64 0, .int .i64 0]).cells k).size = k * 2 := by rw [zeroCells_len]; rfl
    have hzl2 : (Builtin.zeroCells (Value.agg #[.int .i64 0, .int .i64 0]).cells (grownCap w (i + k) c 24 - (i + k))).size = (grownCap w (i + k) c 24 - (i + k)) * 2 := by rw [zeroCells_len]; rfl
    refine ⟨by rw [List.length_append, hxl, Array.length_toList, hzl]; omega, .inr ⟨w.heap.size, _, _, rfl, Nat.le_refl _, heap_new w.drew _, hG, hG2, ?_, ?_⟩⟩
    · rw [Array.size_append, Array.size_append, hzl, hzl2, List.size_toArray, hxl]; omega
    · rw [Array.toList_append, Array.toList_append, List.take_left' (by rw [List.length_append, Array.length_toList, Array.length_toList, hzl, List.size_toArray, hxl]; omega)]
  · exact ((Fr.refl No w).drew).alloc _
theorem sets_fill (X B V : List Value) (q : Nat) (h : q + V.length + B.length = X.length) : setsL (setsL X q V) (q + V.length) B = X.take q ++ V ++ B := by
  rw [setsL_eq V X _ (by omega), setsL_eq B _ _ (by simp only [List.length_append, List.length_take, List.length_drop]; omega)]
  have e0 : (X.take q ++ V).length = q + V.length := by rw [List.length_append, List.length_take]; omega
  rw [List.take_left' e0]
  have e1 : (X.take q ++ V ++ X.drop (q + V.length)).drop (q + V.length + B.length) = [] := List.drop_eq_nil_of_le (by simp only [List.length_append, List.length_take, List.length_drop]; omega)
  rw [e1, List.append_nil]
set_option maxRecDepth 100000 in
set_option maxHeartbeats 2000000 in
theorem sp_insert_grow (w : World) (g n c : Nat) (L : List Sp) (hln : L.length = n) (h : w.ownsRow 0 24 2 (.slice (some ⟨g, 0, none⟩) n c) n (L.flatMap spV)) (i : Nat) (hi : i < n) (hn : n ≤ 1500000) (gN m cN : Nat) (N : List Sp) (hlm : N.length = m) (hN : w.ownsRow 0 24 2 (.slice (some ⟨gN, 0, none⟩) m cN) m (N.flatMap spV)) (hm : 0 < m) (hm2 : m ≤ 1500000) (hroom : c < n + m) :
    Calls Try.prog 38 #[.slice (some ⟨g, 0, none⟩) n c, .int .i64 i, .slice (some ⟨gN, 0, none⟩) m cN] w fun e w' => ∃ G, e = .returned (.slice (some ⟨w.heap.size, 0, none⟩) (n + m) G) ∧ w'.ownsRow 0 24 2 (.slice (some ⟨w.heap.size, 0, none⟩) (n + m) G) (n + m) ((spI L i N i).flatMap spV) ∧ Fr No w w' := by
  obtain ⟨i0, hi0, hz0, hz1, hz2⟩ := info_parts sp_info
  have hnc := own_room h
  have hBl : ((L.drop i).flatMap spV).length = (n - i) * 2 := by rw [flat_l, List.length_drop, hln]
  have hVl : (N.flatMap spV).length = m * 2 := by rw [flat_l, hlm]
  have hik : i + (n + m - i) = n + m := by omega
  obtain ⟨G, W0, zs, hrz, hzs, hX, hF0⟩ := run_zeros w i0 hi0 hz0 hz1 hz2 g i c (n + m - i) _ (own_cut h i (by omega)) (by omega) (by omega) (by omega)
  rw [flat_take] at hX
  rw [hik] at hrz hX
  have hXl := hX.1
  have hgw : g < w.heap.size := (h.lt g rfl).2
  have hgNw : gN < w.heap.size := (hN.lt gN rfl).2
  obtain ⟨q, hq⟩ : ∃ q, w.heap.size = q := ⟨_, rfl⟩
  rw [hq] at hrz hX hgw hgNw
  have hX1 := own_sets (N.flatMap spV) (i * 2) W0 _ hX
  have hX2 := own_sets ((L.drop i).flatMap spV) ((i + m) * 2) (W0.setCells q (i * 2) (N.flatMap spV)).drew _ hX1.1.drew
  have hlist : setsL (setsL ((L.take i).flatMap spV ++ zs) (i * 2) (N.flatMap spV)) ((i + m) * 2) ((L.drop i).flatMap spV) = (spI L i N i).flatMap spV := by
    have e := sets_fill ((L.take i).flatMap spV ++ zs) ((L.drop i).flatMap spV) (N.flatMap spV) (i * 2) (by rw [hXl, hVl, hBl]; omega)
    rw [hVl, show i * 2 + m * 2 = (i + m) * 2 by omega] at e
    rw [e, List.take_left' (by rw [flat_l, List.length_take, hln]; omega)]
    unfold spI; rw [List.flatMap_append, List.flatMap_append]
  rw [hlist] at hX2
  have hGn := own_room hX
  have hsz : (Try.prog.info? 24).map (·.size) = some 2 := by kernel_rfl
  have hcs0 := own_cells hX
  have hcN := own_cells (own_frk hN hF0 (fun _ _ => id))
  have hcp1 : ∀ ty dc, ∃ v', (Builtin.copy_ #[39, 39] ty #[.slice (some ⟨q, i * 2, none⟩) (n + m - i) dc, .slice (some ⟨gN, 0, none⟩) m cN]).run Try.prog W0 = .ok v' (W0.setCells q (i * 2) (N.flatMap spV)) := fun ty dc =>
    run_copy_k _ _ _ ty 24 2 q (i * 2) (n + m - i) dc ⟨gN, 0, none⟩ m cN (N.flatMap spV) Try.underlying39 hsz (by rw [hVl]; simp only [Nat.min_def]; split <;> omega)
      (fun j v hj => by rw [Addr.add_mid, Nat.zero_add]; exact hcN.1 j v hj)
      (fun j hj => (hcs0.2 (i * 2 + j) (by rw [hVl] at hj; omega)).1) (fun j hj => (hcs0.2 (i * 2 + j) (by rw [hVl] at hj; omega)).2) (flat_one spV_one _)
  have hcs1 := own_cells hX1.1
  have hcL := own_cells (own_frk (own_frk h hF0 (fun _ _ => id)) hX1.2 (fun k hk e => by have : g = k := (by simpa [Value.ownBlock] using hk); omega))
  have hcp2 : ∀ ty dc sc, ∃ v', (Builtin.copy_ #[39, 39] ty #[.slice (some ⟨q, (i + m) * 2, none⟩) (n + m - (i + m)) dc, .slice (some ⟨g, i * 2, none⟩) (n - i) sc]).run Try.prog (W0.setCells q (i * 2) (N.flatMap spV)).drew = .ok v' ((W0.setCells q (i * 2) (N.flatMap spV)).drew.setCells q ((i + m) * 2) ((L.drop i).flatMap spV)) := fun ty dc sc =>
    run_copy_k _ _ _ ty 24 2 q ((i + m) * 2) (n + m - (i + m)) dc ⟨g, i * 2, none⟩ (n - i) sc ((L.drop i).flatMap spV) Try.underlying39 hsz (by rw [hBl]; simp only [Nat.min_def]; split <;> omega)
      (fun j v hj => by rw [Addr.add_mid]; exact hcL.1 (i * 2 + j) v (by rw [← flat_drop, List.getElem?_drop] at hj; exact hj))
      (fun j hj => (hcs1.2 ((i + m) * 2 + j) (by rw [hBl] at hj; omega)).1) (fun j hj => (hcs1.2 ((i + m) * 2 + j) (by rw [hBl] at hj; omega)).2) (flat_one spV_one _)
  have hFR : Fr No w ((W0.setCells q (i * 2) (N.flatMap spV)).drew.setCells q ((i + m) * 2) ((L.drop i).flatMap spV)) := (hF0.then hX1.2 (fun k hk e => by omega)).drew.then hX2.2 (fun k hk e => by omega)
  have HRES := hid (own_mono hX2.1)
  have HFR := hid hFR
  have HRZ := hid hrz
  have HCP1 := hid hcp1
  have HCP2 := hid hcp2
  have hkk : (n : Int) + (m : Int) - (i : Int) = ((n + m - i : Nat) : Int) := by omega
  obtain ⟨W1, hW1⟩ : ∃ W1, W0.setCells q (i * 2) (N.flatMap spV) = W1 := ⟨_, rfl⟩
  rw [hW1] at HRES HFR HCP1 HCP2
  obtain ⟨W2, hW2⟩ : ∃ W2, W1.drew.setCells q ((i + m) * 2) ((L.drop i).flatMap spV) = W2 := ⟨_, rfl⟩
  rw [hW2] at HRES HFR HCP2
  rw [hq]
  clear hW1 hW2 hX hX1 hX2 hXl hzs hlist hcs0 hcs1 hcN hcL hcp1 hcp2 hBl hVl h hN hln hlm hrz hFR hF0 hik hq
  have a1 : (i : Int) < (n : Int) := by omega
  have a2 : (c : Int) < (n : Int) + (m : Int) := by omega
  have hin : i ≤ n := by omega
  have a3 : ((m : Int) == 0) = false := by simp; omega
  have a4 : ¬ c = i := by omega
  have a8 : ¬ G = i := by omega
  have a5 : ¬ G = i + m := by omega
  have a6 : ((i : Int) == (n : Int)) = false := by simp; omega
  have a7 : (n : Int) ≤ (c : Int) := by omega
  have hw1 : IntKind.i64.wrap ((i : Int) + (m : Int)) = (i : Int) + (m : Int) := by rw [IntKind.wrap_i64]; omega
  have hb1 : (0 : Int) ≤ (i : Int) + (m : Int) := by omega
  have htn : ((i : Int) + (m : Int)).toNat = i + m := by omega
  have hb3 : (i : Int) ≤ (n : Int) + (m : Int) := by omega
  have hb5 : (i : Int) + (m : Int) ≤ (n : Int) + (m : Int) := by omega
  go_enter Try.func38, Try.ntmps38
  go_wp2_with (first
    | (at_builtin; refine Lib.wpList_append_run _ rfl (.tmp 34) (.tmp 39) 39 3 rfl (.slice (some ⟨g, 0, none⟩) i c) (.int .i64 ((n + m - i : Nat) : Int)) rfl (by show _ = _; rw [← hkk]; rfl) _ _ (HRZ.out _) ?_)
    | (refine wpList_copy_run rfl (.tmp 43) (.tmp 44) 39 39 rfl _ _ rfl rfl (HCP1.out _ _) (fun v2 => ?_)))
  refine wp_region_held_drew (S := fun _ => True) (by kernel_rfl) trivial (fun hHeld => ?_)
  refine wpAnyH_take (i := 0) (v := ?_) rfl (by kernel_rfl) (by kernel_rfl) (by kernel_rfl) (fun _ _ _ h => h) (Or.inl ⟨by rfl, ?_⟩) hHeld ?_
  rotate_left
  · intro w hSw
    go_simp
    with_reducible rfl
  try simp only [Act.put, List.getElem_toArray, List.getElem_cons_zero, List.getElem_cons_succ, List.setIfInBounds_toArray, List.set_cons_zero, List.set_cons_succ]
  refine wpAnyH_take (i := 1) (v := ?_) rfl (by kernel_rfl) (by kernel_rfl) (by kernel_rfl) (fun _ _ _ h => h) (Or.inl ⟨by rfl, ?_⟩) hHeld ?_
  rotate_left
  · intro w hSw
    go_simp
    with_reducible rfl
  try simp only [Act.put, List.getElem_toArray, List.getElem_cons_zero, List.getElem_cons_succ, List.setIfInBounds_toArray, List.set_cons_zero, List.set_cons_succ]
  refine wpAnyH_take (i := 2) (v := ?_) rfl (by kernel_rfl) (by kernel_rfl) (by kernel_rfl) (fun _ _ _ h => h) (Or.inl ⟨by rfl, ?_⟩) hHeld ?_
  rotate_left
  · intro w hSw
    go_simp
    with_reducible rfl
  try simp only [Act.put, List.getElem_toArray, List.getElem_cons_zero, List.getElem_cons_succ, List.setIfInBounds_toArray, List.set_cons_zero, List.set_cons_succ]
  refine wpAnyH_take (i := 3) (v := ?_) rfl (by kernel_rfl) (by kernel_rfl) (by kernel_rfl) (fun _ _ _ h => h) (Or.inl ⟨by rfl, ?_⟩) hHeld ?_
  rotate_left
  · intro w hSw
    go_simp
    with_reducible rfl
  try simp only [Act.put, List.getElem_toArray, List.getElem_cons_zero, List.getElem_cons_succ, List.setIfInBounds_toArray, List.set_cons_zero, List.set_cons_succ]
  refine wpAnyH_take (i := 4) (v := ?_) rfl (by kernel_rfl) (by kernel_rfl) (by kernel_rfl) (fun _ _ _ h => h) (Or.inl ⟨by rfl, ?_⟩) hHeld ?_
  rotate_left
  · intro w hSw
    go_simp
    with_reducible rfl
  try simp only [Act.put, List.getElem_toArray, List.getElem_cons_zero, List.getElem_cons_succ, List.setIfInBounds_toArray, List.set_cons_zero, List.set_cons_succ]
  refine wpAnyH_take (i := 5) (v := ?_) rfl (by kernel_rfl) (by kernel_rfl) (by kernel_rfl) (fun _ _ _ h => h) (Or.inl ⟨by rfl, ?_⟩) hHeld ?_
  rotate_left
  · intro w hSw
    go_simp
    with_reducible rfl
  try simp only [Act.put, List.getElem_toArray, List.getElem_cons_zero, List.getElem_cons_succ, List.setIfInBounds_toArray, List.set_cons_zero, List.set_cons_succ]
  refine wpAnyH_take (i := 6) (v := ?_) rfl (by kernel_rfl) (by kernel_rfl) (by kernel_rfl) (fun _ _ _ h => h) (Or.inl ⟨by rfl, ?_⟩) hHeld ?_
  rotate_left
  · intro w hSw
    go_simp
    with_reducible rfl
  try simp only [Act.put, List.getElem_toArray, List.getElem_cons_zero, List.getElem_cons_succ, List.setIfInBounds_toArray, List.set_cons_zero, List.set_cons_succ]
  refine wpAnyH_take (i := 7) (v := ?_) rfl (by kernel_rfl) (by kernel_rfl) (by kernel_rfl) (fun _ _ _ h => h) (Or.inl ⟨by rfl, ?_⟩) hHeld ?_
  rotate_left
  · intro w hSw
    go_simp
    with_reducible rfl
  try simp only [Act.put, List.getElem_toArray, List.getElem_cons_zero, List.getElem_cons_succ, List.setIfInBounds_toArray, List.set_cons_zero, List.set_cons_succ]
  refine wpAnyH_ready (rs := [8]) (by kernel_rfl) (by simp) ?_
  refine AllReadyH.cons rfl (fun K hK => ?_) AllReadyH.nil
  rw [if_pos (by rfl)]
  refine wp_copy_run (.tmp 50) (.tmp 53) 39 39 rfl _ _ rfl rfl (HCP2.out _ _ _) (fun v1 => ?_)
  refine hK.out _ _ trivial (fun hHeld => ?_)
  clear hK K
  try simp only [Act.put, List.getElem_toArray, List.getElem_cons_zero, List.getElem_cons_succ, List.setIfInBounds_toArray, List.set_cons_zero, List.set_cons_succ]
  refine wpAnyH_done (by kernel_rfl) ?_ _
  go_wp2_with fail
  go_ret
  exact ⟨G, rfl, HRES.out, HFR.out⟩
theorem own_at0 {w : World} {v : Value} {L : List Sp} (h : w.ownsRow 0 24 2 v L.length (L.flatMap spV)) (hp : 0 < L.length) : ∃ g c, v = .slice (some ⟨g, 0, none⟩) L.length c := by
  obtain ⟨g, c, e, _⟩ := h.form hp
  exact ⟨g, c, e⟩
/-- slices.Insert at spans: rows of the call's own, in blocks apart -/
theorem sp_insert (w : World) (v : Value) (L : List Sp) (h : w.ownsRow 0 24 2 v L.length (L.flatMap spV)) (i : Nat) (hi : i ≤ L.length) (hn : L.length ≤ 1500000) (vn : Value) (N : List Sp) (hN : w.ownsRow 0 24 2 vn N.length (N.flatMap spV)) (hm : N.length ≤ 1500000) (hne : ∀ k, v.ownBlock = some k → vn.ownBlock ≠ some k) :
    Calls Try.prog 38 #[v, .int .i64 i, vn] w fun e w' => ∃ v', e = .returned v' ∧ Put2 w w' v v' (spI L i N i) := by
  rcases Nat.eq_zero_or_pos N.length with h0 | h0
  · obtain ⟨an, cn, rfl, _, _⟩ := own_elems hN
    rw [h0]
    refine (sp_insert_none w v L h i hi (by omega) an cn).mono ?_
    rintro e w' ⟨rfl, rfl⟩
    have hN0 : N = [] := List.eq_nil_of_length_eq_zero h0
    have e : spI L i N i = L := by unfold spI; rw [hN0, List.append_nil, List.take_append_drop]
    exact ⟨v, rfl, by rw [e]; exact h, Fr.refl _ _, fun k hk => .inl hk⟩
  obtain ⟨gN, cN, rfl⟩ := own_at0 hN h0
  have hNc := own_cells hN
  rcases Nat.lt_or_ge i L.length with hil | hil
  · obtain ⟨g, c, rfl⟩ := own_at0 h (by omega)
    have hgg : gN ≠ g := fun e => hne g rfl (by rw [e]; rfl)
    have hlen : (spI L i N i).length = L.length + N.length := by unfold spI; rw [List.length_append, List.length_append, List.length_take, List.length_drop]; omega
    have hc63 : c ≤ 9223372036854775807 := by
      obtain ⟨_, ⟨hv, _⟩ | ⟨g', cap', cur, hv, _, _, _, h5, _⟩⟩ := h
      · cases hv
      · obtain ⟨-, rfl⟩ : g = g' ∧ c = cap' := by injection hv with e1 _ e3; injection e1 with e1; injection e1 with e1; exact ⟨e1, e3⟩
        unfold maxLen at h5; omega
    rcases Nat.lt_or_ge c (L.length + N.length) with hr | hr
    · refine (sp_insert_grow w g L.length c L rfl h i hil hn gN N.length cN N rfl hN h0 hm hr).mono ?_
      rintro e w' ⟨G, rfl, ho, hF⟩
      exact ⟨_, rfl, by rw [hlen]; exact ho, hF.mono (fun _ _ e => e.elim), fun k hk => .inr (by have : w.heap.size = k := (by simpa [Value.ownBlock] using hk); omega)⟩
    · refine (sp_insert_room w g L.length c L rfl h i hil (by omega) gN N.length cN N rfl hN h0 (by omega) hgg hr hc63).mono ?_
      rintro e w' ⟨rfl, ho, hF⟩
      exact ⟨_, rfl, by rw [hlen]; exact ho, hF.mono (fun k _ e => by rw [e]; rfl), fun k hk => .inl hk⟩
  · obtain rfl : i = L.length := by omega
    refine (sp_insert_end w v L h (by omega) gN 0 cN N h0 (by omega) (fun j u hu => by rw [Nat.zero_add]; exact hNc.1 j u hu)).mono ?_
    rintro e w' ⟨v', rfl, hp⟩
    have e : spI L L.length N L.length = L ++ N := by unfold spI; rw [List.take_length, List.drop_length, List.append_nil]
    exact ⟨v', rfl, by rw [e]; exact hp⟩
end Go.Proofs.Ytdehojhipiklmaa
