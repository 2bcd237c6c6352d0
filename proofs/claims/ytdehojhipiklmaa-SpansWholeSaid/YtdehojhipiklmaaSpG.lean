/- slices.Insert at spans: where there is room. -/
import Derived.Test.YtdehojhipiklmaaSpF
namespace Go.Proofs.Ytdehojhipiklmaa
open Go.RowKit

theorem wp_copy_run {P : Program} {w : World} {o : Oper} {a : Act} {K : Act → World → Prop} {Q : Exit → Act → World → Prop} (d s : Operand) (t t' : TypeId)
    (ho : o.op = .call { callee := .builtin .copy, args := #[d, s], argTypes := #[t, t'] }) (v u : Value) (hd : a.eval d = v) (hs : a.eval s = u) {w' : World}
    (hr : ∃ v', (Builtin.copy_ #[t, t'] o.type #[v, u]).run P w = .ok v' w') (h : ∀ v', K (a.put o.dst v') w') : o.wp P a w K Q := by
  obtain ⟨v', hr⟩ := hr
  unfold Oper.wp execOp
  simp only [ho, resolve, invoke, builtin, Sem.run_bind, Sem.run_pure, Result.andThen_ok, List.map_toArray, List.map_cons, List.map_nil, hd, hs, hr]
  exact h v'
theorem sets_shift (X B V : List Value) (q : Nat) (h : q + V.length + B.length = X.length) : setsL (setsL X (q + V.length) B) q V = X.take q ++ V ++ B := by
  rw [setsL_eq B X _ (by omega)]
  have e1 : X.drop (q + V.length + B.length) = [] := List.drop_eq_nil_of_le (by omega)
  rw [e1, List.append_nil, setsL_eq V _ q (by rw [List.length_append, List.length_take]; omega)]
  have e2 : (X.take (q + V.length) ++ B).take q = X.take q := by
    rw [List.take_append_of_le_length (by rw [List.length_take]; omega), List.take_take]; congr 1; omega
  have e3 : (X.take (q + V.length) ++ B).drop (q + V.length) = B := by
    have : (X.take (q + V.length)).length = q + V.length := by rw [List.length_take]; omega
    exact List.drop_left' this
  rw [e2, e3]
theorem flat_take (L : List Sp) (i : Nat) : (L.flatMap spV).take (i * 2) = (L.take i).flatMap spV := by
  induction L generalizing i with
  | nil => simp
  | cons s L ih =>
    cases i with
    | zero => simp
    | succ i => rw [List.take_succ_cons, List.flatMap_cons, List.flatMap_cons, show (i + 1) * 2 = (spV s).length + i * 2 by rw [spV_len]; omega, List.take_length_add_append, ih]
theorem flat_drop (L : List Sp) (i : Nat) : (L.flatMap spV).drop (i * 2) = (L.drop i).flatMap spV := by
  induction L generalizing i with
  | nil => simp
  | cons s L ih =>
    cases i with
    | zero => simp
    | succ i => rw [List.drop_succ_cons, List.flatMap_cons, show (i + 1) * 2 = (spV s).length + i * 2 by rw [spV_len]; omega, List.drop_length_add_append, ih]
theorem flat_l (L : List Sp) : (L.flatMap spV).length = L.length * 2 := flat_len spV 2 L (fun x _ => spV_len x)
theorem own_shape {w : World} {base n z g cap : Nat} {e : TypeId} {xs : List Value} (h : w.ownsRow base e z (.slice (some ⟨g, 0, none⟩) n cap) n xs) : w.shape? g = some (e, cap * z) ∧ ∀ k, w.frozen? ⟨g, k, none⟩ = false := by
  obtain ⟨_, ⟨hv, _⟩ | ⟨g', cap', cur, hv, _, hb, h4, h5, h6, h7⟩⟩ := h
  · cases hv
  · obtain ⟨rfl, rfl⟩ : g = g' ∧ cap = cap' := by injection hv with e1 _ e3; injection e1 with e1; injection e1 with e1; exact ⟨e1, e3⟩
    refine ⟨?_, fun k => free_blk hb k⟩
    simp [World.shape?, hb, h6]
theorem sp_overlaps (w : World) (g gN off n m c lb cb cN : Nat) (X Y : List Value) (h : w.ownsRow 0 24 2 (.slice (some ⟨g, 0, none⟩) n c) n X) (hN : w.ownsRow 0 24 2 (.slice (some ⟨gN, 0, none⟩) m cN) m Y) (hne : gN ≠ g) (hc : 0 < c) :
    (callFunc 39 #[.slice (some ⟨gN, 0, none⟩) m cN, .slice (some ⟨g, off, none⟩) lb cb]).run Try.prog w = .ok (.value (.bool false)) w := by
  rw [run_callFunc_extern Try.func39 (by kernel_rfl) (by kernel_rfl) (by kernel_rfl) (e := Extern.SlicesOverlaps.overlaps #[39, 39] #[4]) (by kernel_rfl),
    Lib.run_overlaps_apart w 39 4 24 Try.underlying39 2 (fun w => by kernel_rfl) ⟨gN, 0, none⟩ ⟨g, off, none⟩ m cN lb cb hne _ _ _ _ (own_shape hN).1 (own_shape h).1 (by omega) ((own_shape hN).2 _) ((own_shape hN).2 _)]
  rfl
set_option maxRecDepth 100000 in
set_option maxHeartbeats 2000000 in
theorem sp_insert_room (w : World) (g n c : Nat) (L : List Sp) (hln : L.length = n) (h : w.ownsRow 0 24 2 (.slice (some ⟨g, 0, none⟩) n c) n (L.flatMap spV)) (i : Nat) (hi : i < n) (hn : n ≤ 2000000) (gN m cN : Nat) (N : List Sp) (hlm : N.length = m) (hN : w.ownsRow 0 24 2 (.slice (some ⟨gN, 0, none⟩) m cN) m (N.flatMap spV)) (hm : 0 < m) (hm2 : m ≤ 2000000) (hne : gN ≠ g) (hroom : n + m ≤ c) (hc63 : c ≤ 9223372036854775807) :
    Calls Try.prog 38 #[.slice (some ⟨g, 0, none⟩) n c, .int .i64 i, .slice (some ⟨gN, 0, none⟩) m cN] w fun e w' => e = .returned (.slice (some ⟨g, 0, none⟩) (n + m) c) ∧ w'.ownsRow 0 24 2 (.slice (some ⟨g, 0, none⟩) (n + m) c) (n + m) ((spI L i N i).flatMap spV) ∧ Fr (fun k => k = g) w w' := by
  have hBl : ((L.drop i).flatMap spV).length = (n - i) * 2 := by rw [flat_l, List.length_drop, hln]
  have hVl : (N.flatMap spV).length = m * 2 := by rw [flat_l, hlm]
  obtain ⟨ys, hys, hX⟩ := own_ext h (n + m) (by omega) hroom
  have hXl := hX.1
  have hX1 := own_sets ((L.drop i).flatMap spV) ((i + m) * 2) w.drew _ hX.drew
  have hX2 := own_sets (N.flatMap spV) (i * 2) _ _ hX1.1
  have hlist : setsL (setsL (L.flatMap spV ++ ys) ((i + m) * 2) ((L.drop i).flatMap spV)) (i * 2) (N.flatMap spV) = (spI L i N i).flatMap spV := by
    have e := sets_shift (L.flatMap spV ++ ys) ((L.drop i).flatMap spV) (N.flatMap spV) (i * 2) (by rw [hXl, hVl, hBl]; omega)
    rw [hVl, show i * 2 + m * 2 = (i + m) * 2 by omega] at e
    rw [e, List.take_append_of_le_length (by rw [flat_l, hln]; omega), flat_take]
    unfold spI; rw [List.flatMap_append, List.flatMap_append]
  rw [hlist] at hX2
  have hov : ∀ lb cb, (callFunc 39 #[.slice (some ⟨gN, 0, none⟩) m cN, .slice (some ⟨g, (i + m) * 2, none⟩) lb cb]).run Try.prog w = .ok (.value (.bool false)) w := fun lb cb => sp_overlaps w g gN ((i + m) * 2) n m c lb cb cN _ _ h hN hne (by omega)
  have hsz : (Try.prog.info? 24).map (·.size) = some 2 := by kernel_rfl
  have hcs := own_cells h
  have hcp1 : ∀ ty dc sc, ∃ v', (Builtin.copy_ #[39, 39] ty #[.slice (some ⟨g, (i + m) * 2, none⟩) (n + m - (i + m)) dc, .slice (some ⟨g, i * 2, none⟩) (n + m - i) sc]).run Try.prog w.drew = .ok v' (w.drew.setCells g ((i + m) * 2) ((L.drop i).flatMap spV)) := fun ty dc sc =>
    run_copy_k w.drew _ _ ty 24 2 g ((i + m) * 2) (n + m - (i + m)) dc ⟨g, i * 2, none⟩ (n + m - i) sc ((L.drop i).flatMap spV) Try.underlying39 hsz (by rw [hBl]; simp only [Nat.min_def]; split <;> omega)
      (fun j v hj => by rw [Addr.add_mid]; exact hcs.1 (i * 2 + j) v (by rw [← flat_drop, List.getElem?_drop] at hj; exact hj))
      (fun j hj => (hcs.2 ((i + m) * 2 + j) (by rw [hBl] at hj; omega)).1) (fun j hj => (hcs.2 ((i + m) * 2 + j) (by rw [hBl] at hj; omega)).2) (flat_one spV_one _)
  have hcs1 := own_cells hX1.1
  have hcN := own_cells (own_frk hN.drew hX1.2 (fun k hk e => hne (by have : gN = k := (by simpa [Value.ownBlock] using hk); omega)))
  have hcp2 : ∀ ty dc, ∃ v', (Builtin.copy_ #[39, 39] ty #[.slice (some ⟨g, i * 2, none⟩) (n + m - i) dc, .slice (some ⟨gN, 0, none⟩) m cN]).run Try.prog (w.drew.setCells g ((i + m) * 2) ((L.drop i).flatMap spV)) = .ok v' ((w.drew.setCells g ((i + m) * 2) ((L.drop i).flatMap spV)).setCells g (i * 2) (N.flatMap spV)) := fun ty dc =>
    run_copy_k _ _ _ ty 24 2 g (i * 2) (n + m - i) dc ⟨gN, 0, none⟩ m cN (N.flatMap spV) Try.underlying39 hsz (by rw [hVl]; simp only [Nat.min_def]; split <;> omega)
      (fun j v hj => by rw [Addr.add_mid, Nat.zero_add]; exact hcN.1 j v hj)
      (fun j hj => (hcs1.2 (i * 2 + j) (by rw [hVl] at hj; omega)).1) (fun j hj => (hcs1.2 (i * 2 + j) (by rw [hVl] at hj; omega)).2) (flat_one spV_one _)
  have HRES := hid hX2.1
  have HFR : Hid (Fr (fun k => k = g) w ((w.drew.setCells g ((i + m) * 2) ((L.drop i).flatMap spV)).setCells g (i * 2) (N.flatMap spV))) := (((Fr.refl (fun k => k = g) w).drew).trans hX1.2).trans hX2.2
  have HCP1 := hid hcp1
  have HCP2 := hid hcp2
  obtain ⟨W1, hW1⟩ : ∃ W1, w.drew.setCells g ((i + m) * 2) ((L.drop i).flatMap spV) = W1 := ⟨_, rfl⟩
  rw [hW1] at HRES HFR HCP1 HCP2
  obtain ⟨W2, hW2⟩ : ∃ W2, W1.setCells g (i * 2) (N.flatMap spV) = W2 := ⟨_, rfl⟩
  rw [hW2] at HRES HFR HCP2
  clear hW1 hW2 hX hX1 hX2 hXl hys hlist hcs hcs1 hcN hcp1 hcp2 hBl hVl h hN hln hlm
  have a1 : (i : Int) < (n : Int) := by omega
  have a2 : (n : Int) + (m : Int) ≤ (c : Int) := by omega
  have a3 : ((m : Int) == 0) = false := by simp; omega
  have a4 : ¬ c = i := by omega
  have a5 : ¬ c = i + m := by omega
  have a6 : ((i : Int) == (n : Int)) = false := by simp; omega
  have a7 : (c : Int) ≤ 9223372036854775807 := by omega
  have hw1 : IntKind.i64.wrap ((i : Int) + (m : Int)) = (i : Int) + (m : Int) := by rw [IntKind.wrap_i64]; omega
  have hb1 : (0 : Int) ≤ (i : Int) + (m : Int) := by omega
  have htn : ((i : Int) + (m : Int)).toNat = i + m := by omega
  have hb3 : (i : Int) ≤ (n : Int) + (m : Int) := by omega
  have hb5 : (i : Int) + (m : Int) ≤ (n : Int) + (m : Int) := by omega
  go_enter Try.func38, Try.ntmps38
  go_wp2_with (simp only [hov])
  refine wp_region_held_drew (S := fun _ => True) (by kernel_rfl) trivial (fun hHeld => ?_)
  refine wpAnyH_take (i := 0) (v := ?_) rfl (by kernel_rfl) (by kernel_rfl) (by kernel_rfl) (fun _ _ _ h => h) (Or.inl ⟨by rfl, ?_⟩) hHeld ?_
  rotate_left
  · intro w hSw
    go_simp
    with_reducible rfl
  try simp only [Act.put, List.getElem_toArray, List.getElem_cons_zero, List.getElem_cons_succ, List.setIfInBounds_toArray, List.set_cons_zero, List.set_cons_succ]
  refine wpAnyH_take (i := 1) (v := ?_) rfl (by kernel_rfl) (by kernel_rfl) (by kernel_rfl) (fun _ _ _ h => h) (Or.inl ⟨by rfl, ?_⟩) hHeld ?_
  rotate_left
  · intro w hSw
    go_simp
    with_reducible rfl
  try simp only [Act.put, List.getElem_toArray, List.getElem_cons_zero, List.getElem_cons_succ, List.setIfInBounds_toArray, List.set_cons_zero, List.set_cons_succ]
  refine wpAnyH_take (i := 2) (v := ?_) rfl (by kernel_rfl) (by kernel_rfl) (by kernel_rfl) (fun _ _ _ h => h) (Or.inl ⟨by rfl, ?_⟩) hHeld ?_
  rotate_left
  · intro w hSw
    go_simp
    with_reducible rfl
  try simp only [Act.put, List.getElem_toArray, List.getElem_cons_zero, List.getElem_cons_succ, List.setIfInBounds_toArray, List.set_cons_zero, List.set_cons_succ]
  refine wpAnyH_take (i := 3) (v := ?_) rfl (by kernel_rfl) (by kernel_rfl) (by kernel_rfl) (fun _ _ _ h => h) (Or.inl ⟨by rfl, ?_⟩) hHeld ?_
  rotate_left
  · intro w hSw
    go_simp
    with_reducible rfl
  try simp only [Act.put, List.getElem_toArray, List.getElem_cons_zero, List.getElem_cons_succ, List.setIfInBounds_toArray, List.set_cons_zero, List.set_cons_succ]
  refine wpAnyH_take (i := 4) (v := ?_) rfl (by kernel_rfl) (by kernel_rfl) (by kernel_rfl) (fun _ _ _ h => h) (Or.inl ⟨by rfl, ?_⟩) hHeld ?_
  rotate_left
  · intro w hSw
    go_simp
    with_reducible rfl
  try simp only [Act.put, List.getElem_toArray, List.getElem_cons_zero, List.getElem_cons_succ, List.setIfInBounds_toArray, List.set_cons_zero, List.set_cons_succ]
  refine wpAnyH_take (i := 5) (v := ?_) rfl (by kernel_rfl) (by kernel_rfl) (by kernel_rfl) (fun _ _ _ h => h) (Or.inl ⟨by rfl, ?_⟩) hHeld ?_
  rotate_left
  · intro w hSw
    go_simp
    with_reducible rfl
  try simp only [Act.put, List.getElem_toArray, List.getElem_cons_zero, List.getElem_cons_succ, List.setIfInBounds_toArray, List.set_cons_zero, List.set_cons_succ]
  refine wpAnyH_take (i := 6) (v := ?_) rfl (by kernel_rfl) (by kernel_rfl) (by kernel_rfl) (fun _ _ _ h => h) (Or.inl ⟨by rfl, ?_⟩) hHeld ?_
  rotate_left
  · intro w hSw
    go_simp
    with_reducible rfl
  try simp only [Act.put, List.getElem_toArray, List.getElem_cons_zero, List.getElem_cons_succ, List.setIfInBounds_toArray, List.set_cons_zero, List.set_cons_succ]
  refine wpAnyH_take (i := 7) (v := ?_) rfl (by kernel_rfl) (by kernel_rfl) (by kernel_rfl) (fun _ _ _ h => h) (Or.inl ⟨by rfl, ?_⟩) hHeld ?_
  rotate_left
  · intro w hSw
    go_simp
    with_reducible rfl
  try simp only [Act.put, List.getElem_toArray, List.getElem_cons_zero, List.getElem_cons_succ, List.setIfInBounds_toArray, List.set_cons_zero, List.set_cons_succ]
  refine wpAnyH_ready (rs := [8]) (by kernel_rfl) (by simp) ?_
  refine AllReadyH.cons rfl (fun K hK => ?_) AllReadyH.nil
  rw [if_pos (by rfl)]
  refine wp_copy_run (.tmp 73) (.tmp 76) 39 39 rfl _ _ rfl rfl (HCP1.out _ _ _) (fun v1 => ?_)
  refine hK.out _ _ trivial (fun hHeld => ?_)
  clear hK K
  try simp only [Act.put, List.getElem_toArray, List.getElem_cons_zero, List.getElem_cons_succ, List.setIfInBounds_toArray, List.set_cons_zero, List.set_cons_succ]
  refine wpAnyH_done (by kernel_rfl) ?_ _
  go_wp2_with (refine wpList_copy_run rfl (.tmp 80) (.tmp 81) 39 39 rfl _ _ rfl rfl (HCP2.out _ _) (fun v2 => ?_))
  go_ret
  exact ⟨rfl, HRES.out, HFR.out⟩
end Go.Proofs.Ytdehojhipiklmaa
