/- slices.Replace at spans: in the middle, where what comes fits. -/
import Derived.Test.YtdehojhipiklmaaSpS
namespace Go.Proofs.Ytdehojhipiklmaa
open Go.RowKit

theorem setsL_len : ∀ (vs xs : List Value) (o : Nat), (setsL xs o vs).length = xs.length
  | [], _, _ => rfl
  | v :: r, xs, o => by rw [setsL, setsL_len r, List.length_set]
theorem setsL_far : ∀ (vs xs : List Value) (o p : Nat), o + vs.length ≤ p → (setsL xs o vs)[p]? = xs[p]?
  | [], _, _, _, _ => rfl
  | v :: r, xs, o, p, h => by
    rw [List.length_cons] at h
    rw [setsL, setsL_far r _ _ _ (by omega), List.getElem?_set_ne (by omega)]
theorem sets_fit (X B V Zs : List Value) (q : Nat) (h : q + V.length + B.length + Zs.length ≤ X.length) :
    (setsL (setsL (setsL X q V) (q + V.length) B) (q + V.length + B.length) Zs).take (q + V.length + B.length) = X.take q ++ V ++ B := by
  have l1 : (setsL X q V).length = X.length := setsL_len _ _ _
  have l2 : (setsL (setsL X q V) (q + V.length) B).length = X.length := by rw [setsL_len, l1]
  have t3 : (setsL (setsL (setsL X q V) (q + V.length) B) (q + V.length + B.length) Zs).take (q + V.length + B.length) = (setsL (setsL X q V) (q + V.length) B).take (q + V.length + B.length) := by
    rw [setsL_eq Zs _ _ (by rw [l2]; omega), List.append_assoc, List.take_left' (by rw [List.length_take, l2]; omega)]
  rw [t3, setsL_eq B _ _ (by rw [l1]; omega)]
  have e1 : ((setsL X q V).take (q + V.length) ++ B).length = q + V.length + B.length := by rw [List.length_append, List.length_take, l1]; omega
  rw [List.take_left' e1, setsL_eq V X q (by omega)]
  have e2 : (X.take q ++ V).length = q + V.length := by rw [List.length_append, List.length_take]; omega
  rw [List.take_left' e2]
/-- copy out of a row of the call's own, nil too -/
theorem sp_copy_from (W : World) (g n c : Nat) (X : List Value) (h : W.ownsRow 0 24 2 (.slice (some ⟨g, 0, none⟩) n c) n X) (an : Option Addr) (m cN : Nat) (N : List Sp) (hlm : N.length = m) (hN : W.ownsRow 0 24 2 (.slice an m cN) m (N.flatMap spV)) (t dLen dc : Nat) (hd : m ≤ dLen) (ht : t + m ≤ c) (ty : TypeId) :
    ∃ v', (Builtin.copy_ #[39, 39] ty #[.slice (some ⟨g, t * 2, none⟩) dLen dc, .slice an m cN]).run Try.prog W = .ok v' (W.setCells g (t * 2) (N.flatMap spV)) := by
  have hsz : (Try.prog.info? 24).map (·.size) = some 2 := by kernel_rfl
  have hVl : (N.flatMap spV).length = m * 2 := by rw [flat_l, hlm]
  have hcs := own_cells h
  cases an with
  | none =>
    obtain ⟨_, ⟨hv, hm0⟩ | ⟨g', cap', cur, hv, _⟩⟩ := hN
    · injection hv with _ e2 e3
      subst e2 e3
      have : N = [] := List.eq_nil_of_length_eq_zero hlm
      subst this
      exact run_copy_nil W _ _ ty 24 _ _ _ Try.underlying39 (by rw [hsz]; rfl)
    · cases hv
  | some ad =>
    obtain ⟨gN, rfl⟩ : ∃ gN, ad = ⟨gN, 0, none⟩ := by
      obtain ⟨_, ⟨hv, _⟩ | ⟨g', cap', cur, hv, _⟩⟩ := hN
      · cases hv
      · injection hv with e1; injection e1 with e1; exact ⟨g', e1⟩
    have hcN := own_cells hN
    exact run_copy_k _ _ _ ty 24 2 g (t * 2) dLen dc ⟨gN, 0, none⟩ m cN (N.flatMap spV) Try.underlying39 hsz (by rw [hVl]; simp only [Nat.min_def]; split <;> omega)
      (fun j v hj => by rw [Addr.add_mid, Nat.zero_add]; exact hcN.1 j v hj)
      (fun j hj => (hcs.2 (t * 2 + j) (by rw [hVl] at hj; omega)).1) (fun j hj => (hcs.2 (t * 2 + j) (by rw [hVl] at hj; omega)).2) (flat_one spV_one _)
set_option maxRecDepth 100000 in
set_option maxHeartbeats 2000000 in
theorem sp_rep_fit (w : World) (g n c : Nat) (L : List Sp) (hln : L.length = n) (h : w.ownsRow 0 24 2 (.slice (some ⟨g, 0, none⟩) n c) n (L.flatMap spV)) (i j d : Nat) (hij : i < j) (hjd : j + d = n) (hd : 0 < d) (hn : n ≤ 1500000) (an : Option Addr) (m cN : Nat) (N : List Sp) (hlm : N.length = m) (hN : w.ownsRow 0 24 2 (.slice an m cN) m (N.flatMap spV)) (hne : ∀ k, (Value.slice an m cN).ownBlock = some k → k ≠ g) (hfit : i + m ≤ j) (hc63 : c ≤ 9223372036854775807) :
    Calls Try.prog 34 #[.slice (some ⟨g, 0, none⟩) n c, .int .i64 i, .int .i64 j, .slice an m cN] w fun e w' => e = .returned (.slice (some ⟨g, 0, none⟩) (i + m + d) c) ∧ w'.ownsRow 0 24 2 (.slice (some ⟨g, 0, none⟩) (i + m + d) c) (i + m + d) ((spI L i N j).flatMap spV) ∧ Fr (fun k => k = g) w w' := by
  have hnc := own_room h
  have hBl : ((L.drop j).flatMap spV).length = d * 2 := by rw [flat_l, List.length_drop, hln]; omega
  have hVl : (N.flatMap spV).length = m * 2 := by rw [flat_l, hlm]
  have hX1 := own_sets (N.flatMap spV) (i * 2) w.drew _ h.drew
  have hX2 := own_sets ((L.drop j).flatMap spV) ((i + m) * 2) (w.drew.setCells g (i * 2) (N.flatMap spV)).drew _ hX1.1.drew
  have hX3 := own_sets (zc (n - (i + m + d))) ((i + m + d) * 2) _ _ hX2.1
  have hlist : (setsL (setsL (setsL (L.flatMap spV) (i * 2) (N.flatMap spV)) ((i + m) * 2) ((L.drop j).flatMap spV)) ((i + m + d) * 2) (zc (n - (i + m + d)))).take ((i + m + d) * 2) = (spI L i N j).flatMap spV := by
    have e := sets_fit (L.flatMap spV) ((L.drop j).flatMap spV) (N.flatMap spV) (zc (n - (i + m + d))) (i * 2) (by rw [hVl, hBl, zc_len]; have := flat_l L; omega)
    rw [hVl, hBl, show i * 2 + m * 2 = (i + m) * 2 by omega, show (i + m) * 2 + d * 2 = (i + m + d) * 2 by omega] at e
    rw [e, flat_take]
    unfold spI; rw [List.flatMap_append, List.flatMap_append]
  have hRES := own_cut hX3.1 (i + m + d) (by omega)
  rw [hlist] at hRES
  have hcp1 := sp_copy_from w.drew g n c _ h.drew an m cN N hlm hN.drew i (i + m + d - i)
  have hsz : (Try.prog.info? 24).map (·.size) = some 2 := by kernel_rfl
  have hcs1 := own_cells hX1.1.drew
  have hcp2 : ∀ ty dc sc, ∃ v', (Builtin.copy_ #[39, 39] ty #[.slice (some ⟨g, (i + m) * 2, none⟩) (i + m + d - (i + m)) dc, .slice (some ⟨g, j * 2, none⟩) (n - j) sc]).run Try.prog (w.drew.setCells g (i * 2) (N.flatMap spV)).drew = .ok v' ((w.drew.setCells g (i * 2) (N.flatMap spV)).drew.setCells g ((i + m) * 2) ((L.drop j).flatMap spV)) := fun ty dc sc =>
    run_copy_k _ _ _ ty 24 2 g ((i + m) * 2) (i + m + d - (i + m)) dc ⟨g, j * 2, none⟩ (n - j) sc ((L.drop j).flatMap spV) Try.underlying39 hsz (by rw [hBl]; simp only [Nat.min_def]; split <;> omega)
      (fun t v hj => by
        rw [Addr.add_mid]
        refine hcs1.1 (j * 2 + t) v ?_
        rw [setsL_far _ _ _ _ (by rw [hVl]; omega)]
        rw [← flat_drop, List.getElem?_drop] at hj; exact hj)
      (fun t hj => (hcs1.2 ((i + m) * 2 + t) (by rw [hBl] at hj; omega)).1) (fun t hj => (hcs1.2 ((i + m) * 2 + t) (by rw [hBl] at hj; omega)).2) (flat_one spV_one _)
  have hcl := fun ty cc => sp_clear _ g n c (i + m + d) (n - (i + m + d)) cc _ hX2.1 (by omega) ty
  have hFR : Fr (fun k => k = g) w (((w.drew.setCells g (i * 2) (N.flatMap spV)).drew.setCells g ((i + m) * 2) ((L.drop j).flatMap spV)).setCells g ((i + m + d) * 2) (zc (n - (i + m + d)))) := (((Fr.refl (fun k => k = g) w).drew.trans hX1.2).drew.trans hX2.2).trans hX3.2
  have HRES := hid hRES
  have HFR := hid hFR
  have HCP1 : Hid (∀ ty dc, _) := fun ty dc => hcp1 dc (by omega) (by omega) ty
  have HCP2 := hid hcp2
  have HCL := hid hcl
  have HCL0 : Hid (c = i + m + d → ∀ ty cc, ∃ v', (Builtin.clear_ #[39] ty #[.slice (some ⟨g, 0, none⟩) (n - (i + m + d)) cc]).run Try.prog ((w.drew.setCells g (i * 2) (N.flatMap spV)).drew.setCells g ((i + m) * 2) ((L.drop j).flatMap spV)) = .ok v' (((w.drew.setCells g (i * 2) (N.flatMap spV)).drew.setCells g ((i + m) * 2) ((L.drop j).flatMap spV)).setCells g ((i + m + d) * 2) (zc (n - (i + m + d))))) := fun e ty cc => by
    have e0 : n - (i + m + d) = 0 := by omega
    rw [e0]
    have hh := sp_clear _ g n c 0 0 cc _ hX2.1 (by omega) ty
    have z0 : zc 0 = [] := List.eq_nil_of_length_eq_zero (zc_len 0)
    rw [Nat.zero_mul, z0] at hh
    rw [z0]
    exact hh
  clear hcp1 hcp2 hcl hRES hFR hX1 hX2 hX3 hlist hcs1 hBl hVl h hN hln hlm hne
  obtain ⟨W1, hW1⟩ : ∃ W1, w.drew.setCells g (i * 2) (N.flatMap spV) = W1 := ⟨_, rfl⟩
  rw [hW1] at HRES HFR HCP1 HCP2 HCL HCL0
  obtain ⟨W2, hW2⟩ : ∃ W2, W1.drew.setCells g ((i + m) * 2) ((L.drop j).flatMap spV) = W2 := ⟨_, rfl⟩
  rw [hW2] at HRES HFR HCP2 HCL HCL0
  obtain ⟨W3, hW3⟩ : ∃ W3, W2.setCells g ((i + m + d) * 2) (zc (n - (i + m + d))) = W3 := ⟨_, rfl⟩
  rw [hW3] at HRES HFR HCL HCL0
  clear hW1 hW2 hW3
  obtain ⟨tot, ht⟩ : ∃ tot, i + m + d = tot := ⟨_, rfl⟩
  rw [ht] at HRES HCL HCL0 HCP1 HCP2 ⊢
  have t1 : (i : Int) + (m : Int) + (d : Int) = (tot : Int) := by omega
  have t2 : IntKind.i64.wrap ((i : Int) + (m : Int)) = (i : Int) + (m : Int) := by rw [IntKind.wrap_i64]; omega
  have t3 : IntKind.i64.wrap (tot : Int) = (tot : Int) := by rw [IntKind.wrap_i64]; omega
  have t4 : n - j = d := by omega
  rw [t4] at HCP2
  have a0 : (i : Int) < (j : Int) := by omega
  have a1 : (j : Int) < (n : Int) := by omega
  have a2 : ((i : Int) == (j : Int)) = false := by simp; omega
  have a3 : ((j : Int) == (n : Int)) = false := by simp; omega
  have a4 : (tot : Int) ≤ (c : Int) := by omega
  have a5 : (i : Int) + (m : Int) ≤ (j : Int) := by omega
  have a6 : ¬ c = i := by omega
  have a7 : ¬ c = j := by omega
  have a8 : ¬ c = i + m := by omega
  have b1 : (0 : Int) ≤ (i : Int) + (m : Int) := by omega
  have b2 : ((i : Int) + (m : Int)).toNat = i + m := by omega
  have b3 : (i : Int) + (m : Int) ≤ (tot : Int) := by omega
  have b4 : i ≤ c := by omega
  have b5 : j ≤ n := by omega
  have b6 : i ≤ j := by omega
  have b7 : i ≤ tot := by omega
  have b8 : tot ≤ c := by omega
  have b9 : tot ≤ n := by omega
  obtain ⟨gt, HCL1⟩ : ∃ gt : Addr, Hid ((if c = tot then (⟨g, 0, none⟩ : Addr) else ⟨g, tot * 2, none⟩) = gt ∧ ∀ ty cc, ∃ v', (Builtin.clear_ #[39] ty #[.slice (some gt) (n - tot) cc]).run Try.prog W2 = .ok v' W3) := by
    by_cases hct : c = tot
    · exact ⟨_, if_pos hct, HCL0.out hct⟩
    · exact ⟨_, if_neg hct, HCL.out⟩
  have hgt : (if c = tot then some (⟨g, 0, none⟩ : Addr) else some ⟨g, tot * 2, none⟩) = some gt := by rw [← HCL1.out.1]; split <;> rfl
  clear HCL HCL0
  go_enter Try.func34, Try.ntmps34
  go_wp2_with fail
  refine wp_region_held_drew (S := fun _ => True) (by kernel_rfl) trivial (fun hHeld => ?_)
  refine wpAnyH_take (i := 0) (v := ?_) rfl (by kernel_rfl) (by kernel_rfl) (by kernel_rfl) (fun _ _ _ h => h) (Or.inl ⟨by rfl, ?_⟩) hHeld ?_
  rotate_left
  · intro w hSw
    go_simp
    with_reducible rfl
  try simp only [Act.put, List.getElem_toArray, List.getElem_cons_zero, List.getElem_cons_succ, List.setIfInBounds_toArray, List.set_cons_zero, List.set_cons_succ]
  refine wpAnyH_take (i := 1) (v := ?_) rfl (by kernel_rfl) (by kernel_rfl) (by kernel_rfl) (fun _ _ _ h => h) (Or.inl ⟨by rfl, ?_⟩) hHeld ?_
  rotate_left
  · intro w hSw
    go_simp
    with_reducible rfl
  try simp only [Act.put, List.getElem_toArray, List.getElem_cons_zero, List.getElem_cons_succ, List.setIfInBounds_toArray, List.set_cons_zero, List.set_cons_succ]
  refine wpAnyH_take (i := 2) (v := ?_) rfl (by kernel_rfl) (by kernel_rfl) (by kernel_rfl) (fun _ _ _ h => h) (Or.inl ⟨by rfl, ?_⟩) hHeld ?_
  rotate_left
  · intro w hSw
    go_simp
    with_reducible rfl
  try simp only [Act.put, List.getElem_toArray, List.getElem_cons_zero, List.getElem_cons_succ, List.setIfInBounds_toArray, List.set_cons_zero, List.set_cons_succ]
  refine wpAnyH_take (i := 3) (v := ?_) rfl (by kernel_rfl) (by kernel_rfl) (by kernel_rfl) (fun _ _ _ h => h) (Or.inl ⟨by rfl, ?_⟩) hHeld ?_
  rotate_left
  · intro w hSw
    go_simp
    with_reducible rfl
  try simp only [Act.put, List.getElem_toArray, List.getElem_cons_zero, List.getElem_cons_succ, List.setIfInBounds_toArray, List.set_cons_zero, List.set_cons_succ]
  refine wpAnyH_take (i := 4) (v := ?_) rfl (by kernel_rfl) (by kernel_rfl) (by kernel_rfl) (fun _ _ _ h => h) (Or.inl ⟨by rfl, ?_⟩) hHeld ?_
  rotate_left
  · intro w hSw
    go_simp
    with_reducible rfl
  try simp only [Act.put, List.getElem_toArray, List.getElem_cons_zero, List.getElem_cons_succ, List.setIfInBounds_toArray, List.set_cons_zero, List.set_cons_succ]
  refine wpAnyH_take (i := 5) (v := ?_) rfl (by kernel_rfl) (by kernel_rfl) (by kernel_rfl) (fun _ _ _ h => h) (Or.inl ⟨by rfl, ?_⟩) hHeld ?_
  rotate_left
  · intro w hSw
    go_simp
    with_reducible rfl
  try simp only [Act.put, List.getElem_toArray, List.getElem_cons_zero, List.getElem_cons_succ, List.setIfInBounds_toArray, List.set_cons_zero, List.set_cons_succ]
  refine wpAnyH_take (i := 6) (v := ?_) rfl (by kernel_rfl) (by kernel_rfl) (by kernel_rfl) (fun _ _ _ h => h) (Or.inl ⟨by rfl, ?_⟩) hHeld ?_
  rotate_left
  · intro w hSw
    go_simp
    with_reducible rfl
  try simp only [Act.put, List.getElem_toArray, List.getElem_cons_zero, List.getElem_cons_succ, List.setIfInBounds_toArray, List.set_cons_zero, List.set_cons_succ]
  refine wpAnyH_take (i := 7) (v := ?_) rfl (by kernel_rfl) (by kernel_rfl) (by kernel_rfl) (fun _ _ _ h => h) (Or.inl ⟨by rfl, ?_⟩) hHeld ?_
  rotate_left
  · intro w hSw
    go_simp
    with_reducible rfl
  try simp only [Act.put, List.getElem_toArray, List.getElem_cons_zero, List.getElem_cons_succ, List.setIfInBounds_toArray, List.set_cons_zero, List.set_cons_succ]
  refine wpAnyH_take (i := 8) (v := ?_) rfl (by kernel_rfl) (by kernel_rfl) (by kernel_rfl) (fun _ _ _ h => h) (Or.inl ⟨by rfl, ?_⟩) hHeld ?_
  rotate_left
  · intro w hSw
    go_simp
    with_reducible rfl
  try simp only [Act.put, List.getElem_toArray, List.getElem_cons_zero, List.getElem_cons_succ, List.setIfInBounds_toArray, List.set_cons_zero, List.set_cons_succ]
  refine wpAnyH_take (i := 9) (v := ?_) rfl (by kernel_rfl) (by kernel_rfl) (by kernel_rfl) (fun _ _ _ h => h) (Or.inl ⟨by rfl, ?_⟩) hHeld ?_
  rotate_left
  · intro w hSw
    go_simp
    with_reducible rfl
  try simp only [Act.put, List.getElem_toArray, List.getElem_cons_zero, List.getElem_cons_succ, List.setIfInBounds_toArray, List.set_cons_zero, List.set_cons_succ]
  refine wpAnyH_take (i := 10) (v := ?_) rfl (by kernel_rfl) (by kernel_rfl) (by kernel_rfl) (fun _ _ _ h => h) (Or.inl ⟨by rfl, ?_⟩) hHeld ?_
  rotate_left
  · intro w hSw
    go_simp
    with_reducible rfl
  try simp only [Act.put, List.getElem_toArray, List.getElem_cons_zero, List.getElem_cons_succ, List.setIfInBounds_toArray, List.set_cons_zero, List.set_cons_succ]
  refine wpAnyH_take (i := 11) (v := ?_) rfl (by kernel_rfl) (by kernel_rfl) (by kernel_rfl) (fun _ _ _ h => h) (Or.inl ⟨by rfl, ?_⟩) hHeld ?_
  rotate_left
  · intro w hSw
    go_simp
    with_reducible rfl
  try simp only [Act.put, List.getElem_toArray, List.getElem_cons_zero, List.getElem_cons_succ, List.setIfInBounds_toArray, List.set_cons_zero, List.set_cons_succ]
  refine wpAnyH_take (i := 12) (v := ?_) rfl (by kernel_rfl) (by kernel_rfl) (by kernel_rfl) (fun _ _ _ h => h) (Or.inl ⟨by rfl, ?_⟩) hHeld ?_
  rotate_left
  · intro w hSw
    go_simp
    with_reducible rfl
  try simp only [Act.put, List.getElem_toArray, List.getElem_cons_zero, List.getElem_cons_succ, List.setIfInBounds_toArray, List.set_cons_zero, List.set_cons_succ]
  refine wpAnyH_done (by kernel_rfl) ?_ _
  go_wp2_with (refine wpList_copy_run rfl (.tmp 95) (.tmp 96) 39 39 rfl _ _ rfl rfl (HCP1.out _ _) (fun v2 => ?_))
  refine wp_region_held_drew (S := fun _ => True) (by kernel_rfl) trivial (fun hHeld => ?_)
  refine wpAnyH_take (i := 0) (v := ?_) rfl (by kernel_rfl) (by kernel_rfl) (by kernel_rfl) (fun _ _ _ h => h) (Or.inl ⟨by rfl, ?_⟩) hHeld ?_
  rotate_left
  · intro w hSw
    go_simp
    with_reducible rfl
  try simp only [Act.put, List.getElem_toArray, List.getElem_cons_zero, List.getElem_cons_succ, List.setIfInBounds_toArray, List.set_cons_zero, List.set_cons_succ]
  refine wpAnyH_take (i := 1) (v := ?_) rfl (by kernel_rfl) (by kernel_rfl) (by kernel_rfl) (fun _ _ _ h => h) (Or.inl ⟨by rfl, ?_⟩) hHeld ?_
  rotate_left
  · intro w hSw
    go_simp
    with_reducible rfl
  try simp only [Act.put, List.getElem_toArray, List.getElem_cons_zero, List.getElem_cons_succ, List.setIfInBounds_toArray, List.set_cons_zero, List.set_cons_succ]
  refine wpAnyH_take (i := 2) (v := ?_) rfl (by kernel_rfl) (by kernel_rfl) (by kernel_rfl) (fun _ _ _ h => h) (Or.inl ⟨by rfl, ?_⟩) hHeld ?_
  rotate_left
  · intro w hSw
    go_simp
    with_reducible rfl
  try simp only [Act.put, List.getElem_toArray, List.getElem_cons_zero, List.getElem_cons_succ, List.setIfInBounds_toArray, List.set_cons_zero, List.set_cons_succ]
  refine wpAnyH_take (i := 3) (v := ?_) rfl (by kernel_rfl) (by kernel_rfl) (by kernel_rfl) (fun _ _ _ h => h) (Or.inl ⟨by rfl, ?_⟩) hHeld ?_
  rotate_left
  · intro w hSw
    go_simp
    with_reducible rfl
  try simp only [Act.put, List.getElem_toArray, List.getElem_cons_zero, List.getElem_cons_succ, List.setIfInBounds_toArray, List.set_cons_zero, List.set_cons_succ]
  refine wpAnyH_take (i := 4) (v := ?_) rfl (by kernel_rfl) (by kernel_rfl) (by kernel_rfl) (fun _ _ _ h => h) (Or.inl ⟨by rfl, ?_⟩) hHeld ?_
  rotate_left
  · intro w hSw
    go_simp
    with_reducible rfl
  try simp only [Act.put, List.getElem_toArray, List.getElem_cons_zero, List.getElem_cons_succ, List.setIfInBounds_toArray, List.set_cons_zero, List.set_cons_succ]
  refine wpAnyH_take (i := 5) (v := ?_) rfl (by kernel_rfl) (by kernel_rfl) (by kernel_rfl) (fun _ _ _ h => h) (Or.inl ⟨by rfl, ?_⟩) hHeld ?_
  rotate_left
  · intro w hSw
    go_simp
    with_reducible rfl
  try simp only [Act.put, List.getElem_toArray, List.getElem_cons_zero, List.getElem_cons_succ, List.setIfInBounds_toArray, List.set_cons_zero, List.set_cons_succ]
  refine wpAnyH_take (i := 6) (v := ?_) rfl (by kernel_rfl) (by kernel_rfl) (by kernel_rfl) (fun _ _ _ h => h) (Or.inl ⟨by rfl, ?_⟩) hHeld ?_
  rotate_left
  · intro w hSw
    go_simp
    with_reducible rfl
  try simp only [Act.put, List.getElem_toArray, List.getElem_cons_zero, List.getElem_cons_succ, List.setIfInBounds_toArray, List.set_cons_zero, List.set_cons_succ]
  refine wpAnyH_take (i := 7) (v := ?_) rfl (by kernel_rfl) (by kernel_rfl) (by kernel_rfl) (fun _ _ _ h => h) (Or.inl ⟨by rfl, ?_⟩) hHeld ?_
  rotate_left
  · intro w hSw
    go_simp
    with_reducible rfl
  try simp only [Act.put, List.getElem_toArray, List.getElem_cons_zero, List.getElem_cons_succ, List.setIfInBounds_toArray, List.set_cons_zero, List.set_cons_succ]
  refine wpAnyH_take (i := 8) (v := ?_) rfl (by kernel_rfl) (by kernel_rfl) (by kernel_rfl) (fun _ _ _ h => h) (Or.inl ⟨by rfl, ?_⟩) hHeld ?_
  rotate_left
  · intro w hSw
    go_simp
    with_reducible rfl
  try simp only [Act.put, List.getElem_toArray, List.getElem_cons_zero, List.getElem_cons_succ, List.setIfInBounds_toArray, List.set_cons_zero, List.set_cons_succ]
  refine wpAnyH_ready (rs := [9]) (by kernel_rfl) (by simp) ?_
  refine AllReadyH.cons rfl (fun K hK => ?_) AllReadyH.nil
  rw [if_pos (by rfl)]
  refine wp_copy_run (.tmp 103) (.tmp 106) 39 39 rfl _ _ rfl rfl (HCP2.out _ _ _) (fun v1 => ?_)
  refine hK.out _ _ trivial (fun hHeld => ?_)
  clear hK K
  try simp only [Act.put, List.getElem_toArray, List.getElem_cons_zero, List.getElem_cons_succ, List.setIfInBounds_toArray, List.set_cons_zero, List.set_cons_succ]
  refine wpAnyH_done (by kernel_rfl) ?_ _
  go_wp2_with (refine wpList_clear_run rfl (.tmp 110) 39 rfl _ rfl (HCL1.out.2 _ _) (fun v3 => ?_))
  all_goals
    go_ret
    exact ⟨rfl, HRES.out, HFR.out⟩
end Go.Proofs.Ytdehojhipiklmaa
