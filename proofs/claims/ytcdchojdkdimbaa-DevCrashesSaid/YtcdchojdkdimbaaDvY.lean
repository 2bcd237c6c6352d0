/- dev: Copy, Same. -/
import Derived.Test.YtcdchojdkdimbaaDvX
import Derived.Test.YtcdchojdkdimbaaArrEq
import Derived.Deep.RegionHeld3
namespace Go.Proofs.Ytcdchojdkdimbaa
open Go.RowKit

theorem dv_Copy_nil (w : World) : Calls Try.prog 26 #[.pointer none] w fun e w' => e = .returned (.pointer none) ∧ w' = w := by
  go_enter Try.func26, Try.ntmps26
  go_wp2
  go_ret
  exact ⟨rfl, rfl⟩
set_option maxRecDepth 100000 in
set_option maxHeartbeats 1000000 in
theorem dv_Copy (w : World) (p : Nat) (S : Nat → Prop) (D : DM) (h : PD w p S D) (hlen : D.opn.length ≤ 100000) (hpl : D.plan.length ≤ 100000) :
    Calls Try.prog 26 #[.pointer (some ⟨p, 0, none⟩)] w fun e w' => ∃ p' S', e = .returned (.pointer (some ⟨p', 0, none⟩)) ∧ PD w' p' S' D ∧ Fr No w w' ∧ (∀ k, S' k → w.heap.size ≤ k) := by
  have HOK := hid h.1
  obtain ⟨_, vF, vO, vP, hV⟩ := h
  obtain ⟨c0, c1, c2, _⟩ := hV.cells
  have HV := hid hV
  clear hV
  go_enter Try.func26, Try.ntmps26
  go_wp2_with fail
  refine wp_region_held_drew (S := fun W => W.cell? ⟨p, 0, none⟩ = some vF ∧ W.cell? ⟨p, 1, none⟩ = some vO ∧ W.cell? ⟨p, 2, none⟩ = some vP) (by kernel_rfl) ⟨c0, c1, c2⟩ (fun hHeld => ?_)
  have HVd := hid (HV.out.fr (Fr.refl No w).drew (fun _ _ => id))
  have HFd := hid (Fr.refl No w).drew
  have HS : Hid (∀ W W' : World, Fr No W W' → (W.cell? ⟨p, 0, none⟩ = some vF ∧ W.cell? ⟨p, 1, none⟩ = some vO ∧ W.cell? ⟨p, 2, none⟩ = some vP) → (W'.cell? ⟨p, 0, none⟩ = some vF ∧ W'.cell? ⟨p, 1, none⟩ = some vO ∧ W'.cell? ⟨p, 2, none⟩ = some vP)) := fun W W' f ⟨a1, a2, a3⟩ =>
    ⟨(f.cell (World.block_lt_of_cell? _ _ a1) id).trans a1, (f.cell (World.block_lt_of_cell? _ _ a2) id).trans a2, (f.cell (World.block_lt_of_cell? _ _ a3) id).trans a3⟩
  have HC1 := hid (fun W (h : DvV 62 68 W p S D vF vO vP) => cloneB_own W vF _ _ h.firm (flat_one bk_one _) (by have := HOK.out.hi; omega))
  have HC2 := hid (fun W (h : DvV 62 68 W p S D vF vO vP) => cloneW_own W vO _ _ h.opn (flat_one wk_one _) (by omega))
  have HC3 := hid (fun W (h : DvV 62 68 W p S D vF vO vP) => cloneN_off W vP _ h.plan (by omega))
  obtain ⟨w0, hw0⟩ : ∃ w0, w.drew = w0 := ⟨_, rfl⟩
  rw [hw0] at HVd HFd hHeld ⊢
  clear hw0 c0 c1 c2
  refine wpAnyH_take (i := 0) (v := ?_) rfl (by kernel_rfl) (by kernel_rfl) (by kernel_rfl) (fun _ _ _ h => h) (Or.inl ⟨by rfl, ?_⟩) hHeld ?_
  rotate_left
  · intro w hSw; obtain ⟨hA1, hA2, hA3⟩ := hSw
    go_simp
    with_reducible rfl
  try simp only [Act.put, List.getElem_toArray, List.getElem_cons_zero, List.getElem_cons_succ, List.setIfInBounds_toArray, List.set_cons_zero, List.set_cons_succ]
  refine wpAnyH_take (i := 1) (v := ?_) rfl (by kernel_rfl) (by kernel_rfl) (by kernel_rfl) (fun _ _ _ h => h) (Or.inl ⟨by rfl, ?_⟩) hHeld ?_
  rotate_left
  · intro w hSw; obtain ⟨hA1, hA2, hA3⟩ := hSw
    go_simp
    with_reducible rfl
  try simp only [Act.put, List.getElem_toArray, List.getElem_cons_zero, List.getElem_cons_succ, List.setIfInBounds_toArray, List.set_cons_zero, List.set_cons_succ]
  refine wpAnyH_take (i := 2) (v := ?_) rfl (by kernel_rfl) (by kernel_rfl) (by kernel_rfl) (fun _ _ _ h => h) (Or.inl ⟨by rfl, ?_⟩) hHeld ?_
  rotate_left
  · intro w hSw; obtain ⟨hA1, hA2, hA3⟩ := hSw
    go_simp
    with_reducible rfl
  try simp only [Act.put, List.getElem_toArray, List.getElem_cons_zero, List.getElem_cons_succ, List.setIfInBounds_toArray, List.set_cons_zero, List.set_cons_succ]
  refine wpAnyH_take (i := 3) (v := ?_) rfl (by kernel_rfl) (by kernel_rfl) (by kernel_rfl) (fun _ _ _ h => h) (Or.inl ⟨by rfl, ?_⟩) hHeld ?_
  rotate_left
  · intro w hSw; obtain ⟨hA1, hA2, hA3⟩ := hSw
    go_simp
    with_reducible rfl
  try simp only [Act.put, List.getElem_toArray, List.getElem_cons_zero, List.getElem_cons_succ, List.setIfInBounds_toArray, List.set_cons_zero, List.set_cons_succ]
  refine wpAnyH_take (i := 5) (v := ?_) rfl (by kernel_rfl) (by kernel_rfl) (by kernel_rfl) (fun _ _ _ h => h) (Or.inl ⟨by rfl, ?_⟩) hHeld ?_
  rotate_left
  · intro w hSw; obtain ⟨hA1, hA2, hA3⟩ := hSw
    go_simp
    with_reducible rfl
  try simp only [Act.put, List.getElem_toArray, List.getElem_cons_zero, List.getElem_cons_succ, List.setIfInBounds_toArray, List.set_cons_zero, List.set_cons_succ]
  refine wpAnyH_take (i := 6) (v := ?_) rfl (by kernel_rfl) (by kernel_rfl) (by kernel_rfl) (fun _ _ _ h => h) (Or.inl ⟨by rfl, ?_⟩) hHeld ?_
  rotate_left
  · intro w hSw; obtain ⟨hA1, hA2, hA3⟩ := hSw
    go_simp
    with_reducible rfl
  try simp only [Act.put, List.getElem_toArray, List.getElem_cons_zero, List.getElem_cons_succ, List.setIfInBounds_toArray, List.set_cons_zero, List.set_cons_succ]
  refine wpAnyH_take (i := 7) (v := ?_) rfl (by kernel_rfl) (by kernel_rfl) (by kernel_rfl) (fun _ _ _ h => h) (Or.inl ⟨by rfl, ?_⟩) hHeld ?_
  rotate_left
  · intro w hSw; obtain ⟨hA1, hA2, hA3⟩ := hSw
    go_simp
    with_reducible rfl
  try simp only [Act.put, List.getElem_toArray, List.getElem_cons_zero, List.getElem_cons_succ, List.setIfInBounds_toArray, List.set_cons_zero, List.set_cons_succ]
  refine wpAnyH_take (i := 8) (v := ?_) rfl (by kernel_rfl) (by kernel_rfl) (by kernel_rfl) (fun _ _ _ h => h) (Or.inl ⟨by rfl, ?_⟩) hHeld ?_
  rotate_left
  · intro w hSw; obtain ⟨hA1, hA2, hA3⟩ := hSw
    go_simp
    with_reducible rfl
  try simp only [Act.put, List.getElem_toArray, List.getElem_cons_zero, List.getElem_cons_succ, List.setIfInBounds_toArray, List.set_cons_zero, List.set_cons_succ]
  refine wpAnyH_take (i := 10) (v := ?_) rfl (by kernel_rfl) (by kernel_rfl) (by kernel_rfl) (fun _ _ _ h => h) (Or.inl ⟨by rfl, ?_⟩) hHeld ?_
  rotate_left
  · intro w hSw; obtain ⟨hA1, hA2, hA3⟩ := hSw
    go_simp
    with_reducible rfl
  try simp only [Act.put, List.getElem_toArray, List.getElem_cons_zero, List.getElem_cons_succ, List.setIfInBounds_toArray, List.set_cons_zero, List.set_cons_succ]
  refine wpAnyH_take (i := 11) (v := ?_) rfl (by kernel_rfl) (by kernel_rfl) (by kernel_rfl) (fun _ _ _ h => h) (Or.inl ⟨by rfl, ?_⟩) hHeld ?_
  rotate_left
  · intro w hSw; obtain ⟨hA1, hA2, hA3⟩ := hSw
    go_simp
    with_reducible rfl
  try simp only [Act.put, List.getElem_toArray, List.getElem_cons_zero, List.getElem_cons_succ, List.setIfInBounds_toArray, List.set_cons_zero, List.set_cons_succ]
  refine wpAnyH_take (i := 12) (v := ?_) rfl (by kernel_rfl) (by kernel_rfl) (by kernel_rfl) (fun _ _ _ h => h) (Or.inl ⟨by rfl, ?_⟩) hHeld ?_
  rotate_left
  · intro w hSw; obtain ⟨hA1, hA2, hA3⟩ := hSw
    go_simp
    with_reducible rfl
  try simp only [Act.put, List.getElem_toArray, List.getElem_cons_zero, List.getElem_cons_succ, List.setIfInBounds_toArray, List.set_cons_zero, List.set_cons_succ]
  refine wpAnyH_take (i := 13) (v := ?_) rfl (by kernel_rfl) (by kernel_rfl) (by kernel_rfl) (fun _ _ _ h => h) (Or.inl ⟨by rfl, ?_⟩) hHeld ?_
  rotate_left
  · intro w hSw; obtain ⟨hA1, hA2, hA3⟩ := hSw
    go_simp
    with_reducible rfl
  try simp only [Act.put, List.getElem_toArray, List.getElem_cons_zero, List.getElem_cons_succ, List.setIfInBounds_toArray, List.set_cons_zero, List.set_cons_succ]
  refine wpAnyH_ready (rs := [4]) (by kernel_rfl) (by simp) ?_
  refine AllReadyH.cons rfl (fun K hK => ?_) AllReadyH.nil
  rw [if_pos (by rfl)]
  go_simp
  refine (HC1.out w0 HVd.out).mono ?_
  rintro e w1 ⟨v1, rfl, r1, n1, f1⟩
  have HV1 := hid (HVd.out.fr f1 (fun _ _ => id))
  refine hK.out _ _ (HS.out _ _ f1 hHeld) (fun hHeld => ?_)
  clear hK K
  try simp only [Act.put, List.getElem_toArray, List.getElem_cons_zero, List.getElem_cons_succ, List.setIfInBounds_toArray, List.set_cons_zero, List.set_cons_succ]
  refine wpAnyH_ready (rs := [9]) (by kernel_rfl) (by simp) ?_
  refine AllReadyH.cons rfl (fun K hK => ?_) AllReadyH.nil
  rw [if_pos (by rfl)]
  go_simp
  refine (HC2.out w1 HV1.out).mono ?_
  rintro e w2 ⟨v2, rfl, r2, n2, f2⟩
  have HV2 := hid (HV1.out.fr f2 (fun _ _ => id))
  refine hK.out _ _ (HS.out _ _ f2 hHeld) (fun hHeld => ?_)
  clear hK K
  try simp only [Act.put, List.getElem_toArray, List.getElem_cons_zero, List.getElem_cons_succ, List.setIfInBounds_toArray, List.set_cons_zero, List.set_cons_succ]
  refine wpAnyH_ready (rs := [14]) (by kernel_rfl) (by simp) ?_
  refine AllReadyH.cons rfl (fun K hK => ?_) AllReadyH.nil
  rw [if_pos (by rfl)]
  go_simp
  refine (HC3.out w2 HV2.out).mono ?_
  rintro e w3 ⟨v3, rfl, r3, n3, f3⟩
  refine hK.out _ _ (HS.out _ _ f3 hHeld) (fun hHeld => ?_)
  clear hK K
  try simp only [Act.put, List.getElem_toArray, List.getElem_cons_zero, List.getElem_cons_succ, List.setIfInBounds_toArray, List.set_cons_zero, List.set_cons_succ]
  obtain ⟨a1, e1, rfl⟩ := own_form r1
  obtain ⟨a2, e2, rfl⟩ := own_form r2
  obtain ⟨a3, e3, rfl⟩ := r3.form
  refine wpAnyH_take (i := 15) (v := ?_) rfl (by kernel_rfl) (by kernel_rfl) (by kernel_rfl) (fun _ _ _ h => h) (Or.inl ⟨by rfl, ?_⟩) hHeld ?_
  rotate_left
  · intro w hSw
    go_simp
    with_reducible rfl
  try simp only [Act.put, List.getElem_toArray, List.getElem_cons_zero, List.getElem_cons_succ, List.setIfInBounds_toArray, List.set_cons_zero, List.set_cons_succ]
  refine wpAnyH_ready (rs := [16]) (by kernel_rfl) (by simp) ?_
  refine AllReadyH.cons rfl (fun K hK => ?_) AllReadyH.nil
  rw [if_pos (by rfl)]
  go_simp
  have f4 := (Fr.refl No w3).alloc (.cells #[.slice a1 D.firm.length e1, .slice a2 D.opn.length e2, .slice a3 D.plan.length e3] 62)
  refine hK.out _ _ (HS.out _ _ f4 hHeld) (fun hHeld => ?_)
  clear hK K
  try simp only [Act.put, List.getElem_toArray, List.getElem_cons_zero, List.getElem_cons_succ, List.setIfInBounds_toArray, List.set_cons_zero, List.set_cons_succ]
  refine wpAnyH_take (i := 17) (v := ?_) rfl (by kernel_rfl) (by kernel_rfl) (by kernel_rfl) (fun _ _ _ h => h) (Or.inl ⟨by rfl, ?_⟩) hHeld ?_
  rotate_left
  · intro w hSw
    go_simp
    with_reducible rfl
  try simp only [Act.put, List.getElem_toArray, List.getElem_cons_zero, List.getElem_cons_succ, List.setIfInBounds_toArray, List.set_cons_zero, List.set_cons_succ]
  refine wpAnyH_done (by kernel_rfl) ?_ _
  go_wp2_with fail
  go_ret
  have z1 := f1.size
  have z2 := f2.size
  have z3 := f3.size
  have z0 := HFd.out.size
  have q1 := (own_frk (own_frk (own_frk r1 f2 (fun _ _ => id)) f3 (fun _ _ => id)) f4 (fun _ _ => id))
  have q2 := (own_frk (own_frk r2 f3 (fun _ _ => id)) f4 (fun _ _ => id))
  have q3 := r3.fr f4 (fun _ _ => id)
  refine ⟨w3.heap.size, fun k => w.heap.size ≤ k ∧ k < (w3.alloc (.cells #[.slice a1 D.firm.length e1, .slice a2 D.opn.length e2, .slice a3 D.plan.length e3] 62)).heap.size, rfl, ⟨HOK.out, _, _, _, heap_new w3 _, q1, q2, q3, ⟨by omega, by simp⟩, fun k hk => ⟨by have := n1 k hk; omega, (q1.lt k hk).2⟩, fun k hk => ⟨by have := n2 k hk; omega, (q2.lt k hk).2⟩, fun k hk => ⟨by have := n3 k hk; omega, by obtain ⟨x, hx⟩ := q3.ty hk; exact lt_of_block hx⟩, fun k hk => hk.2⟩, ((HFd.out.trans f1).trans f2).trans (f3.trans f4), fun k hk => hk.1⟩
end Go.Proofs.Ytcdchojdkdimbaa
