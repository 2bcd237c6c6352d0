/- The chapter's example of layer 5: lavabolaw05.awake. -/
import Derived.Test.YtcdchojdkdimbaaDvS
import Derived.Test.YtcdchojdkdimbaaDvM
namespace Go.Proofs.Ytcdchojdkdimbaa
open Go.RowKit

theorem zeros_build (w : World) : (Instr.build 42 #[]).run Try.prog w = .ok (.agg (blkA zeros)) w := run_build w 42 #[] _ (by kernel_rfl)
theorem Row.one {w : World} {g : Nat} {v : Value} {t : TypeId} (h : w.heap[g]? = some (.cells #[v] t (0, 0))) : Row w (some ⟨g, 0, none⟩) [v] := .inr ⟨g, 0, rfl, lt_of_block h, fun i hi => by
  have hi : i = 0 := by simpa using hi
  subst hi
  rw [Nat.zero_add, cell_blk h]; rfl⟩
def F2 : List (List Nat) := [zeros, zeros]
def DM3 (M : List Nat) : DM := ⟨F2, [(1, M)], []⟩
theorem aw_write (M : List Nat) : writeD (newD 2) 1 M = DM3 M := rfl
theorem aw_read (M : List Nat) : readB (DM3 M) 1 = M := rfl
theorem aw_pop (M : List Nat) : popD (DM3 M) = DM3 M := rfl
theorem aw_firm (M : List Nat) : firmAt (DM3 M) 1 = zeros := rfl
theorem aw_crash1 (M : List Nat) : crashD (DM3 M) [true] = ⟨[zeros, M], [], []⟩ := rfl
theorem aw_crash0 (M : List Nat) : crashD (DM3 M) [] = ⟨F2, [], []⟩ := rfl

set_option maxRecDepth 100000 in
set_option maxHeartbeats 2000000 in
theorem dv_awake (w : World) : Calls Try.prog 10 #[] w fun e w' => e = .returned (.bool true) ∧ Fr No w w' := by
  have HML := hid (markB_len 7)
  obtain ⟨M, hM⟩ : ∃ M, markB 7 = M := ⟨_, rfl⟩
  rw [hM] at HML
  have HMK : Hid (∀ W, Calls Try.prog 22 #[.int .i64 7] W fun e w' => e = .returned (.agg (blkA M)) ∧ Fr No W w') := fun W => by rw [← hM]; exact dv_mark W 7
  clear hM
  obtain ⟨Z, hZ⟩ : ∃ Z, Z = zeros := ⟨_, rfl⟩
  have HZL : Hid (Z.length = 64) := by unfold Hid; rw [hZ, zeros_len]
  have HZB : Hid (∀ W, (Instr.build 42 #[]).run Try.prog W = .ok (.agg (blkA Z)) W) := by unfold Hid; rw [hZ]; exact zeros_build
  have HZ := hid hZ
  clear hZ
  have HIM := hid (info64b M HML.out)
  have H1M := hid (blkA_one M)
  have HSM : Hid ((blkA zeros).size = (blkA M).size) := by unfold Hid; rw [blkA_zeros_size, blkA_size, HML.out]
  have HIZ := hid (info64b Z HZL.out)
  have H1Z := hid (blkA_one Z)
  have HSZ : Hid ((blkA zeros).size = (blkA Z).size) := by unfold Hid; rw [blkA_zeros_size, blkA_size, HZL.out]
  go_enter Try.func10, Try.ntmps10
  go_wp2_with fail
  refine (dv_New_ok 2 w (by decide) (by decide)).mono ?_
  rintro e w1 ⟨p, S, rfl, hD1, hF1, hS1⟩
  have HD1 := hid hD1
  have HF1 := hid hF1
  clear hD1 hF1
  go_wp2_with fail
  refine (HMK.out w1).mono ?_
  rintro e w2 ⟨rfl, hF2⟩
  have HD2 := hid (HD1.out.no hF2)
  have HF2 := hid (HF1.out.trans hF2)
  clear hF2
  go_wp2_with fail
  refine (dv_Write w2 p S (newD 2) HD2.out 1 (by decide) M HML.out (by decide)).mono ?_
  rintro e w3 ⟨rfl, S3, hD3, hF3, hm3⟩
  rw [aw_write] at hD3
  rw [show writeE (newD 2) = 0 from rfl]
  have HD3 := hid hD3
  have HF3 := hid (HF2.out.then hF3 (fun i hi e => absurd hi (by have := hS1 i e; omega)))
  have hS3 : ∀ k, S3 k → w.heap.size ≤ k := fun k hk => (hm3.1 k hk).elim (fun h => hS1 k h) (fun h => Nat.le_trans HF2.out.size h)
  clear hD3 hF3 hm3 HD1 HD2 HF1 HF2
  go_wp2_with fail
  refine (dv_Read w3 p S3 (DM3 M) HD3.out 1 (by show 1 < 2; decide) (by show 1 ≤ 100000; decide)).mono ?_
  rintro e w4 ⟨rfl, hD4, hF4⟩
  rw [aw_pop] at hD4
  rw [aw_read, show readE (DM3 M) = 0 from rfl]
  have HD4 := hid hD4
  have HF4 := hid (HF3.out.then hF4 (fun i hi e => absurd hi (by have := hS3 i e; omega)))
  clear hD4 hF4 HD3 HF3
  have HN4 := hid (heap_new w4 (.cells (blkA zeros) 42))
  have HP4 := put_blk w4 (blkA zeros) M
  go_wp2_with (refine wpList_store_row rfl 42 _ _ rfl w4.heap.size (blkA M) rfl rfl 42 (blkA zeros) HN4.out HIM.out HSM.out H1M.out ?_)
  change Calls _ _ _ ((w4.alloc (.cells (blkA zeros) 42)).setRow w4.heap.size (blkA M)) _
  have HX4 : Fr No w4 ((w4.alloc (.cells (blkA zeros) 42)).setRow w4.heap.size (blkA M)) := HP4.2
  have HQ4 : Hid (((w4.alloc (.cells (blkA zeros) 42)).setRow w4.heap.size (blkA M)).heap[w4.heap.size]? = some (.cells (blkA M) 42 (0, 0))) := HP4.1
  obtain ⟨y4, hy4⟩ : ∃ y4, (w4.alloc (.cells (blkA zeros) 42)).setRow w4.heap.size (blkA M) = y4 := ⟨_, rfl⟩
  rw [hy4] at HX4 HQ4  ⊢
  clear hy4 HP4 HN4
  obtain ⟨q4, hq4⟩ : ∃ q4, w4.heap.size = q4 := ⟨_, rfl⟩
  rw [hq4] at HQ4  ⊢
  clear hq4
  replace HD4 := hid (HD4.out.no HX4)
  replace HF4 := hid (HF4.out.trans HX4)
  clear HX4
  refine (dv_Firm_ok y4 p S3 (DM3 M) HD4.out 1 (by show 1 < 2; decide)).mono ?_
  rintro e w5 ⟨rfl, hX5⟩
  rw [aw_firm, ← HZ.out]
  replace HD4 := hid (HD4.out.no hX5)
  replace HF4 := hid (HF4.out.trans hX5)
  replace HQ4 := hid ((hX5.block _ (lt_of_block HQ4.out) id).trans HQ4.out)
  clear hX5
  have HN5 := hid (heap_new w5 (.cells (blkA zeros) 42))
  have HP5 := put_blk w5 (blkA zeros) Z
  go_wp2_with (refine wpList_store_row rfl 42 _ _ rfl w5.heap.size (blkA Z) rfl rfl 42 (blkA zeros) HN5.out HIZ.out HSZ.out H1Z.out ?_)
  change Calls _ _ _ (((w5.alloc (.cells (blkA zeros) 42)).setRow w5.heap.size (blkA Z)).alloc (.cells #[.bool true] 4)) _
  have hsl := heap_new ((w5.alloc (.cells (blkA zeros) 42)).setRow w5.heap.size (blkA Z)) (.cells #[.bool true] 4)
  have HX5 : Fr No w5 (((w5.alloc (.cells (blkA zeros) 42)).setRow w5.heap.size (blkA Z)).alloc (.cells #[.bool true] 4)) := HP5.2.alloc _
  have HQ5 : Hid ((((w5.alloc (.cells (blkA zeros) 42)).setRow w5.heap.size (blkA Z)).alloc (.cells #[.bool true] 4)).heap[w5.heap.size]? = some (.cells (blkA Z) 42 (0, 0))) := (Below.heap_alloc _ _ _ (lt_of_block HP5.1)).trans HP5.1
  rw [show ((w5.alloc (.cells (blkA zeros) 42)).setRow w5.heap.size (blkA Z)).heap.size = w5.heap.size + 1 from by simp] at hsl
  obtain ⟨y5, hy5⟩ : ∃ y5, ((w5.alloc (.cells (blkA zeros) 42)).setRow w5.heap.size (blkA Z)).alloc (.cells #[.bool true] 4) = y5 := ⟨_, rfl⟩
  rw [hy5] at HX5 HQ5 hsl ⊢
  clear hy5 HP5 HN5
  obtain ⟨q5, hq5⟩ : ∃ q5, w5.heap.size = q5 := ⟨_, rfl⟩
  rw [hq5] at HQ5 hsl ⊢
  clear hq5
  replace HD4 := hid (HD4.out.no HX5)
  replace HF4 := hid (HF4.out.trans HX5)
  replace HQ4 := hid ((HX5.block _ (lt_of_block HQ4.out) id).trans HQ4.out)
  clear HX5
  refine (dv_Crash y5 p S3 (DM3 M) HD4.out _ _ [true] (Row.one hsl) (by show 1 ≤ 1; decide) (by show 1 ≤ 100000; decide)).mono ?_
  rintro e w6 ⟨pc, Sc, rfl, hDc, hX6, hSc⟩
  rw [aw_crash1] at hDc
  have HDc := hid hDc
  clear hDc hsl hSc
  replace HD4 := hid (HD4.out.no hX6)
  replace HF4 := hid (HF4.out.trans hX6)
  replace HQ4 := hid ((hX6.block _ (lt_of_block HQ4.out) id).trans HQ4.out)
  replace HQ5 := hid ((hX6.block _ (lt_of_block HQ5.out) id).trans HQ5.out)
  clear hX6
  go_wp2_with fail
  refine (dv_Firm_ok w6 pc Sc _ HDc.out 1 (by show 1 < 2; decide)).mono ?_
  rintro e w7 ⟨rfl, hX7⟩
  rw [show firmAt ⟨[zeros, M], [], []⟩ 1 = M from rfl]
  clear HDc
  replace HD4 := hid (HD4.out.no hX7)
  replace HF4 := hid (HF4.out.trans hX7)
  replace HQ4 := hid ((hX7.block _ (lt_of_block HQ4.out) id).trans HQ4.out)
  replace HQ5 := hid ((hX7.block _ (lt_of_block HQ5.out) id).trans HQ5.out)
  clear hX7
  have HN7 := hid (heap_new w7 (.cells (blkA zeros) 42))
  have HP7 := put_blk w7 (blkA zeros) M
  go_wp2_with (refine wpList_store_row rfl 42 _ _ rfl w7.heap.size (blkA M) rfl rfl 42 (blkA zeros) HN7.out HIM.out HSM.out H1M.out ?_)
  change Calls _ _ _ ((w7.alloc (.cells (blkA zeros) 42)).setRow w7.heap.size (blkA M)) _
  have HX7 : Fr No w7 ((w7.alloc (.cells (blkA zeros) 42)).setRow w7.heap.size (blkA M)) := HP7.2
  have HQ7 : Hid (((w7.alloc (.cells (blkA zeros) 42)).setRow w7.heap.size (blkA M)).heap[w7.heap.size]? = some (.cells (blkA M) 42 (0, 0))) := HP7.1
  obtain ⟨y7, hy7⟩ : ∃ y7, (w7.alloc (.cells (blkA zeros) 42)).setRow w7.heap.size (blkA M) = y7 := ⟨_, rfl⟩
  rw [hy7] at HX7 HQ7  ⊢
  clear hy7 HP7 HN7
  obtain ⟨q7, hq7⟩ : ∃ q7, w7.heap.size = q7 := ⟨_, rfl⟩
  rw [hq7] at HQ7  ⊢
  clear hq7
  replace HD4 := hid (HD4.out.no HX7)
  replace HF4 := hid (HF4.out.trans HX7)
  replace HQ4 := hid ((HX7.block _ (lt_of_block HQ4.out) id).trans HQ4.out)
  replace HQ5 := hid ((HX7.block _ (lt_of_block HQ5.out) id).trans HQ5.out)
  clear HX7
  refine (dv_Crash y7 p S3 (DM3 M) HD4.out _ _ [] (.inl rfl) (by show 0 ≤ 1; decide) (by show 1 ≤ 100000; decide)).mono ?_
  rintro e w8 ⟨pb, Sb, rfl, hDb, hX8, hSb⟩
  rw [aw_crash0] at hDb
  have HDb := hid hDb
  clear hDb hSb
  replace HD4 := hid (HD4.out.no hX8)
  replace HF4 := hid (HF4.out.trans hX8)
  replace HQ4 := hid ((hX8.block _ (lt_of_block HQ4.out) id).trans HQ4.out)
  replace HQ5 := hid ((hX8.block _ (lt_of_block HQ5.out) id).trans HQ5.out)
  replace HQ7 := hid ((hX8.block _ (lt_of_block HQ7.out) id).trans HQ7.out)
  clear hX8
  go_wp2_with fail
  refine (dv_Firm_ok w8 pb Sb _ HDb.out 1 (by show 1 < 2; decide)).mono ?_
  rintro e w9 ⟨rfl, hX9⟩
  rw [show firmAt ⟨F2, [], []⟩ 1 = zeros from rfl, ← HZ.out]
  clear HDb
  replace HD4 := hid (HD4.out.no hX9)
  replace HF4 := hid (HF4.out.trans hX9)
  replace HQ4 := hid ((hX9.block _ (lt_of_block HQ4.out) id).trans HQ4.out)
  replace HQ5 := hid ((hX9.block _ (lt_of_block HQ5.out) id).trans HQ5.out)
  replace HQ7 := hid ((hX9.block _ (lt_of_block HQ7.out) id).trans HQ7.out)
  clear hX9
  have HN9 := hid (heap_new w9 (.cells (blkA zeros) 42))
  have HP9 := put_blk w9 (blkA zeros) Z
  go_wp2_with (refine wpList_store_row rfl 42 _ _ rfl w9.heap.size (blkA Z) rfl rfl 42 (blkA zeros) HN9.out HIZ.out HSZ.out H1Z.out ?_)
  change Code.wp _ _ _ _ ((w9.alloc (.cells (blkA zeros) 42)).setRow w9.heap.size (blkA Z))
  have HX9 : Fr No w9 ((w9.alloc (.cells (blkA zeros) 42)).setRow w9.heap.size (blkA Z)) := HP9.2
  have HQ9 : Hid (((w9.alloc (.cells (blkA zeros) 42)).setRow w9.heap.size (blkA Z)).heap[w9.heap.size]? = some (.cells (blkA Z) 42 (0, 0))) := HP9.1
  obtain ⟨y9, hy9⟩ : ∃ y9, (w9.alloc (.cells (blkA zeros) 42)).setRow w9.heap.size (blkA Z) = y9 := ⟨_, rfl⟩
  rw [hy9] at HX9 HQ9  ⊢
  clear hy9 HP9 HN9
  obtain ⟨q9, hq9⟩ : ∃ q9, w9.heap.size = q9 := ⟨_, rfl⟩
  rw [hq9] at HQ9  ⊢
  clear hq9
  replace HF4 := hid (HF4.out.trans HX9)
  replace HQ4 := hid ((HX9.block _ (lt_of_block HQ4.out) id).trans HQ4.out)
  replace HQ5 := hid ((HX9.block _ (lt_of_block HQ5.out) id).trans HQ5.out)
  replace HQ7 := hid ((HX9.block _ (lt_of_block HQ7.out) id).trans HQ7.out)
  clear HX9
  have hEM := blk_eqIn_same M HML.out
  have hEZ := blk_eqIn_same Z HZL.out
  have hgu := eql_ty
  have HSS : Hid (∀ W W' : World, Fr No W W' → (W.heap[q4]? = some (.cells (blkA M) 42 (0, 0)) ∧ W.heap[q5]? = some (.cells (blkA Z) 42 (0, 0)) ∧ W.heap[q7]? = some (.cells (blkA M) 42 (0, 0)) ∧ W.heap[q9]? = some (.cells (blkA Z) 42 (0, 0))) → (W'.heap[q4]? = some (.cells (blkA M) 42 (0, 0)) ∧ W'.heap[q5]? = some (.cells (blkA Z) 42 (0, 0)) ∧ W'.heap[q7]? = some (.cells (blkA M) 42 (0, 0)) ∧ W'.heap[q9]? = some (.cells (blkA Z) 42 (0, 0)))) := fun W W' f ⟨a1, a2, a3, a4⟩ =>
    ⟨(f.block _ (lt_of_block a1) id).trans a1, (f.block _ (lt_of_block a2) id).trans a2, (f.block _ (lt_of_block a3) id).trans a3, (f.block _ (lt_of_block a4) id).trans a4⟩
  refine wp_region_held_drew (S := fun W => W.heap[q4]? = some (.cells (blkA M) 42 (0, 0)) ∧ W.heap[q5]? = some (.cells (blkA Z) 42 (0, 0)) ∧ W.heap[q7]? = some (.cells (blkA M) 42 (0, 0)) ∧ W.heap[q9]? = some (.cells (blkA Z) 42 (0, 0))) (by kernel_rfl) ⟨HQ4.out, HQ5.out, HQ7.out, HQ9.out⟩ (fun hHeld => ?_)
  replace HF4 := hid HF4.out.drew
  obtain ⟨z0, hz0⟩ : ∃ z0, y9.drew = z0 := ⟨_, rfl⟩
  rw [hz0] at HF4 hHeld ⊢
  clear hz0 HQ4 HQ5 HQ7 HQ9
  refine wpAnyH_take (i := 0) (v := ?_) rfl (by kernel_rfl) (by kernel_rfl) (by kernel_rfl) (fun _ _ _ h => h) (Or.inl ⟨by rfl, ?_⟩) hHeld ?_
  rotate_left
  · intro w hSw
    go_simp
    with_reducible rfl
  try simp only [Act.put, List.getElem_toArray, List.getElem_cons_zero, List.getElem_cons_succ, List.setIfInBounds_toArray, List.set_cons_zero, List.set_cons_succ]
  refine wpAnyH_take (i := 1) (v := ?_) rfl (by kernel_rfl) (by kernel_rfl) (by kernel_rfl) (fun _ _ _ h => h) (Or.inl ⟨by rfl, ?_⟩) hHeld ?_
  rotate_left
  · intro w hSw
    go_simp
    with_reducible rfl
  try simp only [Act.put, List.getElem_toArray, List.getElem_cons_zero, List.getElem_cons_succ, List.setIfInBounds_toArray, List.set_cons_zero, List.set_cons_succ]
  refine wpAnyH_take (i := 2) (v := ?_) rfl (by kernel_rfl) (by kernel_rfl) (by kernel_rfl) (fun _ _ _ h => h) (Or.inl ⟨by rfl, ?_⟩) hHeld ?_
  rotate_left
  · intro w hSw
    go_simp
    with_reducible rfl
  try simp only [Act.put, List.getElem_toArray, List.getElem_cons_zero, List.getElem_cons_succ, List.setIfInBounds_toArray, List.set_cons_zero, List.set_cons_succ]
  refine wpAnyH_take (i := 3) (v := ?_) rfl (by kernel_rfl) (by kernel_rfl) (by kernel_rfl) (fun _ _ _ h => h) (Or.inl ⟨by rfl, ?_⟩) hHeld ?_
  rotate_left
  · intro w hSw
    go_simp
    with_reducible rfl
  try simp only [Act.put, List.getElem_toArray, List.getElem_cons_zero, List.getElem_cons_succ, List.setIfInBounds_toArray, List.set_cons_zero, List.set_cons_succ]
  refine wpAnyH_take (i := 4) (v := ?_) rfl (by kernel_rfl) (by kernel_rfl) (by kernel_rfl) (fun _ _ _ h => h) (Or.inl ⟨by rfl, ?_⟩) hHeld ?_
  rotate_left
  · intro w hSw
    go_simp
    with_reducible rfl
  try simp only [Act.put, List.getElem_toArray, List.getElem_cons_zero, List.getElem_cons_succ, List.setIfInBounds_toArray, List.set_cons_zero, List.set_cons_succ]
  refine wpAnyH_take (i := 5) (v := ?_) rfl (by kernel_rfl) (by kernel_rfl) (by kernel_rfl) (fun _ _ _ h => h) (Or.inl ⟨by rfl, ?_⟩) hHeld ?_
  rotate_left
  · intro w hSw
    go_simp
    with_reducible rfl
  try simp only [Act.put, List.getElem_toArray, List.getElem_cons_zero, List.getElem_cons_succ, List.setIfInBounds_toArray, List.set_cons_zero, List.set_cons_succ]
  refine wpAnyH_take (i := 6) (v := ?_) rfl (by kernel_rfl) (by kernel_rfl) (by kernel_rfl) (fun _ _ _ h => h) (Or.inl ⟨by rfl, ?_⟩) hHeld ?_
  rotate_left
  · intro w hSw
    go_simp
    with_reducible rfl
  try simp only [Act.put, List.getElem_toArray, List.getElem_cons_zero, List.getElem_cons_succ, List.setIfInBounds_toArray, List.set_cons_zero, List.set_cons_succ]
  refine wpAnyH_take (i := 7) (v := .agg (blkA M)) rfl (by kernel_rfl) (by kernel_rfl) (by kernel_rfl) (fun _ _ _ h => h) (yields_row (by rfl) 42 _ rfl q4 rfl 42 (blkA M) (0, 0) _ _ (fun W hW => hW.1) Try.underlying42 HIM.out) hHeld ?_
  try simp only [Act.put, List.getElem_toArray, List.getElem_cons_zero, List.getElem_cons_succ, List.setIfInBounds_toArray, List.set_cons_zero, List.set_cons_succ]
  refine wpAnyH_ready (rs := [8]) (by kernel_rfl) (by simp) ?_
  refine AllReadyH.cons rfl (fun K hK => ?_) AllReadyH.nil
  rw [if_pos (by rfl)]
  go_simp
  refine (HMK.out _).mono ?_
  rintro e z8 ⟨rfl, hF8⟩
  refine hK.out _ _ (HSS.out _ _ hF8 hHeld) (fun hHeld => ?_)
  clear hK K
  try simp only [Act.put, List.getElem_toArray, List.getElem_cons_zero, List.getElem_cons_succ, List.setIfInBounds_toArray, List.set_cons_zero, List.set_cons_succ]
  replace HF4 := hid (HF4.out.trans hF8)
  clear hF8
  refine wpAnyH_take (i := 9) (v := ?_) rfl (by kernel_rfl) (by kernel_rfl) (by kernel_rfl) (fun _ _ _ h => h) (Or.inl ⟨by rfl, ?_⟩) hHeld ?_
  rotate_left
  · intro w hSw
    go_simp
    with_reducible rfl
  try simp only [Act.put, List.getElem_toArray, List.getElem_cons_zero, List.getElem_cons_succ, List.setIfInBounds_toArray, List.set_cons_zero, List.set_cons_succ]
  refine wpAnyH_take (i := 10) (v := ?_) rfl (by kernel_rfl) (by kernel_rfl) (by kernel_rfl) (fun _ _ _ h => h) (Or.inl ⟨by rfl, ?_⟩) hHeld ?_
  rotate_left
  · intro w hSw
    go_simp
    with_reducible rfl
  try simp only [Act.put, List.getElem_toArray, List.getElem_cons_zero, List.getElem_cons_succ, List.setIfInBounds_toArray, List.set_cons_zero, List.set_cons_succ]
  refine wpAnyH_take (i := 11) (v := ?_) rfl (by kernel_rfl) (by kernel_rfl) (by kernel_rfl) (fun _ _ _ h => h) (Or.inl ⟨by rfl, ?_⟩) hHeld ?_
  rotate_left
  · intro w hSw
    go_simp
    with_reducible rfl
  try simp only [Act.put, List.getElem_toArray, List.getElem_cons_zero, List.getElem_cons_succ, List.setIfInBounds_toArray, List.set_cons_zero, List.set_cons_succ]
  refine wpAnyH_take (i := 12) (v := ?_) rfl (by kernel_rfl) (by kernel_rfl) (by kernel_rfl) (fun _ _ _ h => h) (Or.inl ⟨by rfl, ?_⟩) hHeld ?_
  rotate_left
  · intro w hSw
    go_simp
    with_reducible rfl
  try simp only [Act.put, List.getElem_toArray, List.getElem_cons_zero, List.getElem_cons_succ, List.setIfInBounds_toArray, List.set_cons_zero, List.set_cons_succ]
  refine wpAnyH_take (i := 13) (v := ?_) rfl (by kernel_rfl) (by kernel_rfl) (by kernel_rfl) (fun _ _ _ h => h) (Or.inl ⟨by rfl, ?_⟩) hHeld ?_
  rotate_left
  · intro w hSw
    go_simp
    with_reducible rfl
  try simp only [Act.put, List.getElem_toArray, List.getElem_cons_zero, List.getElem_cons_succ, List.setIfInBounds_toArray, List.set_cons_zero, List.set_cons_succ]
  refine wpAnyH_take (i := 14) (v := ?_) rfl (by kernel_rfl) (by kernel_rfl) (by kernel_rfl) (fun _ _ _ h => h) (Or.inl ⟨by rfl, ?_⟩) hHeld ?_
  rotate_left
  · intro w hSw
    go_simp
    with_reducible rfl
  try simp only [Act.put, List.getElem_toArray, List.getElem_cons_zero, List.getElem_cons_succ, List.setIfInBounds_toArray, List.set_cons_zero, List.set_cons_succ]
  refine wpAnyH_take (i := 15) (v := ?_) rfl (by kernel_rfl) (by kernel_rfl) (by kernel_rfl) (fun _ _ _ h => h) (Or.inl ⟨by rfl, ?_⟩) hHeld ?_
  rotate_left
  · intro w hSw
    go_simp
    with_reducible rfl
  try simp only [Act.put, List.getElem_toArray, List.getElem_cons_zero, List.getElem_cons_succ, List.setIfInBounds_toArray, List.set_cons_zero, List.set_cons_succ]
  refine wpAnyH_take (i := 16) (v := .agg (blkA Z)) rfl (by kernel_rfl) (by kernel_rfl) (by kernel_rfl) (fun _ _ _ h => h) (yields_row (by rfl) 42 _ rfl q5 rfl 42 (blkA Z) (0, 0) _ _ (fun W hW => hW.2.1) Try.underlying42 HIZ.out) hHeld ?_
  try simp only [Act.put, List.getElem_toArray, List.getElem_cons_zero, List.getElem_cons_succ, List.setIfInBounds_toArray, List.set_cons_zero, List.set_cons_succ]
  refine wpAnyH_take (i := 17) (v := .agg (blkA Z)) rfl (by kernel_rfl) (by kernel_rfl) (by kernel_rfl) (fun _ _ _ h => h) (.inl ⟨by rfl, fun W _ => exec_build _ _ rfl _ (by simp [Act.eval]) _ (HZB.out W)⟩) hHeld ?_
  try simp only [Act.put, List.getElem_toArray, List.getElem_cons_zero, List.getElem_cons_succ, List.setIfInBounds_toArray, List.set_cons_zero, List.set_cons_succ]
  refine wpAnyH_take (i := 18) (v := ?_) rfl (by kernel_rfl) (by kernel_rfl) (by kernel_rfl) (fun _ _ _ h => h) (Or.inl ⟨by rfl, ?_⟩) hHeld ?_
  rotate_left
  · intro w hSw
    go_simp
    with_reducible rfl
  try simp only [Act.put, List.getElem_toArray, List.getElem_cons_zero, List.getElem_cons_succ, List.setIfInBounds_toArray, List.set_cons_zero, List.set_cons_succ]
  refine wpAnyH_take (i := 19) (v := ?_) rfl (by kernel_rfl) (by kernel_rfl) (by kernel_rfl) (fun _ _ _ h => h) (Or.inl ⟨by rfl, ?_⟩) hHeld ?_
  rotate_left
  · intro w hSw
    go_simp
    with_reducible rfl
  try simp only [Act.put, List.getElem_toArray, List.getElem_cons_zero, List.getElem_cons_succ, List.setIfInBounds_toArray, List.set_cons_zero, List.set_cons_succ]
  refine wpAnyH_take (i := 20) (v := ?_) rfl (by kernel_rfl) (by kernel_rfl) (by kernel_rfl) (fun _ _ _ h => h) (Or.inl ⟨by rfl, ?_⟩) hHeld ?_
  rotate_left
  · intro w hSw
    go_simp
    with_reducible rfl
  try simp only [Act.put, List.getElem_toArray, List.getElem_cons_zero, List.getElem_cons_succ, List.setIfInBounds_toArray, List.set_cons_zero, List.set_cons_succ]
  refine wpAnyH_take (i := 21) (v := ?_) rfl (by kernel_rfl) (by kernel_rfl) (by kernel_rfl) (fun _ _ _ h => h) (Or.inl ⟨by rfl, ?_⟩) hHeld ?_
  rotate_left
  · intro w hSw
    go_simp
    with_reducible rfl
  try simp only [Act.put, List.getElem_toArray, List.getElem_cons_zero, List.getElem_cons_succ, List.setIfInBounds_toArray, List.set_cons_zero, List.set_cons_succ]
  refine wpAnyH_take (i := 22) (v := ?_) rfl (by kernel_rfl) (by kernel_rfl) (by kernel_rfl) (fun _ _ _ h => h) (Or.inl ⟨by rfl, ?_⟩) hHeld ?_
  rotate_left
  · intro w hSw
    go_simp
    with_reducible rfl
  try simp only [Act.put, List.getElem_toArray, List.getElem_cons_zero, List.getElem_cons_succ, List.setIfInBounds_toArray, List.set_cons_zero, List.set_cons_succ]
  refine wpAnyH_take (i := 23) (v := ?_) rfl (by kernel_rfl) (by kernel_rfl) (by kernel_rfl) (fun _ _ _ h => h) (Or.inl ⟨by rfl, ?_⟩) hHeld ?_
  rotate_left
  · intro w hSw
    go_simp
    with_reducible rfl
  try simp only [Act.put, List.getElem_toArray, List.getElem_cons_zero, List.getElem_cons_succ, List.setIfInBounds_toArray, List.set_cons_zero, List.set_cons_succ]
  refine wpAnyH_take (i := 24) (v := ?_) rfl (by kernel_rfl) (by kernel_rfl) (by kernel_rfl) (fun _ _ _ h => h) (Or.inl ⟨by rfl, ?_⟩) hHeld ?_
  rotate_left
  · intro w hSw
    go_simp
    with_reducible rfl
  try simp only [Act.put, List.getElem_toArray, List.getElem_cons_zero, List.getElem_cons_succ, List.setIfInBounds_toArray, List.set_cons_zero, List.set_cons_succ]
  refine wpAnyH_take (i := 25) (v := ?_) rfl (by kernel_rfl) (by kernel_rfl) (by kernel_rfl) (fun _ _ _ h => h) (Or.inl ⟨by rfl, ?_⟩) hHeld ?_
  rotate_left
  · intro w hSw
    go_simp
    with_reducible rfl
  try simp only [Act.put, List.getElem_toArray, List.getElem_cons_zero, List.getElem_cons_succ, List.setIfInBounds_toArray, List.set_cons_zero, List.set_cons_succ]
  refine wpAnyH_take (i := 26) (v := ?_) rfl (by kernel_rfl) (by kernel_rfl) (by kernel_rfl) (fun _ _ _ h => h) (Or.inl ⟨by rfl, ?_⟩) hHeld ?_
  rotate_left
  · intro w hSw
    go_simp
    with_reducible rfl
  try simp only [Act.put, List.getElem_toArray, List.getElem_cons_zero, List.getElem_cons_succ, List.setIfInBounds_toArray, List.set_cons_zero, List.set_cons_succ]
  refine wpAnyH_take (i := 27) (v := ?_) rfl (by kernel_rfl) (by kernel_rfl) (by kernel_rfl) (fun _ _ _ h => h) (Or.inl ⟨by rfl, ?_⟩) hHeld ?_
  rotate_left
  · intro w hSw
    go_simp
    with_reducible rfl
  try simp only [Act.put, List.getElem_toArray, List.getElem_cons_zero, List.getElem_cons_succ, List.setIfInBounds_toArray, List.set_cons_zero, List.set_cons_succ]
  refine wpAnyH_take (i := 28) (v := ?_) rfl (by kernel_rfl) (by kernel_rfl) (by kernel_rfl) (fun _ _ _ h => h) (Or.inl ⟨by rfl, ?_⟩) hHeld ?_
  rotate_left
  · intro w hSw
    go_simp
    with_reducible rfl
  try simp only [Act.put, List.getElem_toArray, List.getElem_cons_zero, List.getElem_cons_succ, List.setIfInBounds_toArray, List.set_cons_zero, List.set_cons_succ]
  refine wpAnyH_take (i := 29) (v := .agg (blkA M)) rfl (by kernel_rfl) (by kernel_rfl) (by kernel_rfl) (fun _ _ _ h => h) (yields_row (by rfl) 42 _ rfl q7 rfl 42 (blkA M) (0, 0) _ _ (fun W hW => hW.2.2.1) Try.underlying42 HIM.out) hHeld ?_
  try simp only [Act.put, List.getElem_toArray, List.getElem_cons_zero, List.getElem_cons_succ, List.setIfInBounds_toArray, List.set_cons_zero, List.set_cons_succ]
  refine wpAnyH_ready (rs := [30]) (by kernel_rfl) (by simp) ?_
  refine AllReadyH.cons rfl (fun K hK => ?_) AllReadyH.nil
  rw [if_pos (by rfl)]
  go_simp
  refine (HMK.out _).mono ?_
  rintro e z30 ⟨rfl, hF30⟩
  refine hK.out _ _ (HSS.out _ _ hF30 hHeld) (fun hHeld => ?_)
  clear hK K
  try simp only [Act.put, List.getElem_toArray, List.getElem_cons_zero, List.getElem_cons_succ, List.setIfInBounds_toArray, List.set_cons_zero, List.set_cons_succ]
  replace HF4 := hid (HF4.out.trans hF30)
  clear hF30
  refine wpAnyH_take (i := 31) (v := ?_) rfl (by kernel_rfl) (by kernel_rfl) (by kernel_rfl) (fun _ _ _ h => h) (Or.inl ⟨by rfl, ?_⟩) hHeld ?_
  rotate_left
  · intro w hSw
    go_simp
    with_reducible rfl
  try simp only [Act.put, List.getElem_toArray, List.getElem_cons_zero, List.getElem_cons_succ, List.setIfInBounds_toArray, List.set_cons_zero, List.set_cons_succ]
  refine wpAnyH_take (i := 32) (v := ?_) rfl (by kernel_rfl) (by kernel_rfl) (by kernel_rfl) (fun _ _ _ h => h) (Or.inl ⟨by rfl, ?_⟩) hHeld ?_
  rotate_left
  · intro w hSw
    go_simp
    with_reducible rfl
  try simp only [Act.put, List.getElem_toArray, List.getElem_cons_zero, List.getElem_cons_succ, List.setIfInBounds_toArray, List.set_cons_zero, List.set_cons_succ]
  refine wpAnyH_take (i := 33) (v := ?_) rfl (by kernel_rfl) (by kernel_rfl) (by kernel_rfl) (fun _ _ _ h => h) (Or.inl ⟨by rfl, ?_⟩) hHeld ?_
  rotate_left
  · intro w hSw
    go_simp
    with_reducible rfl
  try simp only [Act.put, List.getElem_toArray, List.getElem_cons_zero, List.getElem_cons_succ, List.setIfInBounds_toArray, List.set_cons_zero, List.set_cons_succ]
  refine wpAnyH_take (i := 34) (v := ?_) rfl (by kernel_rfl) (by kernel_rfl) (by kernel_rfl) (fun _ _ _ h => h) (Or.inl ⟨by rfl, ?_⟩) hHeld ?_
  rotate_left
  · intro w hSw
    go_simp
    with_reducible rfl
  try simp only [Act.put, List.getElem_toArray, List.getElem_cons_zero, List.getElem_cons_succ, List.setIfInBounds_toArray, List.set_cons_zero, List.set_cons_succ]
  refine wpAnyH_take (i := 35) (v := ?_) rfl (by kernel_rfl) (by kernel_rfl) (by kernel_rfl) (fun _ _ _ h => h) (Or.inl ⟨by rfl, ?_⟩) hHeld ?_
  rotate_left
  · intro w hSw
    go_simp
    with_reducible rfl
  try simp only [Act.put, List.getElem_toArray, List.getElem_cons_zero, List.getElem_cons_succ, List.setIfInBounds_toArray, List.set_cons_zero, List.set_cons_succ]
  refine wpAnyH_take (i := 36) (v := ?_) rfl (by kernel_rfl) (by kernel_rfl) (by kernel_rfl) (fun _ _ _ h => h) (Or.inl ⟨by rfl, ?_⟩) hHeld ?_
  rotate_left
  · intro w hSw
    go_simp
    with_reducible rfl
  try simp only [Act.put, List.getElem_toArray, List.getElem_cons_zero, List.getElem_cons_succ, List.setIfInBounds_toArray, List.set_cons_zero, List.set_cons_succ]
  refine wpAnyH_take (i := 37) (v := ?_) rfl (by kernel_rfl) (by kernel_rfl) (by kernel_rfl) (fun _ _ _ h => h) (Or.inl ⟨by rfl, ?_⟩) hHeld ?_
  rotate_left
  · intro w hSw
    go_simp
    with_reducible rfl
  try simp only [Act.put, List.getElem_toArray, List.getElem_cons_zero, List.getElem_cons_succ, List.setIfInBounds_toArray, List.set_cons_zero, List.set_cons_succ]
  refine wpAnyH_take (i := 38) (v := ?_) rfl (by kernel_rfl) (by kernel_rfl) (by kernel_rfl) (fun _ _ _ h => h) (Or.inl ⟨by rfl, ?_⟩) hHeld ?_
  rotate_left
  · intro w hSw
    go_simp
    with_reducible rfl
  try simp only [Act.put, List.getElem_toArray, List.getElem_cons_zero, List.getElem_cons_succ, List.setIfInBounds_toArray, List.set_cons_zero, List.set_cons_succ]
  refine wpAnyH_take (i := 39) (v := ?_) rfl (by kernel_rfl) (by kernel_rfl) (by kernel_rfl) (fun _ _ _ h => h) (Or.inl ⟨by rfl, ?_⟩) hHeld ?_
  rotate_left
  · intro w hSw
    go_simp
    with_reducible rfl
  try simp only [Act.put, List.getElem_toArray, List.getElem_cons_zero, List.getElem_cons_succ, List.setIfInBounds_toArray, List.set_cons_zero, List.set_cons_succ]
  refine wpAnyH_take (i := 40) (v := ?_) rfl (by kernel_rfl) (by kernel_rfl) (by kernel_rfl) (fun _ _ _ h => h) (Or.inl ⟨by rfl, ?_⟩) hHeld ?_
  rotate_left
  · intro w hSw
    go_simp
    with_reducible rfl
  try simp only [Act.put, List.getElem_toArray, List.getElem_cons_zero, List.getElem_cons_succ, List.setIfInBounds_toArray, List.set_cons_zero, List.set_cons_succ]
  refine wpAnyH_take (i := 41) (v := ?_) rfl (by kernel_rfl) (by kernel_rfl) (by kernel_rfl) (fun _ _ _ h => h) (Or.inl ⟨by rfl, ?_⟩) hHeld ?_
  rotate_left
  · intro w hSw
    go_simp
    with_reducible rfl
  try simp only [Act.put, List.getElem_toArray, List.getElem_cons_zero, List.getElem_cons_succ, List.setIfInBounds_toArray, List.set_cons_zero, List.set_cons_succ]
  refine wpAnyH_take (i := 42) (v := .agg (blkA Z)) rfl (by kernel_rfl) (by kernel_rfl) (by kernel_rfl) (fun _ _ _ h => h) (yields_row (by rfl) 42 _ rfl q9 rfl 42 (blkA Z) (0, 0) _ _ (fun W hW => hW.2.2.2) Try.underlying42 HIZ.out) hHeld ?_
  try simp only [Act.put, List.getElem_toArray, List.getElem_cons_zero, List.getElem_cons_succ, List.setIfInBounds_toArray, List.set_cons_zero, List.set_cons_succ]
  refine wpAnyH_take (i := 43) (v := .agg (blkA Z)) rfl (by kernel_rfl) (by kernel_rfl) (by kernel_rfl) (fun _ _ _ h => h) (.inl ⟨by rfl, fun W _ => exec_build _ _ rfl _ (by simp [Act.eval]) _ (HZB.out W)⟩) hHeld ?_
  try simp only [Act.put, List.getElem_toArray, List.getElem_cons_zero, List.getElem_cons_succ, List.setIfInBounds_toArray, List.set_cons_zero, List.set_cons_succ]
  refine wpAnyH_take (i := 44) (v := ?_) rfl (by kernel_rfl) (by kernel_rfl) (by kernel_rfl) (fun _ _ _ h => h) (Or.inl ⟨by rfl, ?_⟩) hHeld ?_
  rotate_left
  · intro w hSw
    go_simp
    with_reducible rfl
  try simp only [Act.put, List.getElem_toArray, List.getElem_cons_zero, List.getElem_cons_succ, List.setIfInBounds_toArray, List.set_cons_zero, List.set_cons_succ]
  refine wpAnyH_take (i := 45) (v := ?_) rfl (by kernel_rfl) (by kernel_rfl) (by kernel_rfl) (fun _ _ _ h => h) (Or.inl ⟨by rfl, ?_⟩) hHeld ?_
  rotate_left
  · intro w hSw
    go_simp
    with_reducible rfl
  try simp only [Act.put, List.getElem_toArray, List.getElem_cons_zero, List.getElem_cons_succ, List.setIfInBounds_toArray, List.set_cons_zero, List.set_cons_succ]
  refine wpAnyH_take (i := 46) (v := ?_) rfl (by kernel_rfl) (by kernel_rfl) (by kernel_rfl) (fun _ _ _ h => h) (Or.inl ⟨by rfl, ?_⟩) hHeld ?_
  rotate_left
  · intro w hSw
    go_simp
    with_reducible rfl
  try simp only [Act.put, List.getElem_toArray, List.getElem_cons_zero, List.getElem_cons_succ, List.setIfInBounds_toArray, List.set_cons_zero, List.set_cons_succ]
  refine wpAnyH_done (by kernel_rfl) ?_ _
  go_wp2_with fail
  go_ret
  exact ⟨rfl, HF4.out⟩
end Go.Proofs.Ytcdchojdkdimbaa
