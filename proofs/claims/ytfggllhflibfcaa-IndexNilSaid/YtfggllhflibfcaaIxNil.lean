/- The law IndexNil. -/
import Derived.Test.YtfggllhflibfcaaIxL
namespace Go.Proofs.Ytfggllhflibfcaa
open Go.RowKit Go.Shelf Go.Maps
attribute [local go_sem] Oper.semAt_some

theorem blk_no {w w' : World} (f : Fr No w w') {k : Nat} {o : Obj} (h : w.heap[k]? = some o) : w'.heap[k]? = some o := (f.block k (lt_of_block h) id).trans h
set_option maxRecDepth 1000000 in
set_option maxHeartbeats 2000000 in
theorem law_IndexNil (w : World) (x : OpI) (_hx : (Lit.int .i64 x.slot).wf = true) :
    Calls Try.prog 7 #[x.v] w fun e w' => e = .returned (.bool true) ∧ Fr No w w' := by
  obtain ⟨ask, blk, slot, dirt⟩ := x
  unfold OpI.v
  refine (callsIn_wide (n := 5)).1 (callsIn_of_wp_marks Try.func7 rfl trivial (wpIn_wide.2 ?_) rfl)
  simp only [Try.ntmps7, List.size_toArray, List.length_cons, List.length_nil, Nat.reduceAdd, Nat.reduceSub, Array.replicate_succ, Array.replicate_zero, List.push_toArray, List.append_toArray, List.nil_append, List.cons_append]
  have hA := ((Fr.refl No w).alloc (.cells #[.int .i64 ask, .int .i64 blk, .int .i64 slot, .bool dirt] 35)).alloc (.cells #[.bool false] 4)
  have HA := hid hA
  have hz : ((w.alloc (.cells #[.int .i64 ask, .int .i64 blk, .int .i64 slot, .bool dirt] 35)).alloc (.cells #[.bool false] 4)).heap.size = w.heap.size + 2 := by simp
  have hne : ∀ W, (binOp .eql 38 noIter .nilFunc).run Try.prog W = .ok (.bool false) W := fun W => rfl
  go_wp2_with (go_at_call 14; refine (ix_All_nil _ 0 9).mono ?_; rintro e w1 ⟨rfl, hF⟩; have HF1 := hid (HA.out.trans hF); have HO := hid (two_a hF); have HB := hid (two_b hF); clear hF)
  have hz1 := HF1.out.size
  refine wpIn_wide.1 (rangeFunc_calm (n := 5) (gf := 33) (lb := #[]) rfl (enters_of Try.func33 (by kernel_rfl) rfl) (none_calm (5 - 1) (fun k => k = w1.heap.size + 1) w1) rfl
    (fun k hk h => by omega) (by intro _; rfl)
    (fun _ W => Fr (fun k => No k ∨ w1.heap.size ≤ k) w1 W) (own_fr _ _ (Nat.le_refl _) _ _) (Fr.refl _ _) (fun _ _ _ => True) (fun _ _ _ _ _ _ _ _ _ => trivial) ?assign ?body ?done)
  case assign =>
    intro l pre x W K hIp hK
    have hK2 := hid (fun a' => hK a' W (KeepsFrom.refl _ _) (Fr.refl _ _) hIp trivial)
    clear hIp hK
    gi_wp2
    exact hK2.out _
  case body =>
    rintro l pre x a' W _ _ hpre
    exact absurd hpre.length_le (by simp)
  case done =>
    rintro D W hD hF hK
    have HOW := hid ((hF.block w.heap.size (lt_of_block HO.out) (fun h => h.elim id (by have := lt_of_block HO.out; omega))).trans HO.out)
    have HBW := hid ((hF.block (w.heap.size + 1) (lt_of_block HB.out) (fun h => h.elim id (by have := lt_of_block HB.out; omega))).trans HB.out)
    have HFW := hid (HF1.out.then hF (fun i hi h => absurd hi (h.elim (fun h => h.elim) (by omega))))
    have HK := hid hK
    have HD := hid hD
    clear hF hK HO HB hD
    have b0 := (cell_blk HOW.out 0).trans rfl
    have b1 := (cell_blk HOW.out 1).trans rfl
    have b2 := (cell_blk HOW.out 2).trans rfl
    have b3 := (cell_blk HOW.out 3).trans rfl
    go_wp2_with (go_at_call 21; refine (ix_Put_nil _ blk slot false).mono ?_; rintro e w2 ⟨rfl, hF⟩; have hF := hF.alloc (.cells #[.int .i64 0, .bool false] 44); have HP2 := hid (heap_new w2 (.cells #[.int .i64 0, .bool false] 44)); have HO2 := hid (blk_no hF HOW.out); have HB2 := hid (blk_no hF HBW.out); have HK2 := hid (blk_no hF HK.out); have HF2 := hid (HFW.out.trans hF); clear hF b0 b1 b2 b3; have b1 := (cell_blk HO2.out 1).trans rfl; have b2 := (cell_blk HO2.out 2).trans rfl)
    go_wp2_with (go_at_call 16; refine (ix_Get_nil _ blk).mono ?_; rintro e w3 ⟨rfl, hF⟩; have hF := hF.alloc (.cells #[.int .i64 0, .bool false] 44); have HQ3 := hid (heap_new w3 (.cells #[.int .i64 0, .bool false] 44)); have HP3 := hid (blk_no hF HP2.out); have HO3 := hid (blk_no hF HO2.out); have HB3 := hid (blk_no hF HB2.out); have HK3 := hid (blk_no hF HK2.out); have HF3 := hid (HF2.out.trans hF); clear hF b1 b2; have b1 := (cell_blk HO3.out 1).trans rfl; have b2 := (cell_blk HO3.out 2).trans rfl)
    go_wp2_with (go_at_call 22; refine (ix_Drop_nil _ blk).mono ?_; rintro e w4 ⟨rfl, hF⟩; have hF := hF.alloc (.cells #[.int .i64 0, .bool false] 44); have HR4 := hid (heap_new w4 (.cells #[.int .i64 0, .bool false] 44)); have HP4 := hid (blk_no hF HP3.out); have HQ4 := hid (blk_no hF HQ3.out); have HO4 := hid (blk_no hF HO3.out); have HB4 := hid (blk_no hF HB3.out); have HK4 := hid (blk_no hF HK3.out); have HF4 := hid (HF3.out.trans hF); clear hF b1 b2; have b1 := (cell_blk HO4.out 1).trans rfl; have b2 := (cell_blk HO4.out 2).trans rfl)
    go_wp2_with (first
      | (go_at_call 17; refine (ix_At_nil _ slot).mono ?_; rintro e w5 ⟨rfl, hF⟩; have hF := hF.alloc (.cells #[.int .i64 0, .bool false] 44); have hn := heap_new w5 (.cells #[.int .i64 0, .bool false] 44); have HB5 := hid (blk_no hF HB4.out); have HK5 := hid (blk_no hF HK4.out); have ho := blk_no hF HO4.out; have hp := blk_no hF HP4.out; have hq := blk_no hF HQ4.out; have hr := blk_no hF HR4.out; have HF5 := hid (HF4.out.trans hF); clear hF b1 b2; have b1 := (cell_blk ho 1).trans (show _ = some (Value.int .i64 blk) from rfl); obtain ⟨n0, n1, _, _⟩ := blk2 hn; obtain ⟨p0, p1, _, _⟩ := blk2 hp; obtain ⟨q0, q1, _, _⟩ := blk2 hq; obtain ⟨r0, r1, _, _⟩ := blk2 hr)
      | (go_at_call 23; refine (ix_Clean_nil _ blk).mono ?_; rintro e w6 ⟨rfl, hF⟩; have HB6 := hid (blk_no hF HB5.out); have HK6 := hid (blk_no hF HK5.out); have HF6 := hid (HF5.out.trans hF); clear hF)
      | (go_at_call 18; refine (ix_Len_nil _).mono ?_; rintro e w7 ⟨rfl, hF⟩; have HB7 := hid (blk_no hF HB6.out); have HK7 := hid (blk_no hF HK6.out); have HF7 := hid (HF6.out.trans hF); clear hF)
      | (go_at_call 19; refine (ix_Dirty_nil _).mono ?_; rintro e w8 ⟨rfl, hF⟩; have HB8 := hid (blk_no hF HB7.out); have HK8 := hid (blk_no hF HK7.out); have HF8 := hid (HF7.out.trans hF); clear hF)
      | (go_at_call 20; refine (ix_Copy_nil _).mono ?_; rintro e w9 ⟨rfl, e9⟩; have hF : Fr No w8 w9 := (by rw [e9]; exact Fr.refl _ _); clear e9; have HB9 := hid (blk_no hF HB8.out); have HK9 := hid (blk_no hF HK8.out); have HF9 := hid (HF8.out.trans hF); clear hF)
      | (go_at_call 9; refine (ix_awake _).mono ?_; rintro e w10 ⟨rfl, hF⟩; have HB10 := hid (blk_no hF HB9.out); have HK10 := hid (blk_no hF HK9.out); have HF10 := hid (HF9.out.trans hF); clear hF; have z0 := (cell_blk HB10.out 0).trans (show _ = some (Value.bool false) from rfl); have z1 := free_blk HB10.out 0))
    have hset := Fr.set1 w10 (w.heap.size + 1) 0 (.bool true)
    have hne2 : D ≠ w.heap.size + 1 := fun e => by have h1 := HK10.out; rw [e, HB10.out] at h1; cases h1
    have hkz : (w10.setCell ⟨w.heap.size + 1, 0, none⟩ (.bool true)).heap[D]? = some (.deferred (some [])) := (hset.block D (lt_of_block HK10.out) hne2).trans HK10.out
    refine ⟨by simp, .inl ⟨_, _, rfl, run_takeDeferred hkz, ?_⟩⟩
    have hg4 := grownBy_putObj' (w10.setCell ⟨w.heap.size + 1, 0, none⟩ (.bool true)) D (.deferred none)
    have cz : (w10.setCell ⟨w.heap.size + 1, 0, none⟩ (.bool true)).cell? ⟨w.heap.size + 1, 0, none⟩ = some (.bool true) := by rw [cell_blk (set_blk HB10.out 0 _)]; rfl
    have e0 := cell_kept cz hg4 (fun r e => by cases e; exact ⟨_, hkz, rfl⟩)
    refine ⟨.bool true, ?_, rfl, ?_⟩
    · simp [results, Try.f7, go_sem, e0]
    · exact (HF10.out.then hset (fun i hi e => absurd hi (by omega))).put _ _ (fun h => absurd h (by have := HD.out; omega))
end Go.Proofs.Ytfggllhflibfcaa
