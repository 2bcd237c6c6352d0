/- The law FieldSeals. -/
import Derived.Test.YtopheimplclfcaaDoorFdRef
import Derived.Test.YtopheimplclfcaaDoorFdBackM
import Derived.StillTailTactics
import Derived.Deep.DeepCutAuto
namespace Go.Proofs.YtopheimplclfcaaDoor
open Go.RowKit

theorem two_allocs (w : World) (o1 o2 : Obj) : ((w.alloc o1).alloc o2).heap[w.heap.size]? = some o1 ∧ ((w.alloc o1).alloc o2).heap[w.heap.size + 1]? = some o2 ∧ Fr No w ((w.alloc o1).alloc o2) := by
  refine ⟨?_, ?_, ((Fr.refl No w).alloc _).alloc _⟩
  · rw [Below.heap_alloc _ _ _ (by simp), heap_new]
  · rw [show w.heap.size + 1 = (w.alloc o1).heap.size from by simp, heap_new]

set_option maxRecDepth 100000 in
set_option maxHeartbeats 4000000 in
theorem seals_in (w : World) (bs : List Nat) (hl : bs.length = 64) (hlt : ∀ x ∈ bs, x < 256) (a : Option Addr) (cap : Nat) (xs : List (Int × Int)) (hxm : xs.length ≤ maxLen) (hP : Pairs w a xs) (i j : Int) (wj : (Lit.int .i64 j).wf = true) (hL : Laid w) :
    Calls Tryd.prog 4 #[.agg (blkA bs), .slice a xs.length cap, i2v (i, j)] w fun e w' => e = .returned (.bool true) ∧ Fr No w w' := by
  have HL := hid hL
  have HP := hid hP
  have HLT := hid hlt
  have HI := hid (info64b bs hl)
  unfold maxLen at hxm
  obtain ⟨hj1, hj2⟩ := bounds_i64 wj
  have HT := hid (two_allocs w (.cells (blkA bs) 33) (.cells #[.int .i64 i, .int .i64 j] 29))
  unfold i2v
  have C0 : Hid (((w.alloc (.cells (blkA bs) 33)).alloc (.cells #[.int .i64 i, .int .i64 j] 29)).cell? ⟨w.heap.size + 1, 0, none⟩ = some (.int .i64 i)) := by unfold Hid; rw [cell_blk HT.out.2.1]; rfl
  have C1 : Hid (((w.alloc (.cells (blkA bs) 33)).alloc (.cells #[.int .i64 i, .int .i64 j] 29)).cell? ⟨w.heap.size + 1, 1, none⟩ = some (.int .i64 j)) := by unfold Hid; rw [cell_blk HT.out.2.1]; rfl
  clear hL hP hlt
  have c0 := C0.out
  have c1 := C1.out
  go_enter Tryd.func4, Tryd.ntmps4
  go_upto_region 3 with fail
  obtain ⟨z, hz, hzl⟩ : ∃ z : Nat, j.tmod 256 % 256 = (z : Int) ∧ z < 256 := ⟨(j.tmod 256 % 256).toNat, by omega, by omega⟩
  rw [hz]
  have hq := HT.out.1
  have HF0 := hid HT.out.2.2
  obtain ⟨w0, hw0⟩ : ∃ w0, (w.alloc (.cells (blkA bs) 33)).alloc (.cells #[.int .i64 i, .int .i64 j] 29) = w0 := ⟨_, rfl⟩
  rw [hw0] at hq HF0 ⊢
  obtain ⟨q, hqq⟩ : ∃ q, w.heap.size = q := ⟨_, rfl⟩
  rw [hqq] at hq ⊢
  clear hz hw0 C0 C1 c0 c1 HT wj hj1 hj2
  have G0 := hid HF0.out.drew
  go_cut [35] (fun s35 wx => s35 = .bool false ∧ Hid (Fr No w wx))
  case first =>
    cases hcc : (sealB bs == bs)
    · have hb1 : ((13 : Int) != 0) = true := rfl
      refine wp_region_held_drew (S := fun w' => w'.heap[q]? = some (.cells (blkA bs) 33 (0, 0))) (by kernel_rfl) hq (fun hHeld => ?_)
      refine wpAnyH_take (i := 0) (v := .agg (blkA bs)) rfl (by kernel_rfl) (by kernel_rfl) (by kernel_rfl) (fun _ _ _ h => h) (yields_row (by rfl) 33 _ rfl q rfl 33 (blkA bs) (0, 0) _ _ (fun _ h => h) Tryd.underlying33 HI.out) hHeld ?_
      try simp only [Act.put, List.getElem_toArray, List.getElem_cons_zero, List.getElem_cons_succ, List.setIfInBounds_toArray, List.set_cons_zero, List.set_cons_succ]
      refine wpAnyH_take (i := 2) (v := .agg (blkA bs)) rfl (by kernel_rfl) (by kernel_rfl) (by kernel_rfl) (fun _ _ _ h => h) (yields_row (by rfl) 33 _ rfl q rfl 33 (blkA bs) (0, 0) _ _ (fun _ h => h) Tryd.underlying33 HI.out) hHeld ?_
      try simp only [Act.put, List.getElem_toArray, List.getElem_cons_zero, List.getElem_cons_succ, List.setIfInBounds_toArray, List.set_cons_zero, List.set_cons_succ]
      refine wpAnyH_ready (rs := [1]) (by kernel_rfl) (by simp) ?_
      refine AllReadyH.cons rfl (fun K hK => ?_) AllReadyH.nil
      rw [if_pos (by rfl)]
      go_simp
      refine (rf_Sealed _ bs hl HLT.out).mono ?_; rintro e Y1 ⟨rfl, hG1⟩
      rw [hcc]
      have G1 := hid (G0.out.trans hG1)
      refine hK.out _ _ ((hG1.block q (lt_of_block hHeld) id).trans hHeld) (fun hHeld => ?_)
      clear hK K hG1
      try simp only [Act.put, List.getElem_toArray, List.getElem_cons_zero, List.getElem_cons_succ, List.setIfInBounds_toArray, List.set_cons_zero, List.set_cons_succ]
      refine wpAnyH_ready (rs := [3]) (by kernel_rfl) (by simp) ?_
      refine AllReadyH.cons rfl (fun K hK => ?_) AllReadyH.nil
      rw [if_pos (by rfl)]
      go_simp
      refine (fd_Sealed _ bs hl HLT.out (laid_no HL.out G1.out)).mono ?_; rintro e Y2 ⟨rfl, hG2⟩
      rw [hcc]
      have G2 := hid (G1.out.trans hG2)
      refine hK.out _ _ ((hG2.block q (lt_of_block hHeld) id).trans hHeld) (fun hHeld => ?_)
      clear hK K hG2
      try simp only [Act.put, List.getElem_toArray, List.getElem_cons_zero, List.getElem_cons_succ, List.setIfInBounds_toArray, List.set_cons_zero, List.set_cons_succ]
      refine wpAnyH_take (i := 4) (v := ?_) rfl (by kernel_rfl) (by kernel_rfl) (by kernel_rfl) (fun _ _ _ h => h) (Or.inl ⟨by rfl, ?_⟩) hHeld ?_
      rotate_left
      · intro w hSw
        go_simp
        with_reducible rfl
      try simp only [Act.put, List.getElem_toArray, List.getElem_cons_zero, List.getElem_cons_succ, List.setIfInBounds_toArray, List.set_cons_zero, List.set_cons_succ]
      refine wpAnyH_take (i := 5) (v := ?_) rfl (by kernel_rfl) (by kernel_rfl) (by kernel_rfl) (fun _ _ _ h => h) (Or.inl ⟨by rfl, ?_⟩) hHeld ?_
      rotate_left
      · intro w hSw
        go_simp
        with_reducible rfl
      try simp only [Act.put, List.getElem_toArray, List.getElem_cons_zero, List.getElem_cons_succ, List.setIfInBounds_toArray, List.set_cons_zero, List.set_cons_succ]
      refine wpAnyH_take (i := 6) (v := ?_) rfl (by kernel_rfl) (by kernel_rfl) (by kernel_rfl) (fun _ _ _ h => h) (Or.inl ⟨by rfl, ?_⟩) hHeld ?_
      rotate_left
      · intro w hSw
        go_simp
        with_reducible rfl
      try simp only [Act.put, List.getElem_toArray, List.getElem_cons_zero, List.getElem_cons_succ, List.setIfInBounds_toArray, List.set_cons_zero, List.set_cons_succ]
      refine wpAnyH_take (i := 7) (v := .agg (blkA bs)) rfl (by kernel_rfl) (by kernel_rfl) (by kernel_rfl) (fun _ _ _ h => h) (yields_row (by rfl) 33 _ rfl q rfl 33 (blkA bs) (0, 0) _ _ (fun _ h => h) Tryd.underlying33 HI.out) hHeld ?_
      try simp only [Act.put, List.getElem_toArray, List.getElem_cons_zero, List.getElem_cons_succ, List.setIfInBounds_toArray, List.set_cons_zero, List.set_cons_succ]
      refine wpAnyH_ready (rs := [8]) (by kernel_rfl) (by simp) ?_
      refine AllReadyH.cons rfl (fun K hK => ?_) AllReadyH.nil
      rw [if_pos (by rfl)]
      go_simp
      refine (fd_Sealed _ bs hl HLT.out (laid_no HL.out G2.out)).mono ?_; rintro e Y3 ⟨rfl, hG3⟩
      rw [hcc]
      have G3 := hid (G2.out.trans hG3)
      refine hK.out _ _ ((hG3.block q (lt_of_block hHeld) id).trans hHeld) (fun hHeld => ?_)
      clear hK K hG3
      try simp only [Act.put, List.getElem_toArray, List.getElem_cons_zero, List.getElem_cons_succ, List.setIfInBounds_toArray, List.set_cons_zero, List.set_cons_succ]
      refine wpAnyH_take (i := 9) (v := ?_) rfl (by kernel_rfl) (by kernel_rfl) (by kernel_rfl) (fun _ _ _ h => h) (Or.inl ⟨by rfl, ?_⟩) hHeld ?_
      rotate_left
      · intro w hSw
        go_simp
        with_reducible rfl
      try simp only [Act.put, List.getElem_toArray, List.getElem_cons_zero, List.getElem_cons_succ, List.setIfInBounds_toArray, List.set_cons_zero, List.set_cons_succ]
      refine wpAnyH_take (i := 10) (v := ?_) rfl (by kernel_rfl) (by kernel_rfl) (by kernel_rfl) (fun _ _ _ h => h) (Or.inl ⟨by rfl, ?_⟩) hHeld ?_
      rotate_left
      · intro w hSw
        go_simp
        with_reducible rfl
      try simp only [Act.put, List.getElem_toArray, List.getElem_cons_zero, List.getElem_cons_succ, List.setIfInBounds_toArray, List.set_cons_zero, List.set_cons_succ]
      refine wpAnyH_take (i := 11) (v := .agg (blkA bs)) rfl (by kernel_rfl) (by kernel_rfl) (by kernel_rfl) (fun _ _ _ h => h) (yields_row (by rfl) 33 _ rfl q rfl 33 (blkA bs) (0, 0) _ _ (fun _ h => h) Tryd.underlying33 HI.out) hHeld ?_
      try simp only [Act.put, List.getElem_toArray, List.getElem_cons_zero, List.getElem_cons_succ, List.setIfInBounds_toArray, List.set_cons_zero, List.set_cons_succ]
      refine wpAnyH_ready (rs := [12]) (by kernel_rfl) (by simp) ?_
      refine AllReadyH.cons rfl (fun K hK => ?_) AllReadyH.nil
      rw [if_pos (by rfl)]
      go_simp
      refine (fd_Sealed _ bs hl HLT.out (laid_no HL.out G3.out)).mono ?_; rintro e Y4 ⟨rfl, hG4⟩
      rw [hcc]
      have G4 := hid (G3.out.trans hG4)
      refine hK.out _ _ ((hG4.block q (lt_of_block hHeld) id).trans hHeld) (fun hHeld => ?_)
      clear hK K hG4
      try simp only [Act.put, List.getElem_toArray, List.getElem_cons_zero, List.getElem_cons_succ, List.setIfInBounds_toArray, List.set_cons_zero, List.set_cons_succ]
      refine wpAnyH_take (i := 13) (v := ?_) rfl (by kernel_rfl) (by kernel_rfl) (by kernel_rfl) (fun _ _ _ h => h) (Or.inl ⟨by rfl, ?_⟩) hHeld ?_
      rotate_left
      · intro w hSw
        go_simp
        with_reducible rfl
      try simp only [Act.put, List.getElem_toArray, List.getElem_cons_zero, List.getElem_cons_succ, List.setIfInBounds_toArray, List.set_cons_zero, List.set_cons_succ]
      refine wpAnyH_take (i := 14) (v := ?_) rfl (by kernel_rfl) (by kernel_rfl) (by kernel_rfl) (fun _ _ _ h => h) (Or.inl ⟨by rfl, ?_⟩) hHeld ?_
      rotate_left
      · intro w hSw
        go_simp
        with_reducible rfl
      try simp only [Act.put, List.getElem_toArray, List.getElem_cons_zero, List.getElem_cons_succ, List.setIfInBounds_toArray, List.set_cons_zero, List.set_cons_succ]
      refine wpAnyH_take (i := 15) (v := ?_) rfl (by kernel_rfl) (by kernel_rfl) (by kernel_rfl) (fun _ _ _ h => h) (Or.inl ⟨by rfl, ?_⟩) hHeld ?_
      rotate_left
      · intro w hSw
        go_simp
        with_reducible rfl
      try simp only [Act.put, List.getElem_toArray, List.getElem_cons_zero, List.getElem_cons_succ, List.setIfInBounds_toArray, List.set_cons_zero, List.set_cons_succ]
      refine wpAnyH_done (by kernel_rfl) ?_ _
      clear hHeld
      go_wp2_with fail
      go_meet
      exact ⟨rfl, G4⟩
    · skip
      refine wp_region_held_drew (S := fun w' => w'.heap[q]? = some (.cells (blkA bs) 33 (0, 0))) (by kernel_rfl) hq (fun hHeld => ?_)
      refine wpAnyH_take (i := 0) (v := .agg (blkA bs)) rfl (by kernel_rfl) (by kernel_rfl) (by kernel_rfl) (fun _ _ _ h => h) (yields_row (by rfl) 33 _ rfl q rfl 33 (blkA bs) (0, 0) _ _ (fun _ h => h) Tryd.underlying33 HI.out) hHeld ?_
      try simp only [Act.put, List.getElem_toArray, List.getElem_cons_zero, List.getElem_cons_succ, List.setIfInBounds_toArray, List.set_cons_zero, List.set_cons_succ]
      refine wpAnyH_take (i := 2) (v := .agg (blkA bs)) rfl (by kernel_rfl) (by kernel_rfl) (by kernel_rfl) (fun _ _ _ h => h) (yields_row (by rfl) 33 _ rfl q rfl 33 (blkA bs) (0, 0) _ _ (fun _ h => h) Tryd.underlying33 HI.out) hHeld ?_
      try simp only [Act.put, List.getElem_toArray, List.getElem_cons_zero, List.getElem_cons_succ, List.setIfInBounds_toArray, List.set_cons_zero, List.set_cons_succ]
      refine wpAnyH_ready (rs := [1]) (by kernel_rfl) (by simp) ?_
      refine AllReadyH.cons rfl (fun K hK => ?_) AllReadyH.nil
      rw [if_pos (by rfl)]
      go_simp
      refine (rf_Sealed _ bs hl HLT.out).mono ?_; rintro e Y1 ⟨rfl, hG1⟩
      rw [hcc]
      have G1 := hid (G0.out.trans hG1)
      refine hK.out _ _ ((hG1.block q (lt_of_block hHeld) id).trans hHeld) (fun hHeld => ?_)
      clear hK K hG1
      try simp only [Act.put, List.getElem_toArray, List.getElem_cons_zero, List.getElem_cons_succ, List.setIfInBounds_toArray, List.set_cons_zero, List.set_cons_succ]
      refine wpAnyH_ready (rs := [3]) (by kernel_rfl) (by simp) ?_
      refine AllReadyH.cons rfl (fun K hK => ?_) AllReadyH.nil
      rw [if_pos (by rfl)]
      go_simp
      refine (fd_Sealed _ bs hl HLT.out (laid_no HL.out G1.out)).mono ?_; rintro e Y2 ⟨rfl, hG2⟩
      rw [hcc]
      have G2 := hid (G1.out.trans hG2)
      refine hK.out _ _ ((hG2.block q (lt_of_block hHeld) id).trans hHeld) (fun hHeld => ?_)
      clear hK K hG2
      try simp only [Act.put, List.getElem_toArray, List.getElem_cons_zero, List.getElem_cons_succ, List.setIfInBounds_toArray, List.set_cons_zero, List.set_cons_succ]
      refine wpAnyH_take (i := 4) (v := ?_) rfl (by kernel_rfl) (by kernel_rfl) (by kernel_rfl) (fun _ _ _ h => h) (Or.inl ⟨by rfl, ?_⟩) hHeld ?_
      rotate_left
      · intro w hSw
        go_simp
        with_reducible rfl
      try simp only [Act.put, List.getElem_toArray, List.getElem_cons_zero, List.getElem_cons_succ, List.setIfInBounds_toArray, List.set_cons_zero, List.set_cons_succ]
      refine wpAnyH_take (i := 5) (v := ?_) rfl (by kernel_rfl) (by kernel_rfl) (by kernel_rfl) (fun _ _ _ h => h) (Or.inl ⟨by rfl, ?_⟩) hHeld ?_
      rotate_left
      · intro w hSw
        go_simp
        with_reducible rfl
      try simp only [Act.put, List.getElem_toArray, List.getElem_cons_zero, List.getElem_cons_succ, List.setIfInBounds_toArray, List.set_cons_zero, List.set_cons_succ]
      refine wpAnyH_take (i := 6) (v := ?_) rfl (by kernel_rfl) (by kernel_rfl) (by kernel_rfl) (fun _ _ _ h => h) (Or.inl ⟨by rfl, ?_⟩) hHeld ?_
      rotate_left
      · intro w hSw
        go_simp
        with_reducible rfl
      try simp only [Act.put, List.getElem_toArray, List.getElem_cons_zero, List.getElem_cons_succ, List.setIfInBounds_toArray, List.set_cons_zero, List.set_cons_succ]
      refine wpAnyH_take (i := 7) (v := .agg (blkA bs)) rfl (by kernel_rfl) (by kernel_rfl) (by kernel_rfl) (fun _ _ _ h => h) (yields_row (by rfl) 33 _ rfl q rfl 33 (blkA bs) (0, 0) _ _ (fun _ h => h) Tryd.underlying33 HI.out) hHeld ?_
      try simp only [Act.put, List.getElem_toArray, List.getElem_cons_zero, List.getElem_cons_succ, List.setIfInBounds_toArray, List.set_cons_zero, List.set_cons_succ]
      refine wpAnyH_ready (rs := [8]) (by kernel_rfl) (by simp) ?_
      refine AllReadyH.cons rfl (fun K hK => ?_) AllReadyH.nil
      rw [if_pos (by rfl)]
      go_simp
      refine (fd_Sealed _ bs hl HLT.out (laid_no HL.out G2.out)).mono ?_; rintro e Y3 ⟨rfl, hG3⟩
      rw [hcc]
      have G3 := hid (G2.out.trans hG3)
      refine hK.out _ _ ((hG3.block q (lt_of_block hHeld) id).trans hHeld) (fun hHeld => ?_)
      clear hK K hG3
      try simp only [Act.put, List.getElem_toArray, List.getElem_cons_zero, List.getElem_cons_succ, List.setIfInBounds_toArray, List.set_cons_zero, List.set_cons_succ]
      refine wpAnyH_take (i := 9) (v := ?_) rfl (by kernel_rfl) (by kernel_rfl) (by kernel_rfl) (fun _ _ _ h => h) (Or.inl ⟨by rfl, ?_⟩) hHeld ?_
      rotate_left
      · intro w hSw
        go_simp
        with_reducible rfl
      try simp only [Act.put, List.getElem_toArray, List.getElem_cons_zero, List.getElem_cons_succ, List.setIfInBounds_toArray, List.set_cons_zero, List.set_cons_succ]
      refine wpAnyH_take (i := 10) (v := ?_) rfl (by kernel_rfl) (by kernel_rfl) (by kernel_rfl) (fun _ _ _ h => h) (Or.inl ⟨by rfl, ?_⟩) hHeld ?_
      rotate_left
      · intro w hSw
        go_simp
        with_reducible rfl
      try simp only [Act.put, List.getElem_toArray, List.getElem_cons_zero, List.getElem_cons_succ, List.setIfInBounds_toArray, List.set_cons_zero, List.set_cons_succ]
      refine wpAnyH_take (i := 11) (v := undef) rfl (by kernel_rfl) (by kernel_rfl) (by kernel_rfl) (fun _ _ _ h => h) (Or.inr ⟨by rfl, rfl⟩) hHeld ?_
      try simp only [Act.put, List.getElem_toArray, List.getElem_cons_zero, List.getElem_cons_succ, List.setIfInBounds_toArray, List.set_cons_zero, List.set_cons_succ]
      refine wpAnyH_take (i := 12) (v := undef) rfl (by kernel_rfl) (by kernel_rfl) (by kernel_rfl) (fun _ _ _ h => h) (Or.inr ⟨by rfl, rfl⟩) hHeld ?_
      try simp only [Act.put, List.getElem_toArray, List.getElem_cons_zero, List.getElem_cons_succ, List.setIfInBounds_toArray, List.set_cons_zero, List.set_cons_succ]
      refine wpAnyH_take (i := 13) (v := undef) rfl (by kernel_rfl) (by kernel_rfl) (by kernel_rfl) (fun _ _ _ h => h) (Or.inr ⟨by rfl, rfl⟩) hHeld ?_
      try simp only [Act.put, List.getElem_toArray, List.getElem_cons_zero, List.getElem_cons_succ, List.setIfInBounds_toArray, List.set_cons_zero, List.set_cons_succ]
      refine wpAnyH_take (i := 14) (v := ?_) rfl (by kernel_rfl) (by kernel_rfl) (by kernel_rfl) (fun _ _ _ h => h) (Or.inl ⟨by rfl, ?_⟩) hHeld ?_
      rotate_left
      · intro w hSw
        go_simp
        with_reducible rfl
      try simp only [Act.put, List.getElem_toArray, List.getElem_cons_zero, List.getElem_cons_succ, List.setIfInBounds_toArray, List.set_cons_zero, List.set_cons_succ]
      refine wpAnyH_take (i := 15) (v := ?_) rfl (by kernel_rfl) (by kernel_rfl) (by kernel_rfl) (fun _ _ _ h => h) (Or.inl ⟨by rfl, ?_⟩) hHeld ?_
      rotate_left
      · intro w hSw
        go_simp
        with_reducible rfl
      try simp only [Act.put, List.getElem_toArray, List.getElem_cons_zero, List.getElem_cons_succ, List.setIfInBounds_toArray, List.set_cons_zero, List.set_cons_succ]
      refine wpAnyH_done (by kernel_rfl) ?_ _
      clear hHeld
      go_wp2_with fail
      go_meet
      exact ⟨rfl, G3⟩
  case rest =>
    obtain ⟨rfl, HF0⟩ := hcut
    clear hq G0 HI HLT hqq
    go_wp2_with fail
    refine (fd_Write' wc).mono ?_; rintro e w1 ⟨rfl, hW1, hF1⟩
    have hwp : w.heap.size ≤ wc.heap.size := HF0.out.size
    have HF1 := hid (HF0.out.trans hF1)
    have HW1 := hid hW1
    obtain ⟨p, hp⟩ : ∃ p, wc.heap.size = p := ⟨_, rfl⟩
    rw [hp] at HW1 hwp ⊢
    clear hF1 hW1 HF0 hp
    have HA := hid (fd_awake w1 (laid_no HL.out HF1.out))
    by_cases h1 : 20 < xs.length
    · go_wp2_with (refine HA.out.mono ?_; rintro e W7 ⟨rfl, hF7⟩)
      go_ret
      exact ⟨rfl, HF1.out.trans hF7⟩
    by_cases h2 : i < 0
    · go_wp2_with (refine HA.out.mono ?_; rintro e W7 ⟨rfl, hF7⟩)
      go_ret
      exact ⟨rfl, HF1.out.trans hF7⟩
    by_cases h3 : 63 < i
    · go_wp2_with (refine HA.out.mono ?_; rintro e W7 ⟨rfl, hF7⟩)
      go_ret
      exact ⟨rfl, HF1.out.trans hF7⟩
    clear HA
    obtain ⟨m, rfl⟩ := Int.eq_ofNat_of_zero_le (show 0 ≤ i by omega)
    have hm : m < 64 := by omega
    clear h2 h3
    go_wp2_with fail
    go_loopg [10] xs.length (fun g i wr => ∃ k : Nat, k + g = xs.length ∧ i = .int .i64 k ∧ Hid (Wr wr p (puts (xs.take k)).1 (puts (xs.take k)).2) ∧ Hid (Fr No w wr))
    case atStart => exact ⟨0, by omega, rfl, HW1, HF1⟩
    case round =>
      obtain ⟨k, hk, rfl, HWk, HFk⟩ := hrel
      clear HW1 HF1
      cases gk with
      | succ g =>
        have hkx : k < xs.length := by omega
        have HPS : Hid (puts (xs.take (k + 1)) = putF (puts (xs.take k)).1 (puts (xs.take k)).2 xs[k].1 xs[k].2) := by unfold Hid; rw [List.take_succ_eq_append_getElem hkx, puts_snoc]
        obtain ⟨b, o, rfl, c0, c1⟩ := (HP.out.no HFk.out).pair k hkx
        obtain ⟨x, hx⟩ : ∃ x, xs[k] = x := ⟨_, rfl⟩
        rw [hx] at HPS c0 c1
        obtain ⟨r, hr⟩ : ∃ r, puts (xs.take k) = r := ⟨_, rfl⟩
        rw [hr] at HPS HWk
        clear hx hr
        go_wp2_with fail
        go_still_tail 11, (by kernel_rfl)
        change wpList _ _ _ _ _ wr.drew
        have HF := hid HFk.out.drew
        have HW := hid (HWk.out.no (Fr.refl No wr).drew)
        clear HFk HWk c0 c1
        obtain ⟨wd, hwd⟩ : ∃ wd, wr.drew = wd := ⟨_, rfl⟩
        rw [hwd] at HF HW ⊢
        clear hwd
        go_wp2_with fail
        refine (fd_Put wd p r.2 r.1 x.1 x.2 HW.out).mono ?_; rintro e w3 ⟨rfl, hW3, hF3⟩
        have HF3 := hid (HF.out.then hF3 (fun i hi e => by omega))
        rw [← HPS.out] at hW3
        have HW3 := hid hW3
        clear hF3 hW3 HF HW
        go_wp2_with fail
        go_roundg g
        case measure => omega
        case rel => exact ⟨k + 1, by omega, by go_num, HW3, HF3⟩
      | zero =>
        obtain rfl : k = xs.length := by omega
        rw [List.take_length] at HWk
        go_wp2_with fail
        refine (fd_Seal wr p _ _ HWk.out (laid_no HL.out HFk.out)).mono ?_; rintro e w4 ⟨rfl, hF4⟩
        have HF4 := hid (HFk.out.trans hF4)
        have HB := hid (⟨sealF_len _ _ HWk.out.len, sealF_lt _ (puts xs).2 HWk.out.lt⟩ : (sealF (puts xs).1 (puts xs).2).1.length = 64 ∧ ∀ x ∈ (sealF (puts xs).1 (puts xs).2).1, x < 256)
        have HSQ : Hid (((sealF (puts xs).1 (puts xs).2).2 = 0 → sealB (sealF (puts xs).1 (puts xs).2).1 = (sealF (puts xs).1 (puts xs).2).1) ∧ ((sealF (puts xs).1 (puts xs).2).2 ≠ 0 → (sealF (puts xs).1 (puts xs).2).1 = zeros)) := by
          unfold Hid sealF
          by_cases h0 : (puts xs).2 = 0
          · rw [if_pos h0]; exact ⟨fun _ => sealB_idem _ (pad_len _ (by have := HWk.out.len; omega)), fun h => absurd rfl h⟩
          · rw [if_neg h0]; exact ⟨fun h => absurd h h0, fun _ => rfl⟩
        obtain ⟨s1, hs1⟩ : ∃ s1, sealF (puts xs).1 (puts xs).2 = s1 := ⟨_, rfl⟩
        rw [hs1] at HB HSQ ⊢
        obtain ⟨B, e1⟩ := s1
        replace HB : Hid (B.length = 64 ∧ ∀ x ∈ B, x < 256) := HB
        replace HSQ : Hid ((e1 = 0 → sealB B = B) ∧ (e1 ≠ 0 → B = zeros)) := HSQ
        have HQ := hid (put_blk w4 (#[.int .u8 0, .int .u8 0, .int .u8 0, .int .u8 0, .int .u8 0, .int .u8 0, .int .u8 0, .int .u8 0, .int .u8 0, .int .u8 0, .int .u8 0, .int .u8 0, .int .u8 0, .int .u8 0, .int .u8 0, .int .u8 0, .int .u8 0, .int .u8 0, .int .u8 0, .int .u8 0, .int .u8 0, .int .u8 0, .int .u8 0, .int .u8 0, .int .u8 0, .int .u8 0, .int .u8 0, .int .u8 0, .int .u8 0, .int .u8 0, .int .u8 0, .int .u8 0, .int .u8 0, .int .u8 0, .int .u8 0, .int .u8 0, .int .u8 0, .int .u8 0, .int .u8 0, .int .u8 0, .int .u8 0, .int .u8 0, .int .u8 0, .int .u8 0, .int .u8 0, .int .u8 0, .int .u8 0, .int .u8 0, .int .u8 0, .int .u8 0, .int .u8 0, .int .u8 0, .int .u8 0, .int .u8 0, .int .u8 0, .int .u8 0, .int .u8 0, .int .u8 0, .int .u8 0, .int .u8 0, .int .u8 0, .int .u8 0, .int .u8 0, .int .u8 0] : Array Value) B).1
        have HF5 := hid (HF4.out.trans (put_blk w4 (#[.int .u8 0, .int .u8 0, .int .u8 0, .int .u8 0, .int .u8 0, .int .u8 0, .int .u8 0, .int .u8 0, .int .u8 0, .int .u8 0, .int .u8 0, .int .u8 0, .int .u8 0, .int .u8 0, .int .u8 0, .int .u8 0, .int .u8 0, .int .u8 0, .int .u8 0, .int .u8 0, .int .u8 0, .int .u8 0, .int .u8 0, .int .u8 0, .int .u8 0, .int .u8 0, .int .u8 0, .int .u8 0, .int .u8 0, .int .u8 0, .int .u8 0, .int .u8 0, .int .u8 0, .int .u8 0, .int .u8 0, .int .u8 0, .int .u8 0, .int .u8 0, .int .u8 0, .int .u8 0, .int .u8 0, .int .u8 0, .int .u8 0, .int .u8 0, .int .u8 0, .int .u8 0, .int .u8 0, .int .u8 0, .int .u8 0, .int .u8 0, .int .u8 0, .int .u8 0, .int .u8 0, .int .u8 0, .int .u8 0, .int .u8 0, .int .u8 0, .int .u8 0, .int .u8 0, .int .u8 0, .int .u8 0, .int .u8 0, .int .u8 0, .int .u8 0] : Array Value) B).2)
        have HI := hid (info64b B HB.out.1)
        have H1 := hid (blkA_one B)
        have HZ : Hid (((#[.int .u8 0, .int .u8 0, .int .u8 0, .int .u8 0, .int .u8 0, .int .u8 0, .int .u8 0, .int .u8 0, .int .u8 0, .int .u8 0, .int .u8 0, .int .u8 0, .int .u8 0, .int .u8 0, .int .u8 0, .int .u8 0, .int .u8 0, .int .u8 0, .int .u8 0, .int .u8 0, .int .u8 0, .int .u8 0, .int .u8 0, .int .u8 0, .int .u8 0, .int .u8 0, .int .u8 0, .int .u8 0, .int .u8 0, .int .u8 0, .int .u8 0, .int .u8 0, .int .u8 0, .int .u8 0, .int .u8 0, .int .u8 0, .int .u8 0, .int .u8 0, .int .u8 0, .int .u8 0, .int .u8 0, .int .u8 0, .int .u8 0, .int .u8 0, .int .u8 0, .int .u8 0, .int .u8 0, .int .u8 0, .int .u8 0, .int .u8 0, .int .u8 0, .int .u8 0, .int .u8 0, .int .u8 0, .int .u8 0, .int .u8 0, .int .u8 0, .int .u8 0, .int .u8 0, .int .u8 0, .int .u8 0, .int .u8 0, .int .u8 0, .int .u8 0] : Array Value)).size = (blkA B).size) := ((blkA_size B).trans HB.out.1).symm
        clear hF4 HFk HWk HF4 hs1
        by_cases he : e1 = 0
        · have hbe : (((e1 : Nat) : Int) != 0) = false := by simp; exact he
          have HSB := hid (HSQ.out.1 he)
          clear he HSQ
          have HQ2 := hid (put_blk ((w4.alloc (.cells (#[.int .u8 0, .int .u8 0, .int .u8 0, .int .u8 0, .int .u8 0, .int .u8 0, .int .u8 0, .int .u8 0, .int .u8 0, .int .u8 0, .int .u8 0, .int .u8 0, .int .u8 0, .int .u8 0, .int .u8 0, .int .u8 0, .int .u8 0, .int .u8 0, .int .u8 0, .int .u8 0, .int .u8 0, .int .u8 0, .int .u8 0, .int .u8 0, .int .u8 0, .int .u8 0, .int .u8 0, .int .u8 0, .int .u8 0, .int .u8 0, .int .u8 0, .int .u8 0, .int .u8 0, .int .u8 0, .int .u8 0, .int .u8 0, .int .u8 0, .int .u8 0, .int .u8 0, .int .u8 0, .int .u8 0, .int .u8 0, .int .u8 0, .int .u8 0, .int .u8 0, .int .u8 0, .int .u8 0, .int .u8 0, .int .u8 0, .int .u8 0, .int .u8 0, .int .u8 0, .int .u8 0, .int .u8 0, .int .u8 0, .int .u8 0, .int .u8 0, .int .u8 0, .int .u8 0, .int .u8 0, .int .u8 0, .int .u8 0, .int .u8 0, .int .u8 0] : Array Value) 33)).setRow w4.heap.size (blkA B)) (#[.int .u8 0, .int .u8 0, .int .u8 0, .int .u8 0, .int .u8 0, .int .u8 0, .int .u8 0, .int .u8 0, .int .u8 0, .int .u8 0, .int .u8 0, .int .u8 0, .int .u8 0, .int .u8 0, .int .u8 0, .int .u8 0, .int .u8 0, .int .u8 0, .int .u8 0, .int .u8 0, .int .u8 0, .int .u8 0, .int .u8 0, .int .u8 0, .int .u8 0, .int .u8 0, .int .u8 0, .int .u8 0, .int .u8 0, .int .u8 0, .int .u8 0, .int .u8 0, .int .u8 0, .int .u8 0, .int .u8 0, .int .u8 0, .int .u8 0, .int .u8 0, .int .u8 0, .int .u8 0, .int .u8 0, .int .u8 0, .int .u8 0, .int .u8 0, .int .u8 0, .int .u8 0, .int .u8 0, .int .u8 0, .int .u8 0, .int .u8 0, .int .u8 0, .int .u8 0, .int .u8 0, .int .u8 0, .int .u8 0, .int .u8 0, .int .u8 0, .int .u8 0, .int .u8 0, .int .u8 0, .int .u8 0, .int .u8 0, .int .u8 0, .int .u8 0] : Array Value) B)
          have hzz : ((w4.alloc (.cells (#[.int .u8 0, .int .u8 0, .int .u8 0, .int .u8 0, .int .u8 0, .int .u8 0, .int .u8 0, .int .u8 0, .int .u8 0, .int .u8 0, .int .u8 0, .int .u8 0, .int .u8 0, .int .u8 0, .int .u8 0, .int .u8 0, .int .u8 0, .int .u8 0, .int .u8 0, .int .u8 0, .int .u8 0, .int .u8 0, .int .u8 0, .int .u8 0, .int .u8 0, .int .u8 0, .int .u8 0, .int .u8 0, .int .u8 0, .int .u8 0, .int .u8 0, .int .u8 0, .int .u8 0, .int .u8 0, .int .u8 0, .int .u8 0, .int .u8 0, .int .u8 0, .int .u8 0, .int .u8 0, .int .u8 0, .int .u8 0, .int .u8 0, .int .u8 0, .int .u8 0, .int .u8 0, .int .u8 0, .int .u8 0, .int .u8 0, .int .u8 0, .int .u8 0, .int .u8 0, .int .u8 0, .int .u8 0, .int .u8 0, .int .u8 0, .int .u8 0, .int .u8 0, .int .u8 0, .int .u8 0, .int .u8 0, .int .u8 0, .int .u8 0, .int .u8 0] : Array Value) 33)).setRow w4.heap.size (blkA B)).heap.size = w4.heap.size + 1 := by simp
          rw [hzz] at HQ2
          have HNW : Hid ((((w4.alloc (.cells (#[.int .u8 0, .int .u8 0, .int .u8 0, .int .u8 0, .int .u8 0, .int .u8 0, .int .u8 0, .int .u8 0, .int .u8 0, .int .u8 0, .int .u8 0, .int .u8 0, .int .u8 0, .int .u8 0, .int .u8 0, .int .u8 0, .int .u8 0, .int .u8 0, .int .u8 0, .int .u8 0, .int .u8 0, .int .u8 0, .int .u8 0, .int .u8 0, .int .u8 0, .int .u8 0, .int .u8 0, .int .u8 0, .int .u8 0, .int .u8 0, .int .u8 0, .int .u8 0, .int .u8 0, .int .u8 0, .int .u8 0, .int .u8 0, .int .u8 0, .int .u8 0, .int .u8 0, .int .u8 0, .int .u8 0, .int .u8 0, .int .u8 0, .int .u8 0, .int .u8 0, .int .u8 0, .int .u8 0, .int .u8 0, .int .u8 0, .int .u8 0, .int .u8 0, .int .u8 0, .int .u8 0, .int .u8 0, .int .u8 0, .int .u8 0, .int .u8 0, .int .u8 0, .int .u8 0, .int .u8 0, .int .u8 0, .int .u8 0, .int .u8 0, .int .u8 0] : Array Value) 33)).setRow w4.heap.size (blkA B)).alloc (.cells (#[.int .u8 0, .int .u8 0, .int .u8 0, .int .u8 0, .int .u8 0, .int .u8 0, .int .u8 0, .int .u8 0, .int .u8 0, .int .u8 0, .int .u8 0, .int .u8 0, .int .u8 0, .int .u8 0, .int .u8 0, .int .u8 0, .int .u8 0, .int .u8 0, .int .u8 0, .int .u8 0, .int .u8 0, .int .u8 0, .int .u8 0, .int .u8 0, .int .u8 0, .int .u8 0, .int .u8 0, .int .u8 0, .int .u8 0, .int .u8 0, .int .u8 0, .int .u8 0, .int .u8 0, .int .u8 0, .int .u8 0, .int .u8 0, .int .u8 0, .int .u8 0, .int .u8 0, .int .u8 0, .int .u8 0, .int .u8 0, .int .u8 0, .int .u8 0, .int .u8 0, .int .u8 0, .int .u8 0, .int .u8 0, .int .u8 0, .int .u8 0, .int .u8 0, .int .u8 0, .int .u8 0, .int .u8 0, .int .u8 0, .int .u8 0, .int .u8 0, .int .u8 0, .int .u8 0, .int .u8 0, .int .u8 0, .int .u8 0, .int .u8 0, .int .u8 0] : Array Value) 33)).heap[w4.heap.size + 1]? = some (.cells (#[.int .u8 0, .int .u8 0, .int .u8 0, .int .u8 0, .int .u8 0, .int .u8 0, .int .u8 0, .int .u8 0, .int .u8 0, .int .u8 0, .int .u8 0, .int .u8 0, .int .u8 0, .int .u8 0, .int .u8 0, .int .u8 0, .int .u8 0, .int .u8 0, .int .u8 0, .int .u8 0, .int .u8 0, .int .u8 0, .int .u8 0, .int .u8 0, .int .u8 0, .int .u8 0, .int .u8 0, .int .u8 0, .int .u8 0, .int .u8 0, .int .u8 0, .int .u8 0, .int .u8 0, .int .u8 0, .int .u8 0, .int .u8 0, .int .u8 0, .int .u8 0, .int .u8 0, .int .u8 0, .int .u8 0, .int .u8 0, .int .u8 0, .int .u8 0, .int .u8 0, .int .u8 0, .int .u8 0, .int .u8 0, .int .u8 0, .int .u8 0, .int .u8 0, .int .u8 0, .int .u8 0, .int .u8 0, .int .u8 0, .int .u8 0, .int .u8 0, .int .u8 0, .int .u8 0, .int .u8 0, .int .u8 0, .int .u8 0, .int .u8 0, .int .u8 0] : Array Value) 33 (0, 0))) := by unfold Hid; rw [← hzz]; exact heap_new _ _
          clear hzz
          have hyb := set_blk HQ2.out.1 m (byte z)
          rw [blkA_set] at hyb
          have HC : Hid (∃ v, ((((w4.alloc (.cells (#[.int .u8 0, .int .u8 0, .int .u8 0, .int .u8 0, .int .u8 0, .int .u8 0, .int .u8 0, .int .u8 0, .int .u8 0, .int .u8 0, .int .u8 0, .int .u8 0, .int .u8 0, .int .u8 0, .int .u8 0, .int .u8 0, .int .u8 0, .int .u8 0, .int .u8 0, .int .u8 0, .int .u8 0, .int .u8 0, .int .u8 0, .int .u8 0, .int .u8 0, .int .u8 0, .int .u8 0, .int .u8 0, .int .u8 0, .int .u8 0, .int .u8 0, .int .u8 0, .int .u8 0, .int .u8 0, .int .u8 0, .int .u8 0, .int .u8 0, .int .u8 0, .int .u8 0, .int .u8 0, .int .u8 0, .int .u8 0, .int .u8 0, .int .u8 0, .int .u8 0, .int .u8 0, .int .u8 0, .int .u8 0, .int .u8 0, .int .u8 0, .int .u8 0, .int .u8 0, .int .u8 0, .int .u8 0, .int .u8 0, .int .u8 0, .int .u8 0, .int .u8 0, .int .u8 0, .int .u8 0, .int .u8 0, .int .u8 0, .int .u8 0, .int .u8 0] : Array Value) 33)).setRow w4.heap.size (blkA B)).alloc (.cells (#[.int .u8 0, .int .u8 0, .int .u8 0, .int .u8 0, .int .u8 0, .int .u8 0, .int .u8 0, .int .u8 0, .int .u8 0, .int .u8 0, .int .u8 0, .int .u8 0, .int .u8 0, .int .u8 0, .int .u8 0, .int .u8 0, .int .u8 0, .int .u8 0, .int .u8 0, .int .u8 0, .int .u8 0, .int .u8 0, .int .u8 0, .int .u8 0, .int .u8 0, .int .u8 0, .int .u8 0, .int .u8 0, .int .u8 0, .int .u8 0, .int .u8 0, .int .u8 0, .int .u8 0, .int .u8 0, .int .u8 0, .int .u8 0, .int .u8 0, .int .u8 0, .int .u8 0, .int .u8 0, .int .u8 0, .int .u8 0, .int .u8 0, .int .u8 0, .int .u8 0, .int .u8 0, .int .u8 0, .int .u8 0, .int .u8 0, .int .u8 0, .int .u8 0, .int .u8 0, .int .u8 0, .int .u8 0, .int .u8 0, .int .u8 0, .int .u8 0, .int .u8 0, .int .u8 0, .int .u8 0, .int .u8 0, .int .u8 0, .int .u8 0, .int .u8 0] : Array Value) 33)).setRow (w4.heap.size + 1) (blkA B)).cell? ⟨w4.heap.size + 1, m, none⟩ = some v) := by
            unfold Hid; rw [cell_blk HQ2.out.1, Array.getElem?_eq_getElem (by rw [blkA_size, HB.out.1]; exact hm)]; exact ⟨_, rfl⟩
          obtain ⟨v, hcv⟩ := HC.out
          have hfv := free_blk HQ2.out.1 m
          go_wp2_with (first
            | (refine wpList_store_row rfl 33 _ _ rfl w4.heap.size (blkA B) rfl rfl 33 _ (heap_new w4 _) HI.out HZ.out H1.out ?_)
            | (refine wpList_load_row rfl 33 _ rfl w4.heap.size rfl 33 (blkA B) (0, 0) _ HQ.out Tryd.underlying33 rfl HI.out ?_)
            | (refine wpList_store_row rfl 33 _ _ rfl (w4.heap.size + 1) (blkA B) rfl rfl 33 _ HNW.out HI.out HZ.out H1.out ?_))
          have hsz5 : w.heap.size ≤ w4.heap.size + 1 := by have h1 := HF5.out.size; simp at h1; omega
          have HFX := hid ((HF5.out.trans HQ2.out.2).setCell (p := ⟨w4.heap.size + 1, m, none⟩) (fun h => absurd h (by show ¬ w4.heap.size + 1 < w.heap.size; omega)) (byte z))
          have HX1 : Hid ((((((w4.alloc (.cells (#[.int .u8 0, .int .u8 0, .int .u8 0, .int .u8 0, .int .u8 0, .int .u8 0, .int .u8 0, .int .u8 0, .int .u8 0, .int .u8 0, .int .u8 0, .int .u8 0, .int .u8 0, .int .u8 0, .int .u8 0, .int .u8 0, .int .u8 0, .int .u8 0, .int .u8 0, .int .u8 0, .int .u8 0, .int .u8 0, .int .u8 0, .int .u8 0, .int .u8 0, .int .u8 0, .int .u8 0, .int .u8 0, .int .u8 0, .int .u8 0, .int .u8 0, .int .u8 0, .int .u8 0, .int .u8 0, .int .u8 0, .int .u8 0, .int .u8 0, .int .u8 0, .int .u8 0, .int .u8 0, .int .u8 0, .int .u8 0, .int .u8 0, .int .u8 0, .int .u8 0, .int .u8 0, .int .u8 0, .int .u8 0, .int .u8 0, .int .u8 0, .int .u8 0, .int .u8 0, .int .u8 0, .int .u8 0, .int .u8 0, .int .u8 0, .int .u8 0, .int .u8 0, .int .u8 0, .int .u8 0, .int .u8 0, .int .u8 0, .int .u8 0, .int .u8 0] : Array Value) 33)).setRow w4.heap.size (blkA B)).alloc (.cells (#[.int .u8 0, .int .u8 0, .int .u8 0, .int .u8 0, .int .u8 0, .int .u8 0, .int .u8 0, .int .u8 0, .int .u8 0, .int .u8 0, .int .u8 0, .int .u8 0, .int .u8 0, .int .u8 0, .int .u8 0, .int .u8 0, .int .u8 0, .int .u8 0, .int .u8 0, .int .u8 0, .int .u8 0, .int .u8 0, .int .u8 0, .int .u8 0, .int .u8 0, .int .u8 0, .int .u8 0, .int .u8 0, .int .u8 0, .int .u8 0, .int .u8 0, .int .u8 0, .int .u8 0, .int .u8 0, .int .u8 0, .int .u8 0, .int .u8 0, .int .u8 0, .int .u8 0, .int .u8 0, .int .u8 0, .int .u8 0, .int .u8 0, .int .u8 0, .int .u8 0, .int .u8 0, .int .u8 0, .int .u8 0, .int .u8 0, .int .u8 0, .int .u8 0, .int .u8 0, .int .u8 0, .int .u8 0, .int .u8 0, .int .u8 0, .int .u8 0, .int .u8 0, .int .u8 0, .int .u8 0, .int .u8 0, .int .u8 0, .int .u8 0, .int .u8 0] : Array Value) 33)).setRow (w4.heap.size + 1) (blkA B)).setCell ⟨w4.heap.size + 1, m, none⟩ (byte z)).heap[w4.heap.size]? = some (.cells (blkA B) 33 (0, 0))) :=
            (heap_setCell_other _ ⟨w4.heap.size + 1, m, none⟩ w4.heap.size (byte z) (by show w4.heap.size ≠ w4.heap.size + 1; omega)).trans ((HQ2.out.2.block w4.heap.size (lt_of_block HQ.out) id).trans HQ.out)
          have HX2 := hid hyb
          obtain ⟨wx, hwx⟩ : ∃ wx, ((((w4.alloc (.cells (#[.int .u8 0, .int .u8 0, .int .u8 0, .int .u8 0, .int .u8 0, .int .u8 0, .int .u8 0, .int .u8 0, .int .u8 0, .int .u8 0, .int .u8 0, .int .u8 0, .int .u8 0, .int .u8 0, .int .u8 0, .int .u8 0, .int .u8 0, .int .u8 0, .int .u8 0, .int .u8 0, .int .u8 0, .int .u8 0, .int .u8 0, .int .u8 0, .int .u8 0, .int .u8 0, .int .u8 0, .int .u8 0, .int .u8 0, .int .u8 0, .int .u8 0, .int .u8 0, .int .u8 0, .int .u8 0, .int .u8 0, .int .u8 0, .int .u8 0, .int .u8 0, .int .u8 0, .int .u8 0, .int .u8 0, .int .u8 0, .int .u8 0, .int .u8 0, .int .u8 0, .int .u8 0, .int .u8 0, .int .u8 0, .int .u8 0, .int .u8 0, .int .u8 0, .int .u8 0, .int .u8 0, .int .u8 0, .int .u8 0, .int .u8 0, .int .u8 0, .int .u8 0, .int .u8 0, .int .u8 0, .int .u8 0, .int .u8 0, .int .u8 0, .int .u8 0] : Array Value) 33)).setRow w4.heap.size (blkA B)).alloc (.cells (#[.int .u8 0, .int .u8 0, .int .u8 0, .int .u8 0, .int .u8 0, .int .u8 0, .int .u8 0, .int .u8 0, .int .u8 0, .int .u8 0, .int .u8 0, .int .u8 0, .int .u8 0, .int .u8 0, .int .u8 0, .int .u8 0, .int .u8 0, .int .u8 0, .int .u8 0, .int .u8 0, .int .u8 0, .int .u8 0, .int .u8 0, .int .u8 0, .int .u8 0, .int .u8 0, .int .u8 0, .int .u8 0, .int .u8 0, .int .u8 0, .int .u8 0, .int .u8 0, .int .u8 0, .int .u8 0, .int .u8 0, .int .u8 0, .int .u8 0, .int .u8 0, .int .u8 0, .int .u8 0, .int .u8 0, .int .u8 0, .int .u8 0, .int .u8 0, .int .u8 0, .int .u8 0, .int .u8 0, .int .u8 0, .int .u8 0, .int .u8 0, .int .u8 0, .int .u8 0, .int .u8 0, .int .u8 0, .int .u8 0, .int .u8 0, .int .u8 0, .int .u8 0, .int .u8 0, .int .u8 0, .int .u8 0, .int .u8 0, .int .u8 0, .int .u8 0] : Array Value) 33)).setRow (w4.heap.size + 1) (blkA B)).setCell ⟨w4.heap.size + 1, m, none⟩ (.int .u8 (z : Int)) = wx := ⟨_, rfl⟩
          rw [show byte z = Value.int .u8 (z : Int) from rfl] at HFX HX1 HX2
          rw [hwx] at HFX HX1 HX2 ⊢
          obtain ⟨x, hx⟩ : ∃ x, w4.heap.size = x := ⟨_, rfl⟩
          rw [hx] at HX1 HX2 ⊢
          obtain ⟨y, hy⟩ : ∃ y, x + 1 = y := ⟨_, rfl⟩
          rw [hy] at HX2 ⊢
          clear hsz5 hwx hx hy hyb hcv hfv HC HNW HQ2 HQ HF5 HZ H1
          have HD : Hid ((B.set m z).length = 64 ∧ ∀ x ∈ B.set m z, x < 256) := ⟨by rw [List.length_set]; exact HB.out.1, fun x hx => by
            rcases List.mem_or_eq_of_mem_set hx with g | g
            · exact HB.out.2 x g
            · rw [g]; exact hzl⟩
          have HID := hid (info64b (B.set m z) HD.out.1)
          have HSS := hid (sealed_set B HB.out.1 HB.out.2 HSB.out m z hm hzl)
          have G0 := hid HFX.out.drew
          have hxy0 : wx.drew.heap[x]? = some (.cells (blkA B) 33 (0, 0)) ∧ wx.drew.heap[y]? = some (.cells (blkA (B.set m z)) 33 (0, 0)) := ⟨HX1.out, HX2.out⟩
          have hg := guard_blk
          have heB := fun W => hid (equal_blk B (B.set m z) HB.out.1 HD.out.1 W)
          cases hcq : (B == B.set m z)
          all_goals
            have he' : ∀ W, (Op.equalIn 10000 33 (.agg (blkA B)) (.agg (blkA (B.set m z)))).run Tryd.prog W = .ok _ W := fun W => (heB W).out.trans (by rw [hcq])
            refine wp_region_held_drew (S := fun w' => w'.heap[x]? = some (.cells (blkA B) 33 (0, 0)) ∧ w'.heap[y]? = some (.cells (blkA (B.set m z)) 33 (0, 0))) (by kernel_rfl) hxy0 (fun hHeld => ?_)
            refine wpAnyH_take (i := 0) (v := .agg (blkA B)) rfl (by kernel_rfl) (by kernel_rfl) (by kernel_rfl) (fun _ _ _ h => h) (yields_row (by rfl) 33 _ rfl x rfl 33 (blkA B) (0, 0) _ _ (fun _ h => h.1) Tryd.underlying33 HI.out) hHeld ?_
            try simp only [Act.put, List.getElem_toArray, List.getElem_cons_zero, List.getElem_cons_succ, List.setIfInBounds_toArray, List.set_cons_zero, List.set_cons_succ]
            refine wpAnyH_ready (rs := [1]) (by kernel_rfl) (by simp) ?_
            refine AllReadyH.cons rfl (fun K hK => ?_) AllReadyH.nil
            rw [if_pos (by rfl)]
            go_simp
            refine (fd_Sealed _ B HB.out.1 HB.out.2 (laid_no HL.out G0.out)).mono ?_; rintro e Y1 ⟨rfl, hG1⟩
            rw [HSB.out, beq_self_eq_true, show sumE true = 0 from rfl]
            have G1 := hid (G0.out.trans hG1)
            refine hK.out _ _ ⟨(hG1.block x (lt_of_block hHeld.1) id).trans hHeld.1, (hG1.block y (lt_of_block hHeld.2) id).trans hHeld.2⟩ (fun hHeld => ?_)
            clear hK K hG1
            try simp only [Act.put, List.getElem_toArray, List.getElem_cons_zero, List.getElem_cons_succ, List.setIfInBounds_toArray, List.set_cons_zero, List.set_cons_succ]
            refine wpAnyH_take (i := 2) (v := ?_) rfl (by kernel_rfl) (by kernel_rfl) (by kernel_rfl) (fun _ _ _ h => h) (Or.inl ⟨by rfl, ?_⟩) hHeld ?_
            rotate_left
            · intro w hSw
              go_simp
              with_reducible rfl
            try simp only [Act.put, List.getElem_toArray, List.getElem_cons_zero, List.getElem_cons_succ, List.setIfInBounds_toArray, List.set_cons_zero, List.set_cons_succ]
            refine wpAnyH_take (i := 3) (v := ?_) rfl (by kernel_rfl) (by kernel_rfl) (by kernel_rfl) (fun _ _ _ h => h) (Or.inl ⟨by rfl, ?_⟩) hHeld ?_
            rotate_left
            · intro w hSw
              go_simp
              with_reducible rfl
            try simp only [Act.put, List.getElem_toArray, List.getElem_cons_zero, List.getElem_cons_succ, List.setIfInBounds_toArray, List.set_cons_zero, List.set_cons_succ]
            refine wpAnyH_take (i := 4) (v := .agg (blkA (B.set m z))) rfl (by kernel_rfl) (by kernel_rfl) (by kernel_rfl) (fun _ _ _ h => h) (yields_row (by rfl) 33 _ rfl y rfl 33 (blkA (B.set m z)) (0, 0) _ _ (fun _ h => h.2) Tryd.underlying33 HID.out) hHeld ?_
            try simp only [Act.put, List.getElem_toArray, List.getElem_cons_zero, List.getElem_cons_succ, List.setIfInBounds_toArray, List.set_cons_zero, List.set_cons_succ]
            refine wpAnyH_take (i := 7) (v := .agg (blkA B)) rfl (by kernel_rfl) (by kernel_rfl) (by kernel_rfl) (fun _ _ _ h => h) (yields_row (by rfl) 33 _ rfl x rfl 33 (blkA B) (0, 0) _ _ (fun _ h => h.1) Tryd.underlying33 HI.out) hHeld ?_
            try simp only [Act.put, List.getElem_toArray, List.getElem_cons_zero, List.getElem_cons_succ, List.setIfInBounds_toArray, List.set_cons_zero, List.set_cons_succ]
            refine wpAnyH_take (i := 8) (v := .agg (blkA (B.set m z))) rfl (by kernel_rfl) (by kernel_rfl) (by kernel_rfl) (fun _ _ _ h => h) (yields_row (by rfl) 33 _ rfl y rfl 33 (blkA (B.set m z)) (0, 0) _ _ (fun _ h => h.2) Tryd.underlying33 HID.out) hHeld ?_
            try simp only [Act.put, List.getElem_toArray, List.getElem_cons_zero, List.getElem_cons_succ, List.setIfInBounds_toArray, List.set_cons_zero, List.set_cons_succ]
            refine wpAnyH_take (i := 9) (v := ?_) rfl (by kernel_rfl) (by kernel_rfl) (by kernel_rfl) (fun _ _ _ h => h) (Or.inl ⟨by rfl, ?_⟩) hHeld ?_
            rotate_left
            · intro w hSw
              go_simp
              with_reducible rfl
            try simp only [Act.put, List.getElem_toArray, List.getElem_cons_zero, List.getElem_cons_succ, List.setIfInBounds_toArray, List.set_cons_zero, List.set_cons_succ]
            refine wpAnyH_ready (rs := [5]) (by kernel_rfl) (by simp) ?_
            refine AllReadyH.cons rfl (fun K hK => ?_) AllReadyH.nil
            rw [if_pos (by rfl)]
            go_simp
            refine (fd_Sealed _ (B.set m z) HD.out.1 HD.out.2 (laid_no HL.out G1.out)).mono ?_; rintro e Y2 ⟨rfl, hG2⟩
            rw [HSS.out, hcq]
            (first | rw [show sumE true = 0 from rfl] | rw [show sumE false = 13 from rfl])
            have G2 := hid (G1.out.trans hG2)
            refine hK.out _ _ ⟨(hG2.block x (lt_of_block hHeld.1) id).trans hHeld.1, (hG2.block y (lt_of_block hHeld.2) id).trans hHeld.2⟩ (fun hHeld => ?_)
            clear hK K hG2
            try simp only [Act.put, List.getElem_toArray, List.getElem_cons_zero, List.getElem_cons_succ, List.setIfInBounds_toArray, List.set_cons_zero, List.set_cons_succ]
            refine wpAnyH_take (i := 6) (v := ?_) rfl (by kernel_rfl) (by kernel_rfl) (by kernel_rfl) (fun _ _ _ h => h) (Or.inl ⟨by rfl, ?_⟩) hHeld ?_
            rotate_left
            · intro w hSw
              go_simp
              with_reducible rfl
            try simp only [Act.put, List.getElem_toArray, List.getElem_cons_zero, List.getElem_cons_succ, List.setIfInBounds_toArray, List.set_cons_zero, List.set_cons_succ]
            refine wpAnyH_take (i := 10) (v := ?_) rfl (by kernel_rfl) (by kernel_rfl) (by kernel_rfl) (fun _ _ _ h => h) (Or.inl ⟨by rfl, ?_⟩) hHeld ?_
            rotate_left
            · intro w hSw
              go_simp
              with_reducible rfl
            try simp only [Act.put, List.getElem_toArray, List.getElem_cons_zero, List.getElem_cons_succ, List.setIfInBounds_toArray, List.set_cons_zero, List.set_cons_succ]
            refine wpAnyH_take (i := 11) (v := ?_) rfl (by kernel_rfl) (by kernel_rfl) (by kernel_rfl) (fun _ _ _ h => h) (Or.inl ⟨by rfl, ?_⟩) hHeld ?_
            rotate_left
            · intro w hSw
              go_simp
              with_reducible rfl
            try simp only [Act.put, List.getElem_toArray, List.getElem_cons_zero, List.getElem_cons_succ, List.setIfInBounds_toArray, List.set_cons_zero, List.set_cons_succ]
            refine wpAnyH_take (i := 12) (v := ?_) rfl (by kernel_rfl) (by kernel_rfl) (by kernel_rfl) (fun _ _ _ h => h) (Or.inl ⟨by rfl, ?_⟩) hHeld ?_
            rotate_left
            · intro w hSw
              go_simp
              with_reducible rfl
            try simp only [Act.put, List.getElem_toArray, List.getElem_cons_zero, List.getElem_cons_succ, List.setIfInBounds_toArray, List.set_cons_zero, List.set_cons_succ]
            refine wpAnyH_ready (rs := [13]) (by kernel_rfl) (by simp) ?_
            refine AllReadyH.cons rfl (fun K hK => ?_) AllReadyH.nil
            rw [if_pos (by rfl)]
            go_simp
            refine (fd_awake _ (laid_no HL.out G2.out)).mono ?_; rintro e Y3 ⟨rfl, hG3⟩
            have G3 := hid (G2.out.trans hG3)
            refine hK.out _ _ ⟨(hG3.block x (lt_of_block hHeld.1) id).trans hHeld.1, (hG3.block y (lt_of_block hHeld.2) id).trans hHeld.2⟩ (fun hHeld => ?_)
            clear hK K hG3
            try simp only [Act.put, List.getElem_toArray, List.getElem_cons_zero, List.getElem_cons_succ, List.setIfInBounds_toArray, List.set_cons_zero, List.set_cons_succ]
            refine wpAnyH_take (i := 14) (v := ?_) rfl (by kernel_rfl) (by kernel_rfl) (by kernel_rfl) (fun _ _ _ h => h) (Or.inl ⟨by rfl, ?_⟩) hHeld ?_
            rotate_left
            · intro w hSw
              go_simp
              with_reducible rfl
            try simp only [Act.put, List.getElem_toArray, List.getElem_cons_zero, List.getElem_cons_succ, List.setIfInBounds_toArray, List.set_cons_zero, List.set_cons_succ]
            refine wpAnyH_take (i := 15) (v := ?_) rfl (by kernel_rfl) (by kernel_rfl) (by kernel_rfl) (fun _ _ _ h => h) (Or.inl ⟨by rfl, ?_⟩) hHeld ?_
            rotate_left
            · intro w hSw
              go_simp
              with_reducible rfl
            try simp only [Act.put, List.getElem_toArray, List.getElem_cons_zero, List.getElem_cons_succ, List.setIfInBounds_toArray, List.set_cons_zero, List.set_cons_succ]
            refine wpAnyH_done (by kernel_rfl) ?_ _
            clear hHeld
            go_wp2_with fail
            go_ret
            exact ⟨rfl, G3.out⟩
        · have hbe : (((e1 : Nat) : Int) != 0) = true := by simp; exact he
          have hBz := HSQ.out.2 he
          have he' : ∀ W, (Op.equalIn 10000 33 (.agg (blkA B)) (.agg (#[.int .u8 0, .int .u8 0, .int .u8 0, .int .u8 0, .int .u8 0, .int .u8 0, .int .u8 0, .int .u8 0, .int .u8 0, .int .u8 0, .int .u8 0, .int .u8 0, .int .u8 0, .int .u8 0, .int .u8 0, .int .u8 0, .int .u8 0, .int .u8 0, .int .u8 0, .int .u8 0, .int .u8 0, .int .u8 0, .int .u8 0, .int .u8 0, .int .u8 0, .int .u8 0, .int .u8 0, .int .u8 0, .int .u8 0, .int .u8 0, .int .u8 0, .int .u8 0, .int .u8 0, .int .u8 0, .int .u8 0, .int .u8 0, .int .u8 0, .int .u8 0, .int .u8 0, .int .u8 0, .int .u8 0, .int .u8 0, .int .u8 0, .int .u8 0, .int .u8 0, .int .u8 0, .int .u8 0, .int .u8 0, .int .u8 0, .int .u8 0, .int .u8 0, .int .u8 0, .int .u8 0, .int .u8 0, .int .u8 0, .int .u8 0, .int .u8 0, .int .u8 0, .int .u8 0, .int .u8 0, .int .u8 0, .int .u8 0, .int .u8 0, .int .u8 0] : Array Value))).run Tryd.prog W = .ok true W := fun W => by
            rw [← z64_eq, hBz, equal_blk zeros zeros rfl rfl W, beq_self_eq_true]
          have hg := guard_blk
          have HA := hid (fd_awake _ (laid_no HL.out HF5.out))
          clear hBz he HSQ
          go_wp2_with (first
            | (refine wpList_store_row rfl 33 _ _ rfl w4.heap.size (blkA B) rfl rfl 33 _ (heap_new w4 _) HI.out HZ.out H1.out ?_)
            | (refine wpList_load_row rfl 33 _ rfl w4.heap.size rfl 33 (blkA B) (0, 0) _ HQ.out Tryd.underlying33 rfl HI.out ?_)
            | (refine HA.out.mono ?_; rintro e W7 ⟨rfl, hF7⟩))
          go_ret
          exact ⟨rfl, HF5.out.trans hF7⟩
end Go.Proofs.YtopheimplclfcaaDoor
