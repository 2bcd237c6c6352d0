/- The law's does: any call, on a device and its reference that are alike. (tools/dev_u.py) -/
import Derived.Test.YtcdchojdkdimbaaDvT
import Derived.Test.YtcdchojdkdimbaaDvJ
namespace Go.Proofs.Ytcdchojdkdimbaa
open Go.RowKit

def rdB2 (D : DM) (s : Int) : List Nat := if thereB D s = true then readB D s.toNat else zeros
def rdE2 (D : DM) (s : Int) : Nat := if thereB D s = true then readE D else 10
def rdD2 (D : DM) (s : Int) : DM := if thereB D s = true then popD D else D
theorem rdB2_len {D : DM} (h : DOk D) (s : Int) : (rdB2 D s).length = 64 := by
  unfold rdB2 readB; split
  · rename_i ht
    obtain ⟨k, rfl, hk⟩ := there_nat ht
    split
    · exact zeros_len
    · exact latest_len h (by rw [Int.toNat_natCast]; exact hk)
  · exact zeros_len
theorem dv_ReadAny (w : World) (p : Nat) (S : Nat → Prop) (D : DM) (h : PD w p S D) (s : Int) (hlen : D.opn.length ≤ 100000) :
    Calls Try.prog 24 #[.pointer (some ⟨p, 0, none⟩), .int .i64 s] w fun e w' => e = .returned (.tuple #[.agg (blkA (rdB2 D s)), .int .i64 ((rdE2 D s : Nat) : Int)]) ∧ PD w' p S (rdD2 D s) ∧ Fr S w w' := by
  unfold rdB2 rdE2 rdD2
  by_cases ht : thereB D s = true
  · simp only [if_pos ht]
    obtain ⟨k, rfl, hk⟩ := there_nat ht
    exact dv_Read w p S D h k hk hlen
  · simp only [if_neg ht]
    refine (dv_Read_bad w (some ⟨p, 0, none⟩) s 10 (by decide) (fun W f => dv_find_bad W p S D (h.no f) s (there_not ht))).mono ?_
    rintro e w' ⟨rfl, hF⟩
    exact ⟨rfl, h.no hF, hF.mono (fun _ _ h => h.elim)⟩
theorem rf_ReadAny (w : World) (p : Nat) (S : Nat → Prop) (D : DM) (h : RD w p S D) (s : Int) (hlen : D.opn.length ≤ 100000) (hpl : D.plan.length ≤ 100000) :
    Calls Try.prog 30 #[.pointer (some ⟨p, 0, none⟩), .int .i64 s] w fun e w' => e = .returned (.tuple #[.agg (blkA (rdB2 D s)), .int .i64 ((rdE2 D s : Nat) : Int)]) ∧ RD w' p S (rdD2 D s) ∧ Fr S w w' := by
  unfold rdB2 rdE2 rdD2
  by_cases ht : thereB D s = true
  · simp only [if_pos ht]
    obtain ⟨k, rfl, hk⟩ := there_nat ht
    exact rf_Read w p S D h k hk hlen hpl
  · simp only [if_neg ht]
    refine (rf_Read_bad w p S D h s ht).mono ?_
    rintro e w' ⟨rfl, hF⟩
    exact ⟨rfl, h.no hF, hF.mono (fun _ _ h => h.elim)⟩
set_option maxRecDepth 100000 in
set_option maxHeartbeats 2000000 in
theorem dv_does02 (w : World) (p q : Nat) (S T : Nat → Prop) (D : DM) (h : PD w p S D) (k : RD w q T D) (hST : ∀ k, S k → ¬ T k) (o : OpM) (ho : o.ask = 0 ∨ o.ask = 2) (hlen : D.opn.length ≤ 100000) (hplE : D.plan.length ≤ 100000) :
    Calls Try.prog 14 #[.pointer (some ⟨p, 0, none⟩), .pointer (some ⟨q, 0, none⟩), .agg #[.int .i64 o.ask, .int .i64 o.sec, .int .i64 o.n]] w fun e w' => e = .returned (.bool true) ∧ ∃ S' T', PD w' p S' (stepD D o) ∧ RD w' q T' (stepD D o) ∧ Fr (fun j => S j ∨ T j) w w' ∧ More w w' S S' ∧ More w w' T T' ∧ (∀ k, S' k → ¬ T' k) := by
  obtain ⟨ask, sec, n⟩ := o
  have hb := heap_new w (.cells #[.int .i64 ask, .int .i64 sec, .int .i64 n] 33)
  have hF := (Fr.refl No w).alloc (.cells #[.int .i64 ask, .int .i64 sec, .int .i64 n] 33)
  have HP := hid (h.no hF)
  have HQ := hid (k.no hF)
  have hltS := h.lt
  have hltT := k.lt
  have HB := hid hb
  have HF := hid hF
  have b0 := cell_blk hb 0
  have b1 := cell_blk hb 1
  have b2 := cell_blk hb 2
  simp only [List.getElem?_toArray, List.getElem?_cons_zero, List.getElem?_cons_succ] at b0 b1 b2
  obtain ⟨w1, hw1⟩ : ∃ w1, w.alloc (.cells #[.int .i64 ask, .int .i64 sec, .int .i64 n] 33) = w1 := ⟨_, rfl⟩
  have HW1 := hid hw1
  have hnS : ∀ j, S j → j ≠ w.heap.size := fun j hj e => by have := hltS j hj; omega
  have hnT : ∀ j, T j → j ≠ w.heap.size := fun j hj e => by have := hltT j hj; omega
  clear hb hF h k
  rcases ho with rfl | rfl
  · rw [show stepD D ⟨0, sec, n⟩ = wD D sec (markB n) from rfl]
    have hML := markB_len n
    have hMK : ∀ W, Calls Try.prog 22 #[.int .i64 n] W fun e w' => e = .returned (.agg (blkA (markB n))) ∧ Fr No W w' := fun W => dv_mark W n
    obtain ⟨M, hM⟩ : ∃ M, markB n = M := ⟨_, rfl⟩
    rw [hM] at hML hMK ⊢
    have HMK := hid hMK
    clear hM hMK hw1
    go_enter Try.func14, Try.ntmps14
    go_wp2_with fail
    obtain ⟨qb, hqb⟩ : ∃ qb, w.heap.size = qb := ⟨_, rfl⟩
    rw [hqb] at b1 b2 hnS hnT ⊢
    refine wp_region_held_drew (S := fun W => W.cell? ⟨qb, 1, none⟩ = some (.int .i64 sec) ∧ W.cell? ⟨qb, 2, none⟩ = some (.int .i64 n)) (by kernel_rfl) ⟨b1, b2⟩ (fun hHeld => ?_)
    have HS : Hid (∀ (X : Nat → Prop) W W', Fr X W W' → ¬ X qb → (W.cell? ⟨qb, 1, none⟩ = some (.int .i64 sec) ∧ W.cell? ⟨qb, 2, none⟩ = some (.int .i64 n)) → (W'.cell? ⟨qb, 1, none⟩ = some (.int .i64 sec) ∧ W'.cell? ⟨qb, 2, none⟩ = some (.int .i64 n))) := fun X W W' f hX ⟨a1, a2⟩ =>
      ⟨(f.cell (World.block_lt_of_cell? _ _ a1) hX).trans a1, (f.cell (World.block_lt_of_cell? _ _ a2) hX).trans a2⟩
    have hP0 := HP.out.no (Fr.refl No _).drew
    have hQ0 := HQ.out.no (Fr.refl No _).drew
    have hF0 := HF.out.drew
    obtain ⟨z0, hz0⟩ : ∃ z0, (w.alloc (.cells #[.int .i64 0, .int .i64 sec, .int .i64 n] 33)).drew = z0 := ⟨_, rfl⟩
    rw [hz0] at hP0 hQ0 hF0 hHeld ⊢
    have HP0 := hid hP0
    have HQ0 := hid hQ0
    have HF0 := hid hF0
    clear hz0 hqb b0 b1 b2 hP0 hQ0 hF0 HP HQ HF HB HW1
    refine wpAnyH_take (i := 0) (v := ?_) rfl (by kernel_rfl) (by kernel_rfl) (by kernel_rfl) (fun _ _ _ h => h) (Or.inl ⟨by rfl, ?_⟩) hHeld ?_
    rotate_left
    · intro w hSw; obtain ⟨hA1, hA2⟩ := hSw
      go_simp
      with_reducible rfl
    try simp only [Act.put, List.getElem_toArray, List.getElem_cons_zero, List.getElem_cons_succ, List.setIfInBounds_toArray, List.set_cons_zero, List.set_cons_succ]
    refine wpAnyH_take (i := 1) (v := ?_) rfl (by kernel_rfl) (by kernel_rfl) (by kernel_rfl) (fun _ _ _ h => h) (Or.inl ⟨by rfl, ?_⟩) hHeld ?_
    rotate_left
    · intro w hSw; obtain ⟨hA1, hA2⟩ := hSw
      go_simp
      with_reducible rfl
    try simp only [Act.put, List.getElem_toArray, List.getElem_cons_zero, List.getElem_cons_succ, List.setIfInBounds_toArray, List.set_cons_zero, List.set_cons_succ]
    refine wpAnyH_take (i := 2) (v := ?_) rfl (by kernel_rfl) (by kernel_rfl) (by kernel_rfl) (fun _ _ _ h => h) (Or.inl ⟨by rfl, ?_⟩) hHeld ?_
    rotate_left
    · intro w hSw; obtain ⟨hA1, hA2⟩ := hSw
      go_simp
      with_reducible rfl
    try simp only [Act.put, List.getElem_toArray, List.getElem_cons_zero, List.getElem_cons_succ, List.setIfInBounds_toArray, List.set_cons_zero, List.set_cons_succ]
    refine wpAnyH_take (i := 3) (v := ?_) rfl (by kernel_rfl) (by kernel_rfl) (by kernel_rfl) (fun _ _ _ h => h) (Or.inl ⟨by rfl, ?_⟩) hHeld ?_
    rotate_left
    · intro w hSw; obtain ⟨hA1, hA2⟩ := hSw
      go_simp
      with_reducible rfl
    try simp only [Act.put, List.getElem_toArray, List.getElem_cons_zero, List.getElem_cons_succ, List.setIfInBounds_toArray, List.set_cons_zero, List.set_cons_succ]
    refine wpAnyH_take (i := 4) (v := ?_) rfl (by kernel_rfl) (by kernel_rfl) (by kernel_rfl) (fun _ _ _ h => h) (Or.inl ⟨by rfl, ?_⟩) hHeld ?_
    rotate_left
    · intro w hSw; obtain ⟨hA1, hA2⟩ := hSw
      go_simp
      with_reducible rfl
    try simp only [Act.put, List.getElem_toArray, List.getElem_cons_zero, List.getElem_cons_succ, List.setIfInBounds_toArray, List.set_cons_zero, List.set_cons_succ]
    refine wpAnyH_take (i := 7) (v := ?_) rfl (by kernel_rfl) (by kernel_rfl) (by kernel_rfl) (fun _ _ _ h => h) (Or.inl ⟨by rfl, ?_⟩) hHeld ?_
    rotate_left
    · intro w hSw; obtain ⟨hA1, hA2⟩ := hSw
      go_simp
      with_reducible rfl
    try simp only [Act.put, List.getElem_toArray, List.getElem_cons_zero, List.getElem_cons_succ, List.setIfInBounds_toArray, List.set_cons_zero, List.set_cons_succ]
    refine wpAnyH_take (i := 8) (v := ?_) rfl (by kernel_rfl) (by kernel_rfl) (by kernel_rfl) (fun _ _ _ h => h) (Or.inl ⟨by rfl, ?_⟩) hHeld ?_
    rotate_left
    · intro w hSw; obtain ⟨hA1, hA2⟩ := hSw
      go_simp
      with_reducible rfl
    try simp only [Act.put, List.getElem_toArray, List.getElem_cons_zero, List.getElem_cons_succ, List.setIfInBounds_toArray, List.set_cons_zero, List.set_cons_succ]
    refine wpAnyH_take (i := 9) (v := ?_) rfl (by kernel_rfl) (by kernel_rfl) (by kernel_rfl) (fun _ _ _ h => h) (Or.inl ⟨by rfl, ?_⟩) hHeld ?_
    rotate_left
    · intro w hSw; obtain ⟨hA1, hA2⟩ := hSw
      go_simp
      with_reducible rfl
    try simp only [Act.put, List.getElem_toArray, List.getElem_cons_zero, List.getElem_cons_succ, List.setIfInBounds_toArray, List.set_cons_zero, List.set_cons_succ]
    refine wpAnyH_take (i := 10) (v := ?_) rfl (by kernel_rfl) (by kernel_rfl) (by kernel_rfl) (fun _ _ _ h => h) (Or.inl ⟨by rfl, ?_⟩) hHeld ?_
    rotate_left
    · intro w hSw; obtain ⟨hA1, hA2⟩ := hSw
      go_simp
      with_reducible rfl
    try simp only [Act.put, List.getElem_toArray, List.getElem_cons_zero, List.getElem_cons_succ, List.setIfInBounds_toArray, List.set_cons_zero, List.set_cons_succ]
    refine wpAnyH_take (i := 11) (v := ?_) rfl (by kernel_rfl) (by kernel_rfl) (by kernel_rfl) (fun _ _ _ h => h) (Or.inl ⟨by rfl, ?_⟩) hHeld ?_
    rotate_left
    · intro w hSw; obtain ⟨hA1, hA2⟩ := hSw
      go_simp
      with_reducible rfl
    try simp only [Act.put, List.getElem_toArray, List.getElem_cons_zero, List.getElem_cons_succ, List.setIfInBounds_toArray, List.set_cons_zero, List.set_cons_succ]
    refine wpAnyH_ready (rs := [5]) (by kernel_rfl) (by simp) ?_
    refine AllReadyH.cons rfl (fun K hK => ?_) AllReadyH.nil
    rw [if_pos (by rfl)]
    go_simp
    refine (HMK.out _).mono ?_
    rintro e z5 ⟨rfl, f5⟩
    refine hK.out _ _ (HS.out _ _ _ f5 id hHeld) (fun hHeld => ?_)
    clear hK K
    try simp only [Act.put, List.getElem_toArray, List.getElem_cons_zero, List.getElem_cons_succ, List.setIfInBounds_toArray, List.set_cons_zero, List.set_cons_succ]
    have HP5 := hid (HP0.out.no f5)
    have HQ5 := hid (HQ0.out.no f5)
    have HF5 := hid (HF0.out.trans f5)
    clear f5
    refine wpAnyH_ready (rs := [6]) (by kernel_rfl) (by simp) ?_
    refine AllReadyH.cons rfl (fun K hK => ?_) AllReadyH.nil
    rw [if_pos (by rfl)]
    go_simp
    refine (dv_WriteAny z5 p S D HP5.out sec M hML hlen).mono ?_
    rintro e z6 ⟨rfl, S', hP6, f6, m6⟩
    refine hK.out _ _ (HS.out _ _ _ f6 (fun e => hnS qb e rfl) hHeld) (fun hHeld => ?_)
    clear hK K
    try simp only [Act.put, List.getElem_toArray, List.getElem_cons_zero, List.getElem_cons_succ, List.setIfInBounds_toArray, List.set_cons_zero, List.set_cons_succ]
    have HP6 := hid hP6
    have HQ6 := hid (HQ5.out.fr f6 (fun k hk e => hST k e hk))
    have HF6 := hid ((HF5.out.mono (T := fun j => S j ∨ T j) (fun _ _ h => h.elim)).trans (f6.mono (fun _ _ e => .inl e)))
    have HM6 := hid m6
    have HZ6 := hid f6.size
    clear hP6 f6 m6
    refine wpAnyH_ready (rs := [12]) (by kernel_rfl) (by simp) ?_
    refine AllReadyH.cons rfl (fun K hK => ?_) AllReadyH.nil
    rw [if_pos (by rfl)]
    go_simp
    refine (HMK.out _).mono ?_
    rintro e z12 ⟨rfl, f12⟩
    refine hK.out _ _ (HS.out _ _ _ f12 id hHeld) (fun hHeld => ?_)
    clear hK K
    try simp only [Act.put, List.getElem_toArray, List.getElem_cons_zero, List.getElem_cons_succ, List.setIfInBounds_toArray, List.set_cons_zero, List.set_cons_succ]
    have HP12 := hid (HP6.out.no f12)
    have HQ12 := hid (HQ6.out.no f12)
    have HF12 := hid (HF6.out.trans (f12.mono (fun _ _ h => h.elim)))
    have HM12 := hid (HM6.out.post f12)
    have HZ12 := hid f12.size
    clear f12
    refine wpAnyH_ready (rs := [13]) (by kernel_rfl) (by simp) ?_
    refine AllReadyH.cons rfl (fun K hK => ?_) AllReadyH.nil
    rw [if_pos (by rfl)]
    go_simp
    refine (rf_WriteAny z12 q T D HQ12.out sec M hML hlen hplE).mono ?_
    rintro e z13 ⟨rfl, T', hQ13, f13, m13⟩
    refine hK.out _ _ (HS.out _ _ _ f13 (fun e => hnT qb e rfl) hHeld) (fun hHeld => ?_)
    clear hK K
    try simp only [Act.put, List.getElem_toArray, List.getElem_cons_zero, List.getElem_cons_succ, List.setIfInBounds_toArray, List.set_cons_zero, List.set_cons_succ]
    have hz5 := HF5.out.size
    have hST2 : ∀ k, S' k → ¬ T k := fun k hk ht => by
      rcases HM12.out.1 k hk with e | e
      · exact hST k e ht
      · have := HQ5.out.lt k ht; omega
    have HP13 := hid (HP12.out.fr f13 hST2)
    have HQ13 := hid hQ13
    have HF13 := hid (HF12.out.trans (f13.mono (fun _ _ e => .inr e)))
    have HMS := hid ((HM12.out.post f13).pre HF5.out)
    have HMT := hid (m13.pre HF12.out)
    have HDJ : Hid (∀ k, S' k → ¬ T' k) := fun k hk ht => by
      rcases m13.1 k ht with e | e
      · exact hST2 k hk e
      · have := HM12.out.2 k hk; omega
    clear hQ13 f13 m13 hST2
    refine wpAnyH_take (i := 14) (v := ?_) rfl (by kernel_rfl) (by kernel_rfl) (by kernel_rfl) (fun _ _ _ h => h) (Or.inl ⟨by rfl, ?_⟩) hHeld ?_
    rotate_left
    · intro w hSw
      go_simp
      with_reducible rfl
    try simp only [Act.put, List.getElem_toArray, List.getElem_cons_zero, List.getElem_cons_succ, List.setIfInBounds_toArray, List.set_cons_zero, List.set_cons_succ]
    refine wpAnyH_take (i := 15) (v := ?_) rfl (by kernel_rfl) (by kernel_rfl) (by kernel_rfl) (fun _ _ _ h => h) (Or.inl ⟨by rfl, ?_⟩) hHeld ?_
    rotate_left
    · intro w hSw
      go_simp
      with_reducible rfl
    try simp only [Act.put, List.getElem_toArray, List.getElem_cons_zero, List.getElem_cons_succ, List.setIfInBounds_toArray, List.set_cons_zero, List.set_cons_succ]
    refine wpAnyH_done (by kernel_rfl) ?_ _
    go_wp2_with fail
    go_ret
    exact ⟨by first | rfl | simp, S', T', HP13.out, HQ13.out, HF13.out, HMS.out, HMT.out, HDJ.out⟩
  · rw [show stepD D ⟨2, sec, n⟩ = flushF D from rfl]
    clear hw1 HW1
    go_enter Try.func14, Try.ntmps14
    go_wp2_with fail
    refine (dv_Flush _ p S D HP.out hlen).mono ?_
    rintro e w2 ⟨rfl, hP2, f2⟩
    have HP2 := hid hP2
    have HQ2 := hid (HQ.out.fr f2 (fun k hk e => hST k e hk))
    have HF2 := hid ((HF.out.mono (T := fun j => S j ∨ T j) (fun _ _ h => h.elim)).trans (f2.mono (fun _ _ e => .inl e)))
    clear hP2 f2
    go_wp2_with fail
    refine (rf_Flush w2 q T D HQ2.out hlen hplE).mono ?_
    rintro e w3 ⟨rfl, hQ3, f3⟩
    go_wp2_with fail
    go_ret
    have HF3 := HF2.out.trans (f3.mono (fun _ _ e => .inr e))
    exact ⟨by first | rfl | simp, S, T, HP2.out.fr f3 (fun k hk e => hST k hk e), hQ3, HF3, More.refl hltS HF3, More.refl hltT HF3, hST⟩
set_option maxRecDepth 100000 in
set_option maxHeartbeats 2000000 in
theorem dv_does1 (w : World) (p q : Nat) (S T : Nat → Prop) (D : DM) (h : PD w p S D) (k : RD w q T D) (hST : ∀ k, S k → ¬ T k) (sec n : Int) (hlen : D.opn.length ≤ 100000) (hpl : D.plan.length ≤ 100000) :
    Calls Try.prog 14 #[.pointer (some ⟨p, 0, none⟩), .pointer (some ⟨q, 0, none⟩), .agg #[.int .i64 1, .int .i64 sec, .int .i64 n]] w fun e w' => e = .returned (.bool true) ∧ PD w' p S (rdD2 D sec) ∧ RD w' q T (rdD2 D sec) ∧ Fr (fun j => S j ∨ T j) w w' := by
  have hb := heap_new w (.cells #[.int .i64 1, .int .i64 sec, .int .i64 n] 33)
  have hF := (Fr.refl No w).alloc (.cells #[.int .i64 1, .int .i64 sec, .int .i64 n] 33)
  have HP := hid (h.no hF)
  have HQ := hid (k.no hF)
  have hltS := h.lt
  have hltT := k.lt
  have HF := hid hF
  have b0 := cell_blk hb 0
  have b1 := cell_blk hb 1
  have b2 := cell_blk hb 2
  simp only [List.getElem?_toArray, List.getElem?_cons_zero, List.getElem?_cons_succ] at b0 b1 b2
  have hnS : ∀ j, S j → j ≠ w.heap.size := fun j hj e => by have := hltS j hj; omega
  have hnT : ∀ j, T j → j ≠ w.heap.size := fun j hj e => by have := hltT j hj; omega
  clear hb hF h k
  have HOK := hid HP.out.1
  go_enter Try.func14, Try.ntmps14
  go_wp2_with fail
  refine (dv_ReadAny _ p S D HP.out sec hlen).mono ?_
  rintro e w2 ⟨rfl, hX, hF⟩
  have hB64 := rdB2_len HOK.out sec
  have HR := hid (fun (W : World) (hW : RD W q T D) => rf_ReadAny W q T D hW sec hlen hpl)
  obtain ⟨D', hD'⟩ : ∃ D', rdD2 D sec = D' := ⟨_, rfl⟩
  obtain ⟨B, hB⟩ : ∃ B, rdB2 D sec = B := ⟨_, rfl⟩
  obtain ⟨er, her⟩ : ∃ er : Int, ((rdE2 D sec : Nat) : Int) = er := ⟨_, rfl⟩
  rw [hD', hB, her] at HR
  rw [hD'] at hX
  have HDE := hid hD'
  rw [hB] at hB64
  rw [hB, her]
  have HI := hid (info64b B hB64)
  have H1 := hid (blkA_one B)
  have HSB : Hid ((blkA zeros).size = (blkA B).size) := by unfold Hid; rw [blkA_zeros_size, blkA_size, hB64]
  have HP2 := hid hX
  have HQ2 := hid (HQ.out.fr hF (fun k hk e => hST k e hk))
  have HF2 := hid ((HF.out.mono (T := fun j => S j ∨ T j) (fun _ _ h => h.elim)).trans (hF.mono (fun _ _ e => .inl e)))
  have d1 := (hF.cell (p := ⟨w.heap.size, 1, none⟩) (lt_of_cell b1) (fun e => hnS _ e rfl)).trans b1
  have HD1 := hid d1
  clear hX hF hD' hB her HP HQ HF b0 b1 b2 d1
  have HN := hid (heap_new w2 (.cells (blkA zeros) 42))
  have HPB := put_blk w2 (blkA zeros) B
  go_wp2_with (
    refine wpList_store_row rfl 42 _ _ rfl w2.heap.size (blkA B) rfl rfl 42 (blkA zeros) HN.out HI.out HSB.out H1.out ?_
    change wpList _ _ _ _ _ ((w2.alloc (.cells (blkA zeros) 42)).setRow w2.heap.size (blkA B))
    obtain ⟨w3, hw⟩ : ∃ w3, ((w2.alloc (.cells (blkA zeros) 42)).setRow w2.heap.size (blkA B)) = w3 := ⟨_, rfl⟩
    rw [hw] at HPB ⊢
    have d1 := (HPB.2.cell (p := ⟨w.heap.size, 1, none⟩) (lt_of_cell HD1.out) id).trans HD1.out)
  obtain ⟨g7, hg⟩ : ∃ g7, w2.heap.size = g7 := ⟨_, rfl⟩
  rw [hg] at HPB ⊢
  obtain ⟨hG, hF⟩ := HPB
  have HG7 := hid hG
  have HP3 := hid (HP2.out.no hF)
  have HF3 := hid (HF2.out.trans (hF.mono (fun _ _ h => h.elim)))
  have hnT7 : ¬ T g7 := fun e => by have := HQ2.out.lt _ e; omega
  have hQ3 := HQ2.out.no hF
  clear hw hg hG hF HN HP2 HF2 HQ2 d1 HD1
  refine (HR.out w3 hQ3).mono ?_
  rintro e w4 ⟨rfl, hX, hF⟩
  have HQ4 := hid hX
  have HP4 := hid (HP3.out.fr hF (fun k hk e => hST k hk e))
  have HF4 := hid (HF3.out.trans (hF.mono (fun _ _ e => .inr e)))
  have HG8 := hid ((hF.block g7 (lt_of_block HG7.out) hnT7).trans HG7.out)
  clear hX hF hQ3 HP3 HF3 HG7
  have HN := hid (heap_new w4 (.cells (blkA zeros) 42))
  have HPB := put_blk w4 (blkA zeros) B
  have hEB := blk_eqIn_same B hB64
  have hgu := eql_ty
  go_wp2_with (first
    | (refine wpList_store_row rfl 42 _ _ rfl w4.heap.size (blkA B) rfl rfl 42 (blkA zeros) HN.out HI.out HSB.out H1.out ?_
       change wpList _ _ _ _ _ ((w4.alloc (.cells (blkA zeros) 42)).setRow w4.heap.size (blkA B))
       obtain ⟨w5, hw⟩ : ∃ w5, ((w4.alloc (.cells (blkA zeros) 42)).setRow w4.heap.size (blkA B)) = w5 := ⟨_, rfl⟩
       rw [hw] at HPB ⊢
       have HG9 := hid ((HPB.2.block g7 (lt_of_block HG8.out) id).trans HG8.out))
    | (refine list_val rfl (.agg (blkA B)) (exec_load_row 42 (.tmp 7) rfl g7 (by rfl) 42 (blkA B) (0, 0) _ _ HG9.out Try.underlying42 HI.out) ?_)
    | (refine list_val rfl (.agg (blkA B)) (exec_load_row 42 (.tmp 9) rfl w4.heap.size (by rfl) 42 (blkA B) (0, 0) _ _ HPB.1 Try.underlying42 HI.out) ?_))
  go_ret
  exact ⟨by first | rfl | simp, by rw [HDE.out]; exact HP4.out.no HPB.2, by rw [HDE.out]; exact HQ4.out.no HPB.2, HF4.out.trans (HPB.2.mono (fun _ _ h => h.elim))⟩
end Go.Proofs.Ytcdchojdkdimbaa
