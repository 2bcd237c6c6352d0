/- dev and its reference: Write of any sector; the law's does of writes and flushes. -/
import Derived.Test.YtcdchojdkdimbaaDvI
namespace Go.Proofs.Ytcdchojdkdimbaa
open Go.RowKit

def wE (D : DM) (s : Int) : Nat := if thereB D s = true then writeE D else 10
def wD (D : DM) (s : Int) (B : List Nat) : DM := if thereB D s = true then writeD D s.toNat B else D
theorem there_nat {D : DM} {s : Int} (h : thereB D s = true) : ∃ k : Nat, s = k ∧ k < D.firm.length := by
  unfold thereB at h
  simp only [Bool.and_eq_true, decide_eq_true_eq] at h
  obtain ⟨k, rfl⟩ := Int.eq_ofNat_of_zero_le h.1
  exact ⟨k, rfl, by omega⟩
theorem there_not {D : DM} {s : Int} (h : ¬ thereB D s = true) : s < 0 ∨ (D.firm.length : Int) ≤ s := by
  unfold thereB at h
  simp only [Bool.and_eq_true, decide_eq_true_eq] at h
  omega
theorem dv_WriteAny (w : World) (p : Nat) (S : Nat → Prop) (D : DM) (h : PD w p S D) (s : Int) (B : List Nat) (hB : B.length = 64) (hlen : D.opn.length ≤ 100000) :
    Calls Try.prog 21 #[.pointer (some ⟨p, 0, none⟩), .int .i64 s, .agg (blkA B)] w fun e w' => e = .returned (.int .i64 ((wE D s : Nat) : Int)) ∧ ∃ S', PD w' p S' (wD D s B) ∧ Fr S w w' ∧ More w w' S S' := by
  unfold wE wD
  by_cases ht : thereB D s = true
  · rw [if_pos ht, if_pos ht]
    obtain ⟨k, rfl, hk⟩ := there_nat ht
    exact dv_Write w p S D h k hk B hB hlen
  · rw [if_neg ht, if_neg ht]
    refine (dv_Write_bad w (some ⟨p, 0, none⟩) s B 10 (by decide) (fun W f => dv_find_bad W p S D (h.no f) s (there_not ht))).mono ?_
    rintro e w' ⟨rfl, hF⟩
    exact ⟨rfl, S, h.no hF, hF.mono (fun _ _ h => h.elim), More.refl h.lt hF⟩
set_option maxRecDepth 100000 in
theorem rf_Write_bad (w : World) (p : Nat) (S : Nat → Prop) (D : DM) (h : RD w p S D) (s : Int) (hs : ¬ thereB D s = true) (B : List Nat) :
    Calls Try.prog 29 #[.pointer (some ⟨p, 0, none⟩), .int .i64 s, .agg (blkA B)] w fun e w' => e = .returned (.int .i64 10) ∧ Fr No w w' := by
  have kF := (Fr.refl No w).alloc (.cells (blkA B) 42)
  have HTH := hid (rf_there _ p S D (h.no kF) s)
  have htB : thereB D s = false := by simpa using hs
  rw [htB] at HTH
  have HKF := hid kF
  clear kF htB
  go_enter Try.func29, Try.ntmps29
  go_wp2_with fail
  refine HTH.out.mono ?_
  rintro e w' ⟨rfl, rfl⟩
  go_wp2_with fail
  go_ret
  exact ⟨rfl, HKF.out⟩
theorem rf_WriteAny (w : World) (p : Nat) (S : Nat → Prop) (D : DM) (h : RD w p S D) (s : Int) (B : List Nat) (hB : B.length = 64) (hlen : D.opn.length ≤ 100000) (hpl : D.plan.length ≤ 100000) :
    Calls Try.prog 29 #[.pointer (some ⟨p, 0, none⟩), .int .i64 s, .agg (blkA B)] w fun e w' => e = .returned (.int .i64 ((wE D s : Nat) : Int)) ∧ ∃ S', RD w' p S' (wD D s B) ∧ Fr S w w' ∧ More w w' S S' := by
  unfold wE wD
  by_cases ht : thereB D s = true
  · rw [if_pos ht, if_pos ht]
    obtain ⟨k, rfl, hk⟩ := there_nat ht
    exact rf_Write w p S D h k hk B hB hlen hpl
  · rw [if_neg ht, if_neg ht]
    refine (rf_Write_bad w p S D h s ht B).mono ?_
    rintro e w' ⟨rfl, hF⟩
    exact ⟨rfl, S, h.no hF, hF.mono (fun _ _ h => h.elim), More.refl h.lt hF⟩

theorem More.post {w w' w'' : World} {S S' T : Nat → Prop} (h : More w w' S S') (f : Fr T w' w'') : More w w'' S S' := ⟨h.1, fun k hk => f.lt (h.2 k hk)⟩
/-- a call of the law -/
structure OpM where
  ask : Int
  sec : Int
  n : Int
def opV (o : OpM) : List Value := [.int .i64 o.ask, .int .i64 o.sec, .int .i64 o.n]
def stepD (D : DM) (o : OpM) : DM := if o.ask = 0 then wD D o.sec (markB o.n) else flushF D
theorem wD_ok {D : DM} (h : DOk D) (s : Int) {B : List Nat} (hB : B.length = 64) : DOk (wD D s B) := by
  unfold wD writeD
  split
  · rename_i ht
    obtain ⟨k, rfl, hk⟩ := there_nat ht
    split
    · exact addO_ok (popD_ok h) hk hB
    · exact popD_ok h
  · exact h
set_option maxRecDepth 100000 in
set_option maxHeartbeats 2000000 in
theorem dv_does (w : World) (p q : Nat) (S T : Nat → Prop) (D E : DM) (h : PD w p S D) (k : RD w q T E) (hST : ∀ k, S k → ¬ T k) (o : OpM) (ho : o.ask = 0 ∨ o.ask = 2) (hlen : D.opn.length ≤ 100000) (hlenE : E.opn.length ≤ 100000) (hplE : E.plan.length ≤ 100000) :
    Calls Try.prog 14 #[.pointer (some ⟨p, 0, none⟩), .pointer (some ⟨q, 0, none⟩), .agg #[.int .i64 o.ask, .int .i64 o.sec, .int .i64 o.n]] w fun e w' => (∃ b, e = .returned (.bool b)) ∧ ∃ S' T', PD w' p S' (stepD D o) ∧ RD w' q T' (stepD E o) ∧ Fr (fun j => S j ∨ T j) w w' ∧ More w w' S S' ∧ More w w' T T' ∧ (∀ k, S' k → ¬ T' k) := by
  obtain ⟨ask, sec, n⟩ := o
  have hb := heap_new w (.cells #[.int .i64 ask, .int .i64 sec, .int .i64 n] 33)
  have hF := (Fr.refl No w).alloc (.cells #[.int .i64 ask, .int .i64 sec, .int .i64 n] 33)
  have HP := hid (h.no hF)
  have HQ := hid (k.no hF)
  have hltS := h.lt
  have hltT := k.lt
  have HB := hid hb
  have HF := hid hF
  have b0 := cell_blk hb 0
  have b1 := cell_blk hb 1
  have b2 := cell_blk hb 2
  simp only [List.getElem?_toArray, List.getElem?_cons_zero, List.getElem?_cons_succ] at b0 b1 b2
  obtain ⟨w1, hw1⟩ : ∃ w1, w.alloc (.cells #[.int .i64 ask, .int .i64 sec, .int .i64 n] 33) = w1 := ⟨_, rfl⟩
  have HW1 := hid hw1
  have hnS : ∀ j, S j → j ≠ w.heap.size := fun j hj e => by have := hltS j hj; omega
  have hnT : ∀ j, T j → j ≠ w.heap.size := fun j hj e => by have := hltT j hj; omega
  clear hb hF h k
  rcases ho with rfl | rfl
  · rw [show stepD D ⟨0, sec, n⟩ = wD D sec (markB n) from rfl, show stepD E ⟨0, sec, n⟩ = wD E sec (markB n) from rfl]
    have hML := markB_len n
    have hMK : ∀ W, Calls Try.prog 22 #[.int .i64 n] W fun e w' => e = .returned (.agg (blkA (markB n))) ∧ Fr No W w' := fun W => dv_mark W n
    obtain ⟨M, hM⟩ : ∃ M, markB n = M := ⟨_, rfl⟩
    rw [hM] at hML hMK ⊢
    have HMK := hid hMK
    clear hM hMK hw1
    go_enter Try.func14, Try.ntmps14
    go_wp2_with fail
    obtain ⟨qb, hqb⟩ : ∃ qb, w.heap.size = qb := ⟨_, rfl⟩
    rw [hqb] at b1 b2 hnS hnT ⊢
    refine wp_region_held_drew (S := fun W => W.cell? ⟨qb, 1, none⟩ = some (.int .i64 sec) ∧ W.cell? ⟨qb, 2, none⟩ = some (.int .i64 n)) (by kernel_rfl) ⟨b1, b2⟩ (fun hHeld => ?_)
    have HS : Hid (∀ (X : Nat → Prop) W W', Fr X W W' → ¬ X qb → (W.cell? ⟨qb, 1, none⟩ = some (.int .i64 sec) ∧ W.cell? ⟨qb, 2, none⟩ = some (.int .i64 n)) → (W'.cell? ⟨qb, 1, none⟩ = some (.int .i64 sec) ∧ W'.cell? ⟨qb, 2, none⟩ = some (.int .i64 n))) := fun X W W' f hX ⟨a1, a2⟩ =>
      ⟨(f.cell (World.block_lt_of_cell? _ _ a1) hX).trans a1, (f.cell (World.block_lt_of_cell? _ _ a2) hX).trans a2⟩
    have hP0 := HP.out.no (Fr.refl No _).drew
    have hQ0 := HQ.out.no (Fr.refl No _).drew
    have hF0 := HF.out.drew
    obtain ⟨z0, hz0⟩ : ∃ z0, (w.alloc (.cells #[.int .i64 0, .int .i64 sec, .int .i64 n] 33)).drew = z0 := ⟨_, rfl⟩
    rw [hz0] at hP0 hQ0 hF0 hHeld ⊢
    have HP0 := hid hP0
    have HQ0 := hid hQ0
    have HF0 := hid hF0
    clear hz0 hqb b0 b1 b2 hP0 hQ0 hF0 HP HQ HF HB HW1
    refine wpAnyH_take (i := 0) (v := ?_) rfl (by kernel_rfl) (by kernel_rfl) (by kernel_rfl) (fun _ _ _ h => h) (Or.inl ⟨by rfl, ?_⟩) hHeld ?_
    rotate_left
    · intro w hSw; obtain ⟨hA1, hA2⟩ := hSw
      go_simp
      with_reducible rfl
    try simp only [Act.put, List.getElem_toArray, List.getElem_cons_zero, List.getElem_cons_succ, List.setIfInBounds_toArray, List.set_cons_zero, List.set_cons_succ]
    refine wpAnyH_take (i := 1) (v := ?_) rfl (by kernel_rfl) (by kernel_rfl) (by kernel_rfl) (fun _ _ _ h => h) (Or.inl ⟨by rfl, ?_⟩) hHeld ?_
    rotate_left
    · intro w hSw; obtain ⟨hA1, hA2⟩ := hSw
      go_simp
      with_reducible rfl
    try simp only [Act.put, List.getElem_toArray, List.getElem_cons_zero, List.getElem_cons_succ, List.setIfInBounds_toArray, List.set_cons_zero, List.set_cons_succ]
    refine wpAnyH_take (i := 2) (v := ?_) rfl (by kernel_rfl) (by kernel_rfl) (by kernel_rfl) (fun _ _ _ h => h) (Or.inl ⟨by rfl, ?_⟩) hHeld ?_
    rotate_left
    · intro w hSw; obtain ⟨hA1, hA2⟩ := hSw
      go_simp
      with_reducible rfl
    try simp only [Act.put, List.getElem_toArray, List.getElem_cons_zero, List.getElem_cons_succ, List.setIfInBounds_toArray, List.set_cons_zero, List.set_cons_succ]
    refine wpAnyH_take (i := 3) (v := ?_) rfl (by kernel_rfl) (by kernel_rfl) (by kernel_rfl) (fun _ _ _ h => h) (Or.inl ⟨by rfl, ?_⟩) hHeld ?_
    rotate_left
    · intro w hSw; obtain ⟨hA1, hA2⟩ := hSw
      go_simp
      with_reducible rfl
    try simp only [Act.put, List.getElem_toArray, List.getElem_cons_zero, List.getElem_cons_succ, List.setIfInBounds_toArray, List.set_cons_zero, List.set_cons_succ]
    refine wpAnyH_take (i := 4) (v := ?_) rfl (by kernel_rfl) (by kernel_rfl) (by kernel_rfl) (fun _ _ _ h => h) (Or.inl ⟨by rfl, ?_⟩) hHeld ?_
    rotate_left
    · intro w hSw; obtain ⟨hA1, hA2⟩ := hSw
      go_simp
      with_reducible rfl
    try simp only [Act.put, List.getElem_toArray, List.getElem_cons_zero, List.getElem_cons_succ, List.setIfInBounds_toArray, List.set_cons_zero, List.set_cons_succ]
    refine wpAnyH_take (i := 7) (v := ?_) rfl (by kernel_rfl) (by kernel_rfl) (by kernel_rfl) (fun _ _ _ h => h) (Or.inl ⟨by rfl, ?_⟩) hHeld ?_
    rotate_left
    · intro w hSw; obtain ⟨hA1, hA2⟩ := hSw
      go_simp
      with_reducible rfl
    try simp only [Act.put, List.getElem_toArray, List.getElem_cons_zero, List.getElem_cons_succ, List.setIfInBounds_toArray, List.set_cons_zero, List.set_cons_succ]
    refine wpAnyH_take (i := 8) (v := ?_) rfl (by kernel_rfl) (by kernel_rfl) (by kernel_rfl) (fun _ _ _ h => h) (Or.inl ⟨by rfl, ?_⟩) hHeld ?_
    rotate_left
    · intro w hSw; obtain ⟨hA1, hA2⟩ := hSw
      go_simp
      with_reducible rfl
    try simp only [Act.put, List.getElem_toArray, List.getElem_cons_zero, List.getElem_cons_succ, List.setIfInBounds_toArray, List.set_cons_zero, List.set_cons_succ]
    refine wpAnyH_take (i := 9) (v := ?_) rfl (by kernel_rfl) (by kernel_rfl) (by kernel_rfl) (fun _ _ _ h => h) (Or.inl ⟨by rfl, ?_⟩) hHeld ?_
    rotate_left
    · intro w hSw; obtain ⟨hA1, hA2⟩ := hSw
      go_simp
      with_reducible rfl
    try simp only [Act.put, List.getElem_toArray, List.getElem_cons_zero, List.getElem_cons_succ, List.setIfInBounds_toArray, List.set_cons_zero, List.set_cons_succ]
    refine wpAnyH_take (i := 10) (v := ?_) rfl (by kernel_rfl) (by kernel_rfl) (by kernel_rfl) (fun _ _ _ h => h) (Or.inl ⟨by rfl, ?_⟩) hHeld ?_
    rotate_left
    · intro w hSw; obtain ⟨hA1, hA2⟩ := hSw
      go_simp
      with_reducible rfl
    try simp only [Act.put, List.getElem_toArray, List.getElem_cons_zero, List.getElem_cons_succ, List.setIfInBounds_toArray, List.set_cons_zero, List.set_cons_succ]
    refine wpAnyH_take (i := 11) (v := ?_) rfl (by kernel_rfl) (by kernel_rfl) (by kernel_rfl) (fun _ _ _ h => h) (Or.inl ⟨by rfl, ?_⟩) hHeld ?_
    rotate_left
    · intro w hSw; obtain ⟨hA1, hA2⟩ := hSw
      go_simp
      with_reducible rfl
    try simp only [Act.put, List.getElem_toArray, List.getElem_cons_zero, List.getElem_cons_succ, List.setIfInBounds_toArray, List.set_cons_zero, List.set_cons_succ]
    refine wpAnyH_ready (rs := [5]) (by kernel_rfl) (by simp) ?_
    refine AllReadyH.cons rfl (fun K hK => ?_) AllReadyH.nil
    rw [if_pos (by rfl)]
    go_simp
    refine (HMK.out _).mono ?_
    rintro e z5 ⟨rfl, f5⟩
    refine hK.out _ _ (HS.out _ _ _ f5 id hHeld) (fun hHeld => ?_)
    clear hK K
    try simp only [Act.put, List.getElem_toArray, List.getElem_cons_zero, List.getElem_cons_succ, List.setIfInBounds_toArray, List.set_cons_zero, List.set_cons_succ]
    have HP5 := hid (HP0.out.no f5)
    have HQ5 := hid (HQ0.out.no f5)
    have HF5 := hid (HF0.out.trans f5)
    clear f5
    refine wpAnyH_ready (rs := [6]) (by kernel_rfl) (by simp) ?_
    refine AllReadyH.cons rfl (fun K hK => ?_) AllReadyH.nil
    rw [if_pos (by rfl)]
    go_simp
    refine (dv_WriteAny z5 p S D HP5.out sec M hML hlen).mono ?_
    rintro e z6 ⟨rfl, S', hP6, f6, m6⟩
    refine hK.out _ _ (HS.out _ _ _ f6 (fun e => hnS qb e rfl) hHeld) (fun hHeld => ?_)
    clear hK K
    try simp only [Act.put, List.getElem_toArray, List.getElem_cons_zero, List.getElem_cons_succ, List.setIfInBounds_toArray, List.set_cons_zero, List.set_cons_succ]
    have HP6 := hid hP6
    have HQ6 := hid (HQ5.out.fr f6 (fun k hk e => hST k e hk))
    have HF6 := hid ((HF5.out.mono (T := fun j => S j ∨ T j) (fun _ _ h => h.elim)).trans (f6.mono (fun _ _ e => .inl e)))
    have HM6 := hid m6
    have HZ6 := hid f6.size
    clear hP6 f6 m6
    refine wpAnyH_ready (rs := [12]) (by kernel_rfl) (by simp) ?_
    refine AllReadyH.cons rfl (fun K hK => ?_) AllReadyH.nil
    rw [if_pos (by rfl)]
    go_simp
    refine (HMK.out _).mono ?_
    rintro e z12 ⟨rfl, f12⟩
    refine hK.out _ _ (HS.out _ _ _ f12 id hHeld) (fun hHeld => ?_)
    clear hK K
    try simp only [Act.put, List.getElem_toArray, List.getElem_cons_zero, List.getElem_cons_succ, List.setIfInBounds_toArray, List.set_cons_zero, List.set_cons_succ]
    have HP12 := hid (HP6.out.no f12)
    have HQ12 := hid (HQ6.out.no f12)
    have HF12 := hid (HF6.out.trans (f12.mono (fun _ _ h => h.elim)))
    have HM12 := hid (HM6.out.post f12)
    have HZ12 := hid f12.size
    clear f12
    refine wpAnyH_ready (rs := [13]) (by kernel_rfl) (by simp) ?_
    refine AllReadyH.cons rfl (fun K hK => ?_) AllReadyH.nil
    rw [if_pos (by rfl)]
    go_simp
    refine (rf_WriteAny z12 q T E HQ12.out sec M hML hlenE hplE).mono ?_
    rintro e z13 ⟨rfl, T', hQ13, f13, m13⟩
    refine hK.out _ _ (HS.out _ _ _ f13 (fun e => hnT qb e rfl) hHeld) (fun hHeld => ?_)
    clear hK K
    try simp only [Act.put, List.getElem_toArray, List.getElem_cons_zero, List.getElem_cons_succ, List.setIfInBounds_toArray, List.set_cons_zero, List.set_cons_succ]
    have hz5 := HF5.out.size
    have hST2 : ∀ k, S' k → ¬ T k := fun k hk ht => by
      rcases HM12.out.1 k hk with e | e
      · exact hST k e ht
      · have := HQ5.out.lt k ht; omega
    have HP13 := hid (HP12.out.fr f13 hST2)
    have HQ13 := hid hQ13
    have HF13 := hid (HF12.out.trans (f13.mono (fun _ _ e => .inr e)))
    have HMS := hid ((HM12.out.post f13).pre HF5.out)
    have HMT := hid (m13.pre HF12.out)
    have HDJ : Hid (∀ k, S' k → ¬ T' k) := fun k hk ht => by
      rcases m13.1 k ht with e | e
      · exact hST2 k hk e
      · have := HM12.out.2 k hk; omega
    clear hQ13 f13 m13 hST2
    refine wpAnyH_take (i := 14) (v := ?_) rfl (by kernel_rfl) (by kernel_rfl) (by kernel_rfl) (fun _ _ _ h => h) (Or.inl ⟨by rfl, ?_⟩) hHeld ?_
    rotate_left
    · intro w hSw
      go_simp
      with_reducible rfl
    try simp only [Act.put, List.getElem_toArray, List.getElem_cons_zero, List.getElem_cons_succ, List.setIfInBounds_toArray, List.set_cons_zero, List.set_cons_succ]
    refine wpAnyH_take (i := 15) (v := ?_) rfl (by kernel_rfl) (by kernel_rfl) (by kernel_rfl) (fun _ _ _ h => h) (Or.inl ⟨by rfl, ?_⟩) hHeld ?_
    rotate_left
    · intro w hSw
      go_simp
      with_reducible rfl
    try simp only [Act.put, List.getElem_toArray, List.getElem_cons_zero, List.getElem_cons_succ, List.setIfInBounds_toArray, List.set_cons_zero, List.set_cons_succ]
    refine wpAnyH_done (by kernel_rfl) ?_ _
    go_wp2_with fail
    go_ret
    exact ⟨⟨_, rfl⟩, S', T', HP13.out, HQ13.out, HF13.out, HMS.out, HMT.out, HDJ.out⟩
  · rw [show stepD D ⟨2, sec, n⟩ = flushF D from rfl, show stepD E ⟨2, sec, n⟩ = flushF E from rfl]
    clear hw1 HW1
    go_enter Try.func14, Try.ntmps14
    go_wp2_with fail
    refine (dv_Flush _ p S D HP.out hlen).mono ?_
    rintro e w2 ⟨rfl, hP2, f2⟩
    have HP2 := hid hP2
    have HQ2 := hid (HQ.out.fr f2 (fun k hk e => hST k e hk))
    have HF2 := hid ((HF.out.mono (T := fun j => S j ∨ T j) (fun _ _ h => h.elim)).trans (f2.mono (fun _ _ e => .inl e)))
    clear hP2 f2
    go_wp2_with fail
    refine (rf_Flush w2 q T E HQ2.out hlenE hplE).mono ?_
    rintro e w3 ⟨rfl, hQ3, f3⟩
    go_wp2_with fail
    go_ret
    have HF3 := HF2.out.trans (f3.mono (fun _ _ e => .inr e))
    exact ⟨⟨_, rfl⟩, S, T, HP2.out.fr f3 (fun k hk e => hST k hk e), hQ3, HF3, More.refl hltS HF3, More.refl hltT HF3, hST⟩
end Go.Proofs.Ytcdchojdkdimbaa
