/- The law's does: Plan; all of it. -/
import Derived.Test.YtcdchojdkdimbaaDvU
namespace Go.Proofs.Ytcdchojdkdimbaa
open Go.RowKit

set_option maxRecDepth 100000 in
set_option maxHeartbeats 2000000 in
theorem dv_does3 (w : World) (p q : Nat) (S T : Nat → Prop) (D : DM) (h : PD w p S D) (k : RD w q T D) (hST : ∀ k, S k → ¬ T k) (ask sec n : Int) (h0 : (ask == 0) = false) (h1 : (ask == 1) = false) (h2 : (ask == 2) = false) (hpl : D.plan.length ≤ 90000) :
    Calls Try.prog 14 #[.pointer (some ⟨p, 0, none⟩), .pointer (some ⟨q, 0, none⟩), .agg #[.int .i64 ask, .int .i64 sec, .int .i64 n]] w fun e w' => e = .returned (.bool true) ∧ ∃ S' T' D', PD w' p S' D' ∧ RD w' q T' D' ∧ Fr (fun j => S j ∨ T j) w w' ∧ (∀ k, S' k → S k ∨ w.heap.size ≤ k) ∧ (∀ k, T' k → T k ∨ w.heap.size ≤ k) ∧ (∀ k, S' k → ¬ T' k) ∧ D'.firm.length = D.firm.length ∧ D'.opn.length = D.opn.length ∧ D'.plan.length ≤ D.plan.length + 3 := by
  have hb := heap_new w (.cells #[.int .i64 ask, .int .i64 sec, .int .i64 n] 33)
  have hF := (Fr.refl No w).alloc (.cells #[.int .i64 ask, .int .i64 sec, .int .i64 n] 33)
  have HP := hid (h.no hF)
  have HQ := hid (k.no hF)
  have hltS := h.lt
  have hltT := k.lt
  have HF := hid hF
  have HW := hid hF.size
  have b0 := cell_blk hb 0
  have b2 := cell_blk hb 2
  simp only [List.getElem?_toArray, List.getElem?_cons_zero, List.getElem?_cons_succ] at b0 b2
  clear hb hF h k
  go_enter Try.func14, Try.ntmps14
  go_wp2_with fail
  refine (dv_fates _ n).mono ?_
  rintro e w2 ⟨v, l, rfl, hO, hE, hl, hF, hB⟩
  obtain ⟨a, c, rfl⟩ := hO.form
  have hvS : ∀ j, (Value.slice a l.length c).ownBlock = some j → ¬ S j := fun j hj e => by have := hB j hj; have := hltS j e; have := HW.out; omega
  have hvT : ∀ j, (Value.slice a l.length c).ownBlock = some j → ¬ T j := fun j hj e => by have := hB j hj; have := hltT j e; have := HW.out; omega
  have HP2 := hid (HP.out.no hF)
  have HQ2 := hid (HQ.out.no hF)
  have HF2 := hid (HF.out.trans hF)
  have HO := hid hO
  have HE := hid hE
  clear HP HQ HF hF hB hO hE b0 b2
  have HM : Hid ((l = [] ∧ a = none ∧ c = 0) ∨ (l ≠ [] ∧ Row w2 a (l.map nv))) := by
    by_cases hn : l = []
    · left
      have := HE.out hn
      injection this with e1 e2 e3
      exact ⟨hn, e1, e3⟩
    · exact .inr ⟨hn, offN_row HO.out⟩
  by_cases hall : ∀ f ∈ l, f ≤ 2
  · have hA : (l.all fun f => decide (f ≤ 2)) = true := by rw [List.all_eq_true]; exact fun f hf => decide_eq_true (hall f hf)
    have HA := hid hA
    have HALL := hid hall
    clear hA hall
    go_wp2_with fail
    refine (dv_Plan w2 p S D HP2.out a c l HM.out HALL.out (by omega)).mono ?_
    rintro e w3 ⟨rfl, S', hX, hF, hS'⟩
    have HP3 := hid hX
    have HQ3 := hid (HQ2.out.fr hF (fun k hk e => hST k e hk))
    have HO3 := hid (HO.out.fr hF hvS)
    have HF3 := hid ((HF2.out.mono (T := fun j => S j ∨ T j) (fun _ _ h => h.elim)).trans (hF.mono (fun _ _ e => .inl e)))
    have hS3 : ∀ j, S' j → ¬ T j := fun j hj ht => (hS' j hj).elim (fun e => hST j e ht) (fun e => by have := HQ2.out.lt j ht; omega)
    have hS4 : ∀ j, S' j → S j ∨ w.heap.size ≤ j := fun j hj => (hS' j hj).imp id (fun e => by have := HF2.out.size; omega)
    have HM3 : Hid ((l = [] ∧ a = none ∧ c = 0) ∨ (l ≠ [] ∧ Row w3 a (l.map nv))) := HM.out.imp id (fun e => ⟨e.1, offN_row HO3.out⟩)
    clear hX hF hS' HP2 HQ2 HO HF2 HM
    go_wp2_with fail
    refine (dv_plans w3 _ l HO3.out hl).mono ?_
    rintro e w3 ⟨rfl, rfl⟩
    rw [HA.out]
    obtain ⟨hokQ, uF, uO, uP, kV⟩ := HQ3.out
    obtain ⟨c0, c1, c2, _⟩ := kV.cells
    have HV := hid kV
    have HN := hid (kV.ne (by decide) (by decide) (by decide))
    have HOK := hid hokQ
    have hqz := lt_of_block kV.blk
    clear c0 c1 kV hokQ
    go_wp2_with (at_builtin; refine wpList_append_offN _ rfl (.tmp 78) (.tmp 79) 37 rfl Try.underlying37 int_info uP D.plan l rfl HV.out.plan a c rfl HM3.out (by omega) ?_; intro v' w1 hO hF hB; obtain ⟨av, cv, rfl⟩ := hO.form; have HO := hid hO; have HF := hid hF; have HB := hid hB; have c21 := (hF.cell (p := ⟨q, 2, none⟩) hqz (fun e => HN.out.2.2 q e rfl)).trans c2; have f21 : w1.frozen? ⟨q, 2, none⟩ = false := (hF.frozen (p := ⟨q, 2, none⟩) hqz (fun e => HN.out.2.2 q e rfl)).trans (free_blk HV.out.blk 2); clear hO hF hB)
    go_ret
    rw [List.length_append] at HO HB
    obtain ⟨v', hv'⟩ : ∃ v', Value.slice av (D.plan.length + l.length) cv = v' := ⟨_, rfl⟩
    rw [hv'] at HO HB ⊢
    have hne1 : ∀ k, uF.ownBlock = some k → uP.ownBlock ≠ some k := fun k hk e => by
      obtain ⟨x, hx⟩ := own_ty HV.out.firm hk
      obtain ⟨y, hy⟩ := HV.out.plan.ty e
      exact ne_ty hx hy (by decide) rfl
    have hne2 : ∀ k, uO.ownBlock = some k → uP.ownBlock ≠ some k := fun k hk e => by
      obtain ⟨x, hx⟩ := own_ty HV.out.opn hk
      obtain ⟨y, hy⟩ := HV.out.plan.ty e
      exact ne_ty hx hy (by decide) rfl
    have hblk := (HF.out.block q hqz (fun e => HN.out.2.2 q e rfl)).trans HV.out.blk
    have hset := Fr.set1 w1 q 2 v'
    have hvz : ∀ k, v'.ownBlock = some k → k < w1.heap.size := fun k hk => by obtain ⟨x, hx⟩ := HO.out.ty hk; exact lt_of_block hx
    have hvp : ∀ k, v'.ownBlock = some k → k ≠ q := fun k hk => by obtain ⟨x, hx⟩ := HO.out.ty hk; exact ne_ty hx hblk (by decide)
    have hFT : Fr T w3 (w1.setCell ⟨q, 2, none⟩ v') := (HF.out.mono (T := T) (fun k _ e => HV.out.sP k e)).trans (hset.mono (fun k _ e => by rw [e]; exact HV.out.sp))
    have hz3 := HF3.out.size
    refine ⟨by first | rfl | simp, S', fun k => T k ∨ v'.ownBlock = some k, planD D l, HP3.out.fr hFT hS3, ⟨planD_ok HOK.out HALL.out, uF, uO, v', ⟨set_blk hblk 2 v', own_frk (own_frk HV.out.firm HF.out hne1) hset HN.out.1, own_frk (own_frk HV.out.opn HF.out hne2) hset HN.out.2.1, HO.out.fr hset hvp, .inl HV.out.sp, fun k hk => .inl (HV.out.sF k hk), fun k hk => .inl (HV.out.sO k hk), fun k hk => .inr hk, fun k hk => ?_⟩⟩, HF3.out.trans (hFT.mono (fun _ _ e => .inr e)), hS4, fun k hk => ?_, fun k hk ht => ?_, rfl, rfl, by show (D.plan ++ l).length ≤ _; rw [List.length_append]; omega⟩
    · rw [size_set]
      rcases hk with hk | hk
      · exact HF.out.lt (HV.out.lt k hk)
      · exact hvz k hk
    · rcases hk with hk | hk
      · exact .inl hk
      · rcases HB.out k hk with e | e
        · exact .inl (HV.out.sP k e)
        · exact .inr (by omega)
    · rcases ht with e | e
      · exact hS3 k hk e
      · rcases HB.out k e with e | e
        · exact hS3 k hk (HV.out.sP k e)
        · have := HP3.out.lt k hk; omega
  · have hA : (l.all fun f => decide (f ≤ 2)) = false := by
      rw [List.all_eq_false]
      obtain ⟨f, hf⟩ := Classical.not_forall.1 hall
      obtain ⟨hf1, hf2⟩ := Classical.not_imp.1 hf
      exact ⟨f, hf1, by simpa using hf2⟩
    have HA := hid hA
    have HALL : Hid (∃ f ∈ l, 2 < f) := by
      obtain ⟨f, hf⟩ := Classical.not_forall.1 hall
      obtain ⟨hf1, hf2⟩ := Classical.not_imp.1 hf
      exact ⟨f, hf1, by omega⟩
    clear hA hall
    go_wp2_with fail
    refine (dv_Plan_bad w2 p a c l (offN_row HO.out) HALL.out (by omega)).mono ?_
    rintro e w2 ⟨rfl, rfl⟩
    go_wp2_with fail
    refine (dv_plans w2 _ l HO.out hl).mono ?_
    rintro e w2 ⟨rfl, rfl⟩
    rw [HA.out]
    go_wp2_with fail
    go_ret
    exact ⟨by first | rfl | simp, S, T, D, HP2.out, HQ2.out, HF2.out.mono (fun _ _ h => h.elim), fun k hk => .inl hk, fun k hk => .inl hk, hST, rfl, rfl, by omega⟩
/-- any call, on devices that are alike -/
theorem stepD_len {D : DM} (h : DOk D) (o : OpM) : (stepD D o).firm.length = D.firm.length ∧ (stepD D o).opn.length ≤ D.opn.length + 1 ∧ (stepD D o).plan.length ≤ D.plan.length := by
  have hpop : (popD D).plan.length ≤ D.plan.length := by show D.plan.tail.length ≤ _; rw [List.length_tail]; omega
  unfold stepD
  split
  · unfold Go.Proofs.Ytcdchojdkdimbaa.wD
    split
    · unfold writeD
      split
      · exact ⟨rfl, by show (D.opn ++ [_]).length ≤ _; rw [List.length_append, List.length_singleton]; exact Nat.le_refl _, hpop⟩
      · exact ⟨rfl, Nat.le_succ _, hpop⟩
    · exact ⟨rfl, Nat.le_succ _, Nat.le_refl _⟩
  · unfold flushF
    split
    · exact ⟨firmK_len (popD D) _, Nat.zero_le _, hpop⟩
    · exact ⟨rfl, Nat.le_succ _, hpop⟩
theorem dv_doesAll (w : World) (p q : Nat) (S T : Nat → Prop) (D : DM) (h : PD w p S D) (k : RD w q T D) (hST : ∀ k, S k → ¬ T k) (o : OpM) (hlen : D.opn.length ≤ 90000) (hpl : D.plan.length ≤ 90000) :
    Calls Try.prog 14 #[.pointer (some ⟨p, 0, none⟩), .pointer (some ⟨q, 0, none⟩), .agg #[.int .i64 o.ask, .int .i64 o.sec, .int .i64 o.n]] w fun e w' => e = .returned (.bool true) ∧ ∃ S' T' D', PD w' p S' D' ∧ RD w' q T' D' ∧ Fr (fun j => S j ∨ T j) w w' ∧ (∀ k, S' k → S k ∨ w.heap.size ≤ k) ∧ (∀ k, T' k → T k ∨ w.heap.size ≤ k) ∧ (∀ k, S' k → ¬ T' k) ∧ D'.firm.length = D.firm.length ∧ D'.opn.length ≤ D.opn.length + 1 ∧ D'.plan.length ≤ D.plan.length + 3 := by
  by_cases h02 : o.ask = 0 ∨ o.ask = 2
  · refine (dv_does02 w p q S T D h k hST o h02 (by omega) (by omega)).mono ?_
    rintro e w' ⟨rfl, S', T', hP, hQ, hF, hM1, hM2, hd⟩
    obtain ⟨e1, e2, e3⟩ := stepD_len h.1 o
    exact ⟨rfl, S', T', _, hP, hQ, hF, hM1.1, hM2.1, hd, e1, e2, by omega⟩
  · obtain ⟨ask, sec, n⟩ := o
    by_cases h1 : ask = 1
    · subst h1
      refine (dv_does1 w p q S T D h k hST sec n (by omega) (by omega)).mono ?_
      rintro e w' ⟨rfl, hP, hQ, hF⟩
      refine ⟨rfl, S, T, _, hP, hQ, hF, fun k hk => .inl hk, fun k hk => .inl hk, hST, ?_⟩
      unfold rdD2
      split
      · exact ⟨rfl, Nat.le_succ _, by show D.plan.tail.length ≤ _; rw [List.length_tail]; omega⟩
      · exact ⟨rfl, Nat.le_succ _, by omega⟩
    · simp only [not_or] at h02
      refine (dv_does3 w p q S T D h k hST ask sec n (by simpa using h02.1) (by simpa using h1) (by simpa using h02.2) hpl).mono ?_
      rintro e w' ⟨rfl, S', T', D', hP, hQ, hF, hM1, hM2, hd, e1, e2, e3⟩
      exact ⟨rfl, S', T', D', hP, hQ, hF, hM1, hM2, hd, e1, by omega, e3⟩
end Go.Proofs.Ytcdchojdkdimbaa
