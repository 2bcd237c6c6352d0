/- The law DevCrashes. -/
import Derived.Test.YtcdchojdkdimbaaDvV
import Derived.Test.YtcdchojdkdimbaaDvL
namespace Go.Proofs.Ytcdchojdkdimbaa
open Go.RowKit

set_option maxRecDepth 100000 in
set_option maxHeartbeats 4000000 in
theorem crashes_in (w : World) (m : Nat) (hm1 : 1 ≤ m) (hm40 : m ≤ 40) (al : Option Addr) (cap : Nat) (xs : List OpM) (hx : Ops5 w al xs) (hxl : xs.length ≤ 80) (ak : Option Addr) (capk : Nat) (keep : List Bool) (hkp : Row w ak (keep.map fun b => Value.bool b)) (hkl : keep.length ≤ 100) :
    Calls Try.prog 4 #[.int .i64 m, .slice al xs.length cap, .slice ak keep.length capk] w fun e w' => e = .returned (.bool true) ∧ Fr No w w' := by
  have hm2 : m ≤ 4096 := by omega
  have hm40' : (m : Int) ≤ 40 := by omega
  have hxl' : (xs.length : Int) ≤ 80 := by omega
  have hkl' : (keep.length : Int) ≤ 100 := by omega
  have HX := hid hx
  have HKP := hid hkp
  clear hx hkp
  go_enter Try.func4, Try.ntmps4
  go_wp2_with fail
  refine (dv_few w al xs.length cap hxl).mono ?_
  rintro e w ⟨rfl, rfl⟩
  go_wp2_with fail
  refine (dv_New_ok m w hm1 hm2).mono ?_
  rintro e wn ⟨p, Sn, rfl, hDn, hFn, hSn⟩
  have HDn := hid hDn
  have HFn := hid hFn
  have HSn := hid hSn
  clear hDn hFn hSn
  go_wp2_with fail
  refine (rf_New wn m hm1 hm2).mono ?_
  rintro e wm ⟨q, Tn, rfl, hE, hF, hT⟩
  have HDm := hid (HDn.out.no hF)
  have HEm := hid hE
  have HFm := hid (HFn.out.trans hF)
  have HDJ : Hid (∀ j, Sn j → ¬ Tn j) := fun j hj ht => by have := HDn.out.lt j hj; have := hT j ht; omega
  have HTn : Hid (∀ j, Tn j → w.heap.size ≤ j) := fun j hj => by have := hT j hj; have := HFn.out.size; omega
  clear hE hF hT HDn HFn
  go_wp2_with fail
  go_loopg [10] xs.length (fun g i wr => ∃ (k : Nat) (S T : Nat → Prop) (D : DM), k + g = xs.length ∧ i = .int .i64 k ∧ Hid (PD wr p S D) ∧ Hid (RD wr q T D) ∧ Hid (∀ j, S j → ¬ T j) ∧ Hid (∀ j, S j → w.heap.size ≤ j) ∧ Hid (∀ j, T j → w.heap.size ≤ j) ∧ Hid (Fr No w wr) ∧ Hid (D.firm.length = m ∧ D.opn.length ≤ k ∧ D.plan.length ≤ 3 * k))
  case atStart => exact ⟨0, Sn, Tn, newD m, by omega, rfl, HDm, HEm, HDJ, HSn, HTn, HFm, by simp [newD], Nat.le_refl _, Nat.le_refl _⟩
  case round =>
    obtain ⟨k, S, T, D, hk, rfl, HD, HE, HJ, HS, HT, HF, HL⟩ := hrel
    cases gk with
    | succ g =>
      have hkl : k < xs.length := by omega
      obtain ⟨g0, o, rfl, hb, a0, a1, a2⟩ := HX.out.op5 k hkl
      obtain ⟨op, hop⟩ : ∃ op, xs[k] = op := ⟨_, rfl⟩
      rw [hop] at a0 a1 a2
      have k0 : wr.cell? ⟨g0, o + k * 3, none⟩ = some (.int .i64 op.ask) := (HF.out.cell (p := ⟨g0, o + k * 3, none⟩) hb id).trans a0
      have k1 : wr.cell? ⟨g0, o + k * 3 + 1, none⟩ = some (.int .i64 op.sec) := (HF.out.cell (p := ⟨g0, o + k * 3 + 1, none⟩) hb id).trans a1
      have k2 : wr.cell? ⟨g0, o + k * 3 + 2, none⟩ = some (.int .i64 op.n) := (HF.out.cell (p := ⟨g0, o + k * 3 + 2, none⟩) hb id).trans a2
      have HDO := hid (dv_doesAll wr p q S T D HD.out HE.out HJ.out op (by have := HL.out.2.1; omega) (by have := HL.out.2.2; omega))
      clear hop a0 a1 a2
      go_wp2_with fail
      refine HDO.out.mono ?_
      rintro e z6 ⟨rfl, S', T', D', hP, hQ, hF, hM1, hM2, hJ, e1, e2, e3⟩
      have HP := hid hP
      have HQ := hid hQ
      have HJ2 := hid hJ
      have HF2 := hid (HF.out.then hF (fun i hi e => absurd hi (by rcases e with e | e; · have := HS.out i e; omega
                                                                   · have := HT.out i e; omega)))
      have HS2 : Hid (∀ j, S' j → w.heap.size ≤ j) := fun j hj => (hM1 j hj).elim (fun e => HS.out j e) (fun e => by have := HF.out.size; omega)
      have HT2 : Hid (∀ j, T' j → w.heap.size ≤ j) := fun j hj => (hM2 j hj).elim (fun e => HT.out j e) (fun e => by have := HF.out.size; omega)
      have HL2 : Hid (D'.firm.length = m ∧ D'.opn.length ≤ k + 1 ∧ D'.plan.length ≤ 3 * (k + 1)) := ⟨e1.trans HL.out.1, by have := HL.out.2.1; omega, by have := HL.out.2.2; omega⟩
      clear hP hQ hF hM1 hM2 hJ e1 e2 e3 k0 k1 k2 HDO
      go_wp2_with fail
      go_roundg g
      case measure => omega
      case rel => exact ⟨k + 1, S', T', D', by omega, by go_num, HP, HQ, HJ2, HS2, HT2, HF2, HL2⟩
    | zero =>
      have hO80 : D.opn.length ≤ 80 := by have := HL.out.2.1; omega
      obtain ⟨_, vF, vO, vP, kV⟩ := HE.out
      obtain ⟨c0, c1, c2, _⟩ := kV.cells
      obtain ⟨aF, cF, rfl⟩ := own_form kV.firm
      obtain ⟨aO, cO, rfl⟩ := own_form kV.opn
      have HOKE := hid HE.out.1
      have HVF := hid kV.firm
      have HVT := hid (fun j (hj : (Value.slice aF D.firm.length cF).ownBlock = some j) => kV.sF j hj)
      have hqz := lt_of_block kV.blk
      have HSQ := hid kV.sp
      clear kV c2 HDm HEm HDJ HTn HFm HX
      have hOi : (D.opn.length : Int) ≤ 80 := by omega
      by_cases hkO : D.opn.length < keep.length
      · have hkO' : (D.opn.length : Int) < (keep.length : Int) := by omega
        go_wp2_with fail
        refine (dv_Crash_bad wr p S D HD.out ak keep.length capk hkO (by omega)).mono ?_
        rintro e wr ⟨rfl, rfl⟩
        go_wp2_with fail
        refine (dv_awake wr).mono ?_
        rintro e u1 ⟨rfl, hF⟩
        go_wp2_with fail
        go_ret
        exact ⟨rfl, HF.out.trans hF⟩
      have hkO' : (keep.length : Int) ≤ (D.opn.length : Int) := by omega
      go_wp2_with fail
      refine (dv_Crash wr p S D HD.out ak capk keep (HKP.out.no HF.out) (by omega) (by omega)).mono ?_
      rintro e v1 ⟨pc, Sc, rfl, hX, hF, hSc⟩
      have HC1 := hid hX
      have HD1 := hid (HD.out.no hF)
      have HE1 := hid (HE.out.no hF)
      have HVF1 := hid (own_frk HVF.out hF (fun _ _ => id))
      have HF1 := hid (HF.out.trans hF)
      have hd0 := (hF.cell (p := ⟨q, 0, none⟩) hqz id).trans c0
      have hd1 := (hF.cell (p := ⟨q, 1, none⟩) hqz id).trans c1
      have hSS : ∀ j, Sc j → ¬ S j := fun j hj hs => by have := hSc j hj; have := HD.out.lt j hs; omega
      have hST : ∀ j, Sc j → ¬ T j := fun j hj hs => by have := hSc j hj; have := HE.out.lt j hs; omega
      have hSw : ∀ j, Sc j → w.heap.size ≤ j := fun j hj => by have := hSc j hj; have := HF.out.size; omega
      have hSq : ¬ Sc q := fun e => by have := hSc q e; omega
      clear hX hF hSc HD HE HVF HF c0 c1
      go_wp2_with fail
      refine (rf_Crash v1 q T D HE1.out ak capk keep (HKP.out.no HF1.out) (by omega) (by omega)).mono ?_
      rintro e v2 ⟨vc, rfl, hown, hF⟩
      have HC2 := hid (HC1.out.no hF)
      have HD2 := hid (HD1.out.no hF)
      have HE2 := hid (HE1.out.no hF)
      have HVF2 := hid (own_frk HVF1.out hF (fun _ _ => id))
      have HF2 := hid (HF1.out.trans hF)
      have HOW := hid hown
      have hqz1 : q < v1.heap.size := lt_of_cell hd0
      have h20 := (hF.cell (p := ⟨q, 0, none⟩) hqz1 id).trans hd0
      have h21 := (hF.cell (p := ⟨q, 1, none⟩) hqz1 id).trans hd1
      clear hown hF HC1 HD1 HE1 HVF1 HF1 hd0 hd1
      go_wp2_with fail
      refine (dv_firm v2 pc Sc (crashD D keep) HC2.out vc HOW.out).mono ?_
      rintro e v3 ⟨rfl, hF⟩
      have HC3 := hid (HC2.out.no hF)
      have HD3 := hid (HD2.out.no hF)
      have HE3 := hid (HE2.out.no hF)
      have HVF3 := hid (own_frk HVF2.out hF (fun _ _ => id))
      have HF3 := hid (HF2.out.trans hF)
      have hqz2 : q < v2.heap.size := lt_of_cell h20
      have h30 := (hF.cell (p := ⟨q, 0, none⟩) hqz2 id).trans h20
      have h31 := (hF.cell (p := ⟨q, 1, none⟩) hqz2 id).trans h21
      clear hF HC2 HD2 HE2 HVF2 HF2 h20 h21 HOW
      go_wp2_with fail
      refine (dv_Open v3 pc Sc (crashD D keep) HC3.out).mono ?_
      rintro e v3 ⟨rfl, rfl⟩
      rw [show (((crashD D keep).opn.length : Nat) : Int) = 0 from rfl]
      go_wp2_with fail
      refine (dv_Planned v3 pc Sc (crashD D keep) HC3.out).mono ?_
      rintro e v3 ⟨rfl, rfl⟩
      rw [show (((crashD D keep).plan.length : Nat) : Int) = 0 from rfl]
      go_wp2_with fail
      refine (dv_mark v3 99).mono ?_
      rintro e v4 ⟨rfl, hF⟩
      have HC4 := hid (HC3.out.no hF)
      have HD4 := hid (HD3.out.no hF)
      have HE4 := hid (HE3.out.no hF)
      have HVF4 := hid (own_frk HVF3.out hF (fun _ _ => id))
      have HF4 := hid (HF3.out.trans hF)
      have hqz3 : q < v3.heap.size := lt_of_cell h30
      have h40 := (hF.cell (p := ⟨q, 0, none⟩) hqz3 id).trans h30
      have h41 := (hF.cell (p := ⟨q, 1, none⟩) hqz3 id).trans h31
      clear hF HC3 HD3 HE3 HVF3 HF3 h30 h31
      go_wp2_with fail
      refine (dv_WriteAny v4 pc Sc (crashD D keep) HC4.out 0 (markB 99) (markB_len 99) (by show 0 ≤ 100000; decide)).mono ?_
      rintro e v5 ⟨rfl, Sd, hX, hF, hM⟩
      have hlenX : (wD (crashD D keep) 0 (markB 99)).opn.length ≤ 100000 := by
        unfold Go.Proofs.Ytcdchojdkdimbaa.wD writeD
        split
        · split
          · show ([] ++ [_]).length ≤ _; simp
          · show 0 ≤ 100000; decide
        · show 0 ≤ 100000; decide
      obtain ⟨DX, hDX⟩ : ∃ DX, wD (crashD D keep) 0 (markB 99) = DX := ⟨_, rfl⟩
      rw [hDX] at hX hlenX
      have HC5 := hid hX
      have HD5 := hid (HD4.out.fr hF (fun j hj hs => hSS j hs hj))
      have HE5 := hid (HE4.out.fr hF (fun j hj hs => hST j hs hj))
      have HVF5 := hid (own_frk HVF4.out hF (fun j hj hs => hST j hs (HVT.out j hj)))
      have HF5 := hid (HF4.out.then hF (fun i hi e => absurd hi (by have := hSw i e; omega)))
      have hqz4 : q < v4.heap.size := lt_of_cell h40
      have h50 := (hF.cell (p := ⟨q, 0, none⟩) hqz4 hSq).trans h40
      have h51 := (hF.cell (p := ⟨q, 1, none⟩) hqz4 hSq).trans h41
      have hSS2 : ∀ j, Sd j → ¬ S j := fun j hj hs => (hM.1 j hj).elim (fun e => hSS j e hs) (fun e => by have := HD4.out.lt j hs; omega)
      have hST2 : ∀ j, Sd j → ¬ T j := fun j hj hs => (hM.1 j hj).elim (fun e => hST j e hs) (fun e => by have := HE4.out.lt j hs; omega)
      have hSw2 : ∀ j, Sd j → w.heap.size ≤ j := fun j hj => (hM.1 j hj).elim (fun e => hSw j e) (fun e => by have := HF4.out.size; omega)
      have hSq2 : ¬ Sd q := fun e => (hM.1 q e).elim hSq (fun e => by omega)
      clear hX hF hM HC4 HD4 HE4 HVF4 HF4 h40 h41 hSS hST hSw hSq hDX
      go_wp2_with fail
      refine (dv_Flush v5 pc Sd DX HC5.out hlenX).mono ?_
      rintro e v6 ⟨rfl, hX, hF⟩
      have HD6 := hid (HD5.out.fr hF (fun j hj hs => hSS2 j hs hj))
      have HE6 := hid (HE5.out.fr hF (fun j hj hs => hST2 j hs hj))
      have HVF6 := hid (own_frk HVF5.out hF (fun j hj hs => hST2 j hs (HVT.out j hj)))
      have HF6 := hid (HF5.out.then hF (fun i hi e => absurd hi (by have := hSw2 i e; omega)))
      have hqz5 : q < v5.heap.size := lt_of_cell h50
      have h60 := (hF.cell (p := ⟨q, 0, none⟩) hqz5 hSq2).trans h50
      have h61 := (hF.cell (p := ⟨q, 1, none⟩) hqz5 hSq2).trans h51
      clear hX hF HC5 HD5 HE5 HVF5 HF5 h50 h51
      go_wp2_with fail
      refine wp_region_held_drew (S := fun W => W.cell? ⟨q, 0, none⟩ = some (.slice aF D.firm.length cF) ∧ W.cell? ⟨q, 1, none⟩ = some (.slice aO D.opn.length cO)) (by kernel_rfl) ⟨h60, h61⟩ (fun hHeld => ?_)
      have HD7 := hid (HD6.out.no (Fr.refl No v6).drew)
      have HVF7 := hid (own_frk HVF6.out (Fr.refl No v6).drew (fun _ _ => id))
      have HF7 := hid HF6.out.drew
      obtain ⟨z, hz⟩ : ∃ z, v6.drew = z := ⟨_, rfl⟩
      rw [hz] at HD7 HVF7 HF7 hHeld ⊢
      have HFI := hid (dv_firm z p S D HD7.out _ HVF7.out)
      clear hz HD6 HVF6 HF6 h60 h61 HE6
      refine wpAnyH_take (i := 0) (v := ?_) rfl (by kernel_rfl) (by kernel_rfl) (by kernel_rfl) (fun _ _ _ h => h) (Or.inl ⟨by rfl, ?_⟩) hHeld ?_
      rotate_left
      · intro w hSw; obtain ⟨hA1, hA2⟩ := hSw
        go_simp
        with_reducible rfl
      try simp only [Act.put, List.getElem_toArray, List.getElem_cons_zero, List.getElem_cons_succ, List.setIfInBounds_toArray, List.set_cons_zero, List.set_cons_succ]
      refine wpAnyH_take (i := 1) (v := ?_) rfl (by kernel_rfl) (by kernel_rfl) (by kernel_rfl) (fun _ _ _ h => h) (Or.inl ⟨by rfl, ?_⟩) hHeld ?_
      rotate_left
      · intro w hSw; obtain ⟨hA1, hA2⟩ := hSw
        go_simp
        with_reducible rfl
      try simp only [Act.put, List.getElem_toArray, List.getElem_cons_zero, List.getElem_cons_succ, List.setIfInBounds_toArray, List.set_cons_zero, List.set_cons_succ]
      refine wpAnyH_take (i := 2) (v := ?_) rfl (by kernel_rfl) (by kernel_rfl) (by kernel_rfl) (fun _ _ _ h => h) (Or.inl ⟨by rfl, ?_⟩) hHeld ?_
      rotate_left
      · intro w hSw; obtain ⟨hA1, hA2⟩ := hSw
        go_simp
        with_reducible rfl
      try simp only [Act.put, List.getElem_toArray, List.getElem_cons_zero, List.getElem_cons_succ, List.setIfInBounds_toArray, List.set_cons_zero, List.set_cons_succ]
      refine wpAnyH_take (i := 3) (v := ?_) rfl (by kernel_rfl) (by kernel_rfl) (by kernel_rfl) (fun _ _ _ h => h) (Or.inl ⟨by rfl, ?_⟩) hHeld ?_
      rotate_left
      · intro w hSw; obtain ⟨hA1, hA2⟩ := hSw
        go_simp
        with_reducible rfl
      try simp only [Act.put, List.getElem_toArray, List.getElem_cons_zero, List.getElem_cons_succ, List.setIfInBounds_toArray, List.set_cons_zero, List.set_cons_succ]
      refine wpAnyH_take (i := 4) (v := ?_) rfl (by kernel_rfl) (by kernel_rfl) (by kernel_rfl) (fun _ _ _ h => h) (Or.inl ⟨by rfl, ?_⟩) hHeld ?_
      rotate_left
      · intro w hSw; obtain ⟨hA1, hA2⟩ := hSw
        go_simp
        with_reducible rfl
      try simp only [Act.put, List.getElem_toArray, List.getElem_cons_zero, List.getElem_cons_succ, List.setIfInBounds_toArray, List.set_cons_zero, List.set_cons_succ]
      refine wpAnyH_ready (rs := [5]) (by kernel_rfl) (by simp) ?_
      refine AllReadyH.cons rfl (fun K hK => ?_) AllReadyH.nil
      rw [if_pos (by rfl)]
      go_simp
      refine HFI.out.mono ?_
      rintro e z2 ⟨rfl, hF⟩
      refine hK.out _ _ ⟨(hF.cell (lt_of_cell hHeld.1) id).trans hHeld.1, (hF.cell (lt_of_cell hHeld.2) id).trans hHeld.2⟩ (fun hHeld => ?_)
      clear hK K
      try simp only [Act.put, List.getElem_toArray, List.getElem_cons_zero, List.getElem_cons_succ, List.setIfInBounds_toArray, List.set_cons_zero, List.set_cons_succ]
      have HD8 := hid (HD7.out.no hF)
      have HF8 := hid (HF7.out.trans hF)
      clear hF HD7 HF7 HVF7 HFI
      refine wpAnyH_take (i := 6) (v := ?_) rfl (by kernel_rfl) (by kernel_rfl) (by kernel_rfl) (fun _ _ _ h => h) (Or.inl ⟨by rfl, ?_⟩) hHeld ?_
      rotate_left
      · intro w hSw; obtain ⟨hA1, hA2⟩ := hSw
        go_simp
        with_reducible rfl
      try simp only [Act.put, List.getElem_toArray, List.getElem_cons_zero, List.getElem_cons_succ, List.setIfInBounds_toArray, List.set_cons_zero, List.set_cons_succ]
      refine wpAnyH_take (i := 7) (v := ?_) rfl (by kernel_rfl) (by kernel_rfl) (by kernel_rfl) (fun _ _ _ h => h) (Or.inl ⟨by rfl, ?_⟩) hHeld ?_
      rotate_left
      · intro w hSw; obtain ⟨hA1, hA2⟩ := hSw
        go_simp
        with_reducible rfl
      try simp only [Act.put, List.getElem_toArray, List.getElem_cons_zero, List.getElem_cons_succ, List.setIfInBounds_toArray, List.set_cons_zero, List.set_cons_succ]
      refine wpAnyH_take (i := 9) (v := ?_) rfl (by kernel_rfl) (by kernel_rfl) (by kernel_rfl) (fun _ _ _ h => h) (Or.inl ⟨by rfl, ?_⟩) hHeld ?_
      rotate_left
      · intro w hSw; obtain ⟨hA1, hA2⟩ := hSw
        go_simp
        with_reducible rfl
      try simp only [Act.put, List.getElem_toArray, List.getElem_cons_zero, List.getElem_cons_succ, List.setIfInBounds_toArray, List.set_cons_zero, List.set_cons_succ]
      refine wpAnyH_take (i := 10) (v := ?_) rfl (by kernel_rfl) (by kernel_rfl) (by kernel_rfl) (fun _ _ _ h => h) (Or.inl ⟨by rfl, ?_⟩) hHeld ?_
      rotate_left
      · intro w hSw; obtain ⟨hA1, hA2⟩ := hSw
        go_simp
        with_reducible rfl
      try simp only [Act.put, List.getElem_toArray, List.getElem_cons_zero, List.getElem_cons_succ, List.setIfInBounds_toArray, List.set_cons_zero, List.set_cons_succ]
      refine wpAnyH_take (i := 11) (v := ?_) rfl (by kernel_rfl) (by kernel_rfl) (by kernel_rfl) (fun _ _ _ h => h) (Or.inl ⟨by rfl, ?_⟩) hHeld ?_
      rotate_left
      · intro w hSw; obtain ⟨hA1, hA2⟩ := hSw
        go_simp
        with_reducible rfl
      try simp only [Act.put, List.getElem_toArray, List.getElem_cons_zero, List.getElem_cons_succ, List.setIfInBounds_toArray, List.set_cons_zero, List.set_cons_succ]
      refine wpAnyH_take (i := 12) (v := ?_) rfl (by kernel_rfl) (by kernel_rfl) (by kernel_rfl) (fun _ _ _ h => h) (Or.inl ⟨by rfl, ?_⟩) hHeld ?_
      rotate_left
      · intro w hSw; obtain ⟨hA1, hA2⟩ := hSw
        go_simp
        with_reducible rfl
      try simp only [Act.put, List.getElem_toArray, List.getElem_cons_zero, List.getElem_cons_succ, List.setIfInBounds_toArray, List.set_cons_zero, List.set_cons_succ]
      refine wpAnyH_take (i := 13) (v := ?_) rfl (by kernel_rfl) (by kernel_rfl) (by kernel_rfl) (fun _ _ _ h => h) (Or.inl ⟨by rfl, ?_⟩) hHeld ?_
      rotate_left
      · intro w hSw; obtain ⟨hA1, hA2⟩ := hSw
        go_simp
        with_reducible rfl
      try simp only [Act.put, List.getElem_toArray, List.getElem_cons_zero, List.getElem_cons_succ, List.setIfInBounds_toArray, List.set_cons_zero, List.set_cons_succ]
      refine wpAnyH_ready (rs := [8]) (by kernel_rfl) (by simp) ?_
      refine AllReadyH.cons rfl (fun K hK => ?_) AllReadyH.nil
      rw [if_pos (by rfl)]
      go_simp
      refine (dv_Open z2 p S D HD8.out).mono ?_
      rintro e z2 ⟨rfl, rfl⟩
      refine hK.out _ _ hHeld (fun hHeld => ?_)
      clear hK K
      try simp only [Act.put, List.getElem_toArray, List.getElem_cons_zero, List.getElem_cons_succ, List.setIfInBounds_toArray, List.set_cons_zero, List.set_cons_succ]
      refine wpAnyH_take (i := 14) (v := ?_) rfl (by kernel_rfl) (by kernel_rfl) (by kernel_rfl) (fun _ _ _ h => h) (Or.inl ⟨by rfl, ?_⟩) hHeld ?_
      rotate_left
      · intro w hSw; obtain ⟨hA1, hA2⟩ := hSw
        go_simp
        with_reducible rfl
      try simp only [Act.put, List.getElem_toArray, List.getElem_cons_zero, List.getElem_cons_succ, List.setIfInBounds_toArray, List.set_cons_zero, List.set_cons_succ]
      refine wpAnyH_take (i := 15) (v := ?_) rfl (by kernel_rfl) (by kernel_rfl) (by kernel_rfl) (fun _ _ _ h => h) (Or.inl ⟨by rfl, ?_⟩) hHeld ?_
      rotate_left
      · intro w hSw; obtain ⟨hA1, hA2⟩ := hSw
        go_simp
        with_reducible rfl
      try simp only [Act.put, List.getElem_toArray, List.getElem_cons_zero, List.getElem_cons_succ, List.setIfInBounds_toArray, List.set_cons_zero, List.set_cons_succ]
      refine wpAnyH_take (i := 16) (v := ?_) rfl (by kernel_rfl) (by kernel_rfl) (by kernel_rfl) (fun _ _ _ h => h) (Or.inl ⟨by rfl, ?_⟩) hHeld ?_
      rotate_left
      · intro w hSw; obtain ⟨hA1, hA2⟩ := hSw
        go_simp
        with_reducible rfl
      try simp only [Act.put, List.getElem_toArray, List.getElem_cons_zero, List.getElem_cons_succ, List.setIfInBounds_toArray, List.set_cons_zero, List.set_cons_succ]
      refine wpAnyH_ready (rs := [17]) (by kernel_rfl) (by simp) ?_
      refine AllReadyH.cons rfl (fun K hK => ?_) AllReadyH.nil
      rw [if_pos (by rfl)]
      go_simp
      refine (dv_awake z2).mono ?_
      rintro e z3 ⟨rfl, hF⟩
      refine hK.out _ _ ⟨(hF.cell (lt_of_cell hHeld.1) id).trans hHeld.1, (hF.cell (lt_of_cell hHeld.2) id).trans hHeld.2⟩ (fun hHeld => ?_)
      clear hK K
      try simp only [Act.put, List.getElem_toArray, List.getElem_cons_zero, List.getElem_cons_succ, List.setIfInBounds_toArray, List.set_cons_zero, List.set_cons_succ]
      have HF9 := hid (HF8.out.trans hF)
      clear hF HF8
      refine wpAnyH_take (i := 18) (v := ?_) rfl (by kernel_rfl) (by kernel_rfl) (by kernel_rfl) (fun _ _ _ h => h) (Or.inl ⟨by rfl, ?_⟩) hHeld ?_
      rotate_left
      · intro w hSw; obtain ⟨hA1, hA2⟩ := hSw
        go_simp
        with_reducible rfl
      try simp only [Act.put, List.getElem_toArray, List.getElem_cons_zero, List.getElem_cons_succ, List.setIfInBounds_toArray, List.set_cons_zero, List.set_cons_succ]
      refine wpAnyH_take (i := 19) (v := ?_) rfl (by kernel_rfl) (by kernel_rfl) (by kernel_rfl) (fun _ _ _ h => h) (Or.inl ⟨by rfl, ?_⟩) hHeld ?_
      rotate_left
      · intro w hSw; obtain ⟨hA1, hA2⟩ := hSw
        go_simp
        with_reducible rfl
      try simp only [Act.put, List.getElem_toArray, List.getElem_cons_zero, List.getElem_cons_succ, List.setIfInBounds_toArray, List.set_cons_zero, List.set_cons_succ]
      refine wpAnyH_done (by kernel_rfl) ?_ _
      go_wp2_with fail
      go_ret
      exact ⟨rfl, HF9.out⟩
set_option maxRecDepth 100000 in
theorem crashes_size (w : World) (m : Int) (hm : m < 1 ∨ 40 < m) (v u : Value) :
    Calls Try.prog 4 #[.int .i64 m, v, u] w fun e w' => e = .returned (.bool true) ∧ Fr No w w' := by
  by_cases h1 : m < 1
  · clear hm
    go_enter Try.func4, Try.ntmps4
    go_wp2_with fail
    refine (dv_awake _).mono ?_
    rintro e w2 ⟨rfl, hF2⟩
    go_wp2_with fail
    go_ret
    exact ⟨rfl, hF2⟩
  · have h2 : 40 < m := by omega
    clear hm
    go_enter Try.func4, Try.ntmps4
    go_wp2_with fail
    refine (dv_awake _).mono ?_
    rintro e w2 ⟨rfl, hF2⟩
    go_wp2_with fail
    go_ret
    exact ⟨rfl, hF2⟩
set_option maxRecDepth 100000 in
theorem crashes_many (w : World) (m : Int) (hm1 : 1 ≤ m) (hm2 : m ≤ 40) (al : Option Addr) (k c : Nat) (hk : 80 < k) (u : Value) :
    Calls Try.prog 4 #[.int .i64 m, .slice al k c, u] w fun e w' => e = .returned (.bool true) ∧ Fr No w w' := by
  go_enter Try.func4, Try.ntmps4
  go_wp2_with fail
  refine (dv_few_not _ al k c hk).mono ?_
  rintro e w ⟨rfl, rfl⟩
  go_wp2_with fail
  refine (dv_awake _).mono ?_
  rintro e w2 ⟨rfl, hF2⟩
  go_wp2_with fail
  go_ret
  exact ⟨rfl, hF2⟩
set_option maxRecDepth 100000 in
theorem crashes_keep (w : World) (m : Int) (hm1 : 1 ≤ m) (hm2 : m ≤ 40) (al : Option Addr) (k c : Nat) (hk : k ≤ 80) (a2 : Option Addr) (n c2 : Nat) (hn : 100 < n) :
    Calls Try.prog 4 #[.int .i64 m, .slice al k c, .slice a2 n c2] w fun e w' => e = .returned (.bool true) ∧ Fr No w w' := by
  have hn' : (100 : Int) < (n : Int) := by omega
  go_enter Try.func4, Try.ntmps4
  go_wp2_with fail
  refine (dv_few _ al k c hk).mono ?_
  rintro e w ⟨rfl, rfl⟩
  go_wp2_with fail
  refine (dv_awake _).mono ?_
  rintro e w2 ⟨rfl, hF2⟩
  go_wp2_with fail
  go_ret
  exact ⟨rfl, hF2⟩
theorem law_DevCrashes (w : World) (m : Int) (_ : (Lit.int .i64 m).wf = true) (r : SRow) (hr : r.Ok w op3Sh) (s : SRow) (hs : s.Ok w .bool) :
    Calls Try.prog 4 #[.int .i64 m, r.v, s.v] w fun e w' => e = .returned (.bool true) ∧ Fr No w w' := by
  by_cases hm : m < 1 ∨ 40 < m
  · exact crashes_size w m hm _ _
  obtain ⟨xs, e, hx⟩ := ops5_of hr
  rw [e]
  by_cases hk : 80 < xs.length
  · exact crashes_many w m (by omega) (by omega) _ _ _ hk _
  obtain ⟨ks, e2, hkr⟩ := bools_of hs
  rw [e2]
  by_cases hn : 100 < ks.length
  · exact crashes_keep w m (by omega) (by omega) _ _ _ (by omega) _ _ _ hn
  obtain ⟨k, rfl⟩ := Int.eq_ofNat_of_zero_le (show 0 ≤ m by omega)
  exact crashes_in w k (by omega) (by omega) _ _ xs hx (by omega) _ _ ks hkr (by omega)
end Go.Proofs.Ytcdchojdkdimbaa
