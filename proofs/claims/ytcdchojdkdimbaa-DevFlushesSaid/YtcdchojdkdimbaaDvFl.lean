/- The law DevFlushes. (tools/dev_fl.py) -/
import Derived.Test.YtcdchojdkdimbaaDvL
namespace Go.Proofs.Ytcdchojdkdimbaa
open Go.RowKit

theorem firmK_add (D : DM) (s : Nat) (B : List Nat) : ∀ k, k ≤ D.opn.length → firmK (addO D s B) k = firmK D k
  | 0, _ => rfl
  | k + 1, hk => by
    rw [firmK, firmK, firmK_add D s B k (by omega)]
    have : opAt (addO D s B) k = opAt D k := by
      unfold opAt addO; simp [List.getD_eq_getElem?_getD, List.getElem?_append_left (show k < D.opn.length by omega)]
    rw [this]
theorem flushD_add (D : DM) (s : Nat) (B : List Nat) : flushD (addO D s B) = ⟨(flushD D).firm.set s B, [], D.plan⟩ := by
  have hl : (addO D s B).opn.length = D.opn.length + 1 := by simp [addO]
  have : opAt (addO D s B) D.opn.length = (s, B) := by unfold opAt addO; simp [List.getD_eq_getElem?_getD]
  unfold flushD
  rw [hl]
  simp only [firmK, firmK_add D s B _ (Nat.le_refl _), this]
  rfl
theorem there_add (D : DM) (s : Nat) (B : List Nat) (x : Int) : thereB (addO D s B) x = thereB D x := rfl
theorem there_wD {D : DM} {m n : Nat} (h : Plain D m n) (s x : Int) {B : List Nat} : thereB (wD D s B) x = thereB D x := by
  unfold Go.Proofs.Ytcdchojdkdimbaa.wD; split
  · rw [h.write]; rfl
  · rfl
theorem flush_comm {D : DM} {m n : Nat} (h : Plain D m n) {a b : Int} (hab : a ≠ b) {A B : List Nat} (hA : A.length = 64) (hB : B.length = 64) :
    flushF (wD (wD D a A) b B) = flushF (wD (wD D b B) a A) := by
  rw [((h.wD a hA).wD b hB).flush, ((h.wD b hB).wD a hA).flush]
  by_cases ta : thereB D a = true <;> by_cases tb : thereB D b = true
  · have hin : ∀ {E : DM} {n : Nat} (_ : Plain E m n) (s : Int) (B : List Nat), thereB E s = true → wD E s B = addO E s.toNat B := fun {E n} hE s B ht => by unfold Go.Proofs.Ytcdchojdkdimbaa.wD; rw [if_pos ht, hE.write]
    have e1 := hin h a A ta
    have e2 := hin h b B tb
    have e3 := hin (h.wD a hA) b B (by rw [there_wD h]; exact tb)
    have e4 := hin (h.wD b hB) a A (by rw [there_wD h]; exact ta)
    obtain ⟨i, rfl, _⟩ := there_nat ta
    obtain ⟨j, rfl, _⟩ := there_nat tb
    rw [e3, e4, e1, e2, flushD_add, flushD_add, flushD_add, flushD_add]
    simp only [Int.toNat_natCast]
    rw [List.set_comm _ _ (show i ≠ j by omega)]
    rfl
  · have e1 : ∀ E : DM, thereB E b = thereB D b → wD E b B = E := fun E e => by unfold Go.Proofs.Ytcdchojdkdimbaa.wD; rw [if_neg (by rw [e]; exact tb)]
    rw [e1 _ (there_wD h a b), e1 D rfl]
  · have e1 : ∀ E : DM, thereB E a = thereB D a → wD E a A = E := fun E e => by unfold Go.Proofs.Ytcdchojdkdimbaa.wD; rw [if_neg (by rw [e]; exact ta)]
    rw [e1 _ (there_wD h b a), e1 D rfl]
  · have e1 : ∀ E : DM, thereB E a = thereB D a → wD E a A = E := fun E e => by unfold Go.Proofs.Ytcdchojdkdimbaa.wD; rw [if_neg (by rw [e]; exact ta)]
    have e2 : ∀ E : DM, thereB E b = thereB D b → wD E b B = E := fun E e => by unfold Go.Proofs.Ytcdchojdkdimbaa.wD; rw [if_neg (by rw [e]; exact tb)]
    rw [e1 D rfl, e2 D rfl, e1 D rfl]
theorem flush_again {E : DM} {m n : Nat} (h : Plain E m n) (ho : E.opn = []) : flushF E = E := by
  rw [h.flush]; unfold flushD; rw [ho]; obtain ⟨f, o, p⟩ := E; simp only at ho; subst ho; rfl

set_option maxRecDepth 100000 in
set_option maxHeartbeats 4000000 in
theorem flushes_in (w : World) (m : Nat) (hm1 : 1 ≤ m) (hm40 : m ≤ 40) (al : Option Addr) (cap : Nat) (xs : List OpM) (hx : Ops5 w al xs) (hxl : xs.length ≤ 80) (a b : Int) :
    Calls Try.prog 9 #[.int .i64 m, .slice al xs.length cap, .agg #[.int .i64 a, .int .i64 b]] w fun e w' => e = .returned (.bool true) ∧ Fr No w w' := by
  have hm2 : m ≤ 4096 := by omega
  have hm40' : (m : Int) ≤ 40 := by omega
  have hxl' : (xs.length : Int) ≤ 80 := by omega
  have hb0 := heap_new w (.cells #[.int .i64 a, .int .i64 b] 53)
  have HFb := hid ((Fr.refl No w).alloc (.cells #[.int .i64 a, .int .i64 b] 53))
  have HX := hid (hx.no HFb.out)
  have HB := hid hb0
  have b1 := cell_blk hb0 0
  have b2 := cell_blk hb0 1
  simp only [List.getElem?_toArray, List.getElem?_cons_zero, List.getElem?_cons_succ] at b1 b2
  clear hx hb0
  go_enter Try.func9, Try.ntmps9
  go_wp2_with fail
  refine (dv_few _ al xs.length cap hxl).mono ?_
  rintro e w1 ⟨rfl, rfl⟩
  go_wp2_with fail
  refine (dv_New_ok m _ hm1 hm2).mono ?_
  rintro e wn ⟨p, Sn, rfl, hDn, hFn, hSn⟩
  have HDn := hid hDn
  have HFn := hid hFn
  have HSn := hid hSn
  obtain ⟨wb, hwb⟩ : ∃ wb, w.alloc (.cells #[.int .i64 a, .int .i64 b] 53) = wb := ⟨_, rfl⟩
  rw [hwb] at HFn HSn HX HB HFb b1 b2
  clear hDn hFn hSn hwb
  go_wp2_with fail
  go_loopg [9] xs.length (fun g i wr => ∃ (k : Nat) (S : Nat → Prop), k + g = xs.length ∧ i = .int .i64 k ∧ Hid (PD wr p S (runF (newD m) xs k)) ∧ Hid (∀ j, S j → wb.heap.size ≤ j) ∧ Hid (Fr No wb wr))
  case atStart => exact ⟨0, Sn, by omega, rfl, HDn, HSn, HFn⟩
  case round =>
    obtain ⟨k, S, hk, rfl, HD, HS, HF⟩ := hrel
    cases gk with
    | succ g =>
      have hkl : k < xs.length := by omega
      obtain ⟨g0, o, rfl, hb, a0, a1, a2⟩ := HX.out.op5 k hkl
      have HPl := hid (Plain.run hm1 hm2 xs k (by omega))
      have hstep := runF_succ (newD m) xs k hkl
      obtain ⟨op, hop⟩ : ∃ op, xs[k] = op := ⟨_, rfl⟩
      rw [hop] at a0 a1 a2 hstep
      have HST := hid hstep
      have hlenD : (runF (newD m) xs k).opn.length ≤ 100000 := by have := HPl.out.opn; omega
      obtain ⟨D, hD⟩ : ∃ D, runF (newD m) xs k = D := ⟨_, rfl⟩
      rw [hD] at HD HPl HST hlenD
      obtain ⟨ask, sec, nn⟩ := op
      have k0 : wr.cell? ⟨g0, o + k * 3, none⟩ = some (.int .i64 ask) := (HF.out.cell (p := ⟨g0, o + k * 3, none⟩) hb id).trans a0
      have k1 : wr.cell? ⟨g0, o + k * 3 + 1, none⟩ = some (.int .i64 sec) := (HF.out.cell (p := ⟨g0, o + k * 3 + 1, none⟩) hb id).trans a1
      have k2 : wr.cell? ⟨g0, o + k * 3 + 2, none⟩ = some (.int .i64 nn) := (HF.out.cell (p := ⟨g0, o + k * 3 + 2, none⟩) hb id).trans a2
      clear hop hstep hD a0 a1 a2
      by_cases hask : ask = 0 ∨ ask = 2
      · have HST2 : Hid (runF (newD m) xs (k + 1) = stepD D ⟨ask, sec, nn⟩) := by unfold Hid; rw [HST.out]; exact if_pos hask
        have HAS := hid hask
        have HORD : Hid (∀ W, PD W p S D → Fr No wr W → Calls Try.prog 13 #[.int .i64 m] W fun e w' => ∃ q T, e = .returned (.pointer (some ⟨q, 0, none⟩)) ∧ RD w' q T (newD m) ∧ Fr No W w' ∧ ∀ k, T k → W.heap.size ≤ k) := fun W _ _ => rf_New W m hm1 hm2
        clear hask HST
        have hbr : (ask == 0) = true ∨ ((ask == 0) = false ∧ (ask == 2) = true) := by
          rcases HAS.out with e | e <;> simp [e]
        have HGO : Hid (∀ (PP : Prop), (∀ (h1 : (ask == 0) = true), PP) → (∀ (h1 : (ask == 0) = false) (h2 : (ask == 2) = true), PP) → PP) := fun PP f g => hbr.elim f (fun h => g h.1 h.2)
        refine HGO.out _ (fun h1 => ?_) (fun h1 h2 => ?_)
        all_goals
          clear hbr
          go_wp2_with fail
          refine wp_region_held_drew (S := fun W => W.cell? ⟨g0, o + k * 3, none⟩ = some (.int .i64 ask) ∧ W.cell? ⟨g0, o + k * 3 + 1, none⟩ = some (.int .i64 sec) ∧ W.cell? ⟨g0, o + k * 3 + 2, none⟩ = some (.int .i64 nn)) (by kernel_rfl) ⟨k0, k1, k2⟩ (fun hHeld => ?_)
          have HD0 := hid (HD.out.no (Fr.refl No wr).drew)
          have HF0 := hid HF.out.drew
          obtain ⟨z0, hz0⟩ : ∃ z0, wr.drew = z0 := ⟨_, rfl⟩
          rw [hz0] at HD0 HF0 hHeld ⊢
          clear hz0 k0 k1 k2 HD HF
          refine wpAnyH_take (i := 0) (v := ?_) rfl (by kernel_rfl) (by kernel_rfl) (by kernel_rfl) (fun _ _ _ h => h) (Or.inl ⟨by rfl, ?_⟩) hHeld ?_
          rotate_left
          · intro w hSw; obtain ⟨hA1, hA2, hA3⟩ := hSw
            go_simp
            with_reducible rfl
          try simp only [Act.put, List.getElem_toArray, List.getElem_cons_zero, List.getElem_cons_succ, List.setIfInBounds_toArray, List.set_cons_zero, List.set_cons_succ]
          refine wpAnyH_take (i := 1) (v := ?_) rfl (by kernel_rfl) (by kernel_rfl) (by kernel_rfl) (fun _ _ _ h => h) (Or.inl ⟨by rfl, ?_⟩) hHeld ?_
          rotate_left
          · intro w hSw; obtain ⟨hA1, hA2, hA3⟩ := hSw
            go_simp
            with_reducible rfl
          try simp only [Act.put, List.getElem_toArray, List.getElem_cons_zero, List.getElem_cons_succ, List.setIfInBounds_toArray, List.set_cons_zero, List.set_cons_succ]
          refine wpAnyH_take (i := 3) (v := ?_) rfl (by kernel_rfl) (by kernel_rfl) (by kernel_rfl) (fun _ _ _ h => h) (Or.inl ⟨by rfl, ?_⟩) hHeld ?_
          rotate_left
          · intro w hSw; obtain ⟨hA1, hA2, hA3⟩ := hSw
            go_simp
            with_reducible rfl
          try simp only [Act.put, List.getElem_toArray, List.getElem_cons_zero, List.getElem_cons_succ, List.setIfInBounds_toArray, List.set_cons_zero, List.set_cons_succ]
          refine wpAnyH_take (i := 4) (v := ?_) rfl (by kernel_rfl) (by kernel_rfl) (by kernel_rfl) (fun _ _ _ h => h) (Or.inl ⟨by rfl, ?_⟩) hHeld ?_
          rotate_left
          · intro w hSw; obtain ⟨hA1, hA2, hA3⟩ := hSw
            go_simp
            with_reducible rfl
          try simp only [Act.put, List.getElem_toArray, List.getElem_cons_zero, List.getElem_cons_succ, List.setIfInBounds_toArray, List.set_cons_zero, List.set_cons_succ]
          refine wpAnyH_take (i := 5) (v := ?_) rfl (by kernel_rfl) (by kernel_rfl) (by kernel_rfl) (fun _ _ _ h => h) (Or.inl ⟨by rfl, ?_⟩) hHeld ?_
          rotate_left
          · intro w hSw; obtain ⟨hA1, hA2, hA3⟩ := hSw
            go_simp
            with_reducible rfl
          try simp only [Act.put, List.getElem_toArray, List.getElem_cons_zero, List.getElem_cons_succ, List.setIfInBounds_toArray, List.set_cons_zero, List.set_cons_succ]
          refine wpAnyH_take (i := 6) (v := ?_) rfl (by kernel_rfl) (by kernel_rfl) (by kernel_rfl) (fun _ _ _ h => h) (Or.inl ⟨by rfl, ?_⟩) hHeld ?_
          rotate_left
          · intro w hSw; obtain ⟨hA1, hA2, hA3⟩ := hSw
            go_simp
            with_reducible rfl
          try simp only [Act.put, List.getElem_toArray, List.getElem_cons_zero, List.getElem_cons_succ, List.setIfInBounds_toArray, List.set_cons_zero, List.set_cons_succ]
          refine wpAnyH_ready (rs := [2]) (by kernel_rfl) (by simp) ?_
          refine AllReadyH.cons rfl (fun K hK => ?_) AllReadyH.nil
          rw [if_pos (by rfl)]
          go_simp
          refine (rf_New z0 m hm1 hm2).mono ?_
          rintro e z2 ⟨q, T, rfl, hE2, hF2, hT2⟩
          have hb2 := lt_of_cell hHeld.1
          refine hK.out _ _ ⟨(hF2.cell (lt_of_cell hHeld.1) id).trans hHeld.1, (hF2.cell (lt_of_cell hHeld.2.1) id).trans hHeld.2.1, (hF2.cell (lt_of_cell hHeld.2.2) id).trans hHeld.2.2⟩ (fun hHeld => ?_)
          clear hK K
          try simp only [Act.put, List.getElem_toArray, List.getElem_cons_zero, List.getElem_cons_succ, List.setIfInBounds_toArray, List.set_cons_zero, List.set_cons_succ]
          have hdisj : ∀ j, S j → ¬ T j := fun j hj ht => by have := HD0.out.lt j hj; have := hT2 j ht; omega
          have HD2 := hid (HD0.out.no hF2)
          have HF2 := hid (HF0.out.trans hF2)
          have hTb : ∀ j, T j → wb.heap.size ≤ j := fun j ht => by have := hT2 j ht; have := HF0.out.size; omega
          refine wpAnyH_ready (rs := [7]) (by kernel_rfl) (by simp) ?_
          refine AllReadyH.cons rfl (fun K hK => ?_) AllReadyH.nil
          rw [if_pos (by rfl)]
          go_simp
          refine (dv_does z2 p q S T D (newD m) HD2.out hE2 hdisj ⟨ask, sec, nn⟩ HAS.out hlenD (by show 0 ≤ 100000; decide) (by show 0 ≤ 100000; decide)).mono ?_
          rintro e z7 ⟨⟨bb, rfl⟩, S', T', hD7, _, hF7, hM7, _, _⟩
          have hnb : ∀ j, j < wb.heap.size → ¬ (S j ∨ T j) := fun j hj e => e.elim (fun e => by have := HS.out j e; omega) (fun e => by have := hTb j e; omega)
          have hbw : g0 < wb.heap.size := hb
          refine hK.out _ _ ⟨(hF7.cell (lt_of_cell hHeld.1) (hnb g0 hbw)).trans hHeld.1, (hF7.cell (lt_of_cell hHeld.2.1) (hnb g0 hbw)).trans hHeld.2.1, (hF7.cell (lt_of_cell hHeld.2.2) (hnb g0 hbw)).trans hHeld.2.2⟩ (fun hHeld => ?_)
          clear hK K
          try simp only [Act.put, List.getElem_toArray, List.getElem_cons_zero, List.getElem_cons_succ, List.setIfInBounds_toArray, List.set_cons_zero, List.set_cons_succ]
          rw [← HST2.out] at hD7
          have HD7 := hid hD7
          have HS7 : Hid (∀ j, S' j → wb.heap.size ≤ j) := fun j hj => (hM7.1 j hj).elim (fun e => HS.out j e) (fun e => by have := HF2.out.size; omega)
          have HF7 := hid (HF2.out.then hF7 (fun i hi e => absurd e (hnb i hi)))
          clear hD7 hF7 hM7 hnb hE2 hF2 hT2 hTb hdisj
          refine wpAnyH_done (by kernel_rfl) ?_ _
          go_wp2_with fail
          go_roundg g
          case measure => omega
          case rel => exact ⟨k + 1, S', by omega, by go_num, HD7, HS7, HF7⟩
      · have HST2 : Hid (runF (newD m) xs (k + 1) = D) := by unfold Hid; rw [HST.out]; exact if_neg hask
        have h0 : (ask == 0) = false := by simp; omega
        have h2 : (ask == 2) = false := by simp; omega
        rw [← HST2.out] at HD
        clear hask HST HST2 k1 k2
        go_wp2_with fail
        go_roundg g
        case measure => omega
        case rel => exact ⟨k + 1, S, by omega, by go_num, HD, HS, HF⟩
    | zero =>
      obtain rfl : k = xs.length := by omega
      have hPl := Plain.run hm1 hm2 xs xs.length (Nat.le_refl _)
      obtain ⟨D, hD⟩ : ∃ D, runF (newD m) xs xs.length = D := ⟨_, rfl⟩
      rw [hD] at HD hPl
      have HPl := hid (hPl.up hxl)
      have b1r := (HF.out.cell (p := ⟨w.heap.size, 0, none⟩) (lt_of_block HB.out) id).trans b1
      have b2r := (HF.out.cell (p := ⟨w.heap.size, 1, none⟩) (lt_of_block HB.out) id).trans b2
      have HQ : Hid (w.heap.size < wb.heap.size) := lt_of_block HB.out
      obtain ⟨q, hq⟩ : ∃ q, w.heap.size = q := ⟨_, rfl⟩
      rw [hq] at b1r b2r HQ ⊢
      clear hD hPl b1 b2 HDn HSn HFn HX HB hq
      have hlen := HPl.out.opn
      have hpl : D.plan.length ≤ 100000 := by rw [HPl.out.plan]; decide
      go_wp2_with fail
      refine (dv_Copy wr p S D HD.out (by omega) hpl).mono ?_
      rintro e w2 ⟨pc, Sc0, rfl, hC2, hF2, hSc⟩
      have HC2 := hid hC2
      have HD2 := hid (HD.out.no hF2)
      have hSS : ∀ j, Sc0 j → ¬ S j := fun j hj hs => by have := hSc j hj; have := HD.out.lt j hs; omega
      have hCb : ∀ j, Sc0 j → wb.heap.size ≤ j := fun j hj => by have := hSc j hj; have := HF.out.size; omega
      have hSb := HS.out
      have HF2 := hid (HF.out.trans hF2)
      have HB2 := hid (show w2.cell? ⟨q, 0, none⟩ = some (.int .i64 a) ∧ w2.cell? ⟨q, 1, none⟩ = some (.int .i64 b) from ⟨(hF2.cell (p := ⟨q, 0, none⟩) (lt_of_cell b1r) id).trans b1r, (hF2.cell (p := ⟨q, 1, none⟩) (lt_of_cell b2r) id).trans b2r⟩)
      clear hC2 hF2 hSc HD HF b1r b2r HS
      go_wp2_with fail
      refine (dv_Crash w2 p S D HD2.out none 0 [] (.inl rfl) (Nat.zero_le _) (by omega)).mono ?_
      rintro e w3 ⟨px, Sx, rfl, hX3, hF3, hSx⟩
      have HX3 := hid hX3
      have HC3 := hid (HC2.out.no hF3)
      have HD3 := hid (HD2.out.no hF3)
      have HF3 := hid (HF2.out.trans hF3)
      have HB3 := hid (show w3.cell? ⟨q, 0, none⟩ = some (.int .i64 a) ∧ w3.cell? ⟨q, 1, none⟩ = some (.int .i64 b) from ⟨(hF3.cell (p := ⟨q, 0, none⟩) (lt_of_cell HB2.out.1) id).trans HB2.out.1, (hF3.cell (p := ⟨q, 1, none⟩) (lt_of_cell HB2.out.2) id).trans HB2.out.2⟩)
      clear hX3 hF3 hSx HC2 HD2 HF2 HB2
      go_wp2_with fail
      refine (dv_Crash w3 pc Sc0 D HC3.out none 0 [] (.inl rfl) (Nat.zero_le _) (by omega)).mono ?_
      rintro e w4 ⟨py, Sy, rfl, hY4, hF4, hSy⟩
      have HX4 := hid (HX3.out.no hF4)
      have HY4 := hid hY4
      have HC4 := hid (HC3.out.no hF4)
      have HD4 := hid (HD3.out.no hF4)
      have HF4 := hid (HF3.out.trans hF4)
      have HB4 := hid (show w4.cell? ⟨q, 0, none⟩ = some (.int .i64 a) ∧ w4.cell? ⟨q, 1, none⟩ = some (.int .i64 b) from ⟨(hF4.cell (p := ⟨q, 0, none⟩) (lt_of_cell HB3.out.1) id).trans HB3.out.1, (hF4.cell (p := ⟨q, 1, none⟩) (lt_of_cell HB3.out.2) id).trans HB3.out.2⟩)
      clear hY4 hF4 hSy HC3 HD3 HF3 HB3 HX3
      go_wp2_with fail
      refine (dv_Same w4 px py Sx Sy (crashD D []) HX4.out HY4.out (by show 0 ≤ 100000; decide) (by show 0 ≤ 100000; decide)).mono ?_
      rintro e v0 ⟨rfl, hF5⟩
      have HC0 := hid (HC4.out.no hF5)
      have HD0 := hid (HD4.out.no hF5)
      have HF0 := hid (HF4.out.trans hF5)
      have hB0 : v0.cell? ⟨q, 0, none⟩ = some (.int .i64 a) ∧ v0.cell? ⟨q, 1, none⟩ = some (.int .i64 b) := ⟨(hF5.cell (p := ⟨q, 0, none⟩) (lt_of_cell HB4.out.1) id).trans HB4.out.1, (hF5.cell (p := ⟨q, 1, none⟩) (lt_of_cell HB4.out.2) id).trans HB4.out.2⟩
      clear hF5 HC4 HD4 HF4 HB4 HX4 HY4
      have HP0c := HPl
      have HGO : Hid (∀ (ww : World) (SC SD : Nat → Prop) (C E : DM), PD ww pc SC C → PD ww p SD E → (∀ j, SC j → ¬ SD j) → (∀ j, SC j → wb.heap.size ≤ j) → (∀ j, SD j → wb.heap.size ≤ j) → Fr No wb ww → Plain C m 82 → Plain E m 82 → flushF C = flushF E → True) := fun _ _ _ _ _ _ _ _ _ _ _ _ _ _ => trivial
      clear HGO
      rcases Decidable.em (a = b) with hab | hab
      · subst hab
        have b0 := hB0.1
        have b00 := hB0.2
        clear hB0
        have HC0 := HC0
        go_wp2_with fail
        refine (dv_Flush v0 pc Sc0 D HC0.out (by have := HPl.out.opn; omega)).mono ?_
        rintro e u1 ⟨rfl, hX, hF⟩
        have HC91 := hid hX
        have HD91 := hid (HD0.out.fr hF (fun j hj hs => hSS j hs hj))
        have HF91 := hid (HF0.out.then hF (fun i hi e => absurd hi (by have := hCb i e; omega)))
        rw [show flushE D = 0 from HPl.out.wE.2.1]
        clear hX hF HC0 HD0 HF0
        go_wp2_with fail
        refine (dv_Flush u1 p S D HD91.out (by have := HPl.out.opn; omega)).mono ?_
        rintro e u2 ⟨rfl, hX, hF⟩
        have HC92 := hid (HC91.out.fr hF (fun j hj hs => hSS j hj hs))
        have HD92 := hid hX
        have HF92 := hid (HF91.out.then hF (fun i hi e => absurd hi (by have := hSb i e; omega)))
        rw [show flushE D = 0 from HPl.out.wE.2.1]
        have HPX := hid (HPl.out.flushP)
        have HE : Hid (flushF D = flushD D) := HPl.out.flush
        rw [HE.out] at HC92 HD92
        clear hX hF HC91 HD91 HF91
        obtain ⟨X, hX⟩ : ∃ X, flushD D = X := ⟨_, rfl⟩
        have hXo : X.opn = [] := by rw [← hX]; rfl
        rw [hX] at HC92 HD92 HPX
        have HXO := hid hXo
        clear hX HE hXo
        have hXl : X.opn.length ≤ 100000 := by rw [HXO.out]; decide
        have hXp : X.plan.length ≤ 100000 := by rw [HPX.out.plan]; decide
        go_wp2_with fail
        refine (dv_Same u2 pc p Sc0 S X HC92.out HD92.out hXl hXp).mono ?_
        rintro e u3 ⟨rfl, hF⟩
        have HD93 := hid (HD92.out.no hF)
        have HF93 := hid (HF92.out.trans hF)
        clear hF HC92 HD92 HF92
        go_wp2_with fail
        refine (dv_Copy u3 p S X HD93.out hXl hXp).mono ?_
        rintro e u4 ⟨px2, Sz, rfl, hX, hF, hSz⟩
        have HX94 := hid hX
        have HD94 := hid (HD93.out.no hF)
        have HF94 := hid (HF93.out.trans hF)
        have hZS : ∀ j, Sz j → ¬ S j := fun j hj hs => by have := hSz j hj; have := HD93.out.lt j hs; omega
        clear hX hF HD93 HF93 hSz
        go_wp2_with fail
        refine (dv_Flush u4 p S X HD94.out hXl).mono ?_
        rintro e u5 ⟨rfl, hX, hF⟩
        rw [show flushE X = 0 from HPX.out.wE.2.1]
        rw [flush_again HPX.out HXO.out] at hX
        have HX95 := hid (HX94.out.fr hF hZS)
        have HD95 := hid hX
        have HF95 := hid (HF94.out.then hF (fun i hi e => absurd hi (by have := hSb i e; omega)))
        clear hX hF HX94 HD94 HF94
        go_wp2_with fail
        refine (dv_Same u5 px2 p Sz S X HX95.out HD95.out hXl hXp).mono ?_
        rintro e u6 ⟨rfl, hF⟩
        have HF96 := hid (HF95.out.trans hF)
        clear hF HX95 HD95 HF95
        go_wp2_with fail
        refine (dv_awake u6).mono ?_
        rintro e u7 ⟨rfl, hF⟩
        go_wp2_with fail
        go_ret
        exact ⟨rfl, HFb.out.trans (HF96.out.trans hF)⟩
      · have hab1 : (a == b) = false := by simpa using hab
        have b0 := hB0.1
        have b00 := hB0.2
        have HAB := hid hab
        clear hab
        have HP0d := HPl
        have HP1d := HPl
        have HP1c := hid (HPl.out.wD a (markB_len 5))
        have HP2d := HPl
        have HP3d := hid (HPl.out.wD b (markB_len 6))
        have hB0 : v0.cell? ⟨q, 0, none⟩ = some (.int .i64 a) ∧ v0.cell? ⟨q, 1, none⟩ = some (.int .i64 b) := ⟨b0, b00⟩
        go_wp2_with fail
        refine wp_region_held_drew (S := fun W => W.cell? ⟨q, 0, none⟩ = some (.int .i64 a) ∧ W.cell? ⟨q, 1, none⟩ = some (.int .i64 b)) (by kernel_rfl) hB0 (fun hHeld => ?_)
        have HC0z := hid (HC0.out.no (Fr.refl No v0).drew)
        have HD0z := hid (HD0.out.no (Fr.refl No v0).drew)
        have HF0z := hid HF0.out.drew
        obtain ⟨z0, hz⟩ : ∃ z, v0.drew = z := ⟨_, rfl⟩
        rw [hz] at HC0z HD0z HF0z hHeld ⊢
        clear hz hB0 HC0 HD0 HF0
        refine wpAnyH_take (i := 0) (v := ?_) rfl (by kernel_rfl) (by kernel_rfl) (by kernel_rfl) (fun _ _ _ h => h) (Or.inl ⟨by rfl, ?_⟩) hHeld ?_
        rotate_left
        · intro w hSw; obtain ⟨hA1, hA2⟩ := hSw
          go_simp
          with_reducible rfl
        try simp only [Act.put, List.getElem_toArray, List.getElem_cons_zero, List.getElem_cons_succ, List.setIfInBounds_toArray, List.set_cons_zero, List.set_cons_succ]
        refine wpAnyH_take (i := 1) (v := ?_) rfl (by kernel_rfl) (by kernel_rfl) (by kernel_rfl) (fun _ _ _ h => h) (Or.inl ⟨by rfl, ?_⟩) hHeld ?_
        rotate_left
        · intro w hSw; obtain ⟨hA1, hA2⟩ := hSw
          go_simp
          with_reducible rfl
        try simp only [Act.put, List.getElem_toArray, List.getElem_cons_zero, List.getElem_cons_succ, List.setIfInBounds_toArray, List.set_cons_zero, List.set_cons_succ]
        refine wpAnyH_take (i := 2) (v := ?_) rfl (by kernel_rfl) (by kernel_rfl) (by kernel_rfl) (fun _ _ _ h => h) (Or.inl ⟨by rfl, ?_⟩) hHeld ?_
        rotate_left
        · intro w hSw; obtain ⟨hA1, hA2⟩ := hSw
          go_simp
          with_reducible rfl
        try simp only [Act.put, List.getElem_toArray, List.getElem_cons_zero, List.getElem_cons_succ, List.setIfInBounds_toArray, List.set_cons_zero, List.set_cons_succ]
        refine wpAnyH_ready (rs := [3]) (by kernel_rfl) (by simp) ?_
        refine AllReadyH.cons rfl (fun K hK => ?_) AllReadyH.nil
        rw [if_pos (by rfl)]
        go_simp
        refine (dv_mark z0 5).mono ?_
        rintro e y0 ⟨rfl, hF⟩
        refine hK.out _ _ ⟨(hF.cell (lt_of_cell hHeld.1) id).trans hHeld.1, (hF.cell (lt_of_cell hHeld.2) id).trans hHeld.2⟩ (fun hHeld => ?_)
        clear hK K
        try simp only [Act.put, List.getElem_toArray, List.getElem_cons_zero, List.getElem_cons_succ, List.setIfInBounds_toArray, List.set_cons_zero, List.set_cons_succ]
        have HC0m := hid (HC0z.out.no hF)
        have HD0m := hid (HD0z.out.no hF)
        have HF0m := hid (HF0z.out.trans hF)
        clear hF HC0z HD0z HF0z
        refine wpAnyH_ready (rs := [4]) (by kernel_rfl) (by simp) ?_
        refine AllReadyH.cons rfl (fun K hK => ?_) AllReadyH.nil
        rw [if_pos (by rfl)]
        go_simp
        refine (dv_WriteAny y0 pc Sc0 D HC0m.out a (markB 5) (markB_len 5) (by have := HP0c.out.opn; omega)).mono ?_
        rintro e v1 ⟨rfl, Sc1, hX, hF, hM⟩
        have hnq : ¬ Sc0 q := fun e => by have := hCb _ e; have := HQ.out; omega
        have hB1 : v1.cell? ⟨q, 0, none⟩ = some (.int .i64 a) ∧ v1.cell? ⟨q, 1, none⟩ = some (.int .i64 b) := ⟨(hF.cell (lt_of_cell hHeld.1) hnq).trans hHeld.1, (hF.cell (lt_of_cell hHeld.2) hnq).trans hHeld.2⟩
        refine hK.out _ _ hB1 (fun hHeld => ?_)
        clear hK K hHeld
        try simp only [Act.put, List.getElem_toArray, List.getElem_cons_zero, List.getElem_cons_succ, List.setIfInBounds_toArray, List.set_cons_zero, List.set_cons_succ]
        have HC1 := hid hX
        have HD1 := hid (HD0m.out.fr hF (fun j hj hs => hSS j hs hj))
        have HF1 := hid (HF0m.out.then hF (fun i hi e => absurd hi (by have := hCb i e; omega)))
        have hSS : ∀ j, Sc1 j → ¬ S j := fun j hj hs => (hM.1 j hj).elim (fun e => hSS j e hs) (fun e => by have := HD0m.out.lt j hs; omega)
        have hCb : ∀ j, Sc1 j → wb.heap.size ≤ j := fun j hj => (hM.1 j hj).elim (fun e => hCb j e) (fun e => by have := HF0m.out.size; omega)
        clear hX hF hM HC0m HD0m HF0m
        refine wpAnyH_done (by kernel_rfl) ?_ _
        go_wp2_with fail
        refine wp_region_held_drew (S := fun W => W.cell? ⟨q, 0, none⟩ = some (.int .i64 a) ∧ W.cell? ⟨q, 1, none⟩ = some (.int .i64 b)) (by kernel_rfl) hB1 (fun hHeld => ?_)
        have HC1z := hid (HC1.out.no (Fr.refl No v1).drew)
        have HD1z := hid (HD1.out.no (Fr.refl No v1).drew)
        have HF1z := hid HF1.out.drew
        obtain ⟨z1, hz⟩ : ∃ z, v1.drew = z := ⟨_, rfl⟩
        rw [hz] at HC1z HD1z HF1z hHeld ⊢
        clear hz hB1 HC1 HD1 HF1
        refine wpAnyH_take (i := 0) (v := ?_) rfl (by kernel_rfl) (by kernel_rfl) (by kernel_rfl) (fun _ _ _ h => h) (Or.inl ⟨by rfl, ?_⟩) hHeld ?_
        rotate_left
        · intro w hSw; obtain ⟨hA1, hA2⟩ := hSw
          go_simp
          with_reducible rfl
        try simp only [Act.put, List.getElem_toArray, List.getElem_cons_zero, List.getElem_cons_succ, List.setIfInBounds_toArray, List.set_cons_zero, List.set_cons_succ]
        refine wpAnyH_take (i := 1) (v := ?_) rfl (by kernel_rfl) (by kernel_rfl) (by kernel_rfl) (fun _ _ _ h => h) (Or.inl ⟨by rfl, ?_⟩) hHeld ?_
        rotate_left
        · intro w hSw; obtain ⟨hA1, hA2⟩ := hSw
          go_simp
          with_reducible rfl
        try simp only [Act.put, List.getElem_toArray, List.getElem_cons_zero, List.getElem_cons_succ, List.setIfInBounds_toArray, List.set_cons_zero, List.set_cons_succ]
        refine wpAnyH_take (i := 2) (v := ?_) rfl (by kernel_rfl) (by kernel_rfl) (by kernel_rfl) (fun _ _ _ h => h) (Or.inl ⟨by rfl, ?_⟩) hHeld ?_
        rotate_left
        · intro w hSw; obtain ⟨hA1, hA2⟩ := hSw
          go_simp
          with_reducible rfl
        try simp only [Act.put, List.getElem_toArray, List.getElem_cons_zero, List.getElem_cons_succ, List.setIfInBounds_toArray, List.set_cons_zero, List.set_cons_succ]
        refine wpAnyH_ready (rs := [3]) (by kernel_rfl) (by simp) ?_
        refine AllReadyH.cons rfl (fun K hK => ?_) AllReadyH.nil
        rw [if_pos (by rfl)]
        go_simp
        refine (dv_mark z1 6).mono ?_
        rintro e y1 ⟨rfl, hF⟩
        refine hK.out _ _ ⟨(hF.cell (lt_of_cell hHeld.1) id).trans hHeld.1, (hF.cell (lt_of_cell hHeld.2) id).trans hHeld.2⟩ (fun hHeld => ?_)
        clear hK K
        try simp only [Act.put, List.getElem_toArray, List.getElem_cons_zero, List.getElem_cons_succ, List.setIfInBounds_toArray, List.set_cons_zero, List.set_cons_succ]
        have HC1m := hid (HC1z.out.no hF)
        have HD1m := hid (HD1z.out.no hF)
        have HF1m := hid (HF1z.out.trans hF)
        clear hF HC1z HD1z HF1z
        refine wpAnyH_ready (rs := [4]) (by kernel_rfl) (by simp) ?_
        refine AllReadyH.cons rfl (fun K hK => ?_) AllReadyH.nil
        rw [if_pos (by rfl)]
        go_simp
        refine (dv_WriteAny y1 pc Sc1 (wD D a (markB 5)) HC1m.out b (markB 6) (markB_len 6) (by have := HP1c.out.opn; omega)).mono ?_
        rintro e v2 ⟨rfl, Sc2, hX, hF, hM⟩
        have hnq : ¬ Sc1 q := fun e => by have := hCb _ e; have := HQ.out; omega
        have hB2 : v2.cell? ⟨q, 0, none⟩ = some (.int .i64 a) ∧ v2.cell? ⟨q, 1, none⟩ = some (.int .i64 b) := ⟨(hF.cell (lt_of_cell hHeld.1) hnq).trans hHeld.1, (hF.cell (lt_of_cell hHeld.2) hnq).trans hHeld.2⟩
        refine hK.out _ _ hB2 (fun hHeld => ?_)
        clear hK K hHeld
        try simp only [Act.put, List.getElem_toArray, List.getElem_cons_zero, List.getElem_cons_succ, List.setIfInBounds_toArray, List.set_cons_zero, List.set_cons_succ]
        have HC2 := hid hX
        have HD2 := hid (HD1m.out.fr hF (fun j hj hs => hSS j hs hj))
        have HF2 := hid (HF1m.out.then hF (fun i hi e => absurd hi (by have := hCb i e; omega)))
        have hSS : ∀ j, Sc2 j → ¬ S j := fun j hj hs => (hM.1 j hj).elim (fun e => hSS j e hs) (fun e => by have := HD1m.out.lt j hs; omega)
        have hCb : ∀ j, Sc2 j → wb.heap.size ≤ j := fun j hj => (hM.1 j hj).elim (fun e => hCb j e) (fun e => by have := HF1m.out.size; omega)
        clear hX hF hM HC1m HD1m HF1m
        refine wpAnyH_done (by kernel_rfl) ?_ _
        go_wp2_with fail
        refine wp_region_held_drew (S := fun W => W.cell? ⟨q, 0, none⟩ = some (.int .i64 a) ∧ W.cell? ⟨q, 1, none⟩ = some (.int .i64 b)) (by kernel_rfl) hB2 (fun hHeld => ?_)
        have HC2z := hid (HC2.out.no (Fr.refl No v2).drew)
        have HD2z := hid (HD2.out.no (Fr.refl No v2).drew)
        have HF2z := hid HF2.out.drew
        obtain ⟨z2, hz⟩ : ∃ z, v2.drew = z := ⟨_, rfl⟩
        rw [hz] at HC2z HD2z HF2z hHeld ⊢
        clear hz hB2 HC2 HD2 HF2
        refine wpAnyH_take (i := 0) (v := ?_) rfl (by kernel_rfl) (by kernel_rfl) (by kernel_rfl) (fun _ _ _ h => h) (Or.inl ⟨by rfl, ?_⟩) hHeld ?_
        rotate_left
        · intro w hSw; obtain ⟨hA1, hA2⟩ := hSw
          go_simp
          with_reducible rfl
        try simp only [Act.put, List.getElem_toArray, List.getElem_cons_zero, List.getElem_cons_succ, List.setIfInBounds_toArray, List.set_cons_zero, List.set_cons_succ]
        refine wpAnyH_take (i := 1) (v := ?_) rfl (by kernel_rfl) (by kernel_rfl) (by kernel_rfl) (fun _ _ _ h => h) (Or.inl ⟨by rfl, ?_⟩) hHeld ?_
        rotate_left
        · intro w hSw; obtain ⟨hA1, hA2⟩ := hSw
          go_simp
          with_reducible rfl
        try simp only [Act.put, List.getElem_toArray, List.getElem_cons_zero, List.getElem_cons_succ, List.setIfInBounds_toArray, List.set_cons_zero, List.set_cons_succ]
        refine wpAnyH_take (i := 2) (v := ?_) rfl (by kernel_rfl) (by kernel_rfl) (by kernel_rfl) (fun _ _ _ h => h) (Or.inl ⟨by rfl, ?_⟩) hHeld ?_
        rotate_left
        · intro w hSw; obtain ⟨hA1, hA2⟩ := hSw
          go_simp
          with_reducible rfl
        try simp only [Act.put, List.getElem_toArray, List.getElem_cons_zero, List.getElem_cons_succ, List.setIfInBounds_toArray, List.set_cons_zero, List.set_cons_succ]
        refine wpAnyH_ready (rs := [3]) (by kernel_rfl) (by simp) ?_
        refine AllReadyH.cons rfl (fun K hK => ?_) AllReadyH.nil
        rw [if_pos (by rfl)]
        go_simp
        refine (dv_mark z2 6).mono ?_
        rintro e y2 ⟨rfl, hF⟩
        refine hK.out _ _ ⟨(hF.cell (lt_of_cell hHeld.1) id).trans hHeld.1, (hF.cell (lt_of_cell hHeld.2) id).trans hHeld.2⟩ (fun hHeld => ?_)
        clear hK K
        try simp only [Act.put, List.getElem_toArray, List.getElem_cons_zero, List.getElem_cons_succ, List.setIfInBounds_toArray, List.set_cons_zero, List.set_cons_succ]
        have HC2m := hid (HC2z.out.no hF)
        have HD2m := hid (HD2z.out.no hF)
        have HF2m := hid (HF2z.out.trans hF)
        clear hF HC2z HD2z HF2z
        refine wpAnyH_ready (rs := [4]) (by kernel_rfl) (by simp) ?_
        refine AllReadyH.cons rfl (fun K hK => ?_) AllReadyH.nil
        rw [if_pos (by rfl)]
        go_simp
        refine (dv_WriteAny y2 p S D HD2m.out b (markB 6) (markB_len 6) (by have := HP2d.out.opn; omega)).mono ?_
        rintro e v3 ⟨rfl, S1, hX, hF, hM⟩
        have hnq : ¬ S q := fun e => by have := hSb _ e; have := HQ.out; omega
        have hB3 : v3.cell? ⟨q, 0, none⟩ = some (.int .i64 a) ∧ v3.cell? ⟨q, 1, none⟩ = some (.int .i64 b) := ⟨(hF.cell (lt_of_cell hHeld.1) hnq).trans hHeld.1, (hF.cell (lt_of_cell hHeld.2) hnq).trans hHeld.2⟩
        refine hK.out _ _ hB3 (fun hHeld => ?_)
        clear hK K hHeld
        try simp only [Act.put, List.getElem_toArray, List.getElem_cons_zero, List.getElem_cons_succ, List.setIfInBounds_toArray, List.set_cons_zero, List.set_cons_succ]
        have HD3 := hid hX
        have HC3 := hid (HC2m.out.fr hF (fun j hj hs => hSS j hj hs))
        have HF3 := hid (HF2m.out.then hF (fun i hi e => absurd hi (by have := hSb i e; omega)))
        have hSS : ∀ j, Sc2 j → ¬ S1 j := fun j hj hs => (hM.1 j hs).elim (fun e => hSS j hj e) (fun e => by have := HC2m.out.lt j hj; omega)
        have hSb : ∀ j, S1 j → wb.heap.size ≤ j := fun j hj => (hM.1 j hj).elim (fun e => hSb j e) (fun e => by have := HF2m.out.size; omega)
        clear hX hF hM HC2m HD2m HF2m
        refine wpAnyH_done (by kernel_rfl) ?_ _
        go_wp2_with fail
        refine wp_region_held_drew (S := fun W => W.cell? ⟨q, 0, none⟩ = some (.int .i64 a) ∧ W.cell? ⟨q, 1, none⟩ = some (.int .i64 b)) (by kernel_rfl) hB3 (fun hHeld => ?_)
        have HC3z := hid (HC3.out.no (Fr.refl No v3).drew)
        have HD3z := hid (HD3.out.no (Fr.refl No v3).drew)
        have HF3z := hid HF3.out.drew
        obtain ⟨z3, hz⟩ : ∃ z, v3.drew = z := ⟨_, rfl⟩
        rw [hz] at HC3z HD3z HF3z hHeld ⊢
        clear hz hB3 HC3 HD3 HF3
        refine wpAnyH_take (i := 0) (v := ?_) rfl (by kernel_rfl) (by kernel_rfl) (by kernel_rfl) (fun _ _ _ h => h) (Or.inl ⟨by rfl, ?_⟩) hHeld ?_
        rotate_left
        · intro w hSw; obtain ⟨hA1, hA2⟩ := hSw
          go_simp
          with_reducible rfl
        try simp only [Act.put, List.getElem_toArray, List.getElem_cons_zero, List.getElem_cons_succ, List.setIfInBounds_toArray, List.set_cons_zero, List.set_cons_succ]
        refine wpAnyH_take (i := 1) (v := ?_) rfl (by kernel_rfl) (by kernel_rfl) (by kernel_rfl) (fun _ _ _ h => h) (Or.inl ⟨by rfl, ?_⟩) hHeld ?_
        rotate_left
        · intro w hSw; obtain ⟨hA1, hA2⟩ := hSw
          go_simp
          with_reducible rfl
        try simp only [Act.put, List.getElem_toArray, List.getElem_cons_zero, List.getElem_cons_succ, List.setIfInBounds_toArray, List.set_cons_zero, List.set_cons_succ]
        refine wpAnyH_take (i := 2) (v := ?_) rfl (by kernel_rfl) (by kernel_rfl) (by kernel_rfl) (fun _ _ _ h => h) (Or.inl ⟨by rfl, ?_⟩) hHeld ?_
        rotate_left
        · intro w hSw; obtain ⟨hA1, hA2⟩ := hSw
          go_simp
          with_reducible rfl
        try simp only [Act.put, List.getElem_toArray, List.getElem_cons_zero, List.getElem_cons_succ, List.setIfInBounds_toArray, List.set_cons_zero, List.set_cons_succ]
        refine wpAnyH_ready (rs := [3]) (by kernel_rfl) (by simp) ?_
        refine AllReadyH.cons rfl (fun K hK => ?_) AllReadyH.nil
        rw [if_pos (by rfl)]
        go_simp
        refine (dv_mark z3 5).mono ?_
        rintro e y3 ⟨rfl, hF⟩
        refine hK.out _ _ ⟨(hF.cell (lt_of_cell hHeld.1) id).trans hHeld.1, (hF.cell (lt_of_cell hHeld.2) id).trans hHeld.2⟩ (fun hHeld => ?_)
        clear hK K
        try simp only [Act.put, List.getElem_toArray, List.getElem_cons_zero, List.getElem_cons_succ, List.setIfInBounds_toArray, List.set_cons_zero, List.set_cons_succ]
        have HC3m := hid (HC3z.out.no hF)
        have HD3m := hid (HD3z.out.no hF)
        have HF3m := hid (HF3z.out.trans hF)
        clear hF HC3z HD3z HF3z
        refine wpAnyH_ready (rs := [4]) (by kernel_rfl) (by simp) ?_
        refine AllReadyH.cons rfl (fun K hK => ?_) AllReadyH.nil
        rw [if_pos (by rfl)]
        go_simp
        refine (dv_WriteAny y3 p S1 (wD D b (markB 6)) HD3m.out a (markB 5) (markB_len 5) (by have := HP3d.out.opn; omega)).mono ?_
        rintro e v4 ⟨rfl, S2, hX, hF, hM⟩
        have hnq : ¬ S1 q := fun e => by have := hSb _ e; have := HQ.out; omega
        have hB4 : v4.cell? ⟨q, 0, none⟩ = some (.int .i64 a) ∧ v4.cell? ⟨q, 1, none⟩ = some (.int .i64 b) := ⟨(hF.cell (lt_of_cell hHeld.1) hnq).trans hHeld.1, (hF.cell (lt_of_cell hHeld.2) hnq).trans hHeld.2⟩
        refine hK.out _ _ hB4 (fun hHeld => ?_)
        clear hK K hHeld
        try simp only [Act.put, List.getElem_toArray, List.getElem_cons_zero, List.getElem_cons_succ, List.setIfInBounds_toArray, List.set_cons_zero, List.set_cons_succ]
        have HD4 := hid hX
        have HC4 := hid (HC3m.out.fr hF (fun j hj hs => hSS j hj hs))
        have HF4 := hid (HF3m.out.then hF (fun i hi e => absurd hi (by have := hSb i e; omega)))
        have hSS : ∀ j, Sc2 j → ¬ S2 j := fun j hj hs => (hM.1 j hs).elim (fun e => hSS j hj e) (fun e => by have := HC3m.out.lt j hj; omega)
        have hSb : ∀ j, S2 j → wb.heap.size ≤ j := fun j hj => (hM.1 j hj).elim (fun e => hSb j e) (fun e => by have := HF3m.out.size; omega)
        clear hX hF hM HC3m HD3m HF3m
        refine wpAnyH_done (by kernel_rfl) ?_ _
        have HPC := hid ((HPl.out.wD a (markB_len 5)).wD b (markB_len 6))
        have HPE := hid ((HPl.out.wD b (markB_len 6)).wD a (markB_len 5))
        have HC4 := HC4
        go_wp2_with fail
        refine (dv_Flush v4 pc Sc2 (wD (wD D a (markB 5)) b (markB 6)) HC4.out (by have := HPC.out.opn; omega)).mono ?_
        rintro e u1 ⟨rfl, hX, hF⟩
        have HC91 := hid hX
        have HD91 := hid (HD4.out.fr hF (fun j hj hs => hSS j hs hj))
        have HF91 := hid (HF4.out.then hF (fun i hi e => absurd hi (by have := hCb i e; omega)))
        rw [show flushE (wD (wD D a (markB 5)) b (markB 6)) = 0 from HPC.out.wE.2.1]
        clear hX hF HC4 HD4 HF4
        go_wp2_with fail
        refine (dv_Flush u1 p S2 (wD (wD D b (markB 6)) a (markB 5)) HD91.out (by have := HPE.out.opn; omega)).mono ?_
        rintro e u2 ⟨rfl, hX, hF⟩
        have HC92 := hid (HC91.out.fr hF (fun j hj hs => hSS j hj hs))
        have HD92 := hid hX
        have HF92 := hid (HF91.out.then hF (fun i hi e => absurd hi (by have := hSb i e; omega)))
        rw [show flushE (wD (wD D b (markB 6)) a (markB 5)) = 0 from HPE.out.wE.2.1]
        rw [flush_comm HPl.out HAB.out (markB_len 5) (markB_len 6)] at HC92
        have HPX := hid (HPE.out.flushP)
        have HE : Hid (flushF (wD (wD D b (markB 6)) a (markB 5)) = flushD (wD (wD D b (markB 6)) a (markB 5))) := HPE.out.flush
        rw [HE.out] at HC92 HD92
        clear hX hF HC91 HD91 HF91
        obtain ⟨X, hX⟩ : ∃ X, flushD (wD (wD D b (markB 6)) a (markB 5)) = X := ⟨_, rfl⟩
        have hXo : X.opn = [] := by rw [← hX]; rfl
        rw [hX] at HC92 HD92 HPX
        have HXO := hid hXo
        clear hX HE hXo
        have hXl : X.opn.length ≤ 100000 := by rw [HXO.out]; decide
        have hXp : X.plan.length ≤ 100000 := by rw [HPX.out.plan]; decide
        go_wp2_with fail
        refine (dv_Same u2 pc p Sc2 S2 X HC92.out HD92.out hXl hXp).mono ?_
        rintro e u3 ⟨rfl, hF⟩
        have HD93 := hid (HD92.out.no hF)
        have HF93 := hid (HF92.out.trans hF)
        clear hF HC92 HD92 HF92
        go_wp2_with fail
        refine (dv_Copy u3 p S2 X HD93.out hXl hXp).mono ?_
        rintro e u4 ⟨px2, Sz, rfl, hX, hF, hSz⟩
        have HX94 := hid hX
        have HD94 := hid (HD93.out.no hF)
        have HF94 := hid (HF93.out.trans hF)
        have hZS : ∀ j, Sz j → ¬ S2 j := fun j hj hs => by have := hSz j hj; have := HD93.out.lt j hs; omega
        clear hX hF HD93 HF93 hSz
        go_wp2_with fail
        refine (dv_Flush u4 p S2 X HD94.out hXl).mono ?_
        rintro e u5 ⟨rfl, hX, hF⟩
        rw [show flushE X = 0 from HPX.out.wE.2.1]
        rw [flush_again HPX.out HXO.out] at hX
        have HX95 := hid (HX94.out.fr hF hZS)
        have HD95 := hid hX
        have HF95 := hid (HF94.out.then hF (fun i hi e => absurd hi (by have := hSb i e; omega)))
        clear hX hF HX94 HD94 HF94
        go_wp2_with fail
        refine (dv_Same u5 px2 p Sz S2 X HX95.out HD95.out hXl hXp).mono ?_
        rintro e u6 ⟨rfl, hF⟩
        have HF96 := hid (HF95.out.trans hF)
        clear hF HX95 HD95 HF95
        go_wp2_with fail
        refine (dv_awake u6).mono ?_
        rintro e u7 ⟨rfl, hF⟩
        go_wp2_with fail
        go_ret
        exact ⟨rfl, HFb.out.trans (HF96.out.trans hF)⟩
set_option maxRecDepth 100000 in
theorem flushes_size (w : World) (m : Int) (hm : m < 1 ∨ 40 < m) (v : Value) (a b : Int) :
    Calls Try.prog 9 #[.int .i64 m, v, .agg #[.int .i64 a, .int .i64 b]] w fun e w' => e = .returned (.bool true) ∧ Fr No w w' := by
  have HFb := hid ((Fr.refl No w).alloc (.cells #[.int .i64 a, .int .i64 b] 53))
  by_cases h1 : m < 1
  · clear hm
    go_enter Try.func9, Try.ntmps9
    go_wp2_with fail
    refine (dv_awake _).mono ?_
    rintro e w2 ⟨rfl, hF2⟩
    go_wp2_with fail
    go_ret
    exact ⟨rfl, HFb.out.trans hF2⟩
  · have h2 : 40 < m := by omega
    clear hm
    go_enter Try.func9, Try.ntmps9
    go_wp2_with fail
    refine (dv_awake _).mono ?_
    rintro e w2 ⟨rfl, hF2⟩
    go_wp2_with fail
    go_ret
    exact ⟨rfl, HFb.out.trans hF2⟩
set_option maxRecDepth 100000 in
theorem flushes_many (w : World) (m : Int) (hm1 : 1 ≤ m) (hm2 : m ≤ 40) (al : Option Addr) (k c : Nat) (hk : 80 < k) (a b : Int) :
    Calls Try.prog 9 #[.int .i64 m, .slice al k c, .agg #[.int .i64 a, .int .i64 b]] w fun e w' => e = .returned (.bool true) ∧ Fr No w w' := by
  have HFb := hid ((Fr.refl No w).alloc (.cells #[.int .i64 a, .int .i64 b] 53))
  go_enter Try.func9, Try.ntmps9
  go_wp2_with fail
  refine (dv_few_not _ al k c hk).mono ?_
  rintro e w1 ⟨rfl, rfl⟩
  go_wp2_with fail
  refine (dv_awake _).mono ?_
  rintro e w2 ⟨rfl, hF2⟩
  go_wp2_with fail
  go_ret
  exact ⟨rfl, HFb.out.trans hF2⟩
theorem law_DevFlushes (w : World) (m : Int) (_ : (Lit.int .i64 m).wf = true) (r : SRow) (hr : r.Ok w op3Sh) (x : Int × Int) (_ : (Lit.int .i64 x.1).wf = true ∧ (Lit.int .i64 x.2).wf = true) :
    Calls Try.prog 9 #[.int .i64 m, r.v, i2v x] w fun e w' => e = .returned (.bool true) ∧ Fr No w w' := by
  by_cases hm : m < 1 ∨ 40 < m
  · exact flushes_size w m hm _ _ _
  obtain ⟨xs, e, hx⟩ := ops5_of hr
  rw [e]
  by_cases hk : 80 < xs.length
  · exact flushes_many w m (by omega) (by omega) _ _ _ hk _ _
  obtain ⟨k, rfl⟩ := Int.eq_ofNat_of_zero_le (show 0 ≤ m by omega)
  exact flushes_in w k (by omega) (by omega) _ _ xs hx (by omega) _ _
end Go.Proofs.Ytcdchojdkdimbaa
