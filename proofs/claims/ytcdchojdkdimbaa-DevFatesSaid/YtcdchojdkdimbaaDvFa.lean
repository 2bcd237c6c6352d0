/- The law DevFates. -/
import Derived.Test.YtcdchojdkdimbaaDvL
namespace Go.Proofs.Ytcdchojdkdimbaa
open Go.RowKit

set_option maxRecDepth 100000 in
set_option maxHeartbeats 4000000 in
theorem fates_in (w : World) (m : Nat) (hm1 : 1 ≤ m) (hm40 : m ≤ 40) (a : Option Addr) (cap : Nat) (xs : List OpM) (hx : Ops5 w a xs) (hxl : xs.length ≤ 80) (xa : Int) (s : Nat) (hs : s < m) (n : Int) :
    Calls Try.prog 7 #[.int .i64 m, .slice a xs.length cap, .agg #[.int .i64 xa, .int .i64 s, .int .i64 n]] w fun e w' => e = .returned (.bool true) ∧ Fr No w w' := by
  have hm2 : m ≤ 4096 := by omega
  have hm40' : (m : Int) ≤ 40 := by omega
  have hs' : (s : Int) < (m : Int) := by omega
  have hxl' : (xs.length : Int) ≤ 80 := by omega
  have hb0 := heap_new w (.cells #[.int .i64 xa, .int .i64 s, .int .i64 n] 33)
  have HFb := hid ((Fr.refl No w).alloc (.cells #[.int .i64 xa, .int .i64 s, .int .i64 n] 33))
  have HX := hid (hx.no HFb.out)
  have HB := hid hb0
  have b1 := cell_blk hb0 1
  have b2 := cell_blk hb0 2
  simp only [List.getElem?_toArray, List.getElem?_cons_zero, List.getElem?_cons_succ] at b1 b2
  obtain ⟨Z, HZ⟩ : ∃ Z, Hid (Z = zeros) := ⟨_, hid rfl⟩
  have hZL : Z.length = 64 := by rw [HZ.out, zeros_len]
  have HIZ := hid (info64b Z hZL)
  have H1Z := hid (blkA_one Z)
  have HSZ : Hid ((blkA zeros).size = (blkA Z).size) := by unfold Hid; rw [blkA_zeros_size, blkA_size, hZL]
  clear hx hb0 hZL
  go_enter Try.func7, Try.ntmps7
  go_wp2_with fail
  refine (dv_few _ a xs.length cap hxl).mono ?_
  rintro e w1 ⟨rfl, rfl⟩
  go_wp2_with fail
  refine (dv_New_ok m _ hm1 hm2).mono ?_
  rintro e wn ⟨p, Sn, rfl, hDn, hFn, hSn⟩
  have HDn := hid hDn
  have HFn := hid hFn
  have HSn := hid hSn
  obtain ⟨wb, hwb⟩ : ∃ wb, w.alloc (.cells #[.int .i64 xa, .int .i64 s, .int .i64 n] 33) = wb := ⟨_, rfl⟩
  rw [hwb] at HFn HSn HX HB HFb b1 b2
  clear hDn hFn hSn hwb
  go_wp2_with fail
  go_loopg [9] xs.length (fun g i wr => ∃ (k : Nat) (S : Nat → Prop), k + g = xs.length ∧ i = .int .i64 k ∧ Hid (PD wr p S (runF (newD m) xs k)) ∧ Hid (∀ j, S j → wb.heap.size ≤ j) ∧ Hid (Fr No wb wr))
  case atStart => exact ⟨0, Sn, by omega, rfl, HDn, HSn, HFn⟩
  case round =>
    obtain ⟨k, S, hk, rfl, HD, HS, HF⟩ := hrel
    cases gk with
    | succ g =>
      have hkl : k < xs.length := by omega
      obtain ⟨b, o, rfl, hb, a0, a1, a2⟩ := HX.out.op5 k hkl
      have HPl := hid (Plain.run hm1 hm2 xs k (by omega))
      have hstep := runF_succ (newD m) xs k hkl
      obtain ⟨op, hop⟩ : ∃ op, xs[k] = op := ⟨_, rfl⟩
      rw [hop] at a0 a1 a2 hstep
      have HST := hid hstep
      have hlenD : (runF (newD m) xs k).opn.length ≤ 100000 := by have := HPl.out.opn; omega
      obtain ⟨D, hD⟩ : ∃ D, runF (newD m) xs k = D := ⟨_, rfl⟩
      rw [hD] at HD HPl HST hlenD
      obtain ⟨ask, sec, nn⟩ := op
      have k0 : wr.cell? ⟨b, o + k * 3, none⟩ = some (.int .i64 ask) := (HF.out.cell (p := ⟨b, o + k * 3, none⟩) hb id).trans a0
      have k1 : wr.cell? ⟨b, o + k * 3 + 1, none⟩ = some (.int .i64 sec) := (HF.out.cell (p := ⟨b, o + k * 3 + 1, none⟩) hb id).trans a1
      have k2 : wr.cell? ⟨b, o + k * 3 + 2, none⟩ = some (.int .i64 nn) := (HF.out.cell (p := ⟨b, o + k * 3 + 2, none⟩) hb id).trans a2
      clear hop hstep hD a0 a1 a2
      by_cases hask : ask = 0 ∨ ask = 2
      · have HST2 : Hid (runF (newD m) xs (k + 1) = stepD D ⟨ask, sec, nn⟩) := by unfold Hid; rw [HST.out]; exact if_pos hask
        have HAS := hid hask
        have HORD : Hid (∀ W, PD W p S D → Fr No wr W → Calls Try.prog 13 #[.int .i64 m] W fun e w' => ∃ q T, e = .returned (.pointer (some ⟨q, 0, none⟩)) ∧ RD w' q T (newD m) ∧ Fr No W w' ∧ ∀ k, T k → W.heap.size ≤ k) := fun W _ _ => rf_New W m hm1 hm2
        clear hask HST
        have hbr : (ask == 0) = true ∨ ((ask == 0) = false ∧ (ask == 2) = true) := by
          rcases HAS.out with e | e <;> simp [e]
        have HGO : Hid (∀ (PP : Prop), (∀ (h1 : (ask == 0) = true), PP) → (∀ (h1 : (ask == 0) = false) (h2 : (ask == 2) = true), PP) → PP) := fun PP f g => hbr.elim f (fun h => g h.1 h.2)
        refine HGO.out _ (fun h1 => ?_) (fun h1 h2 => ?_)
        all_goals
          clear hbr
          go_wp2_with fail
          refine wp_region_held_drew (S := fun W => W.cell? ⟨b, o + k * 3, none⟩ = some (.int .i64 ask) ∧ W.cell? ⟨b, o + k * 3 + 1, none⟩ = some (.int .i64 sec) ∧ W.cell? ⟨b, o + k * 3 + 2, none⟩ = some (.int .i64 nn)) (by kernel_rfl) ⟨k0, k1, k2⟩ (fun hHeld => ?_)
          have HD0 := hid (HD.out.no (Fr.refl No wr).drew)
          have HF0 := hid HF.out.drew
          obtain ⟨z0, hz0⟩ : ∃ z0, wr.drew = z0 := ⟨_, rfl⟩
          rw [hz0] at HD0 HF0 hHeld ⊢
          clear hz0 k0 k1 k2 HD HF
          refine wpAnyH_take (i := 0) (v := ?_) rfl (by kernel_rfl) (by kernel_rfl) (by kernel_rfl) (fun _ _ _ h => h) (Or.inl ⟨by rfl, ?_⟩) hHeld ?_
          rotate_left
          · intro w hSw; obtain ⟨hA1, hA2, hA3⟩ := hSw
            go_simp
            with_reducible rfl
          try simp only [Act.put, List.getElem_toArray, List.getElem_cons_zero, List.getElem_cons_succ, List.setIfInBounds_toArray, List.set_cons_zero, List.set_cons_succ]
          refine wpAnyH_take (i := 1) (v := ?_) rfl (by kernel_rfl) (by kernel_rfl) (by kernel_rfl) (fun _ _ _ h => h) (Or.inl ⟨by rfl, ?_⟩) hHeld ?_
          rotate_left
          · intro w hSw; obtain ⟨hA1, hA2, hA3⟩ := hSw
            go_simp
            with_reducible rfl
          try simp only [Act.put, List.getElem_toArray, List.getElem_cons_zero, List.getElem_cons_succ, List.setIfInBounds_toArray, List.set_cons_zero, List.set_cons_succ]
          refine wpAnyH_take (i := 3) (v := ?_) rfl (by kernel_rfl) (by kernel_rfl) (by kernel_rfl) (fun _ _ _ h => h) (Or.inl ⟨by rfl, ?_⟩) hHeld ?_
          rotate_left
          · intro w hSw; obtain ⟨hA1, hA2, hA3⟩ := hSw
            go_simp
            with_reducible rfl
          try simp only [Act.put, List.getElem_toArray, List.getElem_cons_zero, List.getElem_cons_succ, List.setIfInBounds_toArray, List.set_cons_zero, List.set_cons_succ]
          refine wpAnyH_take (i := 4) (v := ?_) rfl (by kernel_rfl) (by kernel_rfl) (by kernel_rfl) (fun _ _ _ h => h) (Or.inl ⟨by rfl, ?_⟩) hHeld ?_
          rotate_left
          · intro w hSw; obtain ⟨hA1, hA2, hA3⟩ := hSw
            go_simp
            with_reducible rfl
          try simp only [Act.put, List.getElem_toArray, List.getElem_cons_zero, List.getElem_cons_succ, List.setIfInBounds_toArray, List.set_cons_zero, List.set_cons_succ]
          refine wpAnyH_take (i := 5) (v := ?_) rfl (by kernel_rfl) (by kernel_rfl) (by kernel_rfl) (fun _ _ _ h => h) (Or.inl ⟨by rfl, ?_⟩) hHeld ?_
          rotate_left
          · intro w hSw; obtain ⟨hA1, hA2, hA3⟩ := hSw
            go_simp
            with_reducible rfl
          try simp only [Act.put, List.getElem_toArray, List.getElem_cons_zero, List.getElem_cons_succ, List.setIfInBounds_toArray, List.set_cons_zero, List.set_cons_succ]
          refine wpAnyH_take (i := 6) (v := ?_) rfl (by kernel_rfl) (by kernel_rfl) (by kernel_rfl) (fun _ _ _ h => h) (Or.inl ⟨by rfl, ?_⟩) hHeld ?_
          rotate_left
          · intro w hSw; obtain ⟨hA1, hA2, hA3⟩ := hSw
            go_simp
            with_reducible rfl
          try simp only [Act.put, List.getElem_toArray, List.getElem_cons_zero, List.getElem_cons_succ, List.setIfInBounds_toArray, List.set_cons_zero, List.set_cons_succ]
          refine wpAnyH_ready (rs := [2]) (by kernel_rfl) (by simp) ?_
          refine AllReadyH.cons rfl (fun K hK => ?_) AllReadyH.nil
          rw [if_pos (by rfl)]
          go_simp
          refine (rf_New z0 m hm1 hm2).mono ?_
          rintro e z2 ⟨q, T, rfl, hE2, hF2, hT2⟩
          have hb2 := lt_of_cell hHeld.1
          refine hK.out _ _ ⟨(hF2.cell (lt_of_cell hHeld.1) id).trans hHeld.1, (hF2.cell (lt_of_cell hHeld.2.1) id).trans hHeld.2.1, (hF2.cell (lt_of_cell hHeld.2.2) id).trans hHeld.2.2⟩ (fun hHeld => ?_)
          clear hK K
          try simp only [Act.put, List.getElem_toArray, List.getElem_cons_zero, List.getElem_cons_succ, List.setIfInBounds_toArray, List.set_cons_zero, List.set_cons_succ]
          have hdisj : ∀ j, S j → ¬ T j := fun j hj ht => by have := HD0.out.lt j hj; have := hT2 j ht; omega
          have HD2 := hid (HD0.out.no hF2)
          have HF2 := hid (HF0.out.trans hF2)
          have hTb : ∀ j, T j → wb.heap.size ≤ j := fun j ht => by have := hT2 j ht; have := HF0.out.size; omega
          refine wpAnyH_ready (rs := [7]) (by kernel_rfl) (by simp) ?_
          refine AllReadyH.cons rfl (fun K hK => ?_) AllReadyH.nil
          rw [if_pos (by rfl)]
          go_simp
          refine (dv_does z2 p q S T D (newD m) HD2.out hE2 hdisj ⟨ask, sec, nn⟩ HAS.out hlenD (by show 0 ≤ 100000; decide) (by show 0 ≤ 100000; decide)).mono ?_
          rintro e z7 ⟨⟨bb, rfl⟩, S', T', hD7, _, hF7, hM7, _, _⟩
          have hnb : ∀ j, j < wb.heap.size → ¬ (S j ∨ T j) := fun j hj e => e.elim (fun e => by have := HS.out j e; omega) (fun e => by have := hTb j e; omega)
          have hbw : b < wb.heap.size := hb
          refine hK.out _ _ ⟨(hF7.cell (lt_of_cell hHeld.1) (hnb b hbw)).trans hHeld.1, (hF7.cell (lt_of_cell hHeld.2.1) (hnb b hbw)).trans hHeld.2.1, (hF7.cell (lt_of_cell hHeld.2.2) (hnb b hbw)).trans hHeld.2.2⟩ (fun hHeld => ?_)
          clear hK K
          try simp only [Act.put, List.getElem_toArray, List.getElem_cons_zero, List.getElem_cons_succ, List.setIfInBounds_toArray, List.set_cons_zero, List.set_cons_succ]
          rw [← HST2.out] at hD7
          have HD7 := hid hD7
          have HS7 : Hid (∀ j, S' j → wb.heap.size ≤ j) := fun j hj => (hM7.1 j hj).elim (fun e => HS.out j e) (fun e => by have := HF2.out.size; omega)
          have HF7 := hid (HF2.out.then hF7 (fun i hi e => absurd e (hnb i hi)))
          clear hD7 hF7 hM7 hnb hE2 hF2 hT2 hTb hdisj
          refine wpAnyH_done (by kernel_rfl) ?_ _
          go_wp2_with fail
          go_roundg g
          case measure => omega
          case rel => exact ⟨k + 1, S', by omega, by go_num, HD7, HS7, HF7⟩
      · have HST2 : Hid (runF (newD m) xs (k + 1) = D) := by unfold Hid; rw [HST.out]; exact if_neg hask
        have h0 : (ask == 0) = false := by simp; omega
        have h2 : (ask == 2) = false := by simp; omega
        rw [← HST2.out] at HD
        clear hask HST HST2 k1 k2
        go_wp2_with fail
        go_roundg g
        case measure => omega
        case rel => exact ⟨k + 1, S, by omega, by go_num, HD, HS, HF⟩
    | zero =>
      obtain rfl : k = xs.length := by omega
      have hPl := Plain.run hm1 hm2 xs xs.length (Nat.le_refl _)
      obtain ⟨D, hD⟩ : ∃ D, runF (newD m) xs xs.length = D := ⟨_, rfl⟩
      rw [hD] at HD hPl
      have HPl := hid (hPl.up hxl)
      have b1r := (HF.out.cell (p := ⟨w.heap.size, 1, none⟩) (lt_of_block HB.out) id).trans b1
      have b2r := (HF.out.cell (p := ⟨w.heap.size, 2, none⟩) (lt_of_block HB.out) id).trans b2
      clear hD hPl b1 b2 HDn HSn HFn
      go_wp2_with fail
      have hlen := HPl.out.opn
      refine (dv_Copy wr p S D HD.out (by omega) (by rw [HPl.out.plan]; decide)).mono ?_
      rintro e w2 ⟨pc, Sc, rfl, hC2, hF2, hSc⟩
      have HC2 := hid hC2
      have HD2 := hid (HD.out.no hF2)
      have HSC := hid hSc
      have hSS : ∀ j, Sc j → ¬ S j := fun j hj hs => by have := hSc j hj; have := HD.out.lt j hs; omega
      have HF2 := hid (HF.out.trans hF2)
      have b12 := (hF2.cell (p := ⟨w.heap.size, 1, none⟩) (lt_of_cell b1r) id).trans b1r
      have b22 := (hF2.cell (p := ⟨w.heap.size, 2, none⟩) (lt_of_cell b2r) id).trans b2r
      clear hC2 hF2 hSc HD HF b1r b2r
      obtain ⟨F, O, P⟩ := D
      obtain rfl : P = [] := HPl.out.plan
      obtain ⟨bb, hbb⟩ : ∃ bb, (Int.tmod n 2 == 0) = bb := ⟨_, rfl⟩
      cases bb
      · go_wp2_with fail
        have hsl := heap_new w2 (.cells #[.int .i64 (1 : Nat), .int .i64 (1 : Nat), .int .i64 (1 : Nat)] 3)
        have hFs := (Fr.refl No w2).alloc (.cells #[.int .i64 (1 : Nat), .int .i64 (1 : Nat), .int .i64 (1 : Nat)] 3)
        have hrow : Row (w2.alloc (.cells #[.int .i64 (1 : Nat), .int .i64 (1 : Nat), .int .i64 (1 : Nat)] 3)) (some ⟨w2.heap.size, 0, none⟩) ([1, 1, 1].map nv) := Row.of_blk hsl (n := 3) rfl (by decide)
        change Calls _ _ _ (w2.alloc (.cells #[.int .i64 (1 : Nat), .int .i64 (1 : Nat), .int .i64 (1 : Nat)] 3)) _
        have hD3 := HD2.out.no hFs
        have hC3 := HC2.out.no hFs
        obtain ⟨w3, hw3⟩ : ∃ w3, w2.alloc (.cells #[.int .i64 (1 : Nat), .int .i64 (1 : Nat), .int .i64 (1 : Nat)] 3) = w3 := ⟨_, rfl⟩
        rw [hw3] at hrow hD3 hC3 hFs ⊢
        have HF3 := hid (HF2.out.trans hFs)
        have b13 := (hFs.cell (p := ⟨w.heap.size, 1, none⟩) (lt_of_cell b12) id).trans b12
        have HC3 := hid hC3
        clear hw3 hsl hFs HD2 HC2 HF2 b12 hC3
        refine (dv_Plan w3 p S _ hD3 _ 3 [1, 1, 1] (.inr ⟨by simp, hrow⟩) (by decide) (by show 0 + 3 ≤ 100000; decide)).mono ?_
        rintro e w4 ⟨rfl, S4, hD4, hF4, hM4⟩
        have HD4 : Hid (PD w4 p S4 ⟨F, O, [1, 1, 1]⟩) := hD4
        have hSb4 : ∀ j, S4 j → wb.heap.size ≤ j := fun j hj => (hM4 j hj).elim (fun e => HS.out j e) (fun e => by have := HF3.out.size; omega)
        have hSC4 : ∀ j, Sc j → ¬ S4 j := fun j hj hs => (hM4 j hs).elim (fun e => hSS j hj e) (fun e => by have := HC3.out.lt j hj; omega)
        have HC4 := hid (HC3.out.fr hF4 hSS)
        have HF4 := hid (HF3.out.then hF4 (fun i hi e => absurd hi (by have := HS.out i e; omega)))
        have b14 := (hF4.cell (p := ⟨w.heap.size, 1, none⟩) (lt_of_cell b13) (fun e => by have := HS.out _ e; have hz := lt_of_block HB.out; have hz : w.heap.size < wb.heap.size := hz; have e2 : wb.heap.size ≤ w.heap.size := this; omega)).trans b13
        clear hD4 hF4 hM4 HC3 HF3 b13 hD3 hrow
        go_wp2_with fail
        refine wp_region_held_drew (S := fun W => W.cell? ⟨w.heap.size, 1, none⟩ = some (.int .i64 s)) (by kernel_rfl) b14 (fun hHeld => ?_)
        have HD4 := hid (HD4.out.no (Fr.refl No w4).drew)
        have HC4 := hid (HC4.out.no (Fr.refl No w4).drew)
        have HF4 := hid HF4.out.drew
        obtain ⟨z4, hz4⟩ : ∃ z4, w4.drew = z4 := ⟨_, rfl⟩
        rw [hz4] at HD4 HC4 HF4 hHeld ⊢
        clear hz4 b14
        refine wpAnyH_take (i := 0) (v := ?_) rfl (by kernel_rfl) (by kernel_rfl) (by kernel_rfl) (fun _ _ _ h => h) (Or.inl ⟨by rfl, ?_⟩) hHeld ?_
        rotate_left
        · intro w hSw
          go_simp
          with_reducible rfl
        try simp only [Act.put, List.getElem_toArray, List.getElem_cons_zero, List.getElem_cons_succ, List.setIfInBounds_toArray, List.set_cons_zero, List.set_cons_succ]
        refine wpAnyH_take (i := 1) (v := ?_) rfl (by kernel_rfl) (by kernel_rfl) (by kernel_rfl) (fun _ _ _ h => h) (Or.inl ⟨by rfl, ?_⟩) hHeld ?_
        rotate_left
        · intro w hSw
          go_simp
          with_reducible rfl
        try simp only [Act.put, List.getElem_toArray, List.getElem_cons_zero, List.getElem_cons_succ, List.setIfInBounds_toArray, List.set_cons_zero, List.set_cons_succ]
        refine wpAnyH_take (i := 2) (v := ?_) rfl (by kernel_rfl) (by kernel_rfl) (by kernel_rfl) (fun _ _ _ h => h) (Or.inl ⟨by rfl, ?_⟩) hHeld ?_
        rotate_left
        · intro w hSw
          go_simp
          with_reducible rfl
        try simp only [Act.put, List.getElem_toArray, List.getElem_cons_zero, List.getElem_cons_succ, List.setIfInBounds_toArray, List.set_cons_zero, List.set_cons_succ]
        refine wpAnyH_ready (rs := [3]) (by kernel_rfl) (by simp) ?_
        refine AllReadyH.cons rfl (fun K hK => ?_) AllReadyH.nil
        rw [if_pos (by rfl)]
        go_simp
        refine (dv_mark z4 77).mono ?_
        rintro e w5 ⟨rfl, hF5⟩
        refine hK.out _ _ ((hF5.cell (lt_of_cell hHeld) id).trans hHeld) (fun hHeld => ?_)
        clear hK K
        try simp only [Act.put, List.getElem_toArray, List.getElem_cons_zero, List.getElem_cons_succ, List.setIfInBounds_toArray, List.set_cons_zero, List.set_cons_succ]
        have HD5 := hid (HD4.out.no hF5)
        have HC5 := hid (HC4.out.no hF5)
        have HF5 := hid (HF4.out.trans hF5)
        clear hF5 HD4 HC4 HF4
        refine wpAnyH_ready (rs := [4]) (by kernel_rfl) (by simp) ?_
        refine AllReadyH.cons rfl (fun K hK => ?_) AllReadyH.nil
        rw [if_pos (by rfl)]
        go_simp
        refine (dv_Write w5 p S4 ⟨F, O, [1, 1, 1]⟩ HD5.out s (by have := HPl.out.firm; have e : F.length = m := this; show s < F.length; omega) (markB 77) (markB_len 77) (by show O.length ≤ 100000; have := HPl.out.opn; have e : O.length ≤ 80 := this; omega)).mono ?_
        rintro e w6 ⟨rfl, S6, hD6, hF6, hM6⟩
        have b16 := (hF6.cell (p := ⟨w.heap.size, 1, none⟩) (lt_of_cell hHeld) (fun e => by have e2 : wb.heap.size ≤ w.heap.size := hSb4 _ e; have hz : w.heap.size < wb.heap.size := lt_of_block HB.out; omega)).trans hHeld
        refine hK.out _ _ b16 (fun hHeld => ?_)
        clear hK K
        try simp only [Act.put, List.getElem_toArray, List.getElem_cons_zero, List.getElem_cons_succ, List.setIfInBounds_toArray, List.set_cons_zero, List.set_cons_succ]
        have HD6 : Hid (PD w6 p S6 ⟨F, O, [1, 1]⟩) := hD6
        have hSb6 : ∀ j, S6 j → wb.heap.size ≤ j := fun j hj => (hM6.1 j hj).elim (fun e => hSb4 j e) (fun e => by have := HF5.out.size; omega)
        have hSC6 : ∀ j, Sc j → ¬ S6 j := fun j hj hs => (hM6.1 j hs).elim (fun e => hSC4 j hj e) (fun e => by have := HC5.out.lt j hj; omega)
        have HC6 := hid (HC5.out.fr hF6 hSC4)
        have HF6 := hid (HF5.out.then hF6 (fun i hi e => absurd hi (by have := hSb4 i e; omega)))
        rw [show writeE ⟨F, O, [1, 1, 1]⟩ = 20 from rfl]
        clear hD6 hF6 hM6 HC5 HF5 HD5
        refine wpAnyH_take (i := 5) (v := ?_) rfl (by kernel_rfl) (by kernel_rfl) (by kernel_rfl) (fun _ _ _ h => h) (Or.inl ⟨by rfl, ?_⟩) hHeld ?_
        rotate_left
        · intro w hSw
          go_simp
          with_reducible rfl
        try simp only [Act.put, List.getElem_toArray, List.getElem_cons_zero, List.getElem_cons_succ, List.setIfInBounds_toArray, List.set_cons_zero, List.set_cons_succ]
        refine wpAnyH_done (by kernel_rfl) ?_ _
        go_wp2_with fail
        refine (dv_Flush w6 p S6 ⟨F, O, [1, 1]⟩ HD6.out (by show O.length ≤ 100000; have := HPl.out.opn; have e : O.length ≤ 80 := this; omega)).mono ?_
        rintro e w7 ⟨rfl, hD7, hF7⟩
        have HD7 : Hid (PD w7 p S6 ⟨F, O, [1]⟩) := hD7
        have HC7 := hid (HC6.out.fr hF7 hSC6)
        have HF7 := hid (HF6.out.then hF7 (fun i hi e => absurd hi (by have := hSb6 i e; omega)))
        have b17 := (hF7.cell (p := ⟨w.heap.size, 1, none⟩) (lt_of_cell b16) (fun e => by have e2 : wb.heap.size ≤ w.heap.size := hSb6 _ e; have hz : w.heap.size < wb.heap.size := lt_of_block HB.out; omega)).trans b16
        rw [show flushE ⟨F, O, [1, 1]⟩ = 21 from rfl]
        clear hD7 hF7 HC6 HF6 b16 HD6
        go_wp2_with fail
        refine (dv_Read w7 p S6 ⟨F, O, [1]⟩ HD7.out s (by have := HPl.out.firm; have e : F.length = m := this; show s < F.length; omega) (by show O.length ≤ 100000; have := HPl.out.opn; have e : O.length ≤ 80 := this; omega)).mono ?_
        rintro e w8 ⟨rfl, hD8, hF8⟩
        have HD8 : Hid (PD w8 p S6 ⟨F, O, []⟩) := hD8
        have HC8 := hid (HC7.out.fr hF8 hSC6)
        have HF8 := hid (HF7.out.then hF8 (fun i hi e => absurd hi (by have := hSb6 i e; omega)))
        rw [show readE ⟨F, O, [1]⟩ = 19 from rfl, show readB ⟨F, O, [1]⟩ s = zeros from rfl, ← HZ.out]
        clear hD8 hF8 HC7 HF7 b17 HD7
        have HN8 := hid (heap_new w8 (.cells (blkA zeros) 42))
        have HP8 := put_blk w8 (blkA zeros) Z
        go_wp2_with (refine wpList_store_row rfl 42 _ _ rfl w8.heap.size (blkA Z) rfl rfl 42 (blkA zeros) HN8.out HIZ.out HSZ.out H1Z.out ?_)
        change Calls _ _ _ ((w8.alloc (.cells (blkA zeros) 42)).setRow w8.heap.size (blkA Z)) _
        obtain ⟨w9, hw9⟩ : ∃ w9, (w8.alloc (.cells (blkA zeros) 42)).setRow w8.heap.size (blkA Z) = w9 := ⟨_, rfl⟩
        rw [hw9] at HP8 ⊢
        have HD9 := hid (HD8.out.no HP8.2)
        have HC9 := hid (HC8.out.no HP8.2)
        have HF9 := hid (HF8.out.trans HP8.2)
        clear hw9 HP8 HN8 HD8 HC8 HF8
        refine (dv_Read_bad w9 (some ⟨p, 0, none⟩) m 10 (by decide) (fun W f => dv_find_bad W p S6 ⟨F, O, []⟩ (HD9.out.no f) m (.inr (by have := HPl.out.firm; have e : F.length = m := this; show (F.length : Int) ≤ m; omega)))).mono ?_
        rintro e w10 ⟨rfl, hF10⟩
        rw [← HZ.out]
        have HD10 := hid (HD9.out.no hF10)
        have HC10 := hid (HC9.out.no hF10)
        have HF10 := hid (HF9.out.trans hF10)
        clear hF10 HD9 HC9 HF9
        have HN10 := hid (heap_new w10 (.cells (blkA zeros) 42))
        have HP10 := put_blk w10 (blkA zeros) Z
        go_wp2_with (refine wpList_store_row rfl 42 _ _ rfl w10.heap.size (blkA Z) rfl rfl 42 (blkA zeros) HN10.out HIZ.out HSZ.out H1Z.out ?_)
        change Calls _ _ _ ((w10.alloc (.cells (blkA zeros) 42)).setRow w10.heap.size (blkA Z)) _
        obtain ⟨w11, hw11⟩ : ∃ w11, (w10.alloc (.cells (blkA zeros) 42)).setRow w10.heap.size (blkA Z) = w11 := ⟨_, rfl⟩
        rw [hw11] at HP10 ⊢
        have HD11 := hid (HD10.out.no HP10.2)
        have HC11 := hid (HC10.out.no HP10.2)
        have HF11 := hid (HF10.out.trans HP10.2)
        clear hw11 HP10 HN10 HD10 HC10 HF10
        refine (dv_Planned w11 p S6 ⟨F, O, []⟩ HD11.out).mono ?_
        rintro e w12 ⟨rfl, rfl⟩
        rw [show (((⟨F, O, []⟩ : DM).plan.length : Nat) : Int) = 0 from rfl]
        go_wp2_with fail
        refine (dv_Same w12 pc p Sc S6 ⟨F, O, []⟩ HC11.out HD11.out (by show O.length ≤ 100000; have := HPl.out.opn; have e : O.length ≤ 80 := this; omega) (by show 0 ≤ 100000; decide)).mono ?_
        rintro e w13 ⟨rfl, hF13⟩
        have HF13 := hid (HF11.out.trans hF13)
        clear hF13 HD11 HC11 HF11
        go_wp2_with fail
        refine (dv_awake w13).mono ?_
        rintro e w14 ⟨rfl, hF14⟩
        go_wp2_with fail
        go_ret
        exact ⟨rfl, HFb.out.trans (HF13.out.trans hF14)⟩
      · go_wp2_with fail
        have hsl := heap_new w2 (.cells #[.int .i64 (2 : Nat), .int .i64 (2 : Nat), .int .i64 (1 : Nat)] 3)
        have hFs := (Fr.refl No w2).alloc (.cells #[.int .i64 (2 : Nat), .int .i64 (2 : Nat), .int .i64 (1 : Nat)] 3)
        have hrow : Row (w2.alloc (.cells #[.int .i64 (2 : Nat), .int .i64 (2 : Nat), .int .i64 (1 : Nat)] 3)) (some ⟨w2.heap.size, 0, none⟩) ([2, 2, 1].map nv) := Row.of_blk hsl (n := 3) rfl (by decide)
        change Calls _ _ _ (w2.alloc (.cells #[.int .i64 (2 : Nat), .int .i64 (2 : Nat), .int .i64 (1 : Nat)] 3)) _
        have hD3 := HD2.out.no hFs
        have hC3 := HC2.out.no hFs
        obtain ⟨w3, hw3⟩ : ∃ w3, w2.alloc (.cells #[.int .i64 (2 : Nat), .int .i64 (2 : Nat), .int .i64 (1 : Nat)] 3) = w3 := ⟨_, rfl⟩
        rw [hw3] at hrow hD3 hC3 hFs ⊢
        have HF3 := hid (HF2.out.trans hFs)
        have b13 := (hFs.cell (p := ⟨w.heap.size, 1, none⟩) (lt_of_cell b12) id).trans b12
        have HC3 := hid hC3
        clear hw3 hsl hFs HD2 HC2 HF2 b12 hC3
        refine (dv_Plan w3 p S _ hD3 _ 3 [2, 2, 1] (.inr ⟨by simp, hrow⟩) (by decide) (by show 0 + 3 ≤ 100000; decide)).mono ?_
        rintro e w4 ⟨rfl, S4, hD4, hF4, hM4⟩
        have HD4 : Hid (PD w4 p S4 ⟨F, O, [2, 2, 1]⟩) := hD4
        have hSb4 : ∀ j, S4 j → wb.heap.size ≤ j := fun j hj => (hM4 j hj).elim (fun e => HS.out j e) (fun e => by have := HF3.out.size; omega)
        have hSC4 : ∀ j, Sc j → ¬ S4 j := fun j hj hs => (hM4 j hs).elim (fun e => hSS j hj e) (fun e => by have := HC3.out.lt j hj; omega)
        have HC4 := hid (HC3.out.fr hF4 hSS)
        have HF4 := hid (HF3.out.then hF4 (fun i hi e => absurd hi (by have := HS.out i e; omega)))
        have b14 := (hF4.cell (p := ⟨w.heap.size, 1, none⟩) (lt_of_cell b13) (fun e => by have := HS.out _ e; have hz := lt_of_block HB.out; have hz : w.heap.size < wb.heap.size := hz; have e2 : wb.heap.size ≤ w.heap.size := this; omega)).trans b13
        clear hD4 hF4 hM4 HC3 HF3 b13 hD3 hrow
        go_wp2_with fail
        refine wp_region_held_drew (S := fun W => W.cell? ⟨w.heap.size, 1, none⟩ = some (.int .i64 s)) (by kernel_rfl) b14 (fun hHeld => ?_)
        have HD4 := hid (HD4.out.no (Fr.refl No w4).drew)
        have HC4 := hid (HC4.out.no (Fr.refl No w4).drew)
        have HF4 := hid HF4.out.drew
        obtain ⟨z4, hz4⟩ : ∃ z4, w4.drew = z4 := ⟨_, rfl⟩
        rw [hz4] at HD4 HC4 HF4 hHeld ⊢
        clear hz4 b14
        refine wpAnyH_take (i := 0) (v := ?_) rfl (by kernel_rfl) (by kernel_rfl) (by kernel_rfl) (fun _ _ _ h => h) (Or.inl ⟨by rfl, ?_⟩) hHeld ?_
        rotate_left
        · intro w hSw
          go_simp
          with_reducible rfl
        try simp only [Act.put, List.getElem_toArray, List.getElem_cons_zero, List.getElem_cons_succ, List.setIfInBounds_toArray, List.set_cons_zero, List.set_cons_succ]
        refine wpAnyH_take (i := 1) (v := ?_) rfl (by kernel_rfl) (by kernel_rfl) (by kernel_rfl) (fun _ _ _ h => h) (Or.inl ⟨by rfl, ?_⟩) hHeld ?_
        rotate_left
        · intro w hSw
          go_simp
          with_reducible rfl
        try simp only [Act.put, List.getElem_toArray, List.getElem_cons_zero, List.getElem_cons_succ, List.setIfInBounds_toArray, List.set_cons_zero, List.set_cons_succ]
        refine wpAnyH_take (i := 2) (v := ?_) rfl (by kernel_rfl) (by kernel_rfl) (by kernel_rfl) (fun _ _ _ h => h) (Or.inl ⟨by rfl, ?_⟩) hHeld ?_
        rotate_left
        · intro w hSw
          go_simp
          with_reducible rfl
        try simp only [Act.put, List.getElem_toArray, List.getElem_cons_zero, List.getElem_cons_succ, List.setIfInBounds_toArray, List.set_cons_zero, List.set_cons_succ]
        refine wpAnyH_ready (rs := [3]) (by kernel_rfl) (by simp) ?_
        refine AllReadyH.cons rfl (fun K hK => ?_) AllReadyH.nil
        rw [if_pos (by rfl)]
        go_simp
        refine (dv_mark z4 77).mono ?_
        rintro e w5 ⟨rfl, hF5⟩
        refine hK.out _ _ ((hF5.cell (lt_of_cell hHeld) id).trans hHeld) (fun hHeld => ?_)
        clear hK K
        try simp only [Act.put, List.getElem_toArray, List.getElem_cons_zero, List.getElem_cons_succ, List.setIfInBounds_toArray, List.set_cons_zero, List.set_cons_succ]
        have HD5 := hid (HD4.out.no hF5)
        have HC5 := hid (HC4.out.no hF5)
        have HF5 := hid (HF4.out.trans hF5)
        clear hF5 HD4 HC4 HF4
        refine wpAnyH_ready (rs := [4]) (by kernel_rfl) (by simp) ?_
        refine AllReadyH.cons rfl (fun K hK => ?_) AllReadyH.nil
        rw [if_pos (by rfl)]
        go_simp
        refine (dv_Write w5 p S4 ⟨F, O, [2, 2, 1]⟩ HD5.out s (by have := HPl.out.firm; have e : F.length = m := this; show s < F.length; omega) (markB 77) (markB_len 77) (by show O.length ≤ 100000; have := HPl.out.opn; have e : O.length ≤ 80 := this; omega)).mono ?_
        rintro e w6 ⟨rfl, S6, hD6, hF6, hM6⟩
        have b16 := (hF6.cell (p := ⟨w.heap.size, 1, none⟩) (lt_of_cell hHeld) (fun e => by have e2 : wb.heap.size ≤ w.heap.size := hSb4 _ e; have hz : w.heap.size < wb.heap.size := lt_of_block HB.out; omega)).trans hHeld
        refine hK.out _ _ b16 (fun hHeld => ?_)
        clear hK K
        try simp only [Act.put, List.getElem_toArray, List.getElem_cons_zero, List.getElem_cons_succ, List.setIfInBounds_toArray, List.set_cons_zero, List.set_cons_succ]
        have HD6 : Hid (PD w6 p S6 ⟨F, O, [2, 1]⟩) := hD6
        have hSb6 : ∀ j, S6 j → wb.heap.size ≤ j := fun j hj => (hM6.1 j hj).elim (fun e => hSb4 j e) (fun e => by have := HF5.out.size; omega)
        have hSC6 : ∀ j, Sc j → ¬ S6 j := fun j hj hs => (hM6.1 j hs).elim (fun e => hSC4 j hj e) (fun e => by have := HC5.out.lt j hj; omega)
        have HC6 := hid (HC5.out.fr hF6 hSC4)
        have HF6 := hid (HF5.out.then hF6 (fun i hi e => absurd hi (by have := hSb4 i e; omega)))
        rw [show writeE ⟨F, O, [2, 2, 1]⟩ = 0 from rfl]
        clear hD6 hF6 hM6 HC5 HF5 HD5
        refine wpAnyH_take (i := 5) (v := ?_) rfl (by kernel_rfl) (by kernel_rfl) (by kernel_rfl) (fun _ _ _ h => h) (Or.inl ⟨by rfl, ?_⟩) hHeld ?_
        rotate_left
        · intro w hSw
          go_simp
          with_reducible rfl
        try simp only [Act.put, List.getElem_toArray, List.getElem_cons_zero, List.getElem_cons_succ, List.setIfInBounds_toArray, List.set_cons_zero, List.set_cons_succ]
        refine wpAnyH_done (by kernel_rfl) ?_ _
        go_wp2_with fail
        refine (dv_Flush w6 p S6 ⟨F, O, [2, 1]⟩ HD6.out (by show O.length ≤ 100000; have := HPl.out.opn; have e : O.length ≤ 80 := this; omega)).mono ?_
        rintro e w7 ⟨rfl, hD7, hF7⟩
        have HD7 : Hid (PD w7 p S6 ⟨F, O, [1]⟩) := hD7
        have HC7 := hid (HC6.out.fr hF7 hSC6)
        have HF7 := hid (HF6.out.then hF7 (fun i hi e => absurd hi (by have := hSb6 i e; omega)))
        have b17 := (hF7.cell (p := ⟨w.heap.size, 1, none⟩) (lt_of_cell b16) (fun e => by have e2 : wb.heap.size ≤ w.heap.size := hSb6 _ e; have hz : w.heap.size < wb.heap.size := lt_of_block HB.out; omega)).trans b16
        rw [show flushE ⟨F, O, [2, 1]⟩ = 0 from rfl]
        clear hD7 hF7 HC6 HF6 b16 HD6
        go_wp2_with fail
        refine (dv_Read w7 p S6 ⟨F, O, [1]⟩ HD7.out s (by have := HPl.out.firm; have e : F.length = m := this; show s < F.length; omega) (by show O.length ≤ 100000; have := HPl.out.opn; have e : O.length ≤ 80 := this; omega)).mono ?_
        rintro e w8 ⟨rfl, hD8, hF8⟩
        have HD8 : Hid (PD w8 p S6 ⟨F, O, []⟩) := hD8
        have HC8 := hid (HC7.out.fr hF8 hSC6)
        have HF8 := hid (HF7.out.then hF8 (fun i hi e => absurd hi (by have := hSb6 i e; omega)))
        rw [show readE ⟨F, O, [1]⟩ = 19 from rfl, show readB ⟨F, O, [1]⟩ s = zeros from rfl, ← HZ.out]
        clear hD8 hF8 HC7 HF7 b17 HD7
        have HN8 := hid (heap_new w8 (.cells (blkA zeros) 42))
        have HP8 := put_blk w8 (blkA zeros) Z
        go_wp2_with (refine wpList_store_row rfl 42 _ _ rfl w8.heap.size (blkA Z) rfl rfl 42 (blkA zeros) HN8.out HIZ.out HSZ.out H1Z.out ?_)
        change Calls _ _ _ ((w8.alloc (.cells (blkA zeros) 42)).setRow w8.heap.size (blkA Z)) _
        obtain ⟨w9, hw9⟩ : ∃ w9, (w8.alloc (.cells (blkA zeros) 42)).setRow w8.heap.size (blkA Z) = w9 := ⟨_, rfl⟩
        rw [hw9] at HP8 ⊢
        have HD9 := hid (HD8.out.no HP8.2)
        have HC9 := hid (HC8.out.no HP8.2)
        have HF9 := hid (HF8.out.trans HP8.2)
        clear hw9 HP8 HN8 HD8 HC8 HF8
        refine (dv_Read_bad w9 (some ⟨p, 0, none⟩) m 10 (by decide) (fun W f => dv_find_bad W p S6 ⟨F, O, []⟩ (HD9.out.no f) m (.inr (by have := HPl.out.firm; have e : F.length = m := this; show (F.length : Int) ≤ m; omega)))).mono ?_
        rintro e w10 ⟨rfl, hF10⟩
        rw [← HZ.out]
        have HD10 := hid (HD9.out.no hF10)
        have HC10 := hid (HC9.out.no hF10)
        have HF10 := hid (HF9.out.trans hF10)
        clear hF10 HD9 HC9 HF9
        have HN10 := hid (heap_new w10 (.cells (blkA zeros) 42))
        have HP10 := put_blk w10 (blkA zeros) Z
        go_wp2_with (refine wpList_store_row rfl 42 _ _ rfl w10.heap.size (blkA Z) rfl rfl 42 (blkA zeros) HN10.out HIZ.out HSZ.out H1Z.out ?_)
        change Calls _ _ _ ((w10.alloc (.cells (blkA zeros) 42)).setRow w10.heap.size (blkA Z)) _
        obtain ⟨w11, hw11⟩ : ∃ w11, (w10.alloc (.cells (blkA zeros) 42)).setRow w10.heap.size (blkA Z) = w11 := ⟨_, rfl⟩
        rw [hw11] at HP10 ⊢
        have HD11 := hid (HD10.out.no HP10.2)
        have HC11 := hid (HC10.out.no HP10.2)
        have HF11 := hid (HF10.out.trans HP10.2)
        clear hw11 HP10 HN10 HD10 HC10 HF10
        refine (dv_Planned w11 p S6 ⟨F, O, []⟩ HD11.out).mono ?_
        rintro e w12 ⟨rfl, rfl⟩
        rw [show (((⟨F, O, []⟩ : DM).plan.length : Nat) : Int) = 0 from rfl]
        go_wp2_with fail
        refine (dv_Same w12 pc p Sc S6 ⟨F, O, []⟩ HC11.out HD11.out (by show O.length ≤ 100000; have := HPl.out.opn; have e : O.length ≤ 80 := this; omega) (by show 0 ≤ 100000; decide)).mono ?_
        rintro e w13 ⟨rfl, hF13⟩
        have HF13 := hid (HF11.out.trans hF13)
        clear hF13 HD11 HC11 HF11
        go_wp2_with fail
        refine (dv_awake w13).mono ?_
        rintro e w14 ⟨rfl, hF14⟩
        go_wp2_with fail
        go_ret
        exact ⟨rfl, HFb.out.trans (HF13.out.trans hF14)⟩

set_option maxRecDepth 100000 in
theorem fates_size (w : World) (m : Int) (hm : m < 1 ∨ 40 < m) (v : Value) (xa s n : Int) :
    Calls Try.prog 7 #[.int .i64 m, v, .agg #[.int .i64 xa, .int .i64 s, .int .i64 n]] w fun e w' => e = .returned (.bool true) ∧ Fr No w w' := by
  have HFb := hid ((Fr.refl No w).alloc (.cells #[.int .i64 xa, .int .i64 s, .int .i64 n] 33))
  by_cases h1 : m < 1
  · clear hm
    go_enter Try.func7, Try.ntmps7
    go_wp2_with fail
    refine (dv_awake _).mono ?_
    rintro e w2 ⟨rfl, hF2⟩
    go_wp2_with fail
    go_ret
    exact ⟨rfl, HFb.out.trans hF2⟩
  · have h2 : 40 < m := by omega
    clear hm
    go_enter Try.func7, Try.ntmps7
    go_wp2_with fail
    refine (dv_awake _).mono ?_
    rintro e w2 ⟨rfl, hF2⟩
    go_wp2_with fail
    go_ret
    exact ⟨rfl, HFb.out.trans hF2⟩
set_option maxRecDepth 100000 in
theorem fates_many (w : World) (m : Int) (hm1 : 1 ≤ m) (hm2 : m ≤ 40) (a : Option Addr) (k c : Nat) (hk : 80 < k) (xa s n : Int) :
    Calls Try.prog 7 #[.int .i64 m, .slice a k c, .agg #[.int .i64 xa, .int .i64 s, .int .i64 n]] w fun e w' => e = .returned (.bool true) ∧ Fr No w w' := by
  have HFb := hid ((Fr.refl No w).alloc (.cells #[.int .i64 xa, .int .i64 s, .int .i64 n] 33))
  go_enter Try.func7, Try.ntmps7
  go_wp2_with fail
  refine (dv_few_not _ a k c hk).mono ?_
  rintro e w1 ⟨rfl, rfl⟩
  go_wp2_with fail
  refine (dv_awake _).mono ?_
  rintro e w2 ⟨rfl, hF2⟩
  go_wp2_with fail
  go_ret
  exact ⟨rfl, HFb.out.trans hF2⟩
set_option maxRecDepth 100000 in
theorem fates_off (w : World) (m : Int) (hm1 : 1 ≤ m) (hm2 : m ≤ 40) (a : Option Addr) (k c : Nat) (hk : k ≤ 80) (xa s n : Int) (hs : s < 0 ∨ m ≤ s) :
    Calls Try.prog 7 #[.int .i64 m, .slice a k c, .agg #[.int .i64 xa, .int .i64 s, .int .i64 n]] w fun e w' => e = .returned (.bool true) ∧ Fr No w w' := by
  have hb0 := heap_new w (.cells #[.int .i64 xa, .int .i64 s, .int .i64 n] 33)
  have HFb := hid ((Fr.refl No w).alloc (.cells #[.int .i64 xa, .int .i64 s, .int .i64 n] 33))
  have b1 := cell_blk hb0 1
  simp only [List.getElem?_toArray, List.getElem?_cons_zero, List.getElem?_cons_succ] at b1
  clear hb0
  by_cases h1 : s < 0
  · clear hs
    go_enter Try.func7, Try.ntmps7
    go_wp2_with fail
    refine (dv_few _ a k c hk).mono ?_
    rintro e w1 ⟨rfl, rfl⟩
    go_wp2_with fail
    refine (dv_awake _).mono ?_
    rintro e w2 ⟨rfl, hF2⟩
    go_wp2_with fail
    go_ret
    exact ⟨rfl, HFb.out.trans hF2⟩
  · have h2 : m ≤ s := by omega
    clear hs
    go_enter Try.func7, Try.ntmps7
    go_wp2_with fail
    refine (dv_few _ a k c hk).mono ?_
    rintro e w1 ⟨rfl, rfl⟩
    go_wp2_with fail
    refine (dv_awake _).mono ?_
    rintro e w2 ⟨rfl, hF2⟩
    go_wp2_with fail
    go_ret
    exact ⟨rfl, HFb.out.trans hF2⟩
theorem law_DevFates (w : World) (m : Int) (_ : (Lit.int .i64 m).wf = true) (r : SRow) (hr : r.Ok w op3Sh) (x : OpM) (_ : (Lit.int .i64 x.n).wf = true) :
    Calls Try.prog 7 #[.int .i64 m, r.v, op3v x] w fun e w' => e = .returned (.bool true) ∧ Fr No w w' := by
  by_cases hm : m < 1 ∨ 40 < m
  · exact fates_size w m hm _ _ _ _
  obtain ⟨xs, e, hx⟩ := ops5_of hr
  rw [e]
  by_cases hk : 80 < xs.length
  · exact fates_many w m (by omega) (by omega) _ _ _ hk _ _ _
  by_cases hs : x.sec < 0 ∨ m ≤ x.sec
  · exact fates_off w m (by omega) (by omega) _ _ _ (by omega) _ _ _ hs
  obtain ⟨k, rfl⟩ := Int.eq_ofNat_of_zero_le (show 0 ≤ m by omega)
  obtain ⟨ask, sec, n⟩ := x
  obtain ⟨s, rfl⟩ := Int.eq_ofNat_of_zero_le (show 0 ≤ sec by simp at hs; omega)
  exact fates_in w k (by omega) (by omega) _ _ xs hx (by omega) ask s (by simp at hs; omega) n
end Go.Proofs.Ytcdchojdkdimbaa
