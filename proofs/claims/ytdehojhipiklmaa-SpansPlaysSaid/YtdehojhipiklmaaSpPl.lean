/- The law SpansPlays. -/
import Derived.Test.YtdehojhipiklmaaSpPb
import Derived.Great.Ranges
import Derived.Laws.Tables
namespace Go.Proofs.Ytdehojhipiklmaa
open Go.RowKit

theorem zero33 (o : Oper) (ho : o.op = .build 33 #[]) (ev : Operand → Value) (w : World) : (execOp ev o).run Try.prog w = .ok (.value (.agg (rb (List.replicate 200 false)))) w := by
  have hb : Try.prog.built 33 [] = some (rb (List.replicate 200 false)) := by kernel_rfl
  unfold execOp
  simp only [ho]
  have := run_build (P := Try.prog) w 33 #[] _ hb
  simp only [Array.map_empty, Sem.run_bind, this, Result.andThen_ok]
  rfl
theorem upto_zero : Upto (List.replicate 200 false) 200 [] := ⟨Good.nil, fun s h => by simp at h, fun y => ⟨fun h => absurd h (hasL_nil y), fun h => by
  have := h.2
  unfold onB at this
  rw [List.getElem?_replicate] at this
  split at this <;> simp at this⟩⟩
set_option maxRecDepth 100000 in
set_option maxHeartbeats 8000000 in
theorem law_SpansPlays (w : World) (r : SRow) (hr : r.Ok w op3Sh) (nn : Int) (hnn : (Lit.int .i64 nn).wf = true) (x : ISp) (hx : (Lit.int .i64 x.1).wf = true ∧ (Lit.int .i64 x.2).wf = true) :
    Calls Try.prog 3 #[r.v, .int .i64 nn, ispA x] w fun e w' => e = .returned (.bool true) ∧ Fr No w w' := by
  obtain ⟨l, hv, hE, hl63⟩ := ops3_of hr
  rw [hv]
  obtain ⟨ra, hra⟩ : ∃ ra, r.a = ra := ⟨_, rfl⟩
  obtain ⟨rc, hrc⟩ : ∃ rc, r.cap = rc := ⟨_, rfl⟩
  rw [hra] at hE
  rw [hra, hrc]
  clear hv hr hx hra hrc hnn
  obtain ⟨xa, xn⟩ := x
  show Calls _ _ #[_, _, .agg #[.int .i64 xa, .int .i64 xn]] _ _
  have hb0 := heap_new w (.cells #[.int .i64 xa, .int .i64 xn] 24)
  have hbk : w.heap.size < (w.alloc (.cells #[.int .i64 xa, .int .i64 xn] 24)).heap.size := lt_of_block hb0
  have b0 := cell_blk hb0 0
  have b1 := cell_blk hb0 1
  simp only [List.getElem?_toArray, List.getElem?_cons_zero, List.getElem?_cons_succ] at b0 b1
  clear hb0
  have hf0 : Fr No w (w.alloc (.cells #[.int .i64 xa, .int .i64 xn] 24)) := (Fr.refl No w).alloc _
  have HF0 := hid hf0
  have HE := hid hE
  have HN := hid (sp_New (w.alloc (.cells #[.int .i64 xa, .int .i64 xn] 24)) none 0 [] (by decide) (.inl rfl))
  clear hf0 hE
  go_enter Try.func3, Try.ntmps3
  go_wp2_with fail
  refine HN.out.mono ?_
  rintro e w1 (⟨_, v, rfl, p, S0, rfl, hS, hSn, hF⟩ | ⟨h, _⟩)
  case inr => exact absurd h (by decide)
  have HF1 := hid (HF0.out.trans hF)
  have c0 := (hF.cell (p := ⟨w.heap.size, 0, none⟩) hbk id).trans b0
  have c1 := (hF.cell (p := ⟨w.heap.size, 1, none⟩) hbk id).trans b1
  have hbk1 := hF.lt hbk
  have HS := hid hS
  have HSn : Hid (∀ k, S0 k → w.heap.size < k) := fun k hk => by have := hSn k hk; omega
  clear hF b0 b1 hbk HN hS hSn
  go_wp2_with fail
  refine (sp_small w1 ra rc l hl63 (Elems.no HE.out HF1.out)).mono ?_
  obtain ⟨sm, hsm⟩ : ∃ sm, smallB l = sm := ⟨_, rfl⟩
  rw [hsm]
  rintro e w2 ⟨rfl, hF⟩
  have HF2 := hid (HF1.out.trans hF)
  have d0 := (hF.cell (p := ⟨w.heap.size, 0, none⟩) hbk1 id).trans c0
  have d1 := (hF.cell (p := ⟨w.heap.size, 1, none⟩) hbk1 id).trans c1
  have hbk2 := hF.lt hbk1
  have HS2 := hid (HS.out.no hF)
  clear hF c0 c1 hbk1 HS HF1
  cases sm with
  | false =>
    go_wp2_with fail
    refine (sp_awake _).mono ?_
    rintro e w9 ⟨rfl, hF9⟩
    have HF9 := hid (HF2.out.trans hF9)
    clear hF9
    go_wp2_with fail
    try rw [Exit.noGoto_ret]
    go_ret
    exact ⟨rfl, HF9.out⟩
  | true =>
    unfold smallB at hsm
    rw [Bool.and_eq_true, List.all_eq_true, decide_eq_true_eq] at hsm
    have HSMALL := hid hsm.1
    have hn60 := hsm.2
    clear hsm
    obtain ⟨n, hn⟩ : ∃ n, l.length = n := ⟨_, rfl⟩
    have HLN := hid hn
    rw [hn] at hl63 hn60 ⊢
    clear hn
    obtain ⟨R0, hR0⟩ : ∃ R0, List.replicate 200 false = R0 := ⟨_, rfl⟩
    have HR0 := hid hR0
    have HR0l : Hid (R0.length = 200) := by unfold Hid; rw [← hR0, List.length_replicate]
    clear hR0
    go_wp2_with (first
      | (refine list_val rfl (.agg (rb R0)) (by rw [← HR0.out]; exact zero33 _ rfl _ _) ?_)
      | (refine Great.wpList_boxTo rfl 33 (.tmp 41) rfl _ rfl _ rfl (rb R0) rfl ?_))
    have hn60' : (n : Int) ≤ 60 := by omega
    have hnew := heap_new w2 (.cells (rb R0) 33)
    have hfn : Fr No w2 (w2.alloc (.cells (rb R0) 33)) := (Fr.refl No w2).alloc _
    obtain ⟨w3, hw3⟩ : ∃ w3, w2.alloc (.cells (rb R0) 33) = w3 := ⟨_, rfl⟩
    obtain ⟨q, hq⟩ : ∃ q, w2.heap.size = q := ⟨_, rfl⟩
    have HQ2 := hid hq
    rw [hw3] at hnew hfn ⊢
    rw [hq] at hnew ⊢
    have HRF3 : Hid (RefAt w3 q R0) := ⟨hnew, HR0l.out⟩
    have HF3 : Hid (Fr (Bh w.heap.size) w w3) := (HF2.out.trans hfn).bh
    have e0 := (hfn.cell (p := ⟨w.heap.size, 0, none⟩) hbk2 id).trans d0
    have e1 := (hfn.cell (p := ⟨w.heap.size, 1, none⟩) hbk2 id).trans d1
    have HS3 : Hid (St w3 p S0 []) := HS2.out.no hfn
    have HSB3 : Hid (∀ k, S0 k → w.heap.size < k ∧ k ≠ q) := fun k hk => ⟨HSn.out k hk, by have := HS2.out.lt k hk; omega⟩
    have HBQ : Hid (w.heap.size < q) := by unfold Hid; omega
    have HB3 : Hid (w.heap.size < w3.heap.size) := hfn.lt hbk2
    have HU3 : Hid (Upto R0 200 []) := by have := upto_zero; rw [HR0.out] at this; exact this
    clear hnew hfn hw3 hq d0 d1 hbk2 HS2 HSn HF2 HQ2
    have HE0 := hid e0
    have HE1 := hid e1
    clear e0 e1
    go_loopg [10] n (fun g i wr => ∃ k : Nat, k + g = n ∧ i = .int .i64 k ∧ Hid (∃ S L R, St wr p S L ∧ (∀ k, S k → w.heap.size < k ∧ k ≠ q) ∧ RefAt wr q R ∧ Upto R 200 L) ∧ Hid (Fr (Bh w.heap.size) w3 wr))
    case atStart => exact ⟨0, by omega, rfl, ⟨S0, [], R0, HS3.out, HSB3.out, HRF3.out, HU3.out⟩, Fr.refl _ _⟩
    case round =>
      obtain ⟨k, hk, rfl, HINV, HFR⟩ := hrel
      obtain ⟨S, L, R, hS, hSB, hRF, hU⟩ := HINV.out
      have HS := hid hS
      have HSB := hid hSB
      have HRF := hid hRF
      have HU := hid hU
      have HG := hid hS.1
      have HB := hid (HFR.out.lt HB3.out)
      have HFW := hid (HF3.out.trans HFR.out)
      clear HINV hS hSB hRF hU
      cases gk with
      | succ g =>
        have hki : (k : Int) < (n : Int) := by omega
        have hkl : k < l.length := by rw [HLN.out]; omega
        obtain ⟨b, o, rfl, hb, c0, c1, c2⟩ := HE.out.op3 k hkl
        have hsmall := HSMALL.out _ (List.getElem_mem hkl)
        obtain ⟨z, hz⟩ : ∃ z, l[k] = z := ⟨_, rfl⟩
        rw [hz] at c0 c1 c2 hsmall
        have hnb : ¬ Bh w.heap.size b := by show ¬ w.heap.size < b; omega
        have HNB := hid hnb
        have HC0 := hid c0
        have HC1 := hid c1
        have HC2 := hid c2
        obtain ⟨cb, za, zn⟩ := z
        have d0 := (HFW.out.cell (p := ⟨b, o + k * 3, none⟩) hb hnb).trans c0
        have d1 := (HFW.out.cell (p := ⟨b, o + k * 3 + 1, none⟩) hb hnb).trans c1
        have d2 := (HFW.out.cell (p := ⟨b, o + k * 3 + 2, none⟩) hb hnb).trans c2
        have HSM := hid hsmall
        clear hz c0 c1 c2 hkl hsmall hnb
        go_wp2_with fail
        refine (sp_Right _ za zn).mono ?_
        obtain ⟨mm, hmm⟩ : ∃ mm, mayB za zn = mm := ⟨_, rfl⟩
        have HMM := hid hmm
        rw [hmm]
        rintro e w4 ⟨rfl, hF⟩
        have HF4 := hid (HFW.out.trans hF.bh)
        have HS4 := hid (HS.out.no hF)
        have HRF4 : Hid (RefAt w4 q R) := ⟨(hF.block q (lt_of_block HRF.out.1) id).trans HRF.out.1, HRF.out.2⟩
        have HB4 := hid (hF.lt HB.out)
        have e0 := (HF4.out.cell (p := ⟨b, o + k * 3, none⟩) hb HNB.out).trans HC0.out
        have e1 := (HF4.out.cell (p := ⟨b, o + k * 3 + 1, none⟩) hb HNB.out).trans HC1.out
        have e2 := (HF4.out.cell (p := ⟨b, o + k * 3 + 2, none⟩) hb HNB.out).trans HC2.out
        have HFa := hid (HFR.out.trans hF.bh)
        clear d0 d1 d2 hF hmm HFW HS HRF HFR HB
        cases mm
        case' false =>
          go_wp2_with fail
          refine (sp_does_bad w4 p cb za zn HMM.out).mono ?_
          rintro e w5 ⟨rfl, hF⟩
          have HF5 := hid (HF4.out.trans hF.bh)
          have HFb := hid (HFa.out.trans hF.bh)
          obtain ⟨S5, L5, R5, hS5, hSB5, hRF5, hU5⟩ : ∃ S L R, St w5 p S L ∧ (∀ k, S k → w.heap.size < k ∧ k ≠ q) ∧ RefAt w5 q R ∧ Upto R 200 L :=
            ⟨S, L, R, HS4.out.no hF, HSB.out, ⟨(hF.block q (lt_of_block HRF4.out.1) id).trans HRF4.out.1, HRF4.out.2⟩, HU.out⟩
          have HB5 := hid (hF.lt HB4.out)
          obtain ⟨ee, hee⟩ : ∃ ee : Int, (10 : Int) = ee := ⟨_, rfl⟩
          clear hF hee e0 e1 e2
        case' true =>
          obtain ⟨a, m, rfl, rfl, ham⟩ := mayB_toNat HMM.out
          have h200 : a + m ≤ 200 := by
            have h := HSM.out
            unfold farO at h
            rw [HMM.out] at h
            simp only [Bool.true_and, Bool.not_eq_true', decide_eq_false_iff_not] at h
            omega
          have HAM := hid ham
          have H200 := hid h200
          clear ham h200
          go_wp2_with fail
          refine wp_region_held_drew (S := fun W => W.cell? ⟨b, o + k * 3, none⟩ = some (.bool cb) ∧ W.cell? ⟨b, o + k * 3 + 1, none⟩ = some (.int .i64 a) ∧ W.cell? ⟨b, o + k * 3 + 2, none⟩ = some (.int .i64 m)) (by kernel_rfl) ⟨e0, e1, e2⟩ (fun hHeld => ?_)
          refine wpAnyH_take (i := 0) (v := ?_) rfl (by kernel_rfl) (by kernel_rfl) (by kernel_rfl) (fun _ _ _ h => h) (Or.inl ⟨by rfl, ?_⟩) hHeld ?_
          rotate_left
          · intro w hSw
            go_simp
            with_reducible rfl
          try simp only [Act.put, List.getElem_toArray, List.getElem_cons_zero, List.getElem_cons_succ, List.setIfInBounds_toArray, List.set_cons_zero, List.set_cons_succ]
          refine wpAnyH_take (i := 1) (v := ?_) rfl (by kernel_rfl) (by kernel_rfl) (by kernel_rfl) (fun _ _ _ h => h) (Or.inl ⟨by rfl, ?_⟩) hHeld ?_
          rotate_left
          · intro w hSw
            go_simp
            with_reducible rfl
          try simp only [Act.put, List.getElem_toArray, List.getElem_cons_zero, List.getElem_cons_succ, List.setIfInBounds_toArray, List.set_cons_zero, List.set_cons_succ]
          refine wpAnyH_take (i := 2) (v := ?_) rfl (by kernel_rfl) (by kernel_rfl) (by kernel_rfl) (fun _ _ _ h => h) (Or.inl ⟨by rfl, ?_⟩) hHeld ?_
          rotate_left
          · intro w hSw
            go_simp
            with_reducible rfl
          try simp only [Act.put, List.getElem_toArray, List.getElem_cons_zero, List.getElem_cons_succ, List.setIfInBounds_toArray, List.set_cons_zero, List.set_cons_succ]
          refine wpAnyH_take (i := 3) (v := ?_) rfl (by kernel_rfl) (by kernel_rfl) (by kernel_rfl) (fun _ _ _ h => h) (Or.inl ⟨by rfl, ?_⟩) hHeld ?_
          rotate_left
          · intro w hSw
            go_simp
            with_reducible rfl
          try simp only [Act.put, List.getElem_toArray, List.getElem_cons_zero, List.getElem_cons_succ, List.setIfInBounds_toArray, List.set_cons_zero, List.set_cons_succ]
          refine wpAnyH_take (i := 4) (v := ?_) rfl (by kernel_rfl) (by kernel_rfl) (by kernel_rfl) (fun _ _ _ h => h) (Or.inl ⟨by rfl, ?_⟩) hHeld ?_
          rotate_left
          · intro w hSw
            go_simp
            with_reducible rfl
          try simp only [Act.put, List.getElem_toArray, List.getElem_cons_zero, List.getElem_cons_succ, List.setIfInBounds_toArray, List.set_cons_zero, List.set_cons_succ]
          refine wpAnyH_take (i := 5) (v := ?_) rfl (by kernel_rfl) (by kernel_rfl) (by kernel_rfl) (fun _ _ _ h => h) (Or.inl ⟨by rfl, ?_⟩) hHeld ?_
          rotate_left
          · intro w hSw; obtain ⟨s0, s1, s2⟩ := hSw
            go_simp
            with_reducible rfl
          try simp only [Act.put, List.getElem_toArray, List.getElem_cons_zero, List.getElem_cons_succ, List.setIfInBounds_toArray, List.set_cons_zero, List.set_cons_succ]
          refine wpAnyH_take (i := 6) (v := ?_) rfl (by kernel_rfl) (by kernel_rfl) (by kernel_rfl) (fun _ _ _ h => h) (Or.inl ⟨by rfl, ?_⟩) hHeld ?_
          rotate_left
          · intro w hSw
            go_simp
            with_reducible rfl
          try simp only [Act.put, List.getElem_toArray, List.getElem_cons_zero, List.getElem_cons_succ, List.setIfInBounds_toArray, List.set_cons_zero, List.set_cons_succ]
          refine wpAnyH_take (i := 7) (v := ?_) rfl (by kernel_rfl) (by kernel_rfl) (by kernel_rfl) (fun _ _ _ h => h) (Or.inl ⟨by rfl, ?_⟩) hHeld ?_
          rotate_left
          · intro w hSw
            go_simp
            with_reducible rfl
          try simp only [Act.put, List.getElem_toArray, List.getElem_cons_zero, List.getElem_cons_succ, List.setIfInBounds_toArray, List.set_cons_zero, List.set_cons_succ]
          refine wpAnyH_take (i := 8) (v := ?_) rfl (by kernel_rfl) (by kernel_rfl) (by kernel_rfl) (fun _ _ _ h => h) (Or.inl ⟨by rfl, ?_⟩) hHeld ?_
          rotate_left
          · intro w hSw
            go_simp
            with_reducible rfl
          try simp only [Act.put, List.getElem_toArray, List.getElem_cons_zero, List.getElem_cons_succ, List.setIfInBounds_toArray, List.set_cons_zero, List.set_cons_succ]
          refine wpAnyH_take (i := 9) (v := ?_) rfl (by kernel_rfl) (by kernel_rfl) (by kernel_rfl) (fun _ _ _ h => h) (Or.inl ⟨by rfl, ?_⟩) hHeld ?_
          rotate_left
          · intro w hSw
            go_simp
            with_reducible rfl
          try simp only [Act.put, List.getElem_toArray, List.getElem_cons_zero, List.getElem_cons_succ, List.setIfInBounds_toArray, List.set_cons_zero, List.set_cons_succ]
          refine wpAnyH_take (i := 10) (v := ?_) rfl (by kernel_rfl) (by kernel_rfl) (by kernel_rfl) (fun _ _ _ h => h) (Or.inl ⟨by rfl, ?_⟩) hHeld ?_
          rotate_left
          · intro w hSw; obtain ⟨s0, s1, s2⟩ := hSw
            go_simp
            with_reducible rfl
          try simp only [Act.put, List.getElem_toArray, List.getElem_cons_zero, List.getElem_cons_succ, List.setIfInBounds_toArray, List.set_cons_zero, List.set_cons_succ]
          refine wpAnyH_take (i := 11) (v := ?_) rfl (by kernel_rfl) (by kernel_rfl) (by kernel_rfl) (fun _ _ _ h => h) (Or.inl ⟨by rfl, ?_⟩) hHeld ?_
          rotate_left
          · intro w hSw
            go_simp
            with_reducible rfl
          try simp only [Act.put, List.getElem_toArray, List.getElem_cons_zero, List.getElem_cons_succ, List.setIfInBounds_toArray, List.set_cons_zero, List.set_cons_succ]
          refine wpAnyH_ready (rs := [12]) (by kernel_rfl) (by simp) ?_
          refine AllReadyH.cons rfl (fun K hK => ?_) AllReadyH.nil
          rw [if_pos (by rfl)]
          go_simp
          refine (rf_Turn _ q R (show RefAt w4.drew q R from HRF4.out) a m HAM.out (!cb)).mono ?_
          rintro e z5 ⟨⟨u5, rfl⟩, hR5, hF5⟩
          have HR5 := hid hR5
          have HFt : Hid (Fr (fun k => k = q) w4 z5) := ((Fr.refl (fun k => k = q) w4).drew).trans hF5
          have HF5 := hid (HF4.out.trans (HFt.out.mono (fun k _ e => by show w.heap.size < k; rw [e]; exact HBQ.out)))
          have HFb := hid (HFa.out.trans (HFt.out.mono (fun k _ e => by show w.heap.size < k; rw [e]; exact HBQ.out)))
          have f0 := (HF5.out.cell (p := ⟨b, o + k * 3, none⟩) hb HNB.out).trans HC0.out
          have f1 := (HF5.out.cell (p := ⟨b, o + k * 3 + 1, none⟩) hb HNB.out).trans HC1.out
          have f2 := (HF5.out.cell (p := ⟨b, o + k * 3 + 2, none⟩) hb HNB.out).trans HC2.out
          have HSz := hid (HS4.out.fr HFt.out (fun k hk => (HSB.out k hk).2))
          have HBz := hid (HFt.out.lt HB4.out)
          refine hK.out _ _ ⟨f0, f1, f2⟩ (fun hHeld => ?_)
          clear hK K hF5 hR5 e0 e1 e2
          try simp only [Act.put, List.getElem_toArray, List.getElem_cons_zero, List.getElem_cons_succ, List.setIfInBounds_toArray, List.set_cons_zero, List.set_cons_succ]
          refine wpAnyH_done (by kernel_rfl) ?_ _
          go_wp2_with fail
          refine (sp_does z5 p S L HSz.out cb a m HAM.out).mono ?_
          rintro e w5 ⟨rfl, S5, hS5, hq5, hF⟩
          have hSB5 : ∀ k, S5 k → w.heap.size < k ∧ k ≠ q := fun k hk => (hq5 k hk).elim (HSB.out k) (fun h => by
            have h1 := HBz.out
            have h2 : q < z5.heap.size := lt_of_block HR5.out.1
            exact ⟨by omega, by omega⟩)
          have hqS : ¬ S q := fun h => (HSB.out q h).2 rfl
          have hRF5 : RefAt w5 q (turnTo R a m (!cb) 200) := ⟨(hF.block q (lt_of_block HR5.out.1) hqS).trans HR5.out.1, HR5.out.2⟩
          have hU5 := Upto.step HRF4.out.2 HG.out HU.out cb a m H200.out
          replace HF5 := hid (HF5.out.trans (hF.mono (fun k _ h => (HSB.out k h).1)))
          replace HFb := hid (HFb.out.trans (hF.mono (fun k _ h => (HSB.out k h).1)))
          have HB5 := hid (hF.lt HBz.out)
          obtain ⟨L5, hL5⟩ : ∃ L5, stepL L cb a m = L5 := ⟨_, rfl⟩
          obtain ⟨R5, hR5⟩ : ∃ R5, turnTo R a m (!cb) 200 = R5 := ⟨_, rfl⟩
          rw [hL5] at hS5 hU5
          rw [hR5] at hRF5 hU5
          clear hL5 hR5 hF hqS hq5 f0 f1 f2
        all_goals
          have HS5 := hid hS5
          have HSB5 := hid hSB5
          have HRF5 := hid hRF5
          have HU5 := hid hU5
          have HG5 := hid hS5.1
          have HL5 := hid ((hU5.len (Nat.le_refl _)))
          clear hS5 hSB5 hRF5 hU5
          go_wp2_with fail
          refine (sp_lawAll w5 p S5 L5 HS5.out (by have := HL5.out; omega)).mono ?_
          rintro e w6 ⟨v6, rfl, hv6, hF⟩
          obtain ⟨a6, c6, rfl, _, _⟩ := hv6.elems
          have HF6 := hid (HF5.out.trans hF.bh)
          have HFc := hid (HFb.out.trans hF.bh)
          have HS6 := hid (HS5.out.no hF)
          have HRF6 : Hid (RefAt w6 q R5) := ⟨(hF.block q (lt_of_block HRF5.out.1) id).trans HRF5.out.1, HRF5.out.2⟩
          have HV6 := hid hv6.1
          clear hF hv6 HF5 HS5 HRF5 HFb
          go_wp2_with fail
          refine (rf_Spans w6 q R5 HRF6.out).mono ?_
          rintro e w7 ⟨v7, rfl, X, hX, hv7, hF⟩
          obtain ⟨a7, c7, rfl, _, hE7⟩ := hv7.elems
          have HX := hid (Upto.same HU5.out hX)
          have HF7 := hid (HF6.out.trans hF.bh)
          have HFd := hid (HFc.out.trans hF.bh)
          have HS7 := hid (HS6.out.no hF)
          have HRF7 : Hid (RefAt w7 q R5) := ⟨(hF.block q (lt_of_block HRF6.out.1) id).trans HRF6.out.1, HRF6.out.2⟩
          have HV7 := hid (own_el (own_frk HV6.out hF (fun _ _ => id)))
          have HE7 := hid hE7
          clear hF hv7 hX HF6 HS6 HRF6 HFc HV6 hE7
          go_wp2_with fail
          refine (sp_Spans w7 a6 a7 c6 c7 L5 X (by have := HL5.out; omega) HV7.out HE7.out).mono ?_
          rw [decide_eq_true HX.out]
          rintro e w8 ⟨rfl, hF⟩
          have HF8 := hid (HF7.out.trans hF.bh)
          have HFe := hid (HFd.out.trans hF.bh)
          have HS8 := hid (HS7.out.no hF)
          have HRF8 : Hid (RefAt w8 q R5) := ⟨(hF.block q (lt_of_block HRF7.out.1) id).trans HRF7.out.1, HRF7.out.2⟩
          clear hF HF7 HS7 HRF7 HFd HV7 HE7
          go_wp2_with fail
          refine (sp_Len w8 p S5 L5 HS8.out).mono ?_
          rintro e w10 ⟨rfl, hF⟩
          have HF10 := hid (HF8.out.trans hF.bh)
          have HFf := hid (HFe.out.trans hF.bh)
          have HS10 := hid (HS8.out.no hF)
          have HRF10 : Hid (RefAt w10 q R5) := ⟨(hF.block q (lt_of_block HRF8.out.1) id).trans HRF8.out.1, HRF8.out.2⟩
          have HSUM := hid (HU5.out.sum HG5.out)
          rw [HSUM.out]
          clear hF HF8 HS8 HRF8 HFe
          go_wp2_with fail
          refine (rf_Len w10 q R5 HRF10.out).mono ?_
          rintro e w11 ⟨rfl, e11⟩
          subst e11
          go_wp2_with fail
          go_roundg g
          case measure => omega
          case rel => exact ⟨k + 1, by omega, by go_num, ⟨S5, L5, R5, HS10.out, HSB5.out, HRF10.out, HU5.out⟩, HFf.out⟩
      | zero =>
        obtain rfl : k = n := by omega
        have hf3 : Fr (Bh w.heap.size) w3 wr := HFR.out
        have e0 := (hf3.cell (p := ⟨w.heap.size, 0, none⟩) HB3.out (Nat.lt_irrefl _)).trans HE0.out
        have e1 := (hf3.cell (p := ⟨w.heap.size, 1, none⟩) HB3.out (Nat.lt_irrefl _)).trans HE1.out
        have hbr := HB.out
        clear hf3
        rcases (show nn < 0 ∨ (0 ≤ nn ∧ 200 ≤ nn) ∨ (0 ≤ nn ∧ nn < 200) by omega) with h1 | ⟨h1, h2⟩ | ⟨h1, h2⟩
        case' inl =>
          have HNI := hid (HU.out.notin HG.out nn (.inl h1))
          go_wp2_with fail
          refine (sp_Has wr p S L HS.out nn).mono ?_
          rw [HNI.out]
          rintro e w5 ⟨rfl, hF⟩
          clear HNI
        case' inr.inl =>
          have HNI := hid (HU.out.notin HG.out nn (.inr h2))
          go_wp2_with fail
          refine (sp_Has wr p S L HS.out nn).mono ?_
          rw [HNI.out]
          rintro e w5 ⟨rfl, hF⟩
          clear HNI
        case' inr.inr =>
          obtain ⟨m, rfl⟩ : ∃ m : Nat, nn = m := ⟨nn.toNat, by omega⟩
          have hm2 : m < 200 := by omega
          have hmR : m < R.length := by rw [HRF.out.2]; exact hm2
          have HNI : Hid (meetsB L (m : Int) 1 = R[m]) := HU.out.isin HRF.out.2 HG.out m hm2
          have hmm : max (0 : Int) (min 199 (m : Int)) = (m : Int) := by omega
          have r0 := (cell_blk HRF.out.1 m).trans (rb_get hmR)
          obtain ⟨bv, hbv⟩ : ∃ bv, R[m] = bv := ⟨_, rfl⟩
          rw [hbv] at HNI r0
          clear hbv hmR hm2
          cases bv
          all_goals
            go_wp2_with fail
            refine (sp_Has wr p S L HS.out (m : Int)).mono ?_
            rw [HNI.out]
            rintro e w5 ⟨rfl, hF⟩
            clear HNI hmm r0
        all_goals
          have HF5 := hid (HFW.out.trans hF.bh)
          have d0 := (hF.cell (p := ⟨w.heap.size, 0, none⟩) hbr id).trans e0
          have d1 := (hF.cell (p := ⟨w.heap.size, 1, none⟩) hbr id).trans e1
          have HB5 := hid (hF.lt hbr)
          have HS5 := hid (HS.out.no hF)
          have HRF5 : Hid (RefAt w5 q R) := ⟨(hF.block q (lt_of_block HRF.out.1) id).trans HRF.out.1, HRF.out.2⟩
          clear hF e0 e1
          go_wp2_with fail
          refine (sp_Right _ xa xn).mono ?_
          obtain ⟨mm, hmm⟩ : ∃ mm, mayB xa xn = mm := ⟨_, rfl⟩
          have HMM := hid hmm
          rw [hmm]
          rintro e w6 ⟨rfl, hF⟩
          have HF6 := hid (HF5.out.trans hF.bh)
          have e0 := (hF.cell (p := ⟨w.heap.size, 0, none⟩) HB5.out id).trans d0
          have e1 := (hF.cell (p := ⟨w.heap.size, 1, none⟩) HB5.out id).trans d1
          have HB6 := hid (hF.lt HB5.out)
          have HS6 := hid (HS5.out.no hF)
          have HRF6 : Hid (RefAt w6 q R) := ⟨(hF.block q (lt_of_block HRF5.out.1) id).trans HRF5.out.1, HRF5.out.2⟩
          clear hF d0 d1 hmm
          cases mm with
          | false =>
            have HME : Hid (meetsB L xa xn = false) := by unfold Hid meetsB; rw [HMM.out]; rfl
            go_wp2_with fail
            refine (sp_Meets w6 p S L HS6.out xa xn).mono ?_
            rw [HME.out]
            rintro e w7 ⟨rfl, hF⟩
            have HF7 := hid (HF6.out.trans hF.bh)
            clear hF
            go_wp2_with fail
            refine (sp_awake _).mono ?_
            rintro e w9 ⟨rfl, hF9⟩
            have HF9 := hid (HF7.out.trans hF9.bh).bh_no
            clear hF9
            go_wp2_with fail
            try rw [Exit.noGoto_ret]
            go_ret
            exact ⟨rfl, HF9.out⟩
          | true =>
            obtain ⟨a, m2, rfl, rfl, ham⟩ := mayB_toNat HMM.out
            have HAM := hid ham
            have ham' : (a : Int) + (m2 : Int) ≤ 1048576 := by omega
            have ha' : (a : Int) ≤ 1048576 := by omega
            obtain ⟨K, hK⟩ : ∃ K, min m2 (200 - a) = K := ⟨_, rfl⟩
            have hK1 : (K : Int) ≤ (m2 : Int) := by omega
            have hK2 : K = m2 ∨ 200 ≤ a + K := by omega
            have hK3 : K ≤ 200 := by omega
            have hK4 : (K : Int) = 0 ∨ (a : Int) + (K : Int) ≤ 200 := by omega
            have HK2 := hid hK2
            have HK4 := hid hK4
            have HME : Hid (meetsB L (a : Int) (m2 : Int) = mtK R a K) := HU.out.meets HRF6.out.2 HG.out a m2 K HAM.out (by omega) hK2
            clear hK ham hK2 hK4
            go_wp2_with fail
            go_loopg [15, 16] K (fun g x i wq => ∃ kk : Nat, kk + g = K ∧ x = .bool (mtK R a kk) ∧ i = .int .i64 ((a : Int) + (kk : Int)) ∧ wq = w6)
            case atStart => exact ⟨0, by omega, rfl, by simp, rfl⟩
            case round =>
              obtain ⟨kk, hkk, rfl, rfl, rfl⟩ := hrel
              cases gk with
              | zero =>
                obtain rfl : kk = K := by omega
                rcases (show (m2 : Int) ≤ (kk : Int) ∨ ((kk : Int) < (m2 : Int) ∧ 200 ≤ (a : Int) + (kk : Int)) by have := HK2.out; omega) with g1 | ⟨g1, g2⟩
                case' inl => have g3 : ¬ (kk : Int) < (m2 : Int) := by omega
                case' inr => have g3 : ¬ (a : Int) + (kk : Int) < 200 := by omega
                all_goals
                  go_wp2_with fail
                  refine (sp_Meets _ p S L HS6.out (a : Int) (m2 : Int)).mono ?_
                  rw [HME.out]
                  obtain ⟨tb, htb⟩ : ∃ tb, mtK R a kk = tb := ⟨_, rfl⟩
                  rw [htb]
                  rintro e w7 ⟨rfl, hF⟩
                  have HF7 := hid (HF6.out.trans hF.bh)
                  clear hF htb
                  cases tb
                  all_goals
                    go_wp2_with fail
                    refine (sp_awake _).mono ?_
                    rintro e w9 ⟨rfl, hF9⟩
                    have HF9 := hid (HF7.out.trans hF9.bh).bh_no
                    clear hF9
                    go_wp2_with fail
                    try rw [Exit.noGoto_ret]
                    go_ret
                    exact ⟨rfl, HF9.out⟩
              | succ g =>
                have g1 : (kk : Int) < (m2 : Int) := by omega
                have g2 : (a : Int) + (kk : Int) < 200 := by have := HK4.out; omega
                have hyR : a + kk < R.length := by rw [HRF6.out.2]; omega
                have r0 := (cell_blk HRF6.out.1 (a + kk)).trans (rb_get hyR)
                have HSC := hid (mtK_succ R a kk)
                have HGD : Hid (R.getD (a + kk) false = R[a + kk]) := by unfold Hid; rw [List.getD_eq_getElem?_getD, List.getElem?_eq_getElem hyR]; rfl
                have hto : ((a : Int) + (kk : Int)).toNat = a + kk := by omega
                obtain ⟨bv, hbv⟩ : ∃ bv, R[a + kk] = bv := ⟨_, rfl⟩
                rw [hbv] at r0 HGD
                rw [HGD.out] at HSC
                obtain ⟨tb, htb⟩ : ∃ tb, mtK R a kk = tb := ⟨_, rfl⟩
                rw [htb] at HSC ⊢
                clear hbv hyR htb
                cases tb
                all_goals
                  go_wp2_with fail
                  go_roundg g
                  case measure => omega
                  case rel => exact ⟨kk + 1, by omega, by rw [HSC.out]; simp, by simp; omega, rfl⟩
end Go.Proofs.Ytdehojhipiklmaa
