/- The law SpansMeet. -/
import Derived.Test.YtdehojhipiklmaaSpZ
import Derived.Test.YtdehojhipiklmaaSpNum
namespace Go.Proofs.Ytdehojhipiklmaa
open Go.RowKit

theorem St.frn {S T : Nat → Prop} {w w' : World} {p : Nat} {L : List Sp} (h : St w p S L) (f : Fr T w w') (hT : ∀ k, k < w.heap.size → S k → ¬ T k) : St w' p S L := h.fr f (fun k hk => hT k (h.lt k hk) hk)
set_option maxRecDepth 100000 in
set_option maxHeartbeats 4000000 in
theorem law_SpansMeet (w : World) (r : SRow) (hr : r.Ok w spSh) (x : ISp) (hx : (Lit.int .i64 x.1).wf = true ∧ (Lit.int .i64 x.2).wf = true) :
    Calls Try.prog 8 #[r.v, ispA x] w fun e w' => e = .returned (.bool true) ∧ Fr No w w' := by
  obtain ⟨l, hv, hE, hl63, _⟩ := spans_of hr
  rw [hv]
  obtain ⟨ra, hra⟩ : ∃ ra, r.a = ra := ⟨_, rfl⟩
  obtain ⟨rc, hrc⟩ : ∃ rc, r.cap = rc := ⟨_, rfl⟩
  rw [hra] at hE
  rw [hra, hrc]
  clear hv hr hx hra hrc
  obtain ⟨xa, xn⟩ := x
  show Calls _ _ #[_, .agg #[.int .i64 xa, .int .i64 xn]] _ _
  have hb0 := heap_new w (.cells #[.int .i64 xa, .int .i64 xn] 24)
  have hbk : w.heap.size < (w.alloc (.cells #[.int .i64 xa, .int .i64 xn] 24)).heap.size := lt_of_block hb0
  have b0 := cell_blk hb0 0
  have b1 := cell_blk hb0 1
  simp only [List.getElem?_toArray, List.getElem?_cons_zero, List.getElem?_cons_succ] at b0 b1
  clear hb0
  have hf0 : Fr No w (w.alloc (.cells #[.int .i64 xa, .int .i64 xn] 24)) := (Fr.refl No w).alloc _
  have HF0 := hid hf0
  have HN := hid (sp_New _ ra rc l hl63 (Elems.no hE hf0))
  clear hf0 hE
  go_enter Try.func8, Try.ntmps8
  go_wp2_with fail
  refine HN.out.mono ?_
  rintro e w1 (⟨_, v, rfl, p, S, rfl, hS, hSn, hF⟩ | ⟨_, rfl, hF⟩)
  case inr =>
    have HF1 := hid (HF0.out.trans hF)
    clear hF b0 b1 hbk HN
    by_cases hl : l.length ≤ 40
    · have hl' : (l.length : Int) ≤ 40 := by omega
      go_wp2_with fail
      refine (sp_awake _).mono ?_
      rintro e w9 ⟨rfl, hF9⟩
      have HF9 := hid (HF1.out.trans hF9)
      clear hF9
      go_wp2_with fail
      try rw [Exit.noGoto_ret]
      go_ret
      exact ⟨rfl, HF9.out⟩
    · have hl' : 40 < (l.length : Int) := by omega
      go_wp2_with fail
      refine (sp_awake _).mono ?_
      rintro e w9 ⟨rfl, hF9⟩
      have HF9 := hid (HF1.out.trans hF9)
      clear hF9
      go_wp2_with fail
      try rw [Exit.noGoto_ret]
      go_ret
      exact ⟨rfl, HF9.out⟩
  have HF1 := hid (HF0.out.trans hF)
  have c0 := (hF.cell (p := ⟨w.heap.size, 0, none⟩) hbk id).trans b0
  have c1 := (hF.cell (p := ⟨w.heap.size, 1, none⟩) hbk id).trans b1
  have hbk1 := hF.lt hbk
  have HS := hid hS
  have HSn : Hid (∀ k, S k → w.heap.size < k) := fun k hk => by have := hSn k hk; omega
  clear hF b0 b1 hbk HN hS hSn
  by_cases hl : l.length ≤ 40
  case neg =>
    have hl' : 40 < (l.length : Int) := by omega
    go_wp2_with fail
    refine (sp_awake _).mono ?_
    rintro e w9 ⟨rfl, hF9⟩
    have HF9 := hid (HF1.out.trans hF9)
    clear hF9
    go_wp2_with fail
    try rw [Exit.noGoto_ret]
    go_ret
    exact ⟨rfl, HF9.out⟩
  have hl' : (l.length : Int) ≤ 40 := by omega
  go_wp2_with fail
  refine (sp_Right _ xa xn).mono ?_
  obtain ⟨m, hm⟩ : ∃ m, mayB xa xn = m := ⟨_, rfl⟩
  rw [hm]
  rintro e w2 ⟨rfl, hF⟩
  have HF2 := hid (HF1.out.trans hF)
  have d0 := (hF.cell (p := ⟨w.heap.size, 0, none⟩) hbk1 id).trans c0
  have d1 := (hF.cell (p := ⟨w.heap.size, 1, none⟩) hbk1 id).trans c1
  have hbk2 := hF.lt hbk1
  have HS2 := hid (HS.out.no hF)
  clear hF c0 c1 hbk1 HS
  cases m with
  | false =>
    go_wp2_with fail
    refine (sp_awake _).mono ?_
    rintro e w9 ⟨rfl, hF9⟩
    have HF9 := hid (HF2.out.trans hF9)
    clear hF9
    go_wp2_with fail
    try rw [Exit.noGoto_ret]
    go_ret
    exact ⟨rfl, HF9.out⟩
  | true =>
    obtain ⟨a, n, rfl, rfl, han⟩ := mayB_toNat hm
    have ha' : (a : Int) ≤ 1048576 := by omega
    have han' : (a : Int) + (n : Int) ≤ 1048576 := by omega
    clear hm
    by_cases hn : n ≤ 200
    case neg =>
      have hn' : 200 < (n : Int) := by omega
      go_wp2_with fail
      refine (sp_awake _).mono ?_
      rintro e w9 ⟨rfl, hF9⟩
      have HF9 := hid (HF2.out.trans hF9)
      clear hF9
      go_wp2_with fail
      try rw [Exit.noGoto_ret]
      go_ret
      exact ⟨rfl, HF9.out⟩
    have hn' : (n : Int) ≤ 200 := by omega
    have HGB := hid HS2.out.1
    obtain ⟨L, hL⟩ : ∃ L, newL l = L := ⟨_, rfl⟩
    rw [hL] at HS2 HGB
    clear hL
    go_wp2_with fail
    have HAN := hid han
    go_loopg [7, 8] n (fun g c i wr => ∃ k : Nat, k + g = n ∧ c = .int .i64 (cntIn L a k : Nat) ∧ i = .int .i64 k ∧ Hid (Fr No w2 wr))
    case atStart => exact ⟨0, by omega, rfl, rfl, Fr.refl _ _⟩
    case round =>
      obtain ⟨k, hk, rfl, rfl, HFR⟩ := hrel
      have e0 := (HFR.out.cell (p := ⟨w.heap.size, 0, none⟩) hbk2 id).trans d0
      have e1 := (HFR.out.cell (p := ⟨w.heap.size, 1, none⟩) hbk2 id).trans d1
      have hbk3 := HFR.out.lt hbk2
      have HS3 := hid (HS2.out.no HFR.out)
      have HF3 := hid (HF2.out.trans HFR.out)
      clear d0 d1
      have hck := cntIn_le L a k
      cases gk with
      | succ g =>
        have hkn : (k : Int) < (n : Int) := by omega
        have hck' : ((cntIn L a k : Nat) : Int) ≤ 1048576 := by omega
        have HM : Hid (meetsB L ((a + k : Nat) : Int) 1 = true ↔ hasL L (a + k)) := meetsB_has L HGB.out (a + k) (by omega)
        have HC := hid (cntIn_succ L a k)
        obtain ⟨cn, hcn⟩ : ∃ cn, cntIn L a k = cn := ⟨_, rfl⟩
        rw [hcn] at HC hck' ⊢
        clear hcn hck hn han
        go_wp2_with fail
        have ec : (a : Int) + (k : Int) = ((a + k : Nat) : Int) := by omega
        rw [ec]
        refine (sp_Has wr p S L HS3.out _).mono ?_
        obtain ⟨mb, hmb⟩ : ∃ mb, meetsB L ((a + k : Nat) : Int) 1 = mb := ⟨_, rfl⟩
        rw [hmb] at HM ⊢
        rintro e w4 ⟨rfl, hF⟩
        have HF4 := hid (HFR.out.trans hF)
        clear hF ec hmb
        cases mb with
        | true =>
          have HC2 : Hid (cntIn L a (k + 1) = cn + 1) := by unfold Hid; rw [HC.out, ind_yes (HM.out.1 rfl)]
          go_wp2_with fail
          go_roundg g
          case measure => omega
          case rel => exact ⟨k + 1, by omega, by rw [HC2.out]; go_num, by go_num, HF4.out⟩
        | false =>
          have HC2 : Hid (cntIn L a (k + 1) = cn) := by unfold Hid; rw [HC.out, ind_no (fun e => by have := HM.out.2 e; cases this)]; rfl
          go_wp2_with fail
          go_roundg g
          case measure => omega
          case rel => exact ⟨k + 1, by omega, by rw [HC2.out], by go_num, HF4.out⟩
      | zero =>
        obtain rfl : k = n := by omega
        have HM : Hid (meetsB L a k = decide (0 < cntIn L a k)) := meetsB_cnt L HGB.out a k HAN.out
        have hA := len_add L HGB.out a k HAN.out
        have HGA := hid (addL_good L HGB.out a k HAN.out)
        have hC := len_cut (addL L a k) HGA.out.1 a k HAN.out
        rw [cntIn_all (addL L a k) a k (fun y h1 h2 => (HGA.out.2 y).2 (.inr ⟨h1, h2⟩))] at hC
        have hsL := HGB.out.sum
        have HT1 := hid (HS3.out.sp)
        obtain ⟨cn, hcn⟩ : ∃ cn, cntIn L a k = cn := ⟨_, rfl⟩
        rw [hcn] at HM hA hck ⊢
        obtain ⟨A, hAe⟩ : ∃ A, addL L a k = A := ⟨_, rfl⟩
        have HAe := hid hAe
        rw [hAe] at hA hC
        obtain ⟨C, hCe⟩ : ∃ C, cutL A a k = C := ⟨_, rfl⟩
        have HCe := hid hCe
        rw [hCe] at hC
        have HLen := hid (sp_Len wr p S L HS3.out)
        obtain ⟨sL, hsLe⟩ : ∃ sL, sumN L = sL := ⟨_, rfl⟩
        obtain ⟨sA, hsAe⟩ : ∃ sA, sumN A = sA := ⟨_, rfl⟩
        obtain ⟨sC, hsCe⟩ : ∃ sC, sumN C = sC := ⟨_, rfl⟩
        have HsA := hid hsAe
        have HsC := hid hsCe
        rw [hsLe] at hA hsL HLen
        rw [hsAe] at hA hC
        rw [hsCe] at hC
        clear hcn hAe hCe hsLe hsAe hsCe
        have hsL' : (sL : Int) ≤ 1048576 := by omega
        have hcn' : (cn : Int) ≤ 200 := by omega
        have r1 : ((sA : Int) == (sL : Int) + (k : Int) - (cn : Int)) = true := by simp; omega
        have r2 : ((sC : Int) == (sL : Int) - (cn : Int)) = true := by simp; omega
        obtain ⟨mb, hmb⟩ : ∃ mb, decide (0 < cn) = mb := ⟨_, rfl⟩
        rw [hmb] at HM
        have hmb2 : decide ((0 : Int) < (cn : Int)) = mb := by rw [← hmb]; exact decide_eq_decide.2 (by omega)
        clear hA hC hsL hck hn hk hmb han
        go_wp2_with fail
        refine HLen.out.mono ?_
        rintro e w4 ⟨rfl, hF⟩
        have HF4 := hid (HF3.out.trans hF)
        have d0 := (hF.cell (p := ⟨w.heap.size, 0, none⟩) hbk3 id).trans e0
        have d1 := (hF.cell (p := ⟨w.heap.size, 1, none⟩) hbk3 id).trans e1
        have hbk4 := hF.lt hbk3
        have HS4 := hid (HS3.out.no hF)
        clear hF e0 e1 HS3 HF3 HLen hbk3
        go_wp2_with fail
        refine (sp_Meets w4 p S L HS4.out a k).mono ?_
        rw [HM.out]
        rintro e w5 ⟨rfl, hF⟩
        have HF5 := hid (HF4.out.trans hF)
        have e0 := (hF.cell (p := ⟨w.heap.size, 0, none⟩) hbk4 id).trans d0
        have e1 := (hF.cell (p := ⟨w.heap.size, 1, none⟩) hbk4 id).trans d1
        have hbk5 := hF.lt hbk4
        have HS5 := hid (HS4.out.no hF)
        clear hF d0 d1 HS4 HF4 hbk4
        go_wp2_with fail
        refine (sp_Add w5 p S L HS5.out a k HAN.out).mono ?_
        rintro e w6 ⟨rfl, S6, hS6, hq6, hF⟩
        rw [HAe.out] at hS6
        have HF6 := hid (HF5.out.then hF (fun i hi h => by have := HSn.out i h; omega))
        have hnb : ¬ S w.heap.size := fun h => by have := HSn.out _ h; omega
        have d0 := (hF.cell (p := ⟨w.heap.size, 0, none⟩) hbk5 hnb).trans e0
        have d1 := (hF.cell (p := ⟨w.heap.size, 1, none⟩) hbk5 hnb).trans e1
        have hbk6 := hF.lt hbk5
        have HS6 := hid hS6
        have HSn6 : Hid (∀ k, S6 k → w.heap.size < k) := fun k h => (hq6 k h).elim (HSn.out k) (fun e => by omega)
        have HLen := hid (sp_Len w6 p S6 A hS6)
        rw [HsA.out] at HLen
        clear hF e0 e1 HS5 HF5 hbk5 hS6 hq6 hnb
        go_wp2_with fail
        refine HLen.out.mono ?_
        rintro e w7 ⟨rfl, hF⟩
        have HF7 := hid (HF6.out.trans hF)
        have e0 := (hF.cell (p := ⟨w.heap.size, 0, none⟩) hbk6 id).trans d0
        have e1 := (hF.cell (p := ⟨w.heap.size, 1, none⟩) hbk6 id).trans d1
        have hbk7 := hF.lt hbk6
        have HS7 := hid (HS6.out.no hF)
        clear hF d0 d1 HS6 HF6 HLen hbk6
        go_wp2_with fail
        refine (sp_Cut w7 p S6 A HS7.out a k HAN.out).mono ?_
        rintro e w8 ⟨rfl, S8, hS8, hq8, hF⟩
        rw [HCe.out] at hS8
        have HF8 := hid (HF7.out.then hF (fun i hi h => by have := HSn6.out i h; omega))
        have hnb : ¬ S6 w.heap.size := fun h => by have := HSn6.out _ h; omega
        have d0 := (hF.cell (p := ⟨w.heap.size, 0, none⟩) hbk7 hnb).trans e0
        have d1 := (hF.cell (p := ⟨w.heap.size, 1, none⟩) hbk7 hnb).trans e1
        have HLen := hid (sp_Len w8 p S8 C hS8)
        rw [HsC.out] at HLen
        clear hF e0 e1 HS7 HF7 hbk7 hS8 hq8 hnb
        cases mb with
        | true =>
          have h0 : 0 < cn := by have := of_decide_eq_true hmb2; omega
          go_wp2_with fail
          refine HLen.out.mono ?_
          rintro e w10 ⟨rfl, hF⟩
          have HF10 := hid (HF8.out.trans hF)
          clear hF HF8
          go_wp2_with fail
          refine (sp_awake _).mono ?_
          rintro e w9 ⟨rfl, hF9⟩
          have HF9 := hid (HF10.out.trans hF9)
          clear hF9
          go_wp2_with fail
          try rw [Exit.noGoto_ret]
          go_ret
          exact ⟨rfl, HF9.out⟩
        | false =>
          have h0 : ¬ 0 < cn := by have := of_decide_eq_false hmb2; omega
          go_wp2_with fail
          refine HLen.out.mono ?_
          rintro e w10 ⟨rfl, hF⟩
          have HF10 := hid (HF8.out.trans hF)
          clear hF HF8
          go_wp2_with fail
          refine (sp_awake _).mono ?_
          rintro e w9 ⟨rfl, hF9⟩
          have HF9 := hid (HF10.out.trans hF9)
          clear hF9
          go_wp2_with fail
          try rw [Exit.noGoto_ret]
          go_ret
          exact ⟨rfl, HF9.out⟩
end Go.Proofs.Ytdehojhipiklmaa
