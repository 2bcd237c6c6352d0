/- The law SpansBack. -/
import Derived.Test.YtdehojhipiklmaaSpMe
namespace Go.Proofs.Ytdehojhipiklmaa
open Go.RowKit

/-- three sets apart, all of their blocks behind b -/
structure Three (w : World) (b p : Nat) (S : Nat → Prop) (L : List Sp) (q : Nat) (T : Nat → Prop) (M : List Sp) (u : Nat) (U : Nat → Prop) (N : List Sp) : Prop where
  sa : St w p S L
  sb : St w q T M
  sc : St w u U N
  ba : ∀ k, S k → b < k
  bb : ∀ k, T k → b < k
  bc : ∀ k, U k → b < k
  ab : ∀ k, S k → ¬ T k
  ac : ∀ k, S k → ¬ U k
  bcd : ∀ k, T k → ¬ U k
  lt : b < w.heap.size
theorem Three.rot {w : World} {b p : Nat} {S : Nat → Prop} {L : List Sp} {q : Nat} {T : Nat → Prop} {M : List Sp} {u : Nat} {U : Nat → Prop} {N : List Sp} (h : Three w b p S L q T M u U N) : Three w b q T M u U N p S L :=
  ⟨h.sb, h.sc, h.sa, h.bb, h.bc, h.ba, h.bcd, fun k h1 h2 => h.ab k h2 h1, fun k h1 h2 => h.ac k h2 h1, h.lt⟩
theorem Three.no {w w' : World} {b p : Nat} {S : Nat → Prop} {L : List Sp} {q : Nat} {T : Nat → Prop} {M : List Sp} {u : Nat} {U : Nat → Prop} {N : List Sp} (h : Three w b p S L q T M u U N) (f : Fr No w w') : Three w' b p S L q T M u U N :=
  ⟨h.sa.no f, h.sb.no f, h.sc.no f, h.ba, h.bb, h.bc, h.ab, h.ac, h.bcd, f.lt h.lt⟩
/-- what is written lies behind b -/
abbrev Bh (b : Nat) : Nat → Prop := fun k => b < k
theorem Three.turn {w w' : World} {b p : Nat} {S : Nat → Prop} {L L' : List Sp} {q : Nat} {T : Nat → Prop} {M : List Sp} {u : Nat} {U : Nat → Prop} {N : List Sp} (h : Three w b p S L q T M u U N) (h2 : St2 w w' p S L') : ∃ S', Three w' b p S' L' q T M u U N ∧ Fr (Bh b) w w' := by
  obtain ⟨S', hS, hq, hF⟩ := h2
  have hn : ∀ k, k < w.heap.size → S' k → S k := fun k hk h' => (hq k h').elim id (fun e => by omega)
  refine ⟨S', ⟨hS, h.sb.fr hF (fun k h1 h2 => h.ab k h2 h1), h.sc.fr hF (fun k h1 h2 => h.ac k h2 h1), fun k hk => (hq k hk).elim (h.ba k) (fun e => by have := h.lt; omega), h.bb, h.bc,
    fun k h1 h2 => h.ab k (hn k (h.sb.lt k h2) h1) h2, fun k h1 h2 => h.ac k (hn k (h.sc.lt k h2) h1) h2, h.bcd, hF.lt h.lt⟩, hF.mono (fun k _ hk => h.ba k hk)⟩
theorem Fr.bh {w w' : World} {b : Nat} (h : Fr No w w') : Fr (Bh b) w w' := h.mono (fun _ _ e => e.elim)
theorem Fr.bh_no {w w' : World} (h : Fr (Bh w.heap.size) w w') : Fr No w w' := h.mono (fun k hk e => absurd e (by show ¬ w.heap.size < k; omega))
set_option maxRecDepth 100000 in
set_option maxHeartbeats 4000000 in
theorem law_SpansBack (w : World) (r : SRow) (hr : r.Ok w spSh) (x : ISp) (hx : (Lit.int .i64 x.1).wf = true ∧ (Lit.int .i64 x.2).wf = true) :
    Calls Try.prog 6 #[r.v, ispA x] w fun e w' => e = .returned (.bool true) ∧ Fr No w w' := by
  obtain ⟨l, hv, hE, hl63, _⟩ := spans_of hr
  rw [hv]
  obtain ⟨ra, hra⟩ : ∃ ra, r.a = ra := ⟨_, rfl⟩
  obtain ⟨rc, hrc⟩ : ∃ rc, r.cap = rc := ⟨_, rfl⟩
  rw [hra] at hE
  rw [hra, hrc]
  clear hv hr hx hra hrc
  obtain ⟨xa, xn⟩ := x
  show Calls _ _ #[_, .agg #[.int .i64 xa, .int .i64 xn]] _ _
  have hb0 := heap_new w (.cells #[.int .i64 xa, .int .i64 xn] 24)
  have hbk : w.heap.size < (w.alloc (.cells #[.int .i64 xa, .int .i64 xn] 24)).heap.size := lt_of_block hb0
  have b0 := cell_blk hb0 0
  have b1 := cell_blk hb0 1
  simp only [List.getElem?_toArray, List.getElem?_cons_zero, List.getElem?_cons_succ] at b0 b1
  clear hb0
  have hf0 : Fr No w (w.alloc (.cells #[.int .i64 xa, .int .i64 xn] 24)) := (Fr.refl No w).alloc _
  have HF0 := hid hf0
  have HN := hid (sp_New _ ra rc l hl63 (Elems.no hE hf0))
  clear hf0 hE
  go_enter Try.func6, Try.ntmps6
  by_cases hl : l.length ≤ 40
  case neg =>
    have hl' : 40 < (l.length : Int) := by omega
    clear b0 b1 hbk HN
    go_wp2_with fail
    refine (sp_awake _).mono ?_
    rintro e w9 ⟨rfl, hF9⟩
    have HF9 := hid (HF0.out.trans hF9)
    clear hF9
    go_wp2_with fail
    try rw [Exit.noGoto_ret]
    go_ret
    exact ⟨rfl, HF9.out⟩
  have hl' : (l.length : Int) ≤ 40 := by omega
  go_wp2_with fail
  refine HN.out.mono ?_
  rintro e w1 (⟨_, v, rfl, p, S, rfl, hS, hSn, hF⟩ | ⟨_, rfl, hF⟩)
  case inr =>
    have HF1 := hid (HF0.out.trans hF)
    clear hF b0 b1 hbk HN
    go_wp2_with fail
    refine (sp_awake _).mono ?_
    rintro e w9 ⟨rfl, hF9⟩
    have HF9 := hid (HF1.out.trans hF9)
    clear hF9
    go_wp2_with fail
    try rw [Exit.noGoto_ret]
    go_ret
    exact ⟨rfl, HF9.out⟩
  have HF1 := hid (HF0.out.trans hF)
  have c0 := (hF.cell (p := ⟨w.heap.size, 0, none⟩) hbk id).trans b0
  have c1 := (hF.cell (p := ⟨w.heap.size, 1, none⟩) hbk id).trans b1
  have hbk1 := hF.lt hbk
  have HS := hid hS
  have HSn : Hid (∀ k, S k → w.heap.size < k) := fun k hk => by have := hSn k hk; omega
  clear hF b0 b1 hbk HN hS hSn
  go_wp2_with fail
  refine (sp_Right _ xa xn).mono ?_
  obtain ⟨m, hm⟩ : ∃ m, mayB xa xn = m := ⟨_, rfl⟩
  rw [hm]
  rintro e w2 ⟨rfl, hF⟩
  have HF2 := hid (HF1.out.trans hF)
  have d0 := (hF.cell (p := ⟨w.heap.size, 0, none⟩) hbk1 id).trans c0
  have d1 := (hF.cell (p := ⟨w.heap.size, 1, none⟩) hbk1 id).trans c1
  have hbk2 := hF.lt hbk1
  have HS2 := hid (HS.out.no hF)
  clear hF c0 c1 hbk1 HS
  cases m with
  | false =>
    go_wp2_with fail
    refine (sp_awake _).mono ?_
    rintro e w9 ⟨rfl, hF9⟩
    have HF9 := hid (HF2.out.trans hF9)
    clear hF9
    go_wp2_with fail
    try rw [Exit.noGoto_ret]
    go_ret
    exact ⟨rfl, HF9.out⟩
  | true =>
    obtain ⟨a, n, rfl, rfl, han⟩ := mayB_toNat hm
    clear hm
    obtain ⟨L, hL⟩ : ∃ L, newL l = L := ⟨_, rfl⟩
    rw [hL] at HS2
    clear hL
    have HAN := hid han
    have HGB := hid HS2.out.1
    have hA := len_add L HGB.out a n HAN.out
    have hC := len_cut L HGB.out a n HAN.out
    have HAC := hid (cut_add L HGB.out a n HAN.out)
    have HCA := hid (add_cut L HGB.out a n HAN.out)
    have HMC : Hid (meetsB (cutL L a n) a n = false) := by
      unfold Hid
      rw [meetsB_cnt _ (cutL_good L HGB.out a n).1 a n HAN.out, cntIn_cut L HGB.out]; rfl
    have HMM : Hid (meetsB L a n = decide (0 < cntIn L a n)) := meetsB_cnt L HGB.out a n HAN.out
    have hcl := cntIn_le L a n
    have hsL := HGB.out.sum
    obtain ⟨cn, hcn⟩ : ∃ cn, cntIn L a n = cn := ⟨_, rfl⟩
    rw [hcn] at hA hC hcl HMM
    obtain ⟨A, hAe⟩ : ∃ A, addL L a n = A := ⟨_, rfl⟩
    have HAe := hid hAe
    rw [hAe] at hA HAC HCA
    obtain ⟨C, hCe⟩ : ∃ C, cutL L a n = C := ⟨_, rfl⟩
    have HCe := hid hCe
    rw [hCe] at hC HAC HCA HMC
    obtain ⟨sL, hsLe⟩ : ∃ sL, sumN L = sL := ⟨_, rfl⟩
    obtain ⟨sA, hsAe⟩ : ∃ sA, sumN A = sA := ⟨_, rfl⟩
    obtain ⟨sC, hsCe⟩ : ∃ sC, sumN C = sC := ⟨_, rfl⟩
    have HsL := hid hsLe
    have HsA := hid hsAe
    have HsC := hid hsCe
    rw [hsLe] at hA hC hsL
    rw [hsAe] at hA
    rw [hsCe] at hC
    clear hcn hAe hCe hsLe hsAe hsCe
    have hsL' : (sL : Int) ≤ 1048576 := by omega
    have hsA' : (sA : Int) ≤ 2097152 := by omega
    have hsC' : (sC : Int) ≤ 1048576 := by omega
    have r1 : (sA : Int) - (sL : Int) + ((sL : Int) - (sC : Int)) = (n : Int) := by omega
    obtain ⟨mb, hmb⟩ : ∃ mb, decide (0 < cn) = mb := ⟨_, rfl⟩
    rw [hmb] at HMM
    have hmb2 : decide ((0 : Int) < (sL : Int) - (sC : Int)) = mb := by rw [← hmb]; exact decide_eq_decide.2 (by omega)
    clear hA hC hsL hcl hmb han
    go_wp2_with fail
    refine (sp_Copy w2 p S L HS2.out).mono ?_
    rintro e w3 ⟨q, T, rfl, hT, hTn, hF⟩
    have HF3 := hid (HF2.out.trans hF)
    have c0 := (hF.cell (p := ⟨w.heap.size, 0, none⟩) hbk2 id).trans d0
    have c1 := (hF.cell (p := ⟨w.heap.size, 1, none⟩) hbk2 id).trans d1
    have hbk3 := hF.lt hbk2
    have HS3 := hid (HS2.out.no hF)
    have HT := hid hT
    have HST : Hid (∀ k, S k → ¬ T k) := fun k h1 h2 => by have := HS2.out.lt k h1; have := hTn k h2; omega
    have HTn : Hid (∀ k, T k → w.heap.size < k) := fun k h => by have := hTn k h; omega
    clear hF d0 d1 hT hTn HF2 HS2 hbk2
    go_wp2_with fail
    refine (sp_Copy w3 p S L HS3.out).mono ?_
    rintro e w4 ⟨u, U, rfl, hU, hUn, hF⟩
    have HF4 := hid ((HF3.out.trans hF).bh (b := w.heap.size))
    have d0 := (hF.cell (p := ⟨w.heap.size, 0, none⟩) hbk3 id).trans c0
    have d1 := (hF.cell (p := ⟨w.heap.size, 1, none⟩) hbk3 id).trans c1
    have H3 : Hid (Three w4 w.heap.size p S L q T L u U L) := ⟨HS3.out.no hF, HT.out.no hF, hU, HSn.out, HTn.out, fun k h => by have := hUn k h; omega, HST.out, fun k h1 h2 => by have := HS3.out.lt k h1; have := hUn k h2; omega, fun k h1 h2 => by have := HT.out.lt k h1; have := hUn k h2; omega, hF.lt hbk3⟩
    clear hF c0 c1 hU hUn HF3 HS3 HT HST HTn HSn hbk3
    go_wp2_with fail
    refine (sp_Len w4 p S L H3.out.sa).mono ?_
    rw [HsL.out]; rintro e w5 ⟨rfl, hF⟩
    have HF5 := hid (HF4.out.trans hF.bh)
    have c0 := (hF.cell (p := ⟨w.heap.size, 0, none⟩) H3.out.lt id).trans d0
    have c1 := (hF.cell (p := ⟨w.heap.size, 1, none⟩) H3.out.lt id).trans d1
    replace H3 := hid (H3.out.no hF)
    clear hF d0 d1 HF4
    go_wp2_with fail
    refine (sp_Cut w5 q T L H3.out.sb a n HAN.out).mono ?_
    rw [HCe.out]
    rintro e w6 ⟨rfl, h2⟩
    obtain ⟨T', h3, hF⟩ := H3.out.rot.turn h2
    have HF6 := hid (HF5.out.trans hF)
    have d0 := (hF.cell (p := ⟨w.heap.size, 0, none⟩) H3.out.lt (Nat.lt_irrefl _)).trans c0
    have d1 := (hF.cell (p := ⟨w.heap.size, 1, none⟩) H3.out.lt (Nat.lt_irrefl _)).trans c1
    replace H3 := hid h3.rot.rot
    clear hF h2 h3 c0 c1 HF5
    go_wp2_with fail
    refine (sp_Add w6 u U L H3.out.sc a n HAN.out).mono ?_
    rw [HAe.out]
    rintro e w7 ⟨rfl, h2⟩
    obtain ⟨U', h3, hF⟩ := H3.out.rot.rot.turn h2
    have HF7 := hid (HF6.out.trans hF)
    have c0 := (hF.cell (p := ⟨w.heap.size, 0, none⟩) H3.out.lt (Nat.lt_irrefl _)).trans d0
    have c1 := (hF.cell (p := ⟨w.heap.size, 1, none⟩) H3.out.lt (Nat.lt_irrefl _)).trans d1
    replace H3 := hid h3.rot
    clear hF h2 h3 d0 d1 HF6
    go_wp2_with fail
    refine (sp_Len w7 u U' A H3.out.sc).mono ?_
    rw [HsA.out]; rintro e w8 ⟨rfl, hF⟩
    have HF8 := hid (HF7.out.trans hF.bh)
    have d0 := (hF.cell (p := ⟨w.heap.size, 0, none⟩) H3.out.lt id).trans c0
    have d1 := (hF.cell (p := ⟨w.heap.size, 1, none⟩) H3.out.lt id).trans c1
    replace H3 := hid (H3.out.no hF)
    clear hF c0 c1 HF7
    go_wp2_with fail
    refine (sp_Len w8 q T' C H3.out.sb).mono ?_
    rw [HsC.out]; rintro e w9 ⟨rfl, hF⟩
    have HF9 := hid (HF8.out.trans hF.bh)
    have c0 := (hF.cell (p := ⟨w.heap.size, 0, none⟩) H3.out.lt id).trans d0
    have c1 := (hF.cell (p := ⟨w.heap.size, 1, none⟩) H3.out.lt id).trans d1
    replace H3 := hid (H3.out.no hF)
    clear hF d0 d1 HF8
    go_wp2_with fail
    refine (sp_Cut w9 u U' A H3.out.sc a n HAN.out).mono ?_
    rw [HAC.out]
    rintro e w10 ⟨rfl, h2⟩
    obtain ⟨U'', h3, hF⟩ := H3.out.rot.rot.turn h2
    have HF10 := hid (HF9.out.trans hF)
    have d0 := (hF.cell (p := ⟨w.heap.size, 0, none⟩) H3.out.lt (Nat.lt_irrefl _)).trans c0
    have d1 := (hF.cell (p := ⟨w.heap.size, 1, none⟩) H3.out.lt (Nat.lt_irrefl _)).trans c1
    replace H3 := hid h3.rot
    clear hF h2 h3 c0 c1 HF9
    go_wp2_with fail
    refine (sp_Same w10 q u T' U'' C C H3.out.sb H3.out.sc).mono ?_
    rw [decide_eq_true (rfl : C = C)]; rintro e w11 ⟨rfl, hF⟩
    have HF11 := hid (HF10.out.trans hF.bh)
    have c0 := (hF.cell (p := ⟨w.heap.size, 0, none⟩) H3.out.lt id).trans d0
    have c1 := (hF.cell (p := ⟨w.heap.size, 1, none⟩) H3.out.lt id).trans d1
    replace H3 := hid (H3.out.no hF)
    clear hF d0 d1 HF10
    go_wp2_with fail
    refine (sp_Meets w11 q T' C H3.out.sb a n).mono ?_
    rw [HMC.out]; rintro e w12 ⟨rfl, hF⟩
    have HF12 := hid (HF11.out.trans hF.bh)
    have d0 := (hF.cell (p := ⟨w.heap.size, 0, none⟩) H3.out.lt id).trans c0
    have d1 := (hF.cell (p := ⟨w.heap.size, 1, none⟩) H3.out.lt id).trans c1
    replace H3 := hid (H3.out.no hF)
    clear hF c0 c1 HF11
    go_wp2_with fail
    refine (sp_Len w12 p S L H3.out.sa).mono ?_
    rw [HsL.out]; rintro e w13 ⟨rfl, hF⟩
    have HF13 := hid (HF12.out.trans hF.bh)
    have c0 := (hF.cell (p := ⟨w.heap.size, 0, none⟩) H3.out.lt id).trans d0
    have c1 := (hF.cell (p := ⟨w.heap.size, 1, none⟩) H3.out.lt id).trans d1
    replace H3 := hid (H3.out.no hF)
    clear hF d0 d1 HF12
    go_wp2_with fail
    refine (sp_Meets w13 p S L H3.out.sa a n).mono ?_
    rw [HMM.out]; rintro e w14 ⟨rfl, hF⟩
    have HF14 := hid (HF13.out.trans hF.bh)
    have d0 := (hF.cell (p := ⟨w.heap.size, 0, none⟩) H3.out.lt id).trans c0
    have d1 := (hF.cell (p := ⟨w.heap.size, 1, none⟩) H3.out.lt id).trans c1
    replace H3 := hid (H3.out.no hF)
    clear hF c0 c1 HF13
    cases mb with
    | true =>
      have h0 : sC < sL := by have := of_decide_eq_true hmb2; omega
      go_wp2_with fail
      refine (sp_Add w14 q T' C H3.out.sb a n HAN.out).mono ?_
      rw [HCA.out]
      rintro e w15 ⟨rfl, h2⟩
      obtain ⟨T'', h3, hF⟩ := H3.out.rot.turn h2
      have HF15 := hid (HF14.out.trans hF)
      have c0 := (hF.cell (p := ⟨w.heap.size, 0, none⟩) H3.out.lt (Nat.lt_irrefl _)).trans d0
      have c1 := (hF.cell (p := ⟨w.heap.size, 1, none⟩) H3.out.lt (Nat.lt_irrefl _)).trans d1
      replace H3 := hid h3.rot.rot
      clear hF h2 h3 d0 d1 HF14
      go_wp2_with fail
      refine (sp_Add w15 p S L H3.out.sa a n HAN.out).mono ?_
      rw [HAe.out]
      rintro e w16 ⟨rfl, h2⟩
      obtain ⟨S', h3, hF⟩ := H3.out.turn h2
      have HF16 := hid (HF15.out.trans hF)
      have d0 := (hF.cell (p := ⟨w.heap.size, 0, none⟩) H3.out.lt (Nat.lt_irrefl _)).trans c0
      have d1 := (hF.cell (p := ⟨w.heap.size, 1, none⟩) H3.out.lt (Nat.lt_irrefl _)).trans c1
      replace H3 := hid h3
      clear hF h2 h3 c0 c1 HF15
      go_wp2_with fail
      refine (sp_Same w16 q p T'' S' A A H3.out.sb H3.out.sa).mono ?_
      rw [decide_eq_true (rfl : A = A)]; rintro e w17 ⟨rfl, hF⟩
      have HF17 := hid (HF16.out.trans hF.bh)
      have c0 := (hF.cell (p := ⟨w.heap.size, 0, none⟩) H3.out.lt id).trans d0
      have c1 := (hF.cell (p := ⟨w.heap.size, 1, none⟩) H3.out.lt id).trans d1
      replace H3 := hid (H3.out.no hF)
      clear hF d0 d1 HF16
      have HFE := hid HF17.out.bh_no
      go_wp2_with fail
      refine (sp_awake _).mono ?_
      rintro e w9 ⟨rfl, hF9⟩
      have HF9 := hid (HFE.out.trans hF9)
      clear hF9
      go_wp2_with fail
      try rw [Exit.noGoto_ret]
      go_ret
      exact ⟨rfl, HF9.out⟩
    | false =>
      have h0 : ¬ sC < sL := by have := of_decide_eq_false hmb2; omega
      go_wp2_with fail
      refine (sp_Add w14 q T' C H3.out.sb a n HAN.out).mono ?_
      rw [HCA.out]
      rintro e w15 ⟨rfl, h2⟩
      obtain ⟨T'', h3, hF⟩ := H3.out.rot.turn h2
      have HF15 := hid (HF14.out.trans hF)
      have c0 := (hF.cell (p := ⟨w.heap.size, 0, none⟩) H3.out.lt (Nat.lt_irrefl _)).trans d0
      have c1 := (hF.cell (p := ⟨w.heap.size, 1, none⟩) H3.out.lt (Nat.lt_irrefl _)).trans d1
      replace H3 := hid h3.rot.rot
      clear hF h2 h3 d0 d1 HF14
      go_wp2_with fail
      refine (sp_Add w15 p S L H3.out.sa a n HAN.out).mono ?_
      rw [HAe.out]
      rintro e w16 ⟨rfl, h2⟩
      obtain ⟨S', h3, hF⟩ := H3.out.turn h2
      have HF16 := hid (HF15.out.trans hF)
      have d0 := (hF.cell (p := ⟨w.heap.size, 0, none⟩) H3.out.lt (Nat.lt_irrefl _)).trans c0
      have d1 := (hF.cell (p := ⟨w.heap.size, 1, none⟩) H3.out.lt (Nat.lt_irrefl _)).trans c1
      replace H3 := hid h3
      clear hF h2 h3 c0 c1 HF15
      go_wp2_with fail
      refine (sp_Same w16 q p T'' S' A A H3.out.sb H3.out.sa).mono ?_
      rw [decide_eq_true (rfl : A = A)]; rintro e w17 ⟨rfl, hF⟩
      have HF17 := hid (HF16.out.trans hF.bh)
      have c0 := (hF.cell (p := ⟨w.heap.size, 0, none⟩) H3.out.lt id).trans d0
      have c1 := (hF.cell (p := ⟨w.heap.size, 1, none⟩) H3.out.lt id).trans d1
      replace H3 := hid (H3.out.no hF)
      clear hF d0 d1 HF16
      have HFE := hid HF17.out.bh_no
      go_wp2_with fail
      refine (sp_awake _).mono ?_
      rintro e w9 ⟨rfl, hF9⟩
      have HF9 := hid (HFE.out.trans hF9)
      clear hF9
      go_wp2_with fail
      try rw [Exit.noGoto_ret]
      go_ret
      exact ⟨rfl, HF9.out⟩
end Go.Proofs.Ytdehojhipiklmaa
