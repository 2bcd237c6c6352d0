/- The law SpansWhole. -/
import Derived.Test.YtdehojhipiklmaaSpWd
namespace Go.Proofs.Ytdehojhipiklmaa
open Go.RowKit Go.Shelf
attribute [local go_sem] Oper.semAt_some

set_option maxRecDepth 1000000 in
set_option maxHeartbeats 8000000 in
theorem law_SpansWhole (w : World) (r : SRow) (hr : r.Ok w spSh) :
    Calls Try.prog 4 #[r.v] w fun e w' => e = .returned (.bool true) ∧ Fr No w w' := by
  obtain ⟨l, hv, hE, hl63, _⟩ := spans_of hr
  rw [hv]
  obtain ⟨ra, hra⟩ : ∃ ra, r.a = ra := ⟨_, rfl⟩
  obtain ⟨rc, hrc⟩ : ∃ rc, r.cap = rc := ⟨_, rfl⟩
  rw [hra] at hE
  rw [hra, hrc]
  have HE := hid hE
  clear hv hr hra hrc hE
  obtain ⟨n, hn⟩ : ∃ n, l.length = n := ⟨_, rfl⟩
  rw [hn] at hl63 ⊢
  have HLN := hid hn
  clear hn
  have hb0 := heap_new w (.cells #[.bool false] 4)
  have hf0 : Fr No w (w.alloc (.cells #[.bool false] 4)) := (Fr.refl No w).alloc _
  refine (callsIn_wide (n := 5)).1 (callsIn_of_wp_marks Try.func4 rfl trivial (wpIn_wide.2 ?_) rfl)
  simp only [Try.ntmps4, List.size_toArray, List.length_cons, List.length_nil, Nat.reduceAdd, Nat.reduceSub, Array.replicate_succ, Array.replicate_zero, List.push_toArray, List.append_toArray, List.nil_append, List.cons_append]
  obtain ⟨rb, hrb⟩ : ∃ rb, w.heap.size = rb := ⟨_, rfl⟩
  have HRB : Hid (w.heap.size ≤ rb) := by unfold Hid; omega
  obtain ⟨w0, hw0⟩ : ∃ w0, w.alloc (.cells #[.bool false] 4) = w0 := ⟨_, rfl⟩
  rw [hw0, hrb] at hb0
  rw [hw0] at hf0
  have HB0 := hid hb0
  have HF0 := hid hf0
  have HW0 := hid hw0
  have HRBE := hid hrb
  clear hb0 hf0 hw0 hrb
  by_cases h40 : n ≤ 40
  case neg =>
    have h40' : 40 < (n : Int) := by omega
    go_wp2_with fail
    rw [HW0.out, HRBE.out]
    refine (sp_awake _).mono ?_
    rintro e w9 ⟨rfl, hF9⟩
    have HF9 := hid (HF0.out.trans hF9)
    have HB9 : Hid (w9.heap[rb]? = some (.cells #[.bool false] 4 (0, 0))) := (hF9.block rb (lt_of_block HB0.out) id).trans HB0.out
    have cc := (cell_blk HB9.out 0).trans (show _ = some (Value.bool false) from rfl)
    have ff := free_blk HB9.out 0
    clear hF9
    go_wp2_with fail
    try rw [Exit.noGoto_ret]
    refine ⟨.bool true, ?_, rfl, HF9.out.setCell (p := ⟨rb, 0, none⟩) (fun h => absurd h (by have := HRB.out; show ¬ rb < w.heap.size; omega)) _⟩
    have cz : (w9.setCell ⟨rb, 0, none⟩ (.bool true)).cell? ⟨rb, 0, none⟩ = some (.bool true) := by rw [cell_blk (set_blk HB9.out 0 _)]; rfl
    simp [results, Try.f4, go_sem, cz]
  have h40' : (n : Int) ≤ 40 := by omega
  go_wp2_with fail
  rw [HW0.out, HRBE.out]
  go_loopg [3] n (fun g i wr => ∃ k : Nat, k + g = n ∧ i = .int .i64 k ∧ Hid (∀ i (hi : i < l.length), i < k → l[i].2 ≤ 60) ∧ wr = w0)
  case atStart => exact ⟨0, by omega, rfl, fun i hi h => by omega, rfl⟩
  case round =>
    obtain ⟨k, hk, rfl, HA, rfl⟩ := hrel
    cases gk with
    | succ g =>
      have hki : (k : Int) < (n : Int) := by omega
      have hkl : k < l.length := by rw [HLN.out]; omega
      obtain ⟨b, o, rfl, hb, c0, c1⟩ := HE.out.isp2 k hkl
      obtain ⟨x, hx⟩ : ∃ x, l[k] = x := ⟨_, rfl⟩
      have HX := hid hx
      rw [hx] at c0 c1
      have e1 := (HF0.out.cell (p := ⟨b, o + k * 2 + 1, none⟩) hb id).trans c1
      clear c0 c1 hx
      obtain ⟨xa, xn⟩ := x
      by_cases hx60 : xn ≤ 60
      · go_wp2_with fail
        go_roundg g
        case measure => omega
        case rel =>
          refine ⟨k + 1, by omega, by go_num, fun i hi hik => ?_, rfl⟩
          rcases Nat.lt_succ_iff_lt_or_eq.1 hik with e | e
          · exact HA.out i hi e
          · subst e; rw [HX.out]; exact hx60
      · have hx60' : 60 < xn := by omega
        go_wp2_with fail
        refine (sp_awake _).mono ?_
        rintro e w9 ⟨rfl, hF9⟩
        have HF9 := hid (HF0.out.trans hF9)
        have HB9 : Hid (w9.heap[rb]? = some (.cells #[.bool false] 4 (0, 0))) := (hF9.block rb (lt_of_block HB0.out) id).trans HB0.out
        have cc := (cell_blk HB9.out 0).trans (show _ = some (Value.bool false) from rfl)
        have ff := free_blk HB9.out 0
        clear hF9
        go_wp2_with fail
        try rw [Exit.noGoto_ret]
        refine ⟨.bool true, ?_, rfl, HF9.out.setCell (p := ⟨rb, 0, none⟩) (fun h => absurd h (by have := HRB.out; show ¬ rb < w.heap.size; omega)) _⟩
        have cz : (w9.setCell ⟨rb, 0, none⟩ (.bool true)).cell? ⟨rb, 0, none⟩ = some (.bool true) := by rw [cell_blk (set_blk HB9.out 0 _)]; rfl
        simp [results, Try.f4, go_sem, cz]
    | zero =>
      obtain rfl : k = n := by omega
      have HN := hid (sp_New wr ra rc l (by rw [HLN.out]; omega) (Elems.no HE.out HF0.out))
      rw [HLN.out] at HN
      go_wp2_with fail
      refine HN.out.mono ?_
      rintro e w1 (⟨hra, v, rfl, p, S, rfl, hS, hSn, hF⟩ | ⟨_, rfl, hF⟩)
      case inr =>
        have hf1 : Fr No w1 (w1.alloc (.cells #[.pointer none] 25)) := (Fr.refl No w1).alloc _
        have HF1 := hid ((HF0.out.trans hF).trans hf1)
        have HB1 : Hid ((w1.alloc (.cells #[.pointer none] 25)).heap[rb]? = some (.cells #[.bool false] 4 (0, 0))) := ((hF.trans hf1).block rb (lt_of_block HB0.out) id).trans HB0.out
        clear hF hf1 HN
        go_wp2_with fail
        refine (sp_awake _).mono ?_
        rintro e w9 ⟨rfl, hF9⟩
        have HF9 := hid (HF1.out.trans hF9)
        have HB9 : Hid (w9.heap[rb]? = some (.cells #[.bool false] 4 (0, 0))) := (hF9.block rb (lt_of_block HB1.out) id).trans HB1.out
        have cc := (cell_blk HB9.out 0).trans (show _ = some (Value.bool false) from rfl)
        have ff := free_blk HB9.out 0
        clear hF9
        go_wp2_with fail
        try rw [Exit.noGoto_ret]
        refine ⟨.bool true, ?_, rfl, HF9.out.setCell (p := ⟨rb, 0, none⟩) (fun h => absurd h (by have := HRB.out; show ¬ rb < w.heap.size; omega)) _⟩
        have cz : (w9.setCell ⟨rb, 0, none⟩ (.bool true)).cell? ⟨rb, 0, none⟩ = some (.bool true) := by rw [cell_blk (set_blk HB9.out 0 _)]; rfl
        simp [results, Try.f4, go_sem, cz]
      have HRA := hid hra
      have hsumL := newL_sum l hra 60 (fun x hx => by
        obtain ⟨i, hi, rfl⟩ := List.getElem_of_mem hx
        have := HA.out i hi (by rw [← HLN.out]; exact hi)
        omega)
      rw [HLN.out] at hsumL
      have HNEWH := hid (newL_good l hra).2
      have hLl := newL_len l
      rw [HLN.out] at hLl
      obtain ⟨L, hL⟩ : ∃ L, newL l = L := ⟨_, rfl⟩
      rw [hL] at hS hsumL HNEWH hLl
      have HG := hid hS.1
      have hL40 : (L.length : Int) ≤ 40 := by omega
      have hsumL' : sumN L ≤ 2400 := by omega
      have HSUM := hid hsumL'
      have hf1 : Fr No w1 (w1.alloc (.cells #[.pointer (some ⟨p, 0, none⟩)] 25)) := (Fr.refl No w1).alloc _
      have hbs := heap_new w1 (.cells #[.pointer (some ⟨p, 0, none⟩)] 25)
      have cs := cell_blk hbs 0
      simp only [List.getElem?_toArray, List.getElem?_cons_zero] at cs
      have HF2 := hid ((HF0.out.trans hF).trans hf1)
      have HB2 : Hid ((w1.alloc (.cells #[.pointer (some ⟨p, 0, none⟩)] 25)).heap[rb]? = some (.cells #[.bool false] 4 (0, 0))) := ((hF.trans hf1).block rb (lt_of_block HB0.out) id).trans HB0.out
      have HS2 := hid (hS.no hf1)
      have HSB2 := hid hbs
      clear hF hf1 HN hS hSn hra hL hbs hsumL hsumL'
      go_wp2_with fail
      obtain ⟨sb, hsb⟩ : ∃ sb, w1.heap.size = sb := ⟨_, rfl⟩
      obtain ⟨w2, hw2⟩ : ∃ w2, w1.alloc (.cells #[.pointer (some ⟨p, 0, none⟩)] 25) = w2 := ⟨_, rfl⟩
      rw [hw2] at HF2 HB2 HS2 HSB2 cs ⊢
      rw [hsb] at HSB2 cs ⊢
      clear hsb hw2
      refine (sp_lawAll w2 p S L HS2.out (by omega)).mono ?_
      rintro e w3 ⟨v3, rfl, hv3, hF⟩
      obtain ⟨a3, c3, rfl, _, hE3⟩ := hv3.elems
      have HF3 := hid (HF2.out.trans hF)
      have HB3 : Hid (w3.heap[rb]? = some (.cells #[.bool false] 4 (0, 0))) := (hF.block rb (lt_of_block HB2.out) id).trans HB2.out
      have HS3 := hid (HS2.out.no hF)
      have HSB3 : Hid (w3.heap[sb]? = some (.cells #[.pointer (some ⟨p, 0, none⟩)] 25 (0, 0))) := (hF.block sb (lt_of_block HSB2.out) id).trans HSB2.out
      have HE3 := hid hE3
      have cs3 := (hF.cell (p := ⟨sb, 0, none⟩) (lt_of_block HSB2.out) id).trans cs
      clear hF hv3 HF2 HB2 HS2 cs hE3
      go_wp2_with fail
      refine (sp_Numbers w3 p S L HS3.out).mono ?_
      rintro e w4 ⟨Bn, B, ra7, c7, rfl, hBn, hcn, hB, hc, hE7, hF⟩
      have HF4 := hid (HF3.out.trans hF)
      have HB4 : Hid (w4.heap[rb]? = some (.cells #[.bool false] 4 (0, 0))) := (hF.block rb (lt_of_block HB3.out) id).trans HB3.out
      have HS4 := hid (HS3.out.no hF)
      have HSB4 : Hid (w4.heap[sb]? = some (.cells #[.pointer (some ⟨p, 0, none⟩)] 25 (0, 0))) := (hF.block sb (lt_of_block HSB3.out) id).trans HSB3.out
      have HE4 := hid (Elems.no HE3.out hF)
      have HNB : Hid (Bn < w4.heap.size ∧ w4.cell? ⟨Bn, 0, none⟩ = some (.func (.func 42) #[] #[.pointer (some ⟨B, 0, none⟩)]) ∧ B < w4.heap.size ∧ w4.cell? ⟨B, 0, none⟩ = some (.slice ra7 L.length c7) ∧ Elems spV 2 w4 ra7 L) := ⟨hBn, hcn, hB, hc, hE7⟩
      have hne := fun W => nums_fn_not_nil W Bn
      obtain ⟨m, hm⟩ : ∃ m, L.length = m := ⟨_, rfl⟩
      have HM := hid hm
      rw [hm] at hL40 ⊢
      clear hF HF3 HB3 HS3 HSB3 HE3 cs3 hBn hcn hB hc hE7 hm hLl
      go_wp2_with fail
      have hbw := heap_new w4 (.cells #[.slice none 0 0] 50)
      have hf5 : Fr No w4 (w4.alloc (.cells #[.slice none 0 0] 50)) := (Fr.refl No w4).alloc _
      obtain ⟨wb, hwb⟩ : ∃ wb, w4.heap.size = wb := ⟨_, rfl⟩
      obtain ⟨w5, hw5⟩ : ∃ w5, w4.alloc (.cells #[.slice none 0 0] 50) = w5 := ⟨_, rfl⟩
      rw [hw5, hwb] at hbw
      rw [hw5] at hf5 ⊢
      rw [hwb]
      have HWB := hid hwb
      have HBW := hid hbw
      have HF5 := hid hf5
      clear hwb hw5 hbw hf5 hne
      refine only_use (i := 2) (wh_outer _ _ _ _ _ _ _ _ _ _ _ _ _ _ _ _ _ _ _ _ _ _ _ _ _ _ _ _ _ _ _ _ _ _ _ _ _ _ _ _ _ _ _ _ _ _ _ _ _ _ _ _ _ _ _ _ _ _ _ _ _ _ _ _ _ _ _ _ _ _ _ _ _ _ _ _ _ _ _ _ _ _ _ _ _ _ _ _ _ _ _ _ _ _ _ _ _ _ _ _ _ _ _ _ _ _ _ _ _ _ _ _ _ _ _ _ _ _ _ _ _ _ _ _ _ _ _ _ _ _ _ _ _ _ _ _ _ _ _ _ _ _ _ _ _ _ _ _ _ _ _ _ _ _ _ _ _ _ _ _ _ _ _ _ _ _ _ _ _ _ _ _ _ _ _ _ _ _ _ _ _ _ _ _ _ _ _ _ _ _ _ _ _ _ _ a3 m c3 wb L w5 _ HG.out HSUM.out HM.out hL40 (Elems.no HE4.out HF5.out) ?hbn HBW.out ?_)
      case hbn =>
        intro hp b o e
        obtain ⟨b', o', e', hb', _⟩ := HE4.out.sp2 0 hp
        obtain rfl : b = b' := by rw [e] at e'; injection e' with e'; injection e'
        have := HWB.out
        omega
      intro u10 u11 u12 u66 u67 u68 u69 u70 u71 u72 u73 u74 u75 u76 u77 u78 u79 u80 u81 u82 u83 u84 u85 u86 u87 u88 u89 u90 u91 u92 u93 u94 u95 u96 u97 u98 u99 u100 u101 u102 u103 u104 u105 u106 u107 u108 u109 u110 u111 u112 u113 u114 u115 u116 u117 u118 u119 u120 u121 u122 u123 u124 wq HWANT HFQ
      have HWANT := hid HWANT
      have HFQ := hid HFQ
      go_wp2_with fail
      obtain ⟨al, cl, hbx, how, hnew⟩ := HWANT.out
      obtain ⟨nb, hnb⟩ : ∃ nb, wq.heap.size = nb := ⟨_, rfl⟩
      obtain ⟨w6, hw6⟩ : ∃ w6, wq.alloc (.cells #[.int .i64 0] 3) = w6 := ⟨_, rfl⟩
      have hbn0 := heap_new wq (.cells #[.int .i64 0] 3)
      have hf6 : Fr No wq (wq.alloc (.cells #[.int .i64 0] 3)) := (Fr.refl No wq).alloc _
      rw [hw6, hnb] at hbn0
      rw [hw6] at hf6 ⊢
      rw [hnb]
      have hnl0 := nums_len L
      obtain ⟨nl, hnl⟩ : ∃ nl, (nums L).length = nl := ⟨_, rfl⟩
      rw [hnl] at hbx how hnew hnl0
      have hwb := HWB.out
      have hf46 : Fr (fun j => j = wb) w4 w6 := ((HF5.out.mono (T := fun j => j = wb) (fun _ _ h => h.elim)).trans HFQ.out).trans (hf6.mono (T := fun j => j = wb) (fun _ _ h => h.elim))
      have hz5 := HF5.out.size
      have hzq := HFQ.out.size
      have hsl4 := lt_of_block HSB4.out
      have hrl4 := lt_of_block HB4.out
      have HS6 := hid (HS4.out.fr hf46 (fun k hk e => by have := HS4.out.lt k hk; omega))
      have HSN : Hid (¬ S nb) := fun h => by have := HS4.out.lt nb h; omega
      have HSB6 := hid ((hf46.block sb hsl4 (by omega)).trans HSB4.out)
      have HB6 := hid ((hf46.block rb hrl4 (by omega)).trans HB4.out)
      have HWB6 := hid ((hf6.block wb (lt_of_block hbx) id).trans hbx)
      have HOW6 := hid (own_frk how hf6 (fun _ _ => id))
      have HOWN : Hid (∀ q, (Value.slice al nl cl).ownBlock = some q → q ≠ nb) := fun q hq => by
        obtain ⟨cs, hc⟩ := own_ty how hq
        have := lt_of_block hc
        omega
      have HSBN : Hid (sb ≠ nb) := by unfold Hid; omega
      have HRBN : Hid (rb ≠ nb) := by unfold Hid; omega
      have HWBN : Hid (wb ≠ nb) := by unfold Hid; have := lt_of_block hbx; omega
      have HNB0 := hid hbn0
      have HNL := hid hnl
      have hnl2 : nl ≤ 2400 := by have := HSUM.out; omega
      obtain ⟨q1, q2, q3, q4, q5⟩ := HNB.out
      have HQ : Hid (Bn < w6.heap.size ∧ w6.cell? ⟨Bn, 0, none⟩ = some (.func (.func 42) #[] #[.pointer (some ⟨B, 0, none⟩)]) ∧ B < w6.heap.size ∧ w6.cell? ⟨B, 0, none⟩ = some (.slice ra7 L.length c7) ∧ Elems spV 2 w6 ra7 L) :=
        ⟨hf46.lt q1, (hf46.cell (p := ⟨Bn, 0, none⟩) q1 (fun e => by have : Bn = wb := e; omega)).trans q2, hf46.lt q3, (hf46.cell (p := ⟨B, 0, none⟩) q3 (fun e => by have : B = wb := e; omega)).trans q4, q5.elim .inl (fun ⟨b, o, e, hb, hc⟩ => .inr ⟨b, o, e, hf46.lt hb, fun i j hi hj => (hf46.cell (p := ⟨b, o + (i * 2 + j), none⟩) hb (fun e => by have : b = wb := e; omega)).trans (hc i j hi hj)⟩)⟩
      have HEN : Hid (0 < L.length → ∀ b o, ra7 = some ⟨b, o, none⟩ → b ≠ nb ∧ b < w6.heap.size) := fun hp b o e => by
        obtain ⟨b', o', e', hb', _⟩ := q5.sp2 0 hp
        obtain rfl : b = b' := by rw [e] at e'; injection e' with e'; injection e'
        have := hf46.size
        omega
      have HF6 := hid ((HF4.out.mono (T := fun j => j = wb) (fun _ _ h => h.elim)).trans hf46)
      have HZW : Hid (w.heap.size ≤ wb) := by unfold Hid; have := HF4.out.size; omega
      have HZN : Hid (w.heap.size ≤ nb) := by unfold Hid; have := HF4.out.size; omega
      clear hbx how hnew hbn0 hf6 hnl hwb hf46 hz5 hzq hsl4 hrl4 q1 q2 q3 q4 q5 hnb hw6 HWANT HFQ HF5 HNB HBW HWB HF4 HB4 HS4 HSB4
      refine onlyOn_use (wh_range _ _ _ _ _ _ _ _ _ _ _ _ _ _ _ _ _ _ _ _ _ _ _ _ _ _ _ _ _ _ _ _ _ _ _ _ _ _ _ _ _ _ _ _ _ _ _ _ _ _ _ _ _ _ _ _ _ _ _ _ _ _ _ _ _ _ _ _ _ _ _ _ _ _ _ _ _ _ _ _ _ _ _ _ _ _ _ _ _ _ _ _ _ _ _ _ _ _ _ _ _ _ _ _ _ _ _ _ _ _ _ _ _ _ _ _ _ _ _ _ _ _ _ _ _ _ _ _ _ _ _ _ _ _ _ _ _ _ _ _ _ _ _ _ _ _ _ _ _ _ _ _ _ _ _ _ _ _ _ _ _ _ _ _ _ _ _ _ _ _ _ _ _ _ _ _ _ _ _ _ _ _ _ _ _ _ _ _ _ _ _ _ _ _ _ sb wb nb Bn B p S L w6 ra7 c7 al cl nl _ HG.out hnl2 HNL.out HS6.out HSN.out HSB6.out HSBN.out HWB6.out HWBN.out HOW6.out HOWN.out HNB0.out HQ.out.1 HQ.out.2.1 HQ.out.2.2.1 HQ.out.2.2.2.1 HQ.out.2.2.2.2 HEN.out ?_)
      intro D W hD hn hF hK
      have HD := hid hD
      have HN := hid hn
      have HF := hid hF
      have HK := hid hK
      clear hD hn hF hK
      go_wp2_with fail
      have HFT := hid (HF6.out.mono (T := fun k => w.heap.size ≤ k) (fun k _ e => by have h1 := HZW.out; have h2 : k = wb := e; omega))
      have HFW : Hid (Fr No w W) := ⟨HF.out.os.trans HFT.out.os, HF.out.tape.trans HFT.out.tape, HF.out.output.trans HFT.out.output, Nat.le_trans HFT.out.size HF.out.size, fun k hk _ =>
        (HF.out.block k (Nat.lt_of_lt_of_le hk HFT.out.size) (fun h => h.elim (fun e => by have := HZN.out; omega) (fun e => by have := HFT.out.size; omega))).trans (HFT.out.block k hk (by omega))⟩
      have hDz := lt_of_block HK.out
      have h6z := lt_of_block HNB0.out
      have hnn : ∀ j, j < w6.heap.size → j ≠ nb → ¬ (j = nb ∨ w6.heap.size ≤ j) := fun j h1 h2 h => h.elim h2 (by omega)
      have HSW := hid (HS6.out.fr HF.out (fun k hk h => h.elim (fun e => HSN.out (by rw [← e]; exact hk)) (fun e => by have := HS6.out.lt k hk; omega)))
      have HSBW := hid ((HF.out.block sb (lt_of_block HSB6.out) (hnn sb (lt_of_block HSB6.out) HSBN.out)).trans HSB6.out)
      have HBW := hid ((HF.out.block rb (lt_of_block HB6.out) (hnn rb (lt_of_block HB6.out) HRBN.out)).trans HB6.out)
      have HWBW := hid ((HF.out.block wb (lt_of_block HWB6.out) (hnn wb (lt_of_block HWB6.out) HWBN.out)).trans HWB6.out)
      have HRD : Hid (rb ≠ D) := by unfold Hid; have h1 := lt_of_block HB6.out; have h2 := HD.out; omega
      have HFD := hid HFT.out.size
      have HLS := hid ((nums_len L).symm.trans HNL.out)
      clear hnn HS6 HSB6 HB6 HWB6 HOW6 HOWN HNB0 HQ HEN HF6 HFT HF HZW HZN h6z
      refine only_use (i := 8) (wh_last _ _ _ _ _ _ _ _ _ _ _ _ _ _ _ _ _ _ _ _ _ _ _ _ _ _ _ _ _ _ _ _ _ _ _ _ _ _ _ _ _ _ _ _ _ _ _ _ _ _ _ _ _ _ _ _ _ _ _ _ _ _ _ _ _ _ _ _ _ _ _ _ _ _ _ _ _ _ _ _ _ _ _ _ _ _ _ _ _ _ _ _ _ _ _ _ _ _ _ _ _ _ _ _ _ _ _ _ _ _ _ _ _ _ _ _ _ _ _ _ _ _ _ _ _ _ _ _ _ _ _ _ _ _ _ _ _ _ _ _ _ _ _ _ _ _ _ _ _ _ _ _ _ _ _ _ _ _ _ _ _ _ _ _ _ _ _ _ _ _ _ _ _ _ _ _ _ _ _ _ _ _ _ _ _ _ _ _ _ _ _ _ _ _ _ _ _ ra k rc sb p S L l W _ HLN.out h40' HRA.out HG.out HNEWH.out (Elems.no HE.out HFW.out) HSW.out HSBW.out ?_)
      intro e15 e147 e148 e149 e150 e151 e152 e153 e154 e155 e156 e157 e158 e159 e160 e161 e162 e163 e164 e165 e166 e167 e168 e169 e170 e171 e172 e173 e174 e175 e176 e177 e178 e179 e180 e181 e182 e183 e184 e185 W2 hF2
      have HF2 := hid hF2
      have hb2 := (hF2.block rb (lt_of_block HBW.out) id).trans HBW.out
      have hk2 := (hF2.block D hDz id).trans HK.out
      have hs2 := (hF2.block sb (lt_of_block HSBW.out) id).trans HSBW.out
      have hw2 := (hF2.block wb (lt_of_block HWBW.out) id).trans HWBW.out
      have hn2 := (hF2.block nb (lt_of_block HN.out) id).trans HN.out
      have z0 := cell_blk hs2 0
      have z1 := cell_blk hw2 0
      have z2 := cell_blk hn2 0
      simp only [List.getElem?_toArray, List.getElem?_cons_zero] at z0 z1 z2
      have HB2 := hid hb2
      have HK2 := hid hk2
      have HHD := hid (And.intro z0 (And.intro z1 z2))
      have HLT := hid (And.intro (lt_of_block hs2) (And.intro (lt_of_block hw2) (lt_of_block hn2)))
      have HS2 := hid (HSW.out.no hF2)
      have HNE : Hid (rb ≠ sb ∧ rb ≠ wb) := ⟨fun e => by rw [e, hs2] at hb2; simp at hb2, fun e => by rw [e, hw2] at hb2; simp at hb2⟩
      clear hF2 hb2 hk2 hs2 hw2 hn2 hDz
      go_wp2_with fail
      rename_i K1 hK1
      refine onlyOn_use ?_
      refine wp_region_held_drew (S := fun W => W.cell? ⟨sb, 0, none⟩ = some (.pointer (some ⟨p, 0, none⟩)) ∧ W.cell? ⟨wb, 0, none⟩ = some (.slice al nl cl) ∧ W.cell? ⟨nb, 0, none⟩ = some (.int .i64 (nl : Int))) (by kernel_rfl) ⟨z0, z1, z2⟩ (fun hHeld => ?_)
      refine wpAnyH_take (i := 0) (v := ?_) rfl (by kernel_rfl) (by kernel_rfl) (by kernel_rfl) (fun _ _ _ h => h) (Or.inl ⟨by rfl, ?_⟩) hHeld ?_
      rotate_left
      · intro w hSw; obtain ⟨s0, s1, s2⟩ := hSw
        go_simp
        with_reducible rfl
      try simp only [Act.put, List.getElem_toArray, List.getElem_cons_zero, List.getElem_cons_succ, List.setIfInBounds_toArray, List.set_cons_zero, List.set_cons_succ]
      refine wpAnyH_take (i := 1) (v := ?_) rfl (by kernel_rfl) (by kernel_rfl) (by kernel_rfl) (fun _ _ _ h => h) (Or.inl ⟨by rfl, ?_⟩) hHeld ?_
      rotate_left
      · intro w hSw; obtain ⟨s0, s1, s2⟩ := hSw
        go_simp
        with_reducible rfl
      try simp only [Act.put, List.getElem_toArray, List.getElem_cons_zero, List.getElem_cons_succ, List.setIfInBounds_toArray, List.set_cons_zero, List.set_cons_succ]
      refine wpAnyH_take (i := 2) (v := ?_) rfl (by kernel_rfl) (by kernel_rfl) (by kernel_rfl) (fun _ _ _ h => h) (Or.inl ⟨by rfl, ?_⟩) hHeld ?_
      rotate_left
      · intro w hSw
        go_simp
        with_reducible rfl
      try simp only [Act.put, List.getElem_toArray, List.getElem_cons_zero, List.getElem_cons_succ, List.setIfInBounds_toArray, List.set_cons_zero, List.set_cons_succ]
      refine wpAnyH_take (i := 3) (v := ?_) rfl (by kernel_rfl) (by kernel_rfl) (by kernel_rfl) (fun _ _ _ h => h) (Or.inl ⟨by rfl, ?_⟩) hHeld ?_
      rotate_left
      · intro w hSw
        go_simp
        with_reducible rfl
      try simp only [Act.put, List.getElem_toArray, List.getElem_cons_zero, List.getElem_cons_succ, List.setIfInBounds_toArray, List.set_cons_zero, List.set_cons_succ]
      refine wpAnyH_take (i := 4) (v := ?_) rfl (by kernel_rfl) (by kernel_rfl) (by kernel_rfl) (fun _ _ _ h => h) (Or.inl ⟨by rfl, ?_⟩) hHeld ?_
      rotate_left
      · intro w hSw
        go_simp
        with_reducible rfl
      try simp only [Act.put, List.getElem_toArray, List.getElem_cons_zero, List.getElem_cons_succ, List.setIfInBounds_toArray, List.set_cons_zero, List.set_cons_succ]
      refine wpAnyH_take (i := 5) (v := ?_) rfl (by kernel_rfl) (by kernel_rfl) (by kernel_rfl) (fun _ _ _ h => h) (Or.inl ⟨by rfl, ?_⟩) hHeld ?_
      rotate_left
      · intro w hSw; obtain ⟨s0, s1, s2⟩ := hSw
        go_simp
        with_reducible rfl
      try simp only [Act.put, List.getElem_toArray, List.getElem_cons_zero, List.getElem_cons_succ, List.setIfInBounds_toArray, List.set_cons_zero, List.set_cons_succ]
      refine wpAnyH_take (i := 7) (v := ?_) rfl (by kernel_rfl) (by kernel_rfl) (by kernel_rfl) (fun _ _ _ h => h) (Or.inl ⟨by rfl, ?_⟩) hHeld ?_
      rotate_left
      · intro w hSw; obtain ⟨s0, s1, s2⟩ := hSw
        go_simp
        with_reducible rfl
      try simp only [Act.put, List.getElem_toArray, List.getElem_cons_zero, List.getElem_cons_succ, List.setIfInBounds_toArray, List.set_cons_zero, List.set_cons_succ]
      refine wpAnyH_ready (rs := [6]) (by kernel_rfl) (by simp) ?_
      refine AllReadyH.cons rfl (fun K hK => ?_) AllReadyH.nil
      rw [if_pos (by rfl)]
      go_simp
      refine (sp_Len _ p S L (HS2.out.no ((Fr.refl No W2).drew))).mono ?_
      rw [HLS.out]
      rintro e w7 ⟨rfl, hF7⟩
      have HF7 := hid ((Fr.refl No W2).drew.trans hF7)
      have HH7 := hid (And.intro ((HF7.out.cell (p := ⟨sb, 0, none⟩) HLT.out.1 id).trans HHD.out.1) (And.intro ((HF7.out.cell (p := ⟨wb, 0, none⟩) HLT.out.2.1 id).trans HHD.out.2.1) ((HF7.out.cell (p := ⟨nb, 0, none⟩) HLT.out.2.2 id).trans HHD.out.2.2)))
      refine hK.out _ _ HH7.out (fun hHeld => ?_)
      clear hK K hF7
      try simp only [Act.put, List.getElem_toArray, List.getElem_cons_zero, List.getElem_cons_succ, List.setIfInBounds_toArray, List.set_cons_zero, List.set_cons_succ]
      refine wpAnyH_take (i := 8) (v := ?_) rfl (by kernel_rfl) (by kernel_rfl) (by kernel_rfl) (fun _ _ _ h => h) (Or.inl ⟨by rfl, ?_⟩) hHeld ?_
      rotate_left
      · intro w hSw
        go_simp
        with_reducible rfl
      try simp only [Act.put, List.getElem_toArray, List.getElem_cons_zero, List.getElem_cons_succ, List.setIfInBounds_toArray, List.set_cons_zero, List.set_cons_succ]
      refine wpAnyH_take (i := 9) (v := ?_) rfl (by kernel_rfl) (by kernel_rfl) (by kernel_rfl) (fun _ _ _ h => h) (Or.inl ⟨by rfl, ?_⟩) hHeld ?_
      rotate_left
      · intro w hSw
        go_simp
        with_reducible rfl
      try simp only [Act.put, List.getElem_toArray, List.getElem_cons_zero, List.getElem_cons_succ, List.setIfInBounds_toArray, List.set_cons_zero, List.set_cons_succ]
      refine wpAnyH_take (i := 10) (v := ?_) rfl (by kernel_rfl) (by kernel_rfl) (by kernel_rfl) (fun _ _ _ h => h) (Or.inl ⟨by rfl, ?_⟩) hHeld ?_
      rotate_left
      · intro w hSw
        go_simp
        with_reducible rfl
      try simp only [Act.put, List.getElem_toArray, List.getElem_cons_zero, List.getElem_cons_succ, List.setIfInBounds_toArray, List.set_cons_zero, List.set_cons_succ]
      refine wpAnyH_ready (rs := [11]) (by kernel_rfl) (by simp) ?_
      refine AllReadyH.cons rfl (fun K hK => ?_) AllReadyH.nil
      rw [if_pos (by rfl)]
      go_simp
      refine (sp_awake _).mono ?_
      rintro e w8 ⟨rfl, hF8⟩
      have HF8 := hid (HF7.out.trans hF8)
      have HH8 := hid (And.intro ((HF8.out.cell (p := ⟨sb, 0, none⟩) HLT.out.1 id).trans HHD.out.1) (And.intro ((HF8.out.cell (p := ⟨wb, 0, none⟩) HLT.out.2.1 id).trans HHD.out.2.1) ((HF8.out.cell (p := ⟨nb, 0, none⟩) HLT.out.2.2 id).trans HHD.out.2.2)))
      refine hK.out _ _ HH8.out (fun hHeld => ?_)
      clear hK K hF8
      try simp only [Act.put, List.getElem_toArray, List.getElem_cons_zero, List.getElem_cons_succ, List.setIfInBounds_toArray, List.set_cons_zero, List.set_cons_succ]
      refine wpAnyH_take (i := 12) (v := ?_) rfl (by kernel_rfl) (by kernel_rfl) (by kernel_rfl) (fun _ _ _ h => h) (Or.inl ⟨by rfl, ?_⟩) hHeld ?_
      rotate_left
      · intro w hSw
        go_simp
        with_reducible rfl
      try simp only [Act.put, List.getElem_toArray, List.getElem_cons_zero, List.getElem_cons_succ, List.setIfInBounds_toArray, List.set_cons_zero, List.set_cons_succ]
      have hb8 := (HF8.out.block rb (lt_of_block HB2.out) id).trans HB2.out
      have HB8 := hid hb8
      have cc := (cell_blk hb8 0).trans (show _ = some (Value.bool false) from rfl)
      have ff := free_blk hb8 0
      have HK8 := hid ((HF8.out.block D (lt_of_block HK2.out) id).trans HK2.out)
      refine wpAnyH_ready (rs := [13]) (by kernel_rfl) (by simp) ?_
      refine AllReadyH.cons rfl (fun K hK => ?_) AllReadyH.nil
      rw [if_pos (by rfl)]
      go_simp
      refine hK.out _ _ ?_ (fun hHeld => ?_)
      case refine_1 =>
        have hs := Fr.set1 w8 rb 0 (.bool true)
        exact ⟨(hs.cell (p := ⟨sb, 0, none⟩) (HF8.out.lt HLT.out.1) (fun e => HNE.out.1 (Eq.symm e))).trans HH8.out.1, (hs.cell (p := ⟨wb, 0, none⟩) (HF8.out.lt HLT.out.2.1) (fun e => HNE.out.2 (Eq.symm e))).trans HH8.out.2.1, (hs.cell (p := ⟨nb, 0, none⟩) (HF8.out.lt HLT.out.2.2) (fun e => HRBN.out (Eq.symm e))).trans HH8.out.2.2⟩
      clear hK K
      try simp only [Act.put, List.getElem_toArray, List.getElem_cons_zero, List.getElem_cons_succ, List.setIfInBounds_toArray, List.set_cons_zero, List.set_cons_succ]
      refine wpAnyH_done (by kernel_rfl) ?_ _
      refine hK1 _ _ ?_
      go_wp2_with fail
      try rw [Exit.noGoto_ret]
      have hkz : (w8.setCell ⟨rb, 0, none⟩ (.bool true)).heap[D]? = some (.deferred (some [])) := ((Fr.set1 w8 rb 0 (.bool true)).block D (lt_of_block HK8.out) (fun e => HRD.out (Eq.symm e))).trans HK8.out
      refine ⟨by simp, .inl ⟨_, _, rfl, run_takeDeferred hkz, ?_⟩⟩
      have cz : (w8.setCell ⟨rb, 0, none⟩ (.bool true)).cell? ⟨rb, 0, none⟩ = some (.bool true) := by rw [cell_blk (set_blk HB8.out 0 _)]; rfl
      have e0 := cell_kept cz (grownBy_putObj' _ D (.deferred none)) (fun r e => by cases e; exact ⟨_, hkz, rfl⟩)
      have hfz := ((HFW.out.trans (HF2.out.trans HF8.out)).setCell (p := ⟨rb, 0, none⟩) (fun h => absurd h (by have := HRB.out; show ¬ rb < w.heap.size; omega)) (.bool true)).put D (.deferred none) (fun h => absurd h (by have := HD.out; have := HFD.out; omega))
      refine ⟨.bool true, ?_, rfl, hfz⟩
      simp [results, Try.f4, go_sem, e0]
end Go.Proofs.Ytdehojhipiklmaa
