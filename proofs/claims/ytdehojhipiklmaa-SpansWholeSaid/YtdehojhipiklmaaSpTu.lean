/- The law SpansTurns. -/
import Derived.Test.YtdehojhipiklmaaSpBa
import Derived.Test.YtdehojhipiklmaaSpNm
namespace Go.Proofs.Ytdehojhipiklmaa
open Go.RowKit

theorem cellsN (W : World) (cs : List Value) (g : Nat) (hg : W.heap.size = g) : ∀ j u, cs[j]? = some u → (W.alloc (.cells cs.toArray 24)).cell? ((⟨g, 0, none⟩ : Addr).add j) = some u := fun j u h => by
  subst hg
  rw [Addr.add_mid, Nat.zero_add, cell_blk (heap_new W _), List.getElem?_toArray]; exact h
theorem one4 (x y z t : Int) : ∀ u ∈ [Value.int .i64 x, Value.int .i64 y, Value.int .i64 z, Value.int .i64 t], u.oneCell' = true := fun u hu => by simp at hu; rcases hu with rfl | rfl | rfl | rfl <;> rfl
theorem own_isp {w : World} {base : Nat} {v : Value} {L : List ISp} (h : w.ownsRow base 24 2 v L.length (L.flatMap ispV)) : ∃ a c, v = .slice a L.length c ∧ Elems ispV 2 w a L := by
  rcases Nat.eq_zero_or_pos L.length with h0 | h0
  · obtain ⟨_, ⟨hv, hn⟩ | ⟨g, cap, cur, hv, hg, hb, h4, _⟩⟩ := h
    · exact ⟨none, 0, by rw [hv, hn], .inl (List.eq_nil_of_length_eq_zero h0)⟩
    · exact ⟨_, _, hv, .inl (List.eq_nil_of_length_eq_zero h0)⟩
  · obtain ⟨g, cap, hv, hc, hg, _, _⟩ := own_at h (fun x _ => ispV_len x) 0 h0
    refine ⟨_, _, hv, .inr ⟨g, 0, rfl, hg, fun i j hi hj => ?_⟩⟩
    obtain ⟨g', cap', hv', _, _, hr, _⟩ := own_at h (fun x _ => ispV_len x) i hi
    have e : g = g' := by rw [hv] at hv'; injection hv' with e; injection e with e; injection e
    subst e
    rw [Nat.zero_add]
    have hj2 : j < (ispV L[i]).length := hj
    rw [hr j (ispV L[i])[j] (List.getElem?_eq_getElem hj2)]
    simp [List.getD_eq_getElem?_getD, hj2]
/-- how far into a span it is parted -/
def gk (at_ : Int) (x : ISp) : Int := if 0 < x.2 then (wrap64 (at_.tmod x.2 + x.2)).tmod x.2 else 0
theorem gk_ok (at_ : Int) (x : ISp) : bigI x = true ∨ (0 ≤ gk at_ x ∧ gk at_ x ≤ x.2) := by
  by_cases hb : bigI x = true
  · exact .inl hb
  · refine .inr ?_
    have hb : bigI x = false := by simpa using hb
    unfold bigI at hb
    simp only [Bool.or_eq_false_iff, decide_eq_false_iff_not] at hb
    unfold gk
    split
    · rename_i hp
      have h1 := Int.tmod_lt_of_pos at_ hp
      have h2 : -x.2 < at_.tmod x.2 := Int.lt_tmod_of_pos at_ hp
      have e : wrap64 (at_.tmod x.2 + x.2) = at_.tmod x.2 + x.2 := by unfold wrap64; omega
      rw [e]
      have h3 := Int.tmod_nonneg x.2 (show 0 ≤ at_.tmod x.2 + x.2 by omega)
      have h4 := Int.tmod_lt_of_pos (at_.tmod x.2 + x.2) hp
      omega
    · omega
def rnd (l : List ISp) (n f : Nat) (g : ISp → Int) (i : Nat) : List ISp := match l[(f + i) % n]? with | some x => partI (g x) x | none => []
theorem rnd_at {l : List ISp} {n f i : Nat} {g : ISp → Int} {x : ISp} (h : l[(f + i) % n]? = some x) : rnd l n f g i = partI (g x) x := by unfold rnd; rw [h]
theorem rnd_len (l : List ISp) (n f : Nat) (g : ISp → Int) (i : Nat) : (rnd l n f g i).length ≤ 2 := by
  unfold rnd
  split
  · unfold partI; split <;> simp
  · simp
theorem rnd_snoc (l : List ISp) (n f : Nat) (g : ISp → Int) (k : Nat) : (List.range (k + 1)).flatMap (rnd l n f g) = (List.range k).flatMap (rnd l n f g) ++ rnd l n f g k := by
  rw [List.range_succ, List.flatMap_append]; simp
set_option maxRecDepth 100000 in
set_option maxHeartbeats 4000000 in
theorem law_SpansTurns (w : World) (r : SRow) (hr : r.Ok w spSh) (fr : Int) (hfr : (Lit.int .i64 fr).wf = true) (at_ : Int) (hat : (Lit.int .i64 at_).wf = true) :
    Calls Try.prog 5 #[r.v, .int .i64 fr, .int .i64 at_] w fun e w' => e = .returned (.bool true) ∧ Fr No w w' := by
  obtain ⟨l, hv, hE, hl63, hwf⟩ := spans_of hr
  rw [hv]
  obtain ⟨ra, hra⟩ : ∃ ra, r.a = ra := ⟨_, rfl⟩
  obtain ⟨rc, hrc⟩ : ∃ rc, r.cap = rc := ⟨_, rfl⟩
  rw [hra] at hE
  rw [hra, hrc]
  have HWF := hid hwf
  have HE := hid hE
  have HN := hid (sp_New w ra rc l hl63 hE)
  clear hv hr hra hrc hwf hE
  obtain ⟨i0, hi0, hz0, hz1, hz2⟩ := info_parts sp_info
  obtain ⟨n, hn⟩ : ∃ n, l.length = n := ⟨_, rfl⟩
  rw [hn] at hl63 HN ⊢
  have HLN := hid hn
  clear hn
  go_enter Try.func5, Try.ntmps5
  by_cases h0 : n = 0
  · subst h0
    go_wp2_with fail
    refine (sp_awake _).mono ?_
    rintro e w9 ⟨rfl, hF9⟩
    have HF9 := hid hF9
    clear hF9
    go_wp2_with fail
    try rw [Exit.noGoto_ret]
    go_ret
    exact ⟨rfl, HF9.out⟩
  have h0' : ((n : Int) == 0) = false := by simp; omega
  have h0'' : ¬ (n : Int) = 0 := by omega
  by_cases h40 : n ≤ 40
  case neg =>
    have h40' : 40 < (n : Int) := by omega
    go_wp2_with fail
    refine (sp_awake _).mono ?_
    rintro e w9 ⟨rfl, hF9⟩
    have HF9 := hid hF9
    clear hF9
    go_wp2_with fail
    try rw [Exit.noGoto_ret]
    go_ret
    exact ⟨rfl, HF9.out⟩
  have h40' : (n : Int) ≤ 40 := by omega
  have hnp : (0 : Int) < (n : Int) := by omega
  go_wp2_with fail
  refine HN.out.mono ?_
  intro e w1 hR0
  obtain ⟨v1, e1, hR2⟩ : ∃ v1 : Value, ∃ e1 : Int, (rightAll l = true ∧ e1 = 0 ∧ NewSt w w1 v1 (newL l) ∨ rightAll l = false ∧ e1 = 10 ∧ v1 = .pointer none ∧ Fr No w w1) ∧ e = .returned (.tuple #[v1, .int .i64 e1]) := by
    rcases hR0 with ⟨h1, v, h2, h3⟩ | ⟨h1, h2, h3⟩
    · exact ⟨v, 0, .inl ⟨h1, rfl, h3⟩, h2⟩
    · exact ⟨.pointer none, 10, .inr ⟨h1, rfl, rfl, h3⟩, h2⟩
  clear hR0
  obtain ⟨hR, rfl⟩ := hR2
  have HR := hid hR
  have HF1 : Hid (Fr No w w1) := by
    rcases hR with h | h
    · obtain ⟨p, S, _, _, _, hF⟩ := h.2.2
      exact hF
    · exact h.2.2.2
  clear hR HN
  go_wp2_with fail
  have HT1 : Hid (-(n : Int) < fr.tmod n) := Int.lt_tmod_of_pos fr hnp
  have HT2 : Hid (fr.tmod n < (n : Int)) := Int.tmod_lt_of_pos fr hnp
  obtain ⟨t, ht⟩ : ∃ t, fr.tmod (n : Int) = t := ⟨_, rfl⟩
  rw [ht] at HT1 HT2
  have ht1 := HT1.out
  have ht2 := HT2.out
  obtain ⟨f, hfe⟩ : ∃ f : Nat, (t + (n : Int)).tmod n = (f : Int) := ⟨((t + (n : Int)).tmod n).toNat, by have := Int.tmod_nonneg (n : Int) (show 0 ≤ t + (n : Int) by omega); omega⟩
  have hfn : (f : Int) < (n : Int) := by rw [← hfe]; exact Int.tmod_lt_of_pos _ hnp
  go_loopg [10, 11] n (fun g x i wr => ∃ (k : Nat) (al : Option Addr) (cl nl : Nat) (NL : List ISp), k + g = n ∧ x = .slice al nl cl ∧ i = .int .i64 k ∧ nl ≤ 2 * k ∧ Hid (NL.length = nl) ∧ Hid (NL = (List.range k).flatMap (rnd l n f (gk at_))) ∧ Hid (wr.ownsRow 0 24 2 (.slice al nl cl) nl (NL.flatMap ispV)) ∧ Hid (∀ q, (Value.slice al nl cl).ownBlock = some q → w1.heap.size ≤ q) ∧ Hid (Fr No w1 wr))
  case atStart => exact ⟨0, none, 0, 0, [], by omega, rfl, rfl, by simp, rfl, rfl, ⟨rfl, .inl ⟨rfl, rfl⟩⟩, fun q h => by simp [Value.ownBlock] at h, Fr.refl _ _⟩
  case round =>
    obtain ⟨k, al, cl, nl, NL, hk, rfl, rfl, hnl, HLEN, HNL, HOWN, HNEW, HFR⟩ := hrel
    cases gk with
    | zero =>
      obtain rfl : k = n := by omega
      have hx := round_ext l k f HLN.out (by omega) (Go.Proofs.Ytdehojhipiklmaa.gk at_) (fun x _ => gk_ok at_ x) NL HNL.out
      obtain ⟨a2, c2, e2, hE2⟩ := own_isp (L := NL) (by rw [HLEN.out]; exact HOWN.out)
      obtain ⟨rfl, rfl⟩ : al = a2 ∧ cl = c2 := by injection e2 with e1 _ e3; exact ⟨e1, e3⟩
      have HN2 := hid (sp_New wr al cl NL (by rw [HLEN.out]; omega) hE2)
      rw [HLEN.out] at HN2
      have HX := hid hx
      clear hx hE2 e2
      go_wp2_with fail
      refine HN2.out.mono ?_
      rintro e w5 (⟨hr2, v2, rfl, hs2⟩ | ⟨hr2, rfl, hF2⟩)
      · rcases HR.out with ⟨hr1, rfl, hs1⟩ | ⟨hr1, _⟩
        case inr => rw [HX.out.1, hr1] at hr2; cases hr2
        obtain ⟨p, S, rfl, hS, _, hF1⟩ := hs1
        obtain ⟨q, T, rfl, hT, _, hF2⟩ := hs2
        have HE2 := hid (newL_ext l NL hr1 hr2 HX.out.2)
        have HS5 := hid (hS.no (HFR.out.trans hF2))
        have HT5 := hid hT
        have HF5 := hid ((HF1.out.trans HFR.out).trans hF2)
        clear hS hT hF1 hF2 hr1 hr2 HR HN2
        go_wp2_with fail
        refine (sp_Same w5 p q S T _ _ HS5.out HT5.out).mono ?_
        rw [decide_eq_true HE2.out]
        rintro e w6 ⟨rfl, hF⟩
        have HF6 := hid (HF5.out.trans hF)
        clear hF
        go_wp2_with fail
        refine (sp_awake _).mono ?_
        rintro e w9 ⟨rfl, hF9⟩
        have HF9 := hid (HF6.out.trans hF9)
        clear hF9
        go_wp2_with fail
        try rw [Exit.noGoto_ret]
        go_ret
        exact ⟨rfl, HF9.out⟩
      · rcases HR.out with ⟨hr1, _⟩ | ⟨hr1, rfl, rfl, _⟩
        case inl => rw [HX.out.1, hr1] at hr2; cases hr2
        have HF5 := hid ((HF1.out.trans HFR.out).trans hF2)
        clear hF2 hr1 hr2 HR HN2
        go_wp2_with fail
        refine (sp_awake _).mono ?_
        rintro e w9 ⟨rfl, hF9⟩
        have HF9 := hid (HF5.out.trans hF9)
        clear hF9
        go_wp2_with fail
        try rw [Exit.noGoto_ret]
        go_ret
        exact ⟨rfl, HF9.out⟩
    | succ g =>
      have hki : (k : Int) < (n : Int) := by omega
      obtain ⟨j, hj⟩ : ∃ j, (f + k) % n = j := ⟨_, rfl⟩
      have hjn : j < n := by rw [← hj]; exact Nat.mod_lt _ (by omega)
      have hje : ((f : Int) + (k : Int)).tmod n = (j : Int) := by rw [← hj, Int.ofNat_tmod]; rfl
      have hjn' : (j : Int) < (n : Int) := by omega
      have hjl : j < l.length := by rw [HLN.out]; exact hjn
      obtain ⟨b, o, rfl, hb, c0, c1⟩ := HE.out.isp2 j hjl
      have HJ : Hid (l[(f + k) % n]? = some l[j]) := by unfold Hid; rw [hj]; exact List.getElem?_eq_getElem hjl
      obtain ⟨x, hx⟩ : ∃ x, l[j] = x := ⟨_, rfl⟩
      rw [hx] at c0 c1 HJ
      have e0 := ((HF1.out.trans HFR.out).cell (p := ⟨b, o + j * 2, none⟩) hb id).trans c0
      have e1 := ((HF1.out.trans HFR.out).cell (p := ⟨b, o + j * 2 + 1, none⟩) hb id).trans c1
      clear c0 c1 hx hj hjl
      obtain ⟨xa, xn⟩ := x
      by_cases hpos : 0 < xn
      · have hxn0 : ¬ xn = 0 := by omega
        have HGK : Hid (Go.Proofs.Ytdehojhipiklmaa.gk at_ (xa, xn) = (wrap64 (at_.tmod xn + xn)).tmod xn) := by unfold Hid Go.Proofs.Ytdehojhipiklmaa.gk; rw [if_pos hpos]
        have HKV0 := hid (gk_ok at_ (xa, xn))
        rw [HGK.out] at HKV0
        go_wp2_with fail
        go_region
        obtain ⟨kv, hkv⟩ : ∃ kv, (wrap64 (at_.tmod xn + xn)).tmod xn = kv := ⟨_, rfl⟩
        rw [hkv] at HGK HKV0 ⊢
        have HKV : Hid (bigI (xa, xn) = true ∨ (0 ≤ kv ∧ kv ≤ xn)) := HKV0.out
        clear hkv HKV0
        have hbx := heap_new wr (.cells #[.int .i64 xa, .int .i64 xn] 24)
        have z0 := cell_blk hbx 0
        have z1 := cell_blk hbx 1
        simp only [List.getElem?_toArray, List.getElem?_cons_zero, List.getElem?_cons_succ] at z0 z1
        clear hbx
        obtain ⟨W, hW⟩ : ∃ W, (wr.alloc (.cells #[.int .i64 xa, .int .i64 xn] 24)).drew = W := ⟨_, rfl⟩
        have HFW : Hid (Fr No wr W) := by rw [← hW]; exact ((Fr.refl No wr).alloc _).drew
        have z0' : W.cell? ⟨wr.heap.size, 0, none⟩ = some (.int .i64 xa) := by rw [← hW]; exact z0
        have z1' : W.cell? ⟨wr.heap.size, 1, none⟩ = some (.int .i64 xn) := by rw [← hW]; exact z1
        rw [hW]
        clear hW z0 z1 e0 e1
        rcases (show (1099511627776 < xa) ∨ (xa ≤ 1099511627776 ∧ 1099511627776 < xn) ∨ (xa ≤ 1099511627776 ∧ xn ≤ 1099511627776 ∧ xa < 0) ∨ (xa ≤ 1099511627776 ∧ xn ≤ 1099511627776 ∧ 0 ≤ xa ∧ xn < 0) ∨ (xa ≤ 1099511627776 ∧ xn ≤ 1099511627776 ∧ 0 ≤ xa ∧ 0 ≤ xn) by omega) with h | h | h | h | h
        · have HPT : Hid (partI kv (xa, xn) = [(xa, xn)]) := by
            unfold Hid partI; rw [if_pos]; unfold bigI; simp only [Bool.or_eq_true, decide_eq_true_eq]; omega
          go_wp2_with (at_builtin; refine wpList_append_lies _ rfl (.tmp 80) (.tmp 82) 39 rfl 0 24 i0 (.agg #[.int .i64 0, .int .i64 0]) 2 16 Try.underlying39 hi0 hz0 hz1 hz2 (by kernel_rfl) (by decide) _ nl _ rfl (own_frk HOWN.out (HFW.out.alloc _) (fun _ _ => id)) ⟨_, 0, none⟩ 1 1 [.int .i64 _, .int .i64 _] rfl rfl (cells2 _ _ _ _ (by simp)) (one2 _ _) (by decide) (by unfold maxLen; omega) (by omega) (Nat.zero_le _) _ rfl ?_; intro gq cq w4 hown hgrow hgat hgz; have HR4 := hid (grown_no HNEW.out (HFR.out.trans HFW.out) hgrow); have HN4 := hid (new_next HNEW.out ((HFR.out.trans HFW.out).alloc _) hgat (nl + 1) cq); have HO4 := hid hown; clear hown hgrow hgat hgz)
          go_roundg g
          case measure => omega
          case rel =>
            refine ⟨k + 1, _, _, _, NL ++ [(xa, xn)], by omega, rfl, by go_num, by omega, ?_, ?_, ?_, HN4.out, HR4.out⟩
            · unfold Hid; rw [List.length_append, HLEN.out]; rfl
            · unfold Hid; rw [rnd_snoc, rnd_at HJ.out, HGK.out, HPT.out, ← HNL.out]
            · unfold Hid; rw [List.flatMap_append]; exact HO4.out
        · have HPT : Hid (partI kv (xa, xn) = [(xa, xn)]) := by
            unfold Hid partI; rw [if_pos]; unfold bigI; simp only [Bool.or_eq_true, decide_eq_true_eq]; omega
          obtain ⟨h1, h2⟩ := h
          go_wp2_with (at_builtin; refine wpList_append_lies _ rfl (.tmp 80) (.tmp 82) 39 rfl 0 24 i0 (.agg #[.int .i64 0, .int .i64 0]) 2 16 Try.underlying39 hi0 hz0 hz1 hz2 (by kernel_rfl) (by decide) _ nl _ rfl (own_frk HOWN.out (HFW.out.alloc _) (fun _ _ => id)) ⟨_, 0, none⟩ 1 1 [.int .i64 _, .int .i64 _] rfl rfl (cells2 _ _ _ _ (by simp)) (one2 _ _) (by decide) (by unfold maxLen; omega) (by omega) (Nat.zero_le _) _ rfl ?_; intro gq cq w4 hown hgrow hgat hgz; have HR4 := hid (grown_no HNEW.out (HFR.out.trans HFW.out) hgrow); have HN4 := hid (new_next HNEW.out ((HFR.out.trans HFW.out).alloc _) hgat (nl + 1) cq); have HO4 := hid hown; clear hown hgrow hgat hgz)
          go_roundg g
          case measure => omega
          case rel =>
            refine ⟨k + 1, _, _, _, NL ++ [(xa, xn)], by omega, rfl, by go_num, by omega, ?_, ?_, ?_, HN4.out, HR4.out⟩
            · unfold Hid; rw [List.length_append, HLEN.out]; rfl
            · unfold Hid; rw [rnd_snoc, rnd_at HJ.out, HGK.out, HPT.out, ← HNL.out]
            · unfold Hid; rw [List.flatMap_append]; exact HO4.out
        · have HPT : Hid (partI kv (xa, xn) = [(xa, xn)]) := by
            unfold Hid partI; rw [if_pos]; unfold bigI; simp only [Bool.or_eq_true, decide_eq_true_eq]; omega
          obtain ⟨h1, h2, h3⟩ := h
          go_wp2_with (at_builtin; refine wpList_append_lies _ rfl (.tmp 80) (.tmp 82) 39 rfl 0 24 i0 (.agg #[.int .i64 0, .int .i64 0]) 2 16 Try.underlying39 hi0 hz0 hz1 hz2 (by kernel_rfl) (by decide) _ nl _ rfl (own_frk HOWN.out (HFW.out.alloc _) (fun _ _ => id)) ⟨_, 0, none⟩ 1 1 [.int .i64 _, .int .i64 _] rfl rfl (cells2 _ _ _ _ (by simp)) (one2 _ _) (by decide) (by unfold maxLen; omega) (by omega) (Nat.zero_le _) _ rfl ?_; intro gq cq w4 hown hgrow hgat hgz; have HR4 := hid (grown_no HNEW.out (HFR.out.trans HFW.out) hgrow); have HN4 := hid (new_next HNEW.out ((HFR.out.trans HFW.out).alloc _) hgat (nl + 1) cq); have HO4 := hid hown; clear hown hgrow hgat hgz)
          go_roundg g
          case measure => omega
          case rel =>
            refine ⟨k + 1, _, _, _, NL ++ [(xa, xn)], by omega, rfl, by go_num, by omega, ?_, ?_, ?_, HN4.out, HR4.out⟩
            · unfold Hid; rw [List.length_append, HLEN.out]; rfl
            · unfold Hid; rw [rnd_snoc, rnd_at HJ.out, HGK.out, HPT.out, ← HNL.out]
            · unfold Hid; rw [List.flatMap_append]; exact HO4.out
        · have HPT : Hid (partI kv (xa, xn) = [(xa, xn)]) := by
            unfold Hid partI; rw [if_pos]; unfold bigI; simp only [Bool.or_eq_true, decide_eq_true_eq]; omega
          obtain ⟨h1, h2, h3, h4⟩ := h
          exfalso; omega
        · obtain ⟨h1, h2, h3, h4⟩ := h
          have HPT : Hid (partI kv (xa, xn) = [(xa + kv, xn - kv), (xa, kv)]) := by
            unfold Hid partI; rw [if_neg]; unfold bigI; simp only [Bool.or_eq_true, decide_eq_true_eq]; omega
          have hkk : 0 ≤ kv ∧ kv ≤ xn := HKV.out.resolve_left (fun e => by unfold bigI at e; simp only [Bool.or_eq_true, decide_eq_true_eq] at e; omega)
          obtain ⟨hk1, hk2⟩ := hkk
          go_wp2_with (at_builtin; refine wpList_append_lies _ rfl (.tmp 84) (.tmp 98) 39 rfl 0 24 i0 (.agg #[.int .i64 0, .int .i64 0]) 2 16 Try.underlying39 hi0 hz0 hz1 hz2 (by kernel_rfl) (by decide) _ nl _ rfl (own_frk HOWN.out (HFW.out.alloc _) (fun _ _ => id)) ⟨_, 0, none⟩ 2 2 [.int .i64 _, .int .i64 _, .int .i64 _, .int .i64 _] rfl rfl (cellsN _ _ _ (by simp)) (one4 _ _ _ _) (by decide) (by unfold maxLen; omega) (by omega) (Nat.zero_le _) _ rfl ?_; intro gq cq w4 hown hgrow hgat hgz; have HR4 := hid (grown_no HNEW.out (HFR.out.trans HFW.out) hgrow); have HN4 := hid (new_next HNEW.out ((HFR.out.trans HFW.out).alloc _) hgat (nl + 2) cq); have HO4 := hid hown; clear hown hgrow hgat hgz)
          go_roundg g
          case measure => omega
          case rel =>
            refine ⟨k + 1, _, _, _, NL ++ [(xa + kv, xn - kv), (xa, kv)], by omega, rfl, by go_num, by omega, ?_, ?_, ?_, HN4.out, HR4.out⟩
            · unfold Hid; rw [List.length_append, HLEN.out]; rfl
            · unfold Hid; rw [rnd_snoc, rnd_at HJ.out, HGK.out, HPT.out, ← HNL.out]
            · unfold Hid; rw [List.flatMap_append]; exact HO4.out
      · have HGK : Hid (Go.Proofs.Ytdehojhipiklmaa.gk at_ (xa, xn) = 0) := by unfold Hid Go.Proofs.Ytdehojhipiklmaa.gk; rw [if_neg hpos]
        have HFW : Hid (Fr No wr (wr.alloc (.cells #[.int .i64 xa, .int .i64 xn] 24))) := (Fr.refl No wr).alloc _
        rcases (show (1099511627776 < xa) ∨ (xa ≤ 1099511627776 ∧ 1099511627776 < xn) ∨ (xa ≤ 1099511627776 ∧ xn ≤ 1099511627776 ∧ xa < 0) ∨ (xa ≤ 1099511627776 ∧ xn ≤ 1099511627776 ∧ 0 ≤ xa ∧ xn < 0) ∨ (xa ≤ 1099511627776 ∧ xn ≤ 1099511627776 ∧ 0 ≤ xa ∧ 0 ≤ xn) by omega) with h | h | h | h | h
        · have HPT : Hid (partI 0 (xa, xn) = [(xa, xn)]) := by
            unfold Hid partI; rw [if_pos]; unfold bigI; simp only [Bool.or_eq_true, decide_eq_true_eq]; omega
          go_wp2_with (at_builtin; refine wpList_append_lies _ rfl (.tmp 80) (.tmp 82) 39 rfl 0 24 i0 (.agg #[.int .i64 0, .int .i64 0]) 2 16 Try.underlying39 hi0 hz0 hz1 hz2 (by kernel_rfl) (by decide) _ nl _ rfl (own_frk HOWN.out (HFW.out.alloc _) (fun _ _ => id)) ⟨_, 0, none⟩ 1 1 [.int .i64 _, .int .i64 _] rfl rfl (cells2 _ _ _ _ (by simp)) (one2 _ _) (by decide) (by unfold maxLen; omega) (by omega) (Nat.zero_le _) _ rfl ?_; intro gq cq w4 hown hgrow hgat hgz; have HR4 := hid (grown_no HNEW.out (HFR.out.trans HFW.out) hgrow); have HN4 := hid (new_next HNEW.out ((HFR.out.trans HFW.out).alloc _) hgat (nl + 1) cq); have HO4 := hid hown; clear hown hgrow hgat hgz)
          go_roundg g
          case measure => omega
          case rel =>
            refine ⟨k + 1, _, _, _, NL ++ [(xa, xn)], by omega, rfl, by go_num, by omega, ?_, ?_, ?_, HN4.out, HR4.out⟩
            · unfold Hid; rw [List.length_append, HLEN.out]; rfl
            · unfold Hid; rw [rnd_snoc, rnd_at HJ.out, HGK.out, HPT.out, ← HNL.out]
            · unfold Hid; rw [List.flatMap_append]; exact HO4.out
        · have HPT : Hid (partI 0 (xa, xn) = [(xa, xn)]) := by
            unfold Hid partI; rw [if_pos]; unfold bigI; simp only [Bool.or_eq_true, decide_eq_true_eq]; omega
          obtain ⟨h1, h2⟩ := h
          exfalso; omega
        · have HPT : Hid (partI 0 (xa, xn) = [(xa, xn)]) := by
            unfold Hid partI; rw [if_pos]; unfold bigI; simp only [Bool.or_eq_true, decide_eq_true_eq]; omega
          obtain ⟨h1, h2, h3⟩ := h
          go_wp2_with (at_builtin; refine wpList_append_lies _ rfl (.tmp 80) (.tmp 82) 39 rfl 0 24 i0 (.agg #[.int .i64 0, .int .i64 0]) 2 16 Try.underlying39 hi0 hz0 hz1 hz2 (by kernel_rfl) (by decide) _ nl _ rfl (own_frk HOWN.out (HFW.out.alloc _) (fun _ _ => id)) ⟨_, 0, none⟩ 1 1 [.int .i64 _, .int .i64 _] rfl rfl (cells2 _ _ _ _ (by simp)) (one2 _ _) (by decide) (by unfold maxLen; omega) (by omega) (Nat.zero_le _) _ rfl ?_; intro gq cq w4 hown hgrow hgat hgz; have HR4 := hid (grown_no HNEW.out (HFR.out.trans HFW.out) hgrow); have HN4 := hid (new_next HNEW.out ((HFR.out.trans HFW.out).alloc _) hgat (nl + 1) cq); have HO4 := hid hown; clear hown hgrow hgat hgz)
          go_roundg g
          case measure => omega
          case rel =>
            refine ⟨k + 1, _, _, _, NL ++ [(xa, xn)], by omega, rfl, by go_num, by omega, ?_, ?_, ?_, HN4.out, HR4.out⟩
            · unfold Hid; rw [List.length_append, HLEN.out]; rfl
            · unfold Hid; rw [rnd_snoc, rnd_at HJ.out, HGK.out, HPT.out, ← HNL.out]
            · unfold Hid; rw [List.flatMap_append]; exact HO4.out
        · have HPT : Hid (partI 0 (xa, xn) = [(xa, xn)]) := by
            unfold Hid partI; rw [if_pos]; unfold bigI; simp only [Bool.or_eq_true, decide_eq_true_eq]; omega
          obtain ⟨h1, h2, h3, h4⟩ := h
          go_wp2_with (at_builtin; refine wpList_append_lies _ rfl (.tmp 80) (.tmp 82) 39 rfl 0 24 i0 (.agg #[.int .i64 0, .int .i64 0]) 2 16 Try.underlying39 hi0 hz0 hz1 hz2 (by kernel_rfl) (by decide) _ nl _ rfl (own_frk HOWN.out (HFW.out.alloc _) (fun _ _ => id)) ⟨_, 0, none⟩ 1 1 [.int .i64 _, .int .i64 _] rfl rfl (cells2 _ _ _ _ (by simp)) (one2 _ _) (by decide) (by unfold maxLen; omega) (by omega) (Nat.zero_le _) _ rfl ?_; intro gq cq w4 hown hgrow hgat hgz; have HR4 := hid (grown_no HNEW.out (HFR.out.trans HFW.out) hgrow); have HN4 := hid (new_next HNEW.out ((HFR.out.trans HFW.out).alloc _) hgat (nl + 1) cq); have HO4 := hid hown; clear hown hgrow hgat hgz)
          go_roundg g
          case measure => omega
          case rel =>
            refine ⟨k + 1, _, _, _, NL ++ [(xa, xn)], by omega, rfl, by go_num, by omega, ?_, ?_, ?_, HN4.out, HR4.out⟩
            · unfold Hid; rw [List.length_append, HLEN.out]; rfl
            · unfold Hid; rw [rnd_snoc, rnd_at HJ.out, HGK.out, HPT.out, ← HNL.out]
            · unfold Hid; rw [List.flatMap_append]; exact HO4.out
        · obtain ⟨h1, h2, h3, h4⟩ := h
          have HPT : Hid (partI 0 (xa, xn) = [(xa + 0, xn - 0), (xa, 0)]) := by
            unfold Hid partI; rw [if_neg]; unfold bigI; simp only [Bool.or_eq_true, decide_eq_true_eq]; omega
          go_wp2_with (at_builtin; refine wpList_append_lies _ rfl (.tmp 84) (.tmp 98) 39 rfl 0 24 i0 (.agg #[.int .i64 0, .int .i64 0]) 2 16 Try.underlying39 hi0 hz0 hz1 hz2 (by kernel_rfl) (by decide) _ nl _ rfl (own_frk HOWN.out (HFW.out.alloc _) (fun _ _ => id)) ⟨_, 0, none⟩ 2 2 [.int .i64 _, .int .i64 _, .int .i64 _, .int .i64 _] rfl rfl (cellsN _ _ _ (by simp)) (one4 _ _ _ _) (by decide) (by unfold maxLen; omega) (by omega) (Nat.zero_le _) _ rfl ?_; intro gq cq w4 hown hgrow hgat hgz; have HR4 := hid (grown_no HNEW.out (HFR.out.trans HFW.out) hgrow); have HN4 := hid (new_next HNEW.out ((HFR.out.trans HFW.out).alloc _) hgat (nl + 2) cq); have HO4 := hid hown; clear hown hgrow hgat hgz)
          go_roundg g
          case measure => omega
          case rel =>
            refine ⟨k + 1, _, _, _, NL ++ [(xa + 0, xn - 0), (xa, 0)], by omega, rfl, by go_num, by omega, ?_, ?_, ?_, HN4.out, HR4.out⟩
            · unfold Hid; rw [List.length_append, HLEN.out]; rfl
            · unfold Hid; rw [rnd_snoc, rnd_at HJ.out, HGK.out, HPT.out, ← HNL.out]
            · unfold Hid; rw [List.flatMap_append]; have e3 : [(xa + 0, xn - 0), (xa, (0 : Int))].flatMap ispV = [.int .i64 xa, .int .i64 xn, .int .i64 xa, .int .i64 0] := by simp [ispV]
              rw [e3]; exact HO4.out
end Go.Proofs.Ytdehojhipiklmaa
