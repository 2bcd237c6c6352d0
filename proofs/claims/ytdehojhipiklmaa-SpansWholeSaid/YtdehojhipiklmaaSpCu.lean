/- spans: Cut. -/
import Derived.Test.YtdehojhipiklmaaSpAd
import Derived.WalkMore
import Derived.Deep.LoopGhost
import Derived.BigQuiet
import Derived.Deep.QuietTactic
import Derived.WalkLawsBesides
namespace Go.Proofs.Ytdehojhipiklmaa
open Go.RowKit

theorem Elems.taken {w : World} {a : Option Addr} {L : List Sp} (h : Elems spV 2 w a L) (k : Nat) : Elems spV 2 w a (L.take k) := by
  rcases h with h | ⟨b, o, e, hb, hc⟩
  · subst h; exact .inl (by simp)
  · refine .inr ⟨b, o, e, hb, fun i j hi hj => ?_⟩
    rw [List.length_take] at hi
    have := hc i j (by omega) hj
    rw [List.getElem_take]
    exact this
theorem cells2 (W : World) (x y : Int) (g : Nat) (hg : W.heap.size = g) : ∀ j u, [Value.int .i64 x, Value.int .i64 y][j]? = some u → (W.alloc (.cells #[.int .i64 x, .int .i64 y] 24)).cell? ((⟨g, 0, none⟩ : Addr).add j) = some u := fun j u h => by
  subst hg
  rw [Addr.add_mid, Nat.zero_add, cell_blk (heap_new W _), List.getElem?_toArray]; exact h
theorem one2 (x y : Int) : ∀ u ∈ [Value.int .i64 x, Value.int .i64 y], u.oneCell' = true := fun u hu => by simp at hu; rcases hu with rfl | rfl <;> rfl
theorem leftS_len (a n : Nat) (y : Sp) : (leftS a n y).length ≤ 2 := by
  unfold leftS; rw [List.length_append]; split <;> split <;> simp
theorem lefts_len (a n : Nat) : ∀ M : List Sp, (M.flatMap (leftS a n)).length ≤ 2 * M.length
  | [] => by simp
  | y :: M => by rw [List.flatMap_cons, List.length_append, List.length_cons]; have := leftS_len a n y; have := lefts_len a n M; omega
theorem lefts_snoc (a n : Nat) (M : List Sp) (k : Nat) (hk : k < M.length) : (M.take (k + 1)).flatMap (leftS a n) = (M.take k).flatMap (leftS a n) ++ leftS a n M[k] := by
  rw [List.take_succ_eq_append_getElem hk, List.flatMap_append]; simp
theorem grown_keep {w2 wr w4 : World} {vl : Value} {y1 y2 : Int} {o2 : Obj} (hnew : ∀ q, vl.ownBlock = some q → w2.heap.size ≤ q) (hlt : ∀ q, vl.ownBlock = some q → q < wr.heap.size) (hFR : Fr No w2 wr)
    (hg : ((wr.alloc (.cells #[.int .i64 y1, .int .i64 y2] 24)).alloc o2).grownBy w4 vl.ownBlock) : Fr No w2 w4 ∧ w4.cell? ⟨wr.heap.size, 0, none⟩ = some (.int .i64 y1) ∧ w4.cell? ⟨wr.heap.size, 1, none⟩ = some (.int .i64 y2) ∧ wr.heap.size < w4.heap.size := by
  have hb := heap_new wr (.cells #[.int .i64 y1, .int .i64 y2] 24)
  have hz := lt_of_block hb
  have f1 : Fr No (wr.alloc (.cells #[.int .i64 y1, .int .i64 y2] 24)) ((wr.alloc (.cells #[.int .i64 y1, .int .i64 y2] 24)).alloc o2) := (Fr.refl No _).alloc _
  have hb2 := (f1.block _ hz id).trans hb
  have f2 := grown_fr hg
  have hb3 := (f2.block wr.heap.size (f1.lt hz) (fun e => Nat.lt_irrefl _ (hlt _ e))).trans hb2
  refine ⟨((hFR.alloc _).alloc _).then f2 (fun i hi e => absurd (hnew i e) (by omega)), ?_, ?_, lt_of_block hb3⟩
  · rw [cell_blk hb3]; rfl
  · rw [cell_blk hb3]; rfl
theorem grown_no {w2 w4 w5 : World} {vl : Value} {o2 : Obj} (hnew : ∀ q, vl.ownBlock = some q → w2.heap.size ≤ q) (hFR : Fr No w2 w4) (hg : (w4.alloc o2).grownBy w5 vl.ownBlock) : Fr No w2 w5 :=
  (hFR.alloc _).then (grown_fr hg) (fun i hi e => absurd (hnew i e) (by omega))
theorem own_lts {w : World} {vl : Value} {n : Nat} {X : List Value} (h : w.ownsRow 0 24 2 vl n X) : ∀ q, vl.ownBlock = some q → q < w.heap.size := fun q hq => by
  obtain ⟨cs, hc⟩ := own_ty h hq
  exact lt_of_block hc
theorem new_next {w2 W : World} {vl : Value} {gq : Nat} (hnew : ∀ q, vl.ownBlock = some q → w2.heap.size ≤ q) (hFR : Fr No w2 W) (hgat : vl.ownBlock = some gq ∨ gq = W.heap.size) (n c : Nat) : ∀ q, (Value.slice (some ⟨gq, 0, none⟩) n c).ownBlock = some q → w2.heap.size ≤ q := fun q hq => by
  obtain rfl : gq = q := by simpa [Value.ownBlock] using hq
  rcases hgat with e | e
  · exact hnew _ e
  · have := hFR.size; omega
set_option maxRecDepth 100000 in
theorem sp_Cut_bad (w : World) (p : Nat) (a n : Int) (hb : mayB a n = false) : Calls Try.prog 25 #[.pointer (some ⟨p, 0, none⟩), .agg #[.int .i64 a, .int .i64 n]] w fun e w' => e = .returned (.int .i64 10) ∧ Fr No w w' := by
  have hb0 := heap_new w (.cells #[.int .i64 a, .int .i64 n] 24)
  have HF := hid ((Fr.refl No w).alloc (.cells #[.int .i64 a, .int .i64 n] 24))
  have b0 := cell_blk hb0 0
  have b1 := cell_blk hb0 1
  simp only [List.getElem?_toArray, List.getElem?_cons_zero, List.getElem?_cons_succ] at b0 b1
  clear hb0
  have HE : Hid (takesE a n = 10) := by unfold Hid takesE; rw [if_neg (by rw [hb]; decide)]
  clear hb
  go_enter Try.func25, Try.ntmps25
  go_wp2_with fail
  refine (sp_takes _ p a n).mono ?_
  rw [HE.out]
  rintro e w1 ⟨rfl, hF⟩
  have HF2 := hid (HF.out.trans hF)
  clear hF
  go_wp2_with fail
  try rw [Exit.noGoto_ret]
  go_ret
  exact ⟨rfl, HF2.out⟩
set_option maxRecDepth 100000 in
set_option maxHeartbeats 2000000 in
theorem sp_Cut (w : World) (p : Nat) (S : Nat → Prop) (L : List Sp) (h : St w p S L) (a n : Nat) (han : a + n ≤ 1048576) : Calls Try.prog 25 #[.pointer (some ⟨p, 0, none⟩), .agg #[.int .i64 a, .int .i64 n]] w fun e w' => e = .returned (.int .i64 0) ∧ St2 w w' p S (cutL L a n) := by
  have hb0 := heap_new w (.cells #[.int .i64 a, .int .i64 n] 24)
  have hbk : w.heap.size < (w.alloc (.cells #[.int .i64 a, .int .i64 n] 24)).heap.size := lt_of_block hb0
  have HF := hid ((Fr.refl No w).alloc (.cells #[.int .i64 a, .int .i64 n] 24))
  have b0 := cell_blk hb0 0
  have b1 := cell_blk hb0 1
  simp only [List.getElem?_toArray, List.getElem?_cons_zero, List.getElem?_cons_succ] at b0 b1
  clear hb0
  obtain ⟨i0, hi0, hz0, hz1, hz2⟩ := info_parts sp_info
  have HE : Hid (takesE a n = 0) := by unfold Hid takesE; rw [if_pos (mayB_nat han)]
  have ha' : (a : Int) ≤ 1048576 := by omega
  have hn' : (n : Int) ≤ 1048576 := by omega
  have han' : (a : Int) + (n : Int) ≤ 1048576 := by omega
  have HH := hid h
  clear h
  go_enter Try.func25, Try.ntmps25
  go_wp2_with fail
  refine (sp_takes _ p a n).mono ?_
  rw [HE.out]
  rintro e w1 ⟨rfl, hF⟩
  have HF1 := hid (HF.out.trans hF)
  have c0 := (hF.cell (p := ⟨w.heap.size, 0, none⟩) hbk id).trans b0
  have c1 := (hF.cell (p := ⟨w.heap.size, 1, none⟩) hbk id).trans b1
  have hbk1 := hF.lt hbk
  clear hF b0 b1 hbk
  by_cases hn : n = 0
  · subst hn
    have HL : Hid (cutL L a 0 = L) := rfl
    go_wp2_with fail
    try rw [Exit.noGoto_ret]
    go_ret
    exact ⟨rfl, S, by rw [HL.out]; exact HH.out.no HF1.out, fun k hk => .inl hk, HF1.out.mono (fun _ _ e => e.elim)⟩
  have hn0 : ((n : Int) == 0) = false := by simp; omega
  go_wp2_with fail
  refine (sp_around w1 p S L (HH.out.no HF1.out) (a : Int) ((a : Int) + (n : Int) - 1) (by omega) (by omega)).mono ?_
  rintro e w2 ⟨rfl, hF⟩
  have HF2 := hid (HF1.out.trans hF)
  have d0 := (hF.cell (p := ⟨w.heap.size, 0, none⟩) hbk1 id).trans c0
  have d1 := (hF.cell (p := ⟨w.heap.size, 1, none⟩) hbk1 id).trans c1
  have hbk2 := hF.lt hbk1
  clear hF c0 c1 hbk1
  have hH2 := HH.out.no HF2.out
  have htl := lastOf_le L (a : Int) ((a : Int) + n - 1)
  have hft := first_le_last L (a : Int) ((a : Int) + n - 1)
  have HG := hid (cutL_good L hH2.1 a n).1
  have HA : Hid (cutL L a n = spI L (firstOf L a) ((midOf L a ((a : Int) + n - 1)).flatMap (leftS a n)) (lastOf L a ((a : Int) + n - 1))) := by unfold Hid cutL; rw [if_neg hn]; rfl
  have HM : Hid (midOf L a ((a : Int) + n - 1) = (L.drop (firstOf L a)).take (midOf L a ((a : Int) + n - 1)).length) := takeWhile_take (fun s : Sp => decide ((s.1 : Int) ≤ (a : Int) + n - 1)) (L.drop (firstOf L a))
  have hml : lastOf L a ((a : Int) + n - 1) = firstOf L a + (midOf L a ((a : Int) + n - 1)).length := rfl
  have HMM : Hid (∀ y ∈ midOf L a ((a : Int) + n - 1), y.1 + y.2 ≤ 1048576) := fun y hy => hH2.1.2 y ((midOf_sub ..).subset hy)
  obtain ⟨f, hf⟩ : ∃ f, firstOf L (a : Int) = f := ⟨_, rfl⟩
  obtain ⟨M, hM⟩ : ∃ M, midOf L a ((a : Int) + n - 1) = M := ⟨_, rfl⟩
  obtain ⟨t, ht⟩ : ∃ t, lastOf L (a : Int) ((a : Int) + n - 1) = t := ⟨_, rfl⟩
  rw [hf] at hft HA HM hml ⊢
  rw [ht] at htl hft HA hml ⊢
  rw [hM] at HA HM hml HMM
  clear hf ht hM
  obtain ⟨hGB, v, hV⟩ := hH2
  have hlen := hGB.len
  obtain ⟨av, cv, rfl, hlc, hE⟩ := own_elems hV.row
  have HV := hid hV
  have e0 := cell_blk hV.blk 0
  simp only [List.getElem?_toArray, List.getElem?_cons_zero] at e0
  have hpz := lt_of_block hV.blk
  have HEM : Hid (∀ a2 : Option Addr, (cv = f ∧ a2 = av ∨ a2 = av.map fun x => x.add (f * 2)) → Elems spV 2 w2 a2 M) := fun a2 h => by
    rw [HM.out]
    rcases h with ⟨e, rfl⟩ | rfl
    · rw [List.drop_eq_nil_of_le (by omega)]; exact .inl (by simp)
    · exact (hE.dropped f).taken _
  clear hV hGB hE
  have hft' : (f : Int) ≤ (t : Int) := by omega
  have htl' : (t : Int) ≤ (L.length : Int) := by omega
  have hlc' : (L.length : Int) ≤ (cv : Int) := by omega
  have htc : (t : Int) ≤ (cv : Int) := by omega
  have hmt : (t : Int) - (f : Int) = (M.length : Int) := by omega
  have hfc : (f : Int) ≤ (cv : Int) := by omega
  go_wp2_with fail
  case' inl => obtain ⟨a2, ha2⟩ : ∃ a2, av = a2 := ⟨_, rfl⟩
  case' inl => have HM2 := hid (HEM.out a2 (.inl ⟨by omega, ha2.symm⟩))
  case' inl => obtain ⟨c2, hc2⟩ : ∃ c2, 0 = c2 := ⟨_, rfl⟩
  case' inl => rw [ha2]
  case' inr => obtain ⟨a2, ha2⟩ : ∃ a2, (av.map fun x => x.add (f * 2)) = a2 := ⟨_, rfl⟩
  case' inr => have HM2 := hid (HEM.out a2 (.inr ha2.symm))
  case' inr => obtain ⟨c2, hc2⟩ : ∃ c2, cv - f = c2 := ⟨_, rfl⟩
  case' inr => rw [ha2, hc2]
  all_goals
    clear ha2 HEM hc2 h
    have hmi : (M.length : Int) ≤ 1048576 := by omega
    go_loopg [8, 43] M.length (fun g x i wr => ∃ (k : Nat) (al : Option Addr) (cl nl : Nat) (NL : List Sp), k + g = M.length ∧ x = .slice al nl cl ∧ i = .int .i64 k ∧ nl ≤ 2 * k ∧ Hid (NL.length = nl) ∧ Hid (NL = (M.take k).flatMap (leftS a n)) ∧ Hid (wr.ownsRow 0 24 2 (.slice al nl cl) nl (NL.flatMap spV)) ∧ Hid (∀ q, (Value.slice al nl cl).ownBlock = some q → w2.heap.size ≤ q) ∧ Hid (Fr No w2 wr))
    case atStart => exact ⟨0, none, 0, 0, [], by omega, rfl, rfl, by simp, rfl, rfl, ⟨rfl, .inl ⟨rfl, rfl⟩⟩, fun q h => by simp [Value.ownBlock] at h, Fr.refl _ _⟩
    case round =>
      obtain ⟨k, al, cl, nl, NL, hk, rfl, rfl, hnl, HLEN, HNL, HOWN, HNEW, HFR⟩ := hrel
      have d0' := (HFR.out.cell (p := ⟨w.heap.size, 0, none⟩) hbk2 id).trans d0
      have d1' := (HFR.out.cell (p := ⟨w.heap.size, 1, none⟩) hbk2 id).trans d1
      have e0' := (HFR.out.cell (p := ⟨p, 0, none⟩) hpz id).trans e0
      have D0 := hid d0
      have D1 := hid d1
      have HLT := hid (own_lts HOWN.out)
      clear d0 d1 e0
      have d0a := fun o => cell_allocd o d0'
      have d1a := fun o => cell_allocd o d1'
      cases gk with
      | zero =>
        obtain rfl : k = M.length := by omega
        go_wp2_with fail
        have hNL2 : NL = M.flatMap (leftS a n) := by have := HNL.out; rw [List.take_length] at this; exact this
        have HA2 : Hid (cutL L a n = spI L f NL t) := by unfold Hid; rw [hNL2]; exact HA.out
        have hNl : NL.length ≤ 1500000 := by
          have h1 := HG.out.len
          rw [HA2.out] at h1
          unfold spI at h1
          rw [List.length_append, List.length_append] at h1
          omega
        have hown2 : wr.ownsRow 0 24 2 (.slice al nl cl) NL.length (NL.flatMap spV) := by rw [HLEN.out]; exact HOWN.out
        have et : (f : Int) + (M.length : Int) = (t : Int) := by omega
        rw [et]
        refine (sp_replace _ _ L (own_frk HV.out.row HFR.out (fun _ _ => id)) f t hft htl (by omega) _ NL hown2 hNl (fun k hk e => ?_)).mono ?_
        · have := HNEW.out k e
          have := HV.out.lt k (HV.out.sv k hk)
          omega
        rintro e w3 ⟨v3, rfl, hP⟩
        rw [← HA2.out] at hP
        have HQ := hid (put_close HV.out HH.out.lt HF2.out HFR.out hP HG.out)
        have hb := (put_blk HV.out HFR.out hP).1
        have g0 := cell_blk hb 0
        have g1 := free_blk hb 0
        simp only [List.getElem?_toArray, List.getElem?_cons_zero] at g0
        obtain ⟨a3, c3, rfl⟩ := own_form hP.1
        clear hP hb e0' d0' d1' d0a d1a hNL2 hown2 hNl HA2 et hmt hnl hk HNL HLEN HOWN HNEW HLT hi0 hz0 hz1 hz2 i0 D0 D1 hlc' htc hfc hft' htl' hmi
        go_wp2_with fail
        try rw [Exit.noGoto_ret]
        go_ret
        exact ⟨rfl, HQ.out⟩
      | succ g =>
        have hkm : k < M.length := by omega
        have hki : (k : Int) < (M.length : Int) := by omega
        obtain ⟨b, o, rfl, hb, c0, c1⟩ := HM2.out.sp2 k hkm
        have hyb := HMM.out _ (List.getElem_mem hkm)
        obtain ⟨y, hy⟩ : ∃ y, M[k] = y := ⟨_, rfl⟩
        rw [hy] at c0 c1 hyb
        have HY := hid hy
        have x0 := (HFR.out.cell (p := ⟨b, o + k * 2, none⟩) hb id).trans c0
        have x1 := (HFR.out.cell (p := ⟨b, o + k * 2 + 1, none⟩) hb id).trans c1
        clear c0 c1 hy
        obtain ⟨y1, y2⟩ := y
        have hyb' : (y1 : Int) + (y2 : Int) ≤ 1048576 := by have : y1 + y2 ≤ 1048576 := hyb; omega
        clear hyb
        by_cases h1 : y1 < a
        · have h1' : (y1 : Int) < (a : Int) := by omega
          by_cases h2 : a + n < y1 + y2
          · have h2' : (a : Int) + (n : Int) < (y1 : Int) + (y2 : Int) := by omega
            have HL : Hid (leftS a n (y1, y2) = [(y1, a - y1), (a + n, y1 + y2 - a - n)]) := by unfold Hid leftS; rw [if_pos h1, if_pos h2]; rfl
            go_wp2_with (first | (at_builtin; refine wpList_append_lies _ rfl (.tmp 52) (.tmp 61) 39 rfl 0 24 i0 (.agg #[.int .i64 0, .int .i64 0]) 2 16 Try.underlying39 hi0 hz0 hz1 hz2 (by kernel_rfl) (by decide) _ nl _ rfl (own_frk HOWN.out (((Fr.refl No wr).alloc _).alloc _) (fun _ _ => id)) ⟨_, 0, none⟩ 1 1 [.int .i64 _, .int .i64 _] rfl rfl (cells2 _ _ _ _ (by simp)) (one2 _ _) (by decide) (by unfold maxLen; omega) (by omega) (Nat.zero_le _) _ rfl ?_; intro gq cq w4 hown hgrow hgat hgz; have hK := grown_keep HNEW.out HLT.out HFR.out hgrow; have HR4 := hid hK.1; have z0 := hK.2.1; have z1 := hK.2.2.1; have z2 := hK.2.2.2; have d0b := (HR4.out.cell (p := ⟨w.heap.size, 0, none⟩) hbk2 id).trans D0.out; have d1b := (HR4.out.cell (p := ⟨w.heap.size, 1, none⟩) hbk2 id).trans D1.out; have HN4 := hid (new_next HNEW.out ((HFR.out.alloc _).alloc _) hgat (nl + 1) cq); have HO4 := hid hown; clear hK; clear hown hgrow hgat hgz) | (at_builtin; refine wpList_append_lies _ rfl (.tmp 74) (.tmp 92) 39 rfl 0 24 i0 (.agg #[.int .i64 0, .int .i64 0]) 2 16 Try.underlying39 hi0 hz0 hz1 hz2 (by kernel_rfl) (by decide) _ (nl + 1) _ rfl (own_frk HO4.out ((Fr.refl No w4).alloc _) (fun _ _ => id)) ⟨_, 0, none⟩ 1 1 [.int .i64 _, .int .i64 _] rfl rfl (cells2 _ _ _ _ (by simp)) (one2 _ _) (by decide) (by unfold maxLen; omega) (by omega) (Nat.zero_le _) _ rfl ?_; intro gr cr w5 hown hgrow hgat hgz; have HR5 := hid (grown_no HN4.out HR4.out hgrow); have HN5 := hid (new_next HN4.out (HR4.out.alloc _) hgat (nl + 1 + 1) cr); have HO5 := hid hown; clear hown hgrow hgat hgz))
            go_roundg g
            case measure => omega
            case rel =>
              refine ⟨k + 1, _, _, _, NL ++ leftS a n (y1, y2), by omega, rfl, by go_num, by omega, ?_, ?_, ?_, HN5.out, HR5.out⟩
              · unfold Hid; rw [HL.out, List.length_append, HLEN.out]; rfl
              · unfold Hid; rw [lefts_snoc a n M k hkm, HY.out, ← HNL.out]
              · unfold Hid; rw [HL.out, List.flatMap_append]
                have e1 : ((a - y1 : Nat) : Int) = (a : Int) - (y1 : Int) := by omega
                have e2 : ((y1 + y2 - a - n : Nat) : Int) = (y1 : Int) + (y2 : Int) - (a : Int) - (n : Int) := by omega
                have e3 : [(y1, a - y1), (a + n, y1 + y2 - a - n)].flatMap spV = [.int .i64 (y1 : Int), .int .i64 ((a : Int) - (y1 : Int))] ++ [.int .i64 ((a : Int) + (n : Int)), .int .i64 ((y1 : Int) + (y2 : Int) - (a : Int) - (n : Int))] := by rw [← e1, ← e2]; rfl
                rw [e3, ← List.append_assoc]; exact HO5.out
          · have h2' : (y1 : Int) + (y2 : Int) ≤ (a : Int) + (n : Int) := by omega
            have HL : Hid (leftS a n (y1, y2) = [(y1, a - y1)]) := by unfold Hid leftS; rw [if_pos h1, if_neg h2]; rfl
            go_wp2_with (at_builtin; refine wpList_append_lies _ rfl (.tmp 52) (.tmp 61) 39 rfl 0 24 i0 (.agg #[.int .i64 0, .int .i64 0]) 2 16 Try.underlying39 hi0 hz0 hz1 hz2 (by kernel_rfl) (by decide) _ nl _ rfl (own_frk HOWN.out (((Fr.refl No wr).alloc _).alloc _) (fun _ _ => id)) ⟨_, 0, none⟩ 1 1 [.int .i64 _, .int .i64 _] rfl rfl (cells2 _ _ _ _ (by simp)) (one2 _ _) (by decide) (by unfold maxLen; omega) (by omega) (Nat.zero_le _) _ rfl ?_; intro gq cq w4 hown hgrow hgat hgz; have hK := grown_keep HNEW.out HLT.out HFR.out hgrow; have HR4 := hid hK.1; have z0 := hK.2.1; have z1 := hK.2.2.1; have z2 := hK.2.2.2; have d0b := (HR4.out.cell (p := ⟨w.heap.size, 0, none⟩) hbk2 id).trans D0.out; have d1b := (HR4.out.cell (p := ⟨w.heap.size, 1, none⟩) hbk2 id).trans D1.out; have HN4 := hid (new_next HNEW.out ((HFR.out.alloc _).alloc _) hgat (nl + 1) cq); have HO4 := hid hown; clear hK; clear hown hgrow hgat hgz)
            go_roundg g
            case measure => omega
            case rel =>
              refine ⟨k + 1, _, _, _, NL ++ leftS a n (y1, y2), by omega, rfl, by go_num, by omega, ?_, ?_, ?_, HN4.out, HR4.out⟩
              · unfold Hid; rw [HL.out, List.length_append, HLEN.out]; rfl
              · unfold Hid; rw [lefts_snoc a n M k hkm, HY.out, ← HNL.out]
              · have e1 : ((a - y1 : Nat) : Int) = (a : Int) - (y1 : Int) := by omega
                have e3 : [(y1, a - y1)].flatMap spV = [.int .i64 (y1 : Int), .int .i64 ((a : Int) - (y1 : Int))] := by rw [← e1]; rfl
                unfold Hid; rw [HL.out, List.flatMap_append, e3]; exact HO4.out
        · have h1' : (a : Int) ≤ (y1 : Int) := by omega
          by_cases h2 : a + n < y1 + y2
          · have h2' : (a : Int) + (n : Int) < (y1 : Int) + (y2 : Int) := by omega
            have HL : Hid (leftS a n (y1, y2) = [(a + n, y1 + y2 - a - n)]) := by unfold Hid leftS; rw [if_neg h1, if_pos h2]; rfl
            go_wp2_with (at_builtin; refine wpList_append_lies _ rfl (.tmp 74) (.tmp 92) 39 rfl 0 24 i0 (.agg #[.int .i64 0, .int .i64 0]) 2 16 Try.underlying39 hi0 hz0 hz1 hz2 (by kernel_rfl) (by decide) _ nl _ rfl (own_frk HOWN.out (((Fr.refl No wr).alloc _).alloc _) (fun _ _ => id)) ⟨_, 0, none⟩ 1 1 [.int .i64 _, .int .i64 _] rfl rfl (cells2 _ _ _ _ (by simp)) (one2 _ _) (by decide) (by unfold maxLen; omega) (by omega) (Nat.zero_le _) _ rfl ?_; intro gr cr w5 hown hgrow hgat hgz; have HR5 := hid (grown_keep HNEW.out HLT.out HFR.out hgrow).1; have HN5 := hid (new_next HNEW.out ((HFR.out.alloc _).alloc _) hgat (nl + 1) cr); have HO5 := hid hown; clear hown hgrow hgat hgz)
            go_roundg g
            case measure => omega
            case rel =>
              refine ⟨k + 1, _, _, _, NL ++ leftS a n (y1, y2), by omega, rfl, by go_num, by omega, ?_, ?_, ?_, HN5.out, HR5.out⟩
              · unfold Hid; rw [HL.out, List.length_append, HLEN.out]; rfl
              · unfold Hid; rw [lefts_snoc a n M k hkm, HY.out, ← HNL.out]
              · have e2 : ((y1 + y2 - a - n : Nat) : Int) = (y1 : Int) + (y2 : Int) - (a : Int) - (n : Int) := by omega
                have e3 : [(a + n, y1 + y2 - a - n)].flatMap spV = [.int .i64 ((a : Int) + (n : Int)), .int .i64 ((y1 : Int) + (y2 : Int) - (a : Int) - (n : Int))] := by rw [← e2]; rfl
                unfold Hid; rw [HL.out, List.flatMap_append, e3]; exact HO5.out
          · have h2' : (y1 : Int) + (y2 : Int) ≤ (a : Int) + (n : Int) := by omega
            have HL : Hid (leftS a n (y1, y2) = []) := by unfold Hid leftS; rw [if_neg h1, if_neg h2]; rfl
            go_wp2_with fail
            go_roundg g
            case measure => omega
            case rel =>
              refine ⟨k + 1, al, cl, nl, NL, by omega, rfl, by go_num, by omega, HLEN.out, ?_, own_frk HOWN.out ((Fr.refl _ _).alloc _) (fun _ _ => id), HNEW.out, HFR.out.alloc _⟩
              unfold Hid; rw [lefts_snoc a n M k hkm, HY.out, HL.out, List.append_nil]; exact HNL.out
end Go.Proofs.Ytdehojhipiklmaa
