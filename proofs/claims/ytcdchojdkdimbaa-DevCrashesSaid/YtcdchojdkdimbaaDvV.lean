/- lavaboref05: Crash. -/
import Derived.Test.YtcdchojdkdimbaaDvUp
namespace Go.Proofs.Ytcdchojdkdimbaa
open Go.RowKit

set_option maxRecDepth 100000 in
set_option maxHeartbeats 2000000 in
theorem rf_Crash (w : World) (q : Nat) (T : Nat → Prop) (D : DM) (h : RD w q T D) (a : Option Addr) (cap : Nat) (keep : List Bool) (hrow : Row w a (keep.map fun b => Value.bool b)) (hk : keep.length ≤ D.opn.length) (hlen : D.opn.length ≤ 100000) :
    Calls Try.prog 20 #[.pointer (some ⟨q, 0, none⟩), .slice a keep.length cap] w fun e w' => ∃ v, e = .returned v ∧ w'.ownsRow 0 42 64 v (crashD D keep).firm.length ((crashD D keep).firm.flatMap bk) ∧ Fr No w w' := by
  obtain ⟨i0, hi, hz0, hz1, hz2⟩ := info_parts blk_info
  have HH := hid h
  have HOK := hid h.1
  have HR := hid hrow
  obtain ⟨hok, vF, vO, vP, hV⟩ := h
  obtain ⟨c0, c1, c2, _⟩ := hV.cells
  obtain ⟨gF, cF, rfl, _, hgF⟩ := hV.firm.form hok.lo
  obtain ⟨aO, cO, rfl⟩ := own_form hV.opn
  have HN : Hid (∀ j u, (D.firm.flatMap bk)[j]? = some u → w.cell? ((⟨gF, 0, none⟩ : Addr).add j) = some u) := fun j u hu => by
    obtain ⟨_, ⟨h1, _⟩ | ⟨g, cp, cur, hv, _, hb, h4, h5, h6, h7⟩⟩ := hV.firm
    · cases h1
    · obtain rfl : gF = g := by injection hv with e; injection e with e; injection e
      rw [show ((⟨gF, 0, none⟩ : Addr).add j) = ⟨gF, j, none⟩ from by rw [Addr.add_mid, Nat.zero_add], cell_blk hb]
      rw [← h7, List.getElem?_take] at hu
      split at hu
      · simpa using hu
      · cases hu
  have HL : Hid ((D.firm.flatMap bk).length = D.firm.length * 64) := hV.firm.1
  have h4096 := hok.hi
  have hlo := hok.lo
  have hki : (keep.length : Int) ≤ (D.opn.length : Int) := by omega
  have hli : (D.opn.length : Int) ≤ 100000 := by omega
  obtain ⟨n, hn⟩ : ∃ n, D.firm.length = n := ⟨_, rfl⟩
  have HNN := hid hn
  rw [hn] at c0 h4096 hlo HL
  clear hV hok hrow c2 hn
  go_enter Try.func20, Try.ntmps20
  go_wp2_with (at_builtin; refine wpList_append_own _ rfl (.tmp 7) (.tmp 11) 35 rfl w.heap.size 42 i0 (.agg (blkA zeros)) 64 64 Try.underlying35 hi hz0 hz1 hz2 (by kernel_rfl) (by decide) _ 0 [] rfl (World.ownsRow_nil _ _ _ _) ⟨gF, 0, none⟩ n cF (D.firm.flatMap bk) rfl HL.out HN.out (flat_one bk_one _) (by unfold maxLen; omega) (by omega) (Nat.le_refl _) ?_; intro v' w1 hown hgrow hnone; clear hnone; have HF1 := hid ((Fr.refl No w).grown hgrow (fun k h _ => by cases h)); clear hgrow; rw [Nat.zero_add, List.nil_append] at hown; obtain ⟨gC, cC, rfl, hCb, hCz⟩ := hown.form hlo; have HW := hid hown; clear hown)
  have HCB := hid hCb
  clear hCb hCz c0 c1
  go_loopg [6] keep.length (fun g i wr => ∃ k : Nat, k + g = keep.length ∧ i = .int .i64 k ∧ Hid (wr.ownsRow 0 42 64 (.slice (some ⟨gC, 0, none⟩) n cC) n ((crashK D keep k).flatMap bk)) ∧ Hid (Fr No w wr))
  case atStart => exact ⟨0, by omega, rfl, own_mono HW.out, HF1⟩
  case round =>
    obtain ⟨k, hkg, rfl, HC, HF⟩ := hrel
    have HHr := hid (HH.out.no HF.out)
    obtain ⟨_, vF, vO, vP, hV⟩ := HHr.out
    obtain ⟨c0, c1, c2, _⟩ := hV.cells
    have HV := hid hV
    obtain ⟨aO, cO, rfl⟩ := own_form hV.opn
    clear c0 c2 hV
    cases gk with
    | zero =>
      obtain rfl : k = keep.length := by omega
      have HFIN : Hid (wr.ownsRow 0 42 64 (.slice (some ⟨gC, 0, none⟩) n cC) (crashD D keep).firm.length ((crashD D keep).firm.flatMap bk)) := by
        have e : (crashD D keep).firm.length = n := by rw [← HNN.out]; exact crashK_len D keep _
        unfold Hid; rw [e]; exact HC.out
      by_cases hko : keep.length < D.opn.length
      · have hko' : (keep.length : Int) < (D.opn.length : Int) := by omega
        go_wp2_with fail
        go_ret
        exact ⟨_, rfl, HFIN.out, HF.out⟩
      · have hko' : (D.opn.length : Int) ≤ (keep.length : Int) := by omega
        go_wp2_with fail
        go_ret
        exact ⟨_, rfl, HFIN.out, HF.out⟩
    | succ g =>
      have hkl : k < keep.length := by omega
      have hkD : k < D.opn.length := by omega
      have hkD' : (k : Int) < (D.opn.length : Int) := by omega
      obtain ⟨bR, oR, rfl, hbR, hcR⟩ := HR.out.at (i := k) (by simpa using hkl)
      rw [getD_map (fun b => Value.bool b) keep false k hkl] at hcR
      have hcr := (HF.out.cell (p := ⟨bR, oR + k, none⟩) hbR id).trans hcR
      have HCK : Hid (crashK D keep (k + 1) = if keep.getD k false = true then (crashK D keep k).set (opAt D k).1 (opAt D k).2 else crashK D keep k) := rfl
      obtain ⟨bb, hbb⟩ : ∃ bb, keep.getD k false = bb := ⟨_, rfl⟩
      rw [hbb] at hcr HCK
      clear hbb hcR
      cases bb with
      | false =>
        have HC2 : Hid (wr.ownsRow 0 42 64 (.slice (some ⟨gC, 0, none⟩) n cC) n ((crashK D keep (k + 1)).flatMap bk)) := by unfold Hid; rw [HCK.out, if_neg (by simp)]; exact HC.out
        clear HCK
        go_wp2_with fail
        go_roundg g
        case measure => omega
        case rel => exact ⟨k + 1, by omega, by go_num, HC2, HF⟩
      | true =>
        obtain ⟨gO, capO, hv, hlc, hgz, hr0, _⟩ := own_at HV.out.opn HOK.out.opn k hkD
        obtain ⟨rfl, rfl⟩ : aO = some ⟨gO, 0, none⟩ ∧ cO = capO := by injection hv with h1 _ h3; exact ⟨h1, h3⟩
        have hr : wr.rangeAt gO (k * 65) (wk (opAt D k)) := by rw [opAt_eq hkD]; exact hr0
        have hx1 := HOK.out.at_ _ (List.getElem_mem hkD)
        have hx2 := HOK.out.opn _ (List.getElem_mem hkD)
        rw [← opAt_eq hkD] at hx1 hx2
        obtain ⟨x, hx⟩ : ∃ x, opAt D k = x := ⟨_, rfl⟩
        rw [hx] at hr hx1 hx2 HCK
        obtain ⟨x1, B⟩ := x
        have hB : B.length = 64 := by simpa [wk, bk] using hx2
        have hokK := crashA_ok HOK.out keep k (by omega)
        have hfl : (crashK D keep k).length = n := by rw [crashK_len]; exact HNN.out
        have hx1n : x1 < n := by rw [← HNN.out]; exact hx1
        have hCf : wr.ownsRow 0 42 64 (.slice (some ⟨gC, 0, none⟩) (crashK D keep k).length cC) (crashK D keep k).length ((crashK D keep k).flatMap bk) := by rw [hfl]; exact HC.out
        obtain ⟨gF', cF', hvF, hlF, hgFz, _, hth⟩ := own_at hCf hokK.firm x1 (by rw [hfl]; exact hx1n)
        obtain ⟨rfl, rfl⟩ : gC = gF' ∧ cC = cF' := by injection hvF with h1 _ h3; injection h1 with h1; injection h1 with h1; exact ⟨h1, h3⟩
        rw [hfl] at hlF
        obtain ⟨q0, q1⟩ := range_wk hr
        have hx1' : (x1 : Int) < (n : Int) := by omega
        have hlen1 : (n : Int) ≤ 4096 := by omega
        have hCd : wr.drew.ownsRow 0 42 64 (.slice (some ⟨gC, 0, none⟩) (crashK D keep k).length cC) (crashK D keep k).length ((crashK D keep k).flatMap bk) := hCf.drew
        obtain ⟨hSF, hSFr⟩ := own_set hCd hokK.firm B (by rw [bk_len, hB]) x1 (by rw [hfl]; exact hx1n)
        have HSF1 : Hid ((wr.drew.setCells gC (x1 * 64) (bk B)).ownsRow 0 42 64 (.slice (some ⟨gC, 0, none⟩) n cC) n ((crashK D keep (k + 1)).flatMap bk)) := by
          unfold Hid; rw [HCK.out, if_pos rfl]; rw [List.length_set, hfl] at hSF; exact hSF
        have HFd := hid (HF.out.drew.then hSFr (fun i hi e => absurd hi (by have := HCB.out; omega)))
        have HT : Hid (wr.drew.there gC (x1 * 64) 64) := hth
        have HQ1 : Hid (wr.drew.rangeAt gO (k * 65 + 1) (bk B)) := q1
        have HIk := hid (info64k B hB)
        have HIb := hid (info64b B hB)
        have H1b := hid (blkA_one B)
        clear hCd hCf hSF hSFr hr0 hr hx hx2 hv hvF hgz hgFz q1 hth HCK
        go_wp2_with fail
        go_still_tail 18, (by kernel_rfl)
        change wpStill _ _ wr.drew (fun a' => wpList _ _ _ _ a' wr.drew) _ _
        obtain ⟨wd, hwd⟩ : ∃ wd, wr.drew = wd := ⟨_, rfl⟩
        rw [hwd] at HT HQ1 HSF1 HFd ⊢
        clear hwd
        refine still_val rfl _ (exec_load_mid 42 _ rfl gO (k * 65 + 1) rfl (bk B) _ HQ1.out Try.underlying42 rfl HIk.out) ?_
        still_step
        refine wpStill_nil ?_
        go_wp2_with (refine wpList_store_mid rfl 42 _ _ rfl gC (x1 * 64) (blkA B) rfl rfl (by rw [blkA_size, hB]; exact HT.out) HIb.out H1b.out ?_)
        rw [show (blkA B).toList = bk B from by simp [blkA]]
        go_roundg g
        case measure => omega
        case rel => exact ⟨k + 1, by omega, by go_num, HSF1, HFd⟩
end Go.Proofs.Ytcdchojdkdimbaa
