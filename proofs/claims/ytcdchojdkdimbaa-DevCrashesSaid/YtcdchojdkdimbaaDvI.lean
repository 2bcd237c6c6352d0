/- lavaboref05: Flush. -/
import Derived.Test.YtcdchojdkdimbaaDvH
namespace Go.Proofs.Ytcdchojdkdimbaa
open Go.RowKit

set_option maxRecDepth 100000 in
set_option maxHeartbeats 2000000 in
theorem rf_Flush (w : World) (p : Nat) (S : Nat → Prop) (D : DM) (h : RD w p S D) (hlen : D.opn.length ≤ 100000) (hpl : D.plan.length ≤ 100000) :
    Calls Try.prog 31 #[.pointer (some ⟨p, 0, none⟩)] w fun e w' => e = .returned (.int .i64 ((flushE D : Nat) : Int)) ∧ RD w' p S (flushF D) ∧ Fr S w w' := by
  have HOK0 := hid h.1
  have HFA := hid (rf_fate _ p S D h hpl)
  have hsp := h.sp
  go_enter Try.func31, Try.ntmps31
  go_wp2_with fail
  refine HFA.out.mono ?_
  rintro e w1 ⟨rfl, hD1, hF1⟩
  have h3 : fateD D = 0 ∨ fateD D = 1 ∨ fateD D = 2 := by have := fateD_le HOK0.out; omega
  obtain ⟨D1, hD1e⟩ : ∃ D1, popD D = D1 := ⟨_, rfl⟩
  have hW0 : fateD D = 0 → flushF D = flushD D1 ∧ flushE D = 0 := fun e => by unfold flushF flushE; rw [e, hD1e]; exact ⟨rfl, rfl⟩
  have hW1 : fateD D = 1 → flushF D = D1 ∧ flushE D = 21 := fun e => by unfold flushF flushE; rw [e, hD1e]; exact ⟨rfl, rfl⟩
  have hW2 : fateD D = 2 → flushF D = D1 ∧ flushE D = 0 := fun e => by unfold flushF flushE; rw [e, hD1e]; exact ⟨rfl, rfl⟩
  have hl1 : D1.opn.length = D.opn.length := by rw [← hD1e]; rfl
  rw [hD1e] at hD1
  rw [← hl1] at hlen
  clear hD1e hl1 HFA
  obtain ⟨fa, hfa⟩ : ∃ fa, fateD D = fa := ⟨_, rfl⟩
  rw [hfa] at hW0 hW1 hW2 h3 ⊢
  clear hfa
  have HF1 := hid hF1
  clear hF1
  rcases h3 with rfl | rfl | rfl
  rotate_left
  · obtain ⟨e1, e2⟩ := hW1 rfl
    clear hW0 hW1 hW2
    go_wp2_with fail
    go_ret
    exact ⟨by rw [e2]; rfl, by rw [e1]; exact hD1, HF1.out⟩
  · obtain ⟨e1, e2⟩ := hW2 rfl
    clear hW0 hW1 hW2
    go_wp2_with fail
    go_ret
    exact ⟨by rw [e2]; rfl, by rw [e1]; exact hD1, HF1.out⟩
  obtain ⟨e1, e2⟩ := hW0 rfl
  have HE1 := hid e1
  have HE2 := hid e2
  clear hW0 hW1 hW2 e1 e2
  obtain ⟨hok, vF, vO, vP, hV⟩ := hD1
  obtain ⟨aF, cF, rfl⟩ := own_form hV.firm
  obtain ⟨aO, cO, rfl⟩ := own_form hV.opn
  have HV := hid hV
  have HOK := hid hok
  have hlen' : (D1.opn.length : Int) ≤ 100000 := by omega
  obtain ⟨n, hn⟩ : ∃ n, D1.opn.length = n := ⟨_, rfl⟩
  have HN := hid hn
  rw [hn] at hlen'
  clear hn hV hok h
  go_wp2_with fail
  go_loopg [4] n (fun g i wr => ∃ k : Nat, k + g = n ∧ i = .int .i64 k ∧ Hid (DvV 39 70 wr p S (atK D1 k) (.slice aF D1.firm.length cF) (.slice aO D1.opn.length cO) vP) ∧ Hid (Fr S w wr))
  case atStart => exact ⟨0, by omega, rfl, HV, HF1⟩
  case round =>
    obtain ⟨k, hk, rfl, HVr, HF⟩ := hrel
    obtain ⟨c0, c1, c2, f0, f1, f2⟩ := HVr.out.cells
    rw [HN.out] at c1
    have hpz := lt_of_block HVr.out.blk
    cases gk with
    | zero =>
      obtain rfl : k = n := by omega
      clear c0 c2 f0 f2
      go_wp2_with fail
      go_ret
      have hset := HVr.out.setO0 (by decide) (by decide) (by decide)
      have hFD : flushD D1 = { atK D1 k with opn := [] } := by unfold flushD; rw [HN.out]; rfl
      rw [← hFD] at hset
      rw [HE1.out, HE2.out]
      exact ⟨rfl, ⟨flushD_ok HOK.out, _, _, _, hset⟩, HF.out.trans ((Fr.set1 wr p 1 _).mono (fun j _ e => by rw [e]; exact HVr.out.sp))⟩
    | succ g =>
      have hkn : k < n := by omega
      have hkD : k < D1.opn.length := by rw [HN.out]; exact hkn
      obtain ⟨gO, capO, hv, hlc, hgz, hr0, _⟩ := own_at HVr.out.opn HOK.out.opn k hkD
      obtain ⟨rfl, rfl⟩ : aO = some ⟨gO, 0, none⟩ ∧ cO = capO := by injection hv with h1 _ h3; exact ⟨h1, h3⟩
      have hr : wr.rangeAt gO (k * 65) (wk (opAt D1 k)) := by rw [opAt_eq hkD]; exact hr0
      clear hr0
      have hx1 := HOK.out.at_ _ (List.getElem_mem hkD)
      have hx2 := HOK.out.opn _ (List.getElem_mem hkD)
      rw [← opAt_eq hkD] at hx1 hx2
      have hK1 : atK D1 (k + 1) = { atK D1 k with firm := (atK D1 k).firm.set (opAt D1 k).1 (opAt D1 k).2 } := rfl
      have HK1 := hid hK1
      obtain ⟨x, hx⟩ : ∃ x, opAt D1 k = x := ⟨_, rfl⟩
      rw [hx] at hr hx1 hx2 HK1
      clear hx hK1 hv
      have hlc : n ≤ cO := by rw [← HN.out]; exact hlc
      obtain ⟨x1, B⟩ := x
      have hB : B.length = 64 := by simpa [wk, bk] using hx2
      obtain ⟨q0, q1⟩ := range_wk hr
      have hokK := atK_ok HOK.out k (by omega)
      have hfl : (atK D1 k).firm.length = D1.firm.length := firmK_len D1 k
      obtain ⟨gF, cF', hvF, hlF, hgFz, _, hth⟩ := own_at HVr.out.firm hokK.firm x1 (by rw [hfl]; exact hx1)
      rw [hfl] at hvF hlF
      obtain ⟨rfl, rfl⟩ : aF = some ⟨gF, 0, none⟩ ∧ cF = cF' := by injection hvF with h1 _ h3; exact ⟨h1, h3⟩
      have hx1' : (x1 : Int) < (D1.firm.length : Int) := by have : x1 < D1.firm.length := hx1; omega
      have hlen1 : (D1.firm.length : Int) ≤ 4096 := by have := HOK.out.hi; omega
      have HT : Hid (wr.drew.there gF (x1 * 64) 64) := hth
      have HQ1 : Hid (wr.drew.rangeAt gO (k * 65 + 1) (bk B)) := q1
      have hVd : DvV 39 70 wr.drew p S (atK D1 k) (.slice (some ⟨gF, 0, none⟩) (atK D1 k).firm.length cF) (.slice (some ⟨gO, 0, none⟩) D1.opn.length cO) vP := by rw [hfl]; exact HVr.out.fr (Fr.refl No wr).drew (fun _ _ => id)
      have hSF := hVd.setF hokK (by decide) (by decide) x1 (by rw [hfl]; exact hx1) B hB
      rw [hfl] at hSF
      have hSF1 : DvV 39 70 (wr.drew.setCells gF (x1 * 64) (bk B)) p S (atK D1 (k + 1)) (.slice (some ⟨gF, 0, none⟩) D1.firm.length cF) (.slice (some ⟨gO, 0, none⟩) D1.opn.length cO) vP := by rw [HK1.out]; exact hSF.1
      have HSF1 := hid hSF1
      have HFd := hid (HF.out.drew.trans (hSF.2.mono (T := S) (fun j _ e => by rw [e]; exact HVr.out.sF _ rfl)))
      have HIk := hid (info64k B hB)
      have HIb := hid (info64b B hB)
      have H1b := hid (blkA_one B)
      clear hVd hSF hSF1 hr hx2 q1 hth hgFz hvF hgz f0 f1 f2 c2
      go_wp2_with fail
      go_still_tail 21, (by kernel_rfl)
      change wpStill _ _ wr.drew (fun a' => wpList _ _ _ _ a' wr.drew) _ _
      obtain ⟨wd, hwd⟩ : ∃ wd, wr.drew = wd := ⟨_, rfl⟩
      rw [hwd] at HT HQ1 HSF1 HFd ⊢
      clear hwd
      refine still_val rfl _ (exec_load_mid 42 _ rfl gO (k * 65 + 1) rfl (bk B) _ HQ1.out Try.underlying42 rfl HIk.out) ?_
      still_step
      refine wpStill_nil ?_
      go_wp2_with (refine wpList_store_mid rfl 42 _ _ rfl gF (x1 * 64) (blkA B) rfl rfl (by rw [blkA_size, hB]; exact HT.out) HIb.out H1b.out ?_)
      rw [show (blkA B).toList = bk B from by simp [blkA]]
      go_roundg g
      case measure => omega
      case rel => exact ⟨k + 1, by omega, by go_num, HSF1, HFd⟩
end Go.Proofs.Ytcdchojdkdimbaa
