/- dev: Crash. -/
import Derived.Test.YtcdchojdkdimbaaDvK
namespace Go.Proofs.Ytcdchojdkdimbaa
open Go.RowKit

def crashK (D : DM) (keep : List Bool) : Nat → List (List Nat)
  | 0 => D.firm
  | k + 1 => if keep.getD k false = true then (crashK D keep k).set (opAt D k).1 (opAt D k).2 else crashK D keep k
def crashA (D : DM) (keep : List Bool) (k : Nat) : DM := ⟨crashK D keep k, [], []⟩
def crashD (D : DM) (keep : List Bool) : DM := crashA D keep keep.length
theorem crashK_len (D : DM) (keep : List Bool) : ∀ k, (crashK D keep k).length = D.firm.length
  | 0 => rfl
  | k + 1 => by
    unfold crashK
    split
    · rw [List.length_set, crashK_len D keep k]
    · exact crashK_len D keep k
theorem crashA_ok {D : DM} (h : DOk D) (keep : List Bool) : ∀ k, k ≤ D.opn.length → DOk (crashA D keep k)
  | 0, _ => ⟨h.lo, h.hi, h.firm, fun x hx => by simp [crashA] at hx, fun x hx => by simp [crashA] at hx, fun x hx => by simp [crashA] at hx⟩
  | k + 1, hk => by
    have ih := crashA_ok h keep k (by omega)
    have hx := h.opn _ (List.getElem_mem (show k < D.opn.length by omega))
    rw [← opAt_eq] at hx
    have hl := crashK_len D keep (k + 1)
    refine ⟨by show 1 ≤ (crashK D keep (k + 1)).length; rw [hl]; exact h.lo, by show (crashK D keep (k + 1)).length ≤ 4096; rw [hl]; exact h.hi, fun b hb => ?_, fun x hx => by simp [crashA] at hx, fun x hx => by simp [crashA] at hx, fun x hx => by simp [crashA] at hx⟩
    have hb : b ∈ crashK D keep (k + 1) := hb
    unfold crashK at hb
    split at hb
    · rcases List.mem_or_eq_of_mem_set hb with hb | rfl
      · exact ih.firm b hb
      · simpa [wk] using hx
    · exact ih.firm b hb
theorem dv_Crash_nil (w : World) (a : Option Addr) (n cap : Nat) : Calls Try.prog 19 #[.pointer none, .slice a n cap] w fun e w' => e = .returned (.tuple #[.pointer none, .int .i64 2]) ∧ w' = w := by
  go_enter Try.func19, Try.ntmps19
  go_wp2
  go_ret2
  exact ⟨rfl, rfl⟩
theorem dv_Crash_bad (w : World) (p : Nat) (S : Nat → Prop) (D : DM) (h : PD w p S D) (a : Option Addr) (n cap : Nat) (hn : D.opn.length < n) (hn2 : n ≤ 100000) : Calls Try.prog 19 #[.pointer (some ⟨p, 0, none⟩), .slice a n cap] w fun e w' => e = .returned (.tuple #[.pointer none, .int .i64 1]) ∧ w' = w := by
  obtain ⟨_, vF, vO, vP, h⟩ := h
  obtain ⟨c0, c1, c2, _⟩ := h.cells
  obtain ⟨aO, cO, rfl⟩ := own_form h.opn
  clear h
  have hn' : (D.opn.length : Int) < (n : Int) := by omega
  go_enter Try.func19, Try.ntmps19
  go_wp2
  go_ret2
  exact ⟨rfl, rfl⟩
set_option maxRecDepth 100000 in
set_option maxHeartbeats 2000000 in
theorem dv_Crash (w : World) (p : Nat) (S : Nat → Prop) (D : DM) (h : PD w p S D) (a : Option Addr) (cap : Nat) (keep : List Bool) (hrow : Row w a (keep.map fun b => Value.bool b)) (hk : keep.length ≤ D.opn.length) (hlen : D.opn.length ≤ 100000) :
    Calls Try.prog 19 #[.pointer (some ⟨p, 0, none⟩), .slice a keep.length cap] w fun e w' => ∃ p' S', e = .returned (.tuple #[.pointer (some ⟨p', 0, none⟩), .int .i64 0]) ∧ PD w' p' S' (crashD D keep) ∧ Fr No w w' ∧ (∀ k, S' k → w.heap.size ≤ k) := by
  have HOK := hid h.1
  obtain ⟨_, vF, vO, vP, hV⟩ := h
  obtain ⟨c0, c1, c2, _⟩ := hV.cells
  obtain ⟨aO, cO, rfl⟩ := own_form hV.opn
  have HV := hid hV
  have HC := hid (cloneB_own w vF _ _ hV.firm (flat_one bk_one _) (by have := HOK.out.hi; omega))
  have HR := hid hrow
  have hk' : (keep.length : Int) ≤ (D.opn.length : Int) := by omega
  have hlen' : (D.opn.length : Int) ≤ 100000 := by omega
  clear hV c2 hrow
  go_enter Try.func19, Try.ntmps19
  go_wp2_with fail
  refine HC.out.mono ?_
  rintro e w1 ⟨vC, rfl, hC, hCn, hF1⟩
  obtain ⟨aC, cC, rfl⟩ := own_form hC
  have hA := heap_new w1 (.cells #[.slice aC D.firm.length cC, .slice none 0 0, .slice none 0 0] 62)
  have hF2 := (Fr.refl No w1).alloc (.cells #[.slice aC D.firm.length cC, .slice none 0 0, .slice none 0 0] 62)
  have hV2 : DvV 62 68 (w1.alloc (.cells #[.slice aC D.firm.length cC, .slice none 0 0, .slice none 0 0] 62)) w1.heap.size (fun k => w.heap.size ≤ k ∧ k < (w1.alloc (.cells #[.slice aC D.firm.length cC, .slice none 0 0, .slice none 0 0] 62)).heap.size) (crashA D keep 0) (.slice aC D.firm.length cC) (.slice none 0 0) (.slice none 0 0) :=
    ⟨hA, own_frk hC hF2 (fun _ _ => id), World.ownsRow_nil _ _ _ _, .inl ⟨rfl, rfl⟩, ⟨hF1.size, by simp⟩, fun k hk => ⟨hCn k hk, hF2.lt (hC.lt k hk).2⟩, fun k hk => by simp [Value.ownBlock] at hk, fun k hk => by simp [Value.ownBlock] at hk, fun k hk => hk.2⟩
  have HV2 := hid hV2
  have HF12 := hid (hF1.trans hF2)
  have hz1 := hF1.size
  go_wp2_with fail
  obtain ⟨w2, hw2⟩ : ∃ w2, w1.alloc (.cells #[.slice aC D.firm.length cC, .slice none 0 0, .slice none 0 0] 62) = w2 := ⟨_, rfl⟩
  rw [hw2] at HV2 HF12 ⊢
  obtain ⟨p2, hp2⟩ : ∃ p2, w1.heap.size = p2 := ⟨_, rfl⟩
  rw [hp2] at HV2 hz1 ⊢
  clear hw2 hp2 hA hF2 hV2 hC hCn hF1 HC
  have HSge : Hid (∀ k, (fun k => w.heap.size ≤ k ∧ k < w2.heap.size) k → w.heap.size ≤ k) := fun k hk => hk.1
  obtain ⟨S2, hS2⟩ : ∃ S2 : Nat → Prop, (fun k => w.heap.size ≤ k ∧ k < w2.heap.size) = S2 := ⟨_, rfl⟩
  rw [hS2] at HV2 HSge
  clear hS2
  go_loopg [28] keep.length (fun g i wr => ∃ k : Nat, k + g = keep.length ∧ i = .int .i64 k ∧ Hid (DvV 62 68 wr p2 S2 (crashA D keep k) (.slice aC D.firm.length cC) (.slice none 0 0) (.slice none 0 0)) ∧ Hid (Fr S2 w2 wr))
  case atStart => exact ⟨0, by omega, rfl, HV2, Fr.refl _ _⟩
  case round =>
    obtain ⟨k, hkg, rfl, HVr, HF⟩ := hrel
    have HFw := hid (HF12.out.then HF.out (fun i hi e => absurd hi (by have := HSge.out i e; omega)))
    cases gk with
    | zero =>
      obtain rfl : k = keep.length := by omega
      go_wp2_with fail
      go_ret2
      exact ⟨p2, S2, rfl, ⟨crashA_ok HOK.out keep _ hk, _, _, _, HVr.out⟩, HFw.out, HSge.out⟩
    | succ g =>
      have hkl : k < keep.length := by omega
      have hkD : k < D.opn.length := by omega
      obtain ⟨bR, oR, rfl, hbR, hcR⟩ := HR.out.at (i := k) (by simpa using hkl)
      rw [getD_map (fun b => Value.bool b) keep false k hkl] at hcR
      have hcr := (HFw.out.cell (p := ⟨bR, oR + k, none⟩) hbR id).trans hcR
      have hCK : crashA D keep (k + 1) = if keep.getD k false = true then { crashA D keep k with firm := (crashA D keep k).firm.set (opAt D k).1 (opAt D k).2 } else crashA D keep k := by
        unfold crashA
        rw [crashK]
        split <;> rfl
      have HCK := hid hCK
      have HCR := hid hcR
      obtain ⟨bb, hbb⟩ : ∃ bb, keep.getD k false = bb := ⟨_, rfl⟩
      rw [hbb] at hcr HCK
      clear hbb hCK hcR
      cases bb with
      | false =>
        have HV3 : Hid (DvV 62 68 wr p2 S2 (crashA D keep (k + 1)) (.slice aC D.firm.length cC) (.slice none 0 0) (.slice none 0 0)) := by unfold Hid; rw [HCK.out, if_neg (by simp)]; exact HVr.out
        clear HCK
        go_wp2_with fail
        go_roundg g
        case measure => omega
        case rel => exact ⟨k + 1, by omega, by go_num, HV3, HF⟩
      | true =>
        have HVd := hid (HV.out.fr HFw.out (fun _ _ => id))
        obtain ⟨gO, capO, hv, hlc, hgz, hr0, _⟩ := own_at HVd.out.opn HOK.out.opn k hkD
        obtain ⟨rfl, rfl⟩ : aO = some ⟨gO, 0, none⟩ ∧ cO = capO := by injection hv with h1 _ h3; exact ⟨h1, h3⟩
        have hr : wr.rangeAt gO (k * 65) (wk (opAt D k)) := by rw [opAt_eq hkD]; exact hr0
        have hx1 := HOK.out.at_ _ (List.getElem_mem hkD)
        have hx2 := HOK.out.opn _ (List.getElem_mem hkD)
        rw [← opAt_eq hkD] at hx1 hx2
        obtain ⟨x, hx⟩ : ∃ x, opAt D k = x := ⟨_, rfl⟩
        rw [hx] at hr hx1 hx2 HCK
        obtain ⟨x1, B⟩ := x
        have hB : B.length = 64 := by simpa [wk, bk] using hx2
        have hokK := crashA_ok HOK.out keep k (by omega)
        have hfl : (crashA D keep k).firm.length = D.firm.length := crashK_len D keep k
        obtain ⟨gF, cF', hvF, hlF, hgFz, _, hth⟩ := own_at HVr.out.firm hokK.firm x1 (by rw [hfl]; exact hx1)
        rw [hfl] at hvF hlF
        obtain ⟨rfl, rfl⟩ : aC = some ⟨gF, 0, none⟩ ∧ cC = cF' := by injection hvF with h1 _ h3; exact ⟨h1, h3⟩
        obtain ⟨q0, q1⟩ := range_wk hr
        have c0a := HVr.out.cells.1
        have c1a := HVd.out.cells.2.1
        have hx1' : (x1 : Int) < (D.firm.length : Int) := by have : x1 < D.firm.length := hx1; omega
        have hlen1 : (D.firm.length : Int) ≤ 4096 := by have := HOK.out.hi; omega
        have hVd : DvV 62 68 wr.drew p2 S2 (crashA D keep k) (.slice (some ⟨gF, 0, none⟩) (crashA D keep k).firm.length cC) (.slice none 0 0) (.slice none 0 0) := by rw [hfl]; exact HVr.out.fr (Fr.refl No wr).drew (fun _ _ => id)
        have hSF := hVd.setF hokK (by decide) (by decide) x1 (by rw [hfl]; exact hx1) B hB
        rw [hfl] at hSF
        have HSF1 : Hid (DvV 62 68 (wr.drew.setCells gF (x1 * 64) (bk B)) p2 S2 (crashA D keep (k + 1)) (.slice (some ⟨gF, 0, none⟩) D.firm.length cC) (.slice none 0 0) (.slice none 0 0)) := by unfold Hid; rw [HCK.out, if_pos rfl]; exact hSF.1
        have HFd := hid (HF.out.drew.trans (hSF.2.mono (T := S2) (fun j _ e => by rw [e]; exact HVr.out.sF _ rfl)))
        have HT : Hid (wr.drew.there gF (x1 * 64) 64) := hth
        have HQ1 : Hid (wr.drew.rangeAt gO (k * 65 + 1) (bk B)) := q1
        have HIk := hid (info64k B hB)
        have HIb := hid (info64b B hB)
        have H1b := hid (blkA_one B)
        clear hVd hSF hr0 hr hx hx2 hv hvF hgz hgFz q1 hth c0 c1 HCK
        go_wp2_with fail
        go_still_tail 21, (by kernel_rfl)
        change wpStill _ _ wr.drew (fun a' => wpList _ _ _ _ a' wr.drew) _ _
        obtain ⟨wd, hwd⟩ : ∃ wd, wr.drew = wd := ⟨_, rfl⟩
        rw [hwd] at HT HQ1 HSF1 HFd ⊢
        clear hwd
        refine still_val rfl _ (exec_load_mid 42 _ rfl gO (k * 65 + 1) rfl (bk B) _ HQ1.out Try.underlying42 rfl HIk.out) ?_
        still_step
        refine wpStill_nil ?_
        go_wp2_with (refine wpList_store_mid rfl 42 _ _ rfl gF (x1 * 64) (blkA B) rfl rfl (by rw [blkA_size, hB]; exact HT.out) HIb.out H1b.out ?_)
        rw [show (blkA B).toList = bk B from by simp [blkA]]
        go_roundg g
        case measure => omega
        case rel => exact ⟨k + 1, by omega, by go_num, HSF1, HFd⟩
end Go.Proofs.Ytcdchojdkdimbaa
