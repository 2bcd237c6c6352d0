/- dev: Flush. -/
import Derived.Test.YtcdchojdkdimbaaDvO
namespace Go.Proofs.Ytcdchojdkdimbaa
open Go.RowKit

/-- the firm sectors behind the first k open writes -/
def firmK (D : DM) : Nat → List (List Nat)
  | 0 => D.firm
  | k + 1 => (firmK D k).set (opAt D k).1 (opAt D k).2
def atK (D : DM) (k : Nat) : DM := { D with firm := firmK D k }
def flushD (D : DM) : DM := { D with firm := firmK D D.opn.length, opn := [] }
theorem firmK_len (D : DM) : ∀ k, (firmK D k).length = D.firm.length
  | 0 => rfl
  | k + 1 => by rw [firmK, List.length_set, firmK_len D k]
theorem atK_ok {D : DM} (h : DOk D) : ∀ k, k ≤ D.opn.length → DOk (atK D k)
  | 0, _ => h
  | k + 1, hk => by
    have ih := atK_ok h k (by omega)
    have hx := h.opn _ (List.getElem_mem (show k < D.opn.length by omega))
    rw [← opAt_eq] at hx
    refine ⟨by rw [show (atK D (k + 1)).firm = firmK D (k + 1) from rfl, firmK_len]; exact h.lo, by rw [show (atK D (k + 1)).firm = firmK D (k + 1) from rfl, firmK_len]; exact h.hi, fun b hb => ?_, fun x hx' => by rw [show (atK D (k + 1)).firm = firmK D (k + 1) from rfl, firmK_len]; exact h.at_ x hx', h.opn, h.plan⟩
    rcases List.mem_or_eq_of_mem_set hb with hb | rfl
    · exact ih.firm b hb
    · simpa [wk] using hx
theorem flushD_ok {D : DM} (h : DOk D) : DOk (flushD D) := by
  have := atK_ok h _ (Nat.le_refl _)
  exact ⟨this.lo, this.hi, this.firm, fun x hx => by simp [flushD] at hx, fun x hx => by simp [flushD] at hx, h.plan⟩
theorem DvV.setO0 {tD tW : TypeId} {w : World} {p : Nat} {S : Nat → Prop} {D : DM} {vF vO vP : Value} (h : DvV tD tW w p S D vF vO vP) (h1 : tD ≠ 42) (h2 : tD ≠ tW) (h3 : tD ≠ 3) :
    DvV tD tW (w.setCell ⟨p, 1, none⟩ (.slice none 0 0)) p S { D with opn := [] } vF (.slice none 0 0) vP := by
  obtain ⟨hF, hO, hP⟩ := h.ne h1 h2 h3
  have f := Fr.set1 w p 1 (.slice none 0 0)
  exact ⟨set_blk h.blk 1 _, own_frk h.firm f hF, World.ownsRow_nil _ _ _ _, h.plan.fr f hP, h.sp, h.sF, fun k hk => by simp [Value.ownBlock] at hk, h.sP, fun k hk => by rw [size_set]; exact h.lt k hk⟩
/-- a sector is another one -/
theorem DvV.setF {tD tW : TypeId} {w : World} {p : Nat} {S : Nat → Prop} {D : DM} {gF cF : Nat} {vO vP : Value} (h : DvV tD tW w p S D (.slice (some ⟨gF, 0, none⟩) D.firm.length cF) vO vP) (hok : DOk D) (h1 : tD ≠ 42) (h2 : tW ≠ 42) (s : Nat) (hs : s < D.firm.length) (B : List Nat) (hB : B.length = 64) :
    DvV tD tW (w.setCells gF (s * 64) (bk B)) p S { D with firm := D.firm.set s B } (.slice (some ⟨gF, 0, none⟩) D.firm.length cF) vO vP ∧ Fr (fun k => k = gF) w (w.setCells gF (s * 64) (bk B)) := by
  obtain ⟨e1, f⟩ := own_set h.firm hok.firm B (by rw [bk_len, hB]) s hs
  have hp : ¬ p = gF := by
    obtain ⟨x, hx⟩ := own_ty h.firm (g := gF) rfl
    exact fun e => ne_ty h.blk hx h1 e
  refine ⟨⟨(f.block p (lt_of_block h.blk) hp).trans h.blk, ?_, own_frk h.opn f (fun k hk e => ?_), h.plan.fr f (fun k hk e => ?_), h.sp, h.sF, h.sO, h.sP, fun k hk => f.lt (h.lt k hk)⟩, f⟩
  · show World.ownsRow _ 0 _ 64 _ (D.firm.set s B).length ((D.firm.set s B).flatMap bk)
    have := e1
    rw [List.length_set] at this ⊢
    exact this
  · obtain ⟨x, hx⟩ := own_ty h.opn hk
    obtain ⟨y, hy⟩ := own_ty h.firm (g := gF) rfl
    exact ne_ty hx hy h2 e
  · obtain ⟨x, hx⟩ := h.plan.ty hk
    obtain ⟨y, hy⟩ := own_ty h.firm (g := gF) rfl
    exact ne_ty hx hy (by decide) e
theorem info65 : (Try.prog.info? 68).map (·.size) = some 65 := by kernel_rfl
theorem zero65 (w : World) : (zeroValue 68).run Try.prog w = .ok (.agg (wk (0, zeros)).toArray) w := by
  obtain ⟨i0, hi, hz, _, _⟩ := info_parts wr_info
  simp [zeroValue, typeInfo, hi, hz]
set_option maxRecDepth 100000 in
theorem dvf1_drop (w : World) (b1 : Nat) : Calls Try.prog 38 #[.bool true, .pointer (some ⟨b1, 0, none⟩)] w fun e w' => e = .returned (.tuple #[]) ∧ w' = w := by
  go_enter Try.func38, Try.ntmps38
  go_wp2
  first | go_end0 | refine bodyPost_ret (results_none rfl _ _ _) rfl ?_
  exact ⟨rfl, rfl⟩
set_option maxRecDepth 100000 in
set_option maxHeartbeats 1000000 in
theorem dvf1_goes (w : World) (p : Nat) (S : Nat → Prop) (D : DM) (h : PD w p S D) (b1 : Nat) (h1 : w.heap[b1]? = some (.cells #[.pointer (some ⟨p, 0, none⟩)] 24 (0, 0))) (hlen : D.opn.length ≤ 100000) (hb1 : ¬ S b1) :
    Calls Try.prog 38 #[.bool false, .pointer (some ⟨b1, 0, none⟩)] w fun e w' => e = .returned (.tuple #[]) ∧ PD w' p S (flushD D) ∧ Fr S w w' := by
  obtain ⟨hok, vF, vO, vP, hV⟩ := h
  obtain ⟨aF, cF, rfl⟩ := own_form hV.firm
  obtain ⟨aO, cO, rfl⟩ := own_form hV.opn
  obtain ⟨c0, c1, c2, f0, f1, f2⟩ := hV.cells
  have HV := hid hV
  have k1 := cell_blk h1 0
  simp only [List.getElem?_toArray, List.getElem?_cons_zero] at k1
  have HOK := hid hok
  have hlen' : (D.opn.length : Int) ≤ 100000 := by omega
  have H1 := hid h1
  obtain ⟨n, hn⟩ : ∃ n, D.opn.length = n := ⟨_, rfl⟩
  have HN := hid hn
  rw [hn] at c1 hlen'
  clear hn hV c0 c2 f0 f1 f2 h1
  go_enter Try.func38, Try.ntmps38
  go_wp2_with fail
  go_loopg [11] n (fun g i wr => ∃ k : Nat, k + g = n ∧ i = .int .i64 k ∧ Hid (DvV 62 68 wr p S (atK D k) (.slice aF D.firm.length cF) (.slice aO D.opn.length cO) vP) ∧ Hid (Fr S w wr))
  case atStart => exact ⟨0, by omega, rfl, HV, Fr.refl _ _⟩
  case round =>
    obtain ⟨k, hk, rfl, HVr, HF⟩ := hrel
    have k1r := (HF.out.cell (p := ⟨b1, 0, none⟩) (lt_of_block H1.out) hb1).trans k1
    cases gk with
    | zero =>
      obtain rfl : k = n := by omega
      obtain ⟨c0, c1r, c2, f0, f1, f2⟩ := HVr.out.cells
      have hpz := lt_of_block HVr.out.blk
      clear c0 c2 f0 f2
      go_wp2_with fail
      first | go_end0 | refine bodyPost_ret (results_none rfl _ _ _) rfl ?_
      have hset := HVr.out.setO0 (by decide) (by decide) (by decide)
      have hFD : flushD D = { atK D k with opn := [] } := by unfold flushD; rw [HN.out]; rfl
      rw [← hFD] at hset
      exact ⟨rfl, ⟨flushD_ok HOK.out, _, _, _, hset⟩, HF.out.trans ((Fr.set1 wr p 1 _).mono (fun j _ e => by rw [e]; exact HVr.out.sp))⟩
    | succ g =>
      have hkn : k < n := by omega
      have hkD : k < D.opn.length := by rw [HN.out]; exact hkn
      obtain ⟨gO, capO, hv, hlc, hgz, hr0, _⟩ := own_at HVr.out.opn HOK.out.opn k hkD
      obtain ⟨rfl, rfl⟩ : aO = some ⟨gO, 0, none⟩ ∧ cO = capO := by injection hv with h1 _ h3; exact ⟨h1, h3⟩
      have hr : wr.rangeAt gO (k * 65) (wk (opAt D k)) := by rw [opAt_eq hkD]; exact hr0
      clear hr0
      have hx1 := HOK.out.at_ _ (List.getElem_mem hkD)
      have hx2 := HOK.out.opn _ (List.getElem_mem hkD)
      rw [← opAt_eq hkD] at hx1 hx2
      have hK1 : atK D (k + 1) = { atK D k with firm := (atK D k).firm.set (opAt D k).1 (opAt D k).2 } := rfl
      have HK1 := hid hK1
      obtain ⟨x, hx⟩ : ∃ x, opAt D k = x := ⟨_, rfl⟩
      rw [hx] at hr hx1 hx2 HK1
      clear hx hK1 hv
      have HR := hid hr
      have HX2 : Hid ((Try.prog.info? 68).map (·.size) = some (wk x).length) := by unfold Hid; rw [hx2]; exact info65
      have HX3 : Hid ((Try.prog.info? 68).map (·.size) = some (wk x).toArray.size) := by unfold Hid; rw [List.size_toArray, hx2]; exact info65
      have HX4 : Hid ((wk (0, zeros)).toArray.size = (wk x).toArray.size) := by unfold Hid; rw [List.size_toArray, List.size_toArray, hx2]; rfl
      have HX5 : Hid ((wk x).toArray.all (·.oneCell') = true) := all_oneCell_toArray (wk_one x)
      have HNW := hid (heap_new wr (.cells (wk (0, zeros)).toArray 68))
      have hlc : n ≤ cO := by rw [← HN.out]; exact hlc
      clear hr
      have hz65 := zero65
      go_wp2_with (first
        | (refine wpList_load_mid rfl 68 _ rfl gO (k * 65) rfl (wk x) _ HR.out Try.underlying68 rfl HX2.out ?_)
        | (refine wpList_store_row rfl 68 _ _ rfl wr.heap.size (wk x).toArray rfl rfl 68 (wk (0, zeros)).toArray HNW.out HX3.out HX4.out HX5.out ?_))
      clear hz65
      have hB : x.2.length = 64 := by simpa [wk, bk] using hx2
      have hFA : Fr No wr ((wr.alloc (.cells (wk (0, zeros)).toArray 68)).setRow wr.heap.size (wk x).toArray) := ((Fr.refl No wr).alloc _).setRow _ _ (fun h => absurd h (Nat.lt_irrefl _))
      have hQ := setRow_heap _ wr.heap.size (wk (0, zeros)).toArray (wk x).toArray _ _ HNW.out
      have hb4 : wr.heap.size ≤ wr.heap.size := Nat.le_refl _
      change Code.wp _ _ _ _ ((wr.alloc (.cells (wk (0, zeros)).toArray 68)).setRow wr.heap.size (wk x).toArray)
      obtain ⟨wa, hwa⟩ : ∃ wa, (wr.alloc (.cells (wk (0, zeros)).toArray 68)).setRow wr.heap.size (wk x).toArray = wa := ⟨_, rfl⟩
      rw [hwa] at hFA hQ ⊢
      clear hwa HR HNW HX4 HX3 HX2 HX5
      have HVa := hid (HVr.out.fr hFA (fun _ _ => id))
      have HFa := hid (HF.out.trans (hFA.mono (fun _ _ h => h.elim)))
      have k1a := (hFA.cell (p := ⟨b1, 0, none⟩) (lt_of_cell k1r) id).trans k1r
      obtain ⟨b4, hb4'⟩ : ∃ b4, wr.heap.size = b4 := ⟨_, rfl⟩
      have hb4z : w.heap.size ≤ b4 := by rw [← hb4']; exact HF.out.size
      rw [hb4'] at hQ ⊢
      clear hb4' hb4 hFA k1r HVr HF hgz
      obtain ⟨x1, B⟩ := x
      have hokK := atK_ok HOK.out k (by omega)
      have hfl : (atK D k).firm.length = D.firm.length := firmK_len D k
      obtain ⟨gF, cF', hvF, hlF, hgFz, _, hth⟩ := own_at HVa.out.firm hokK.firm x1 (by rw [hfl]; exact hx1)
      rw [hfl] at hvF hlF
      obtain ⟨rfl, rfl⟩ : aF = some ⟨gF, 0, none⟩ ∧ cF = cF' := by injection hvF with h1 _ h3; exact ⟨h1, h3⟩
      have q0 : wa.cell? ⟨b4, 0, none⟩ = some (.int .i64 x1) := (cell_blk hQ 0).trans rfl
      have q1 : wa.rangeAt b4 1 (bk B) := fun j v hv => by
        rw [cell_blk hQ, List.getElem?_toArray, show 1 + j = j + 1 by omega]
        exact hv
      have c0a := HVa.out.cells.1
      have hx1' : (x1 : Int) < (D.firm.length : Int) := by show ((x1 : Nat) : Int) < _; have : x1 < D.firm.length := hx1; omega
      have hlen1 : (D.firm.length : Int) ≤ 4096 := by have := HOK.out.hi; omega
      have HT : Hid (wa.drew.there gF (x1 * 64) 64) := hth
      have HQ1 : Hid (wa.drew.rangeAt b4 1 (bk B)) := q1
      have hVd : DvV 62 68 wa.drew p S (atK D k) (.slice (some ⟨gF, 0, none⟩) (atK D k).firm.length cF) (.slice (some ⟨gO, 0, none⟩) D.opn.length cO) vP := by rw [hfl]; exact HVa.out.fr (Fr.refl No wa).drew (fun _ _ => id)
      have hSF := hVd.setF hokK (by decide) (by decide) x1 (by rw [hfl]; exact hx1) B hB
      rw [hfl] at hSF
      have hSF1 : DvV 62 68 (wa.drew.setCells gF (x1 * 64) (bk B)) p S (atK D (k + 1)) (.slice (some ⟨gF, 0, none⟩) D.firm.length cF) (.slice (some ⟨gO, 0, none⟩) D.opn.length cO) vP := by rw [HK1.out]; exact hSF.1
      have HSF1 := hid hSF1
      have HFd := hid (HFa.out.drew.trans (hSF.2.mono (T := S) (fun j _ e => by rw [e]; exact HVa.out.sF _ rfl)))
      clear hVd hSF hSF1
      have HIk := hid (info64k B hB)
      have HIb := hid (info64b B hB)
      have H1b := hid (blkA_one B)
      clear hQ q1 hth hgFz hvF
      go_wp2_with fail
      go_still_tail 9, (by kernel_rfl)
      change wpStill _ _ wa.drew (fun a' => wpList _ _ _ _ a' wa.drew) _ _
      obtain ⟨wd, hwd⟩ : ∃ wd, wa.drew = wd := ⟨_, rfl⟩
      rw [hwd] at HT HQ1 HSF1 HFd ⊢
      clear hwd
      refine still_val rfl _ (exec_load_mid 42 _ rfl b4 1 rfl (bk B) _ HQ1.out Try.underlying42 rfl HIk.out) ?_
      still_step
      refine wpStill_nil ?_
      go_wp2_with (refine wpList_store_mid rfl 42 _ _ rfl gF (x1 * 64) (blkA B) rfl rfl (by rw [blkA_size, hB]; exact HT.out) HIb.out H1b.out ?_)
      rw [show (blkA B).toList = bk B from by simp [blkA]]
      go_roundg g
      case measure => omega
      case rel => exact ⟨k + 1, by omega, by go_num, HSF1, HFd⟩
def flushE (D : DM) : Nat := if fateD D = 1 then 21 else 0
def flushF (D : DM) : DM := if fateD D = 0 then flushD (popD D) else popD D
set_option maxRecDepth 100000 in
theorem dv_Flush (w : World) (p : Nat) (S : Nat → Prop) (D : DM) (h : PD w p S D) (hlen : D.opn.length ≤ 100000) :
    Calls Try.prog 23 #[.pointer (some ⟨p, 0, none⟩)] w fun e w' => e = .returned (.int .i64 ((flushE D : Nat) : Int)) ∧ PD w' p S (flushF D) ∧ Fr S w w' := by
  have hk1 := heap_new w (.cells #[.pointer (some ⟨p, 0, none⟩)] 24)
  have kF := (Fr.refl No w).alloc (.cells #[.pointer (some ⟨p, 0, none⟩)] 24)
  have hlt := h.lt
  have hsp := h.sp
  have hok := h.1
  have hD := h.no kF
  have hne : ∀ k, w.heap.size ≤ k → k ≠ p := fun k hk e => by have := hlt p hsp; omega
  have HCALL := hid (dv_callF _ p S D hD 21 (.pointer (some ⟨w.heap.size, 0, none⟩))
    (fun b w' => PD w' p S (if b then popD D else flushD (popD D)) ∧ Fr S w w') (fun w1 b h1 f1 => by
      have hnS : ∀ k, w.heap.size ≤ k → ¬ S k := fun k hk e => by have := hlt k e; omega
      have f01 : Fr S w w1 := (kF.mono (T := S) (fun _ _ h => h.elim)).trans (f1.mono (fun k _ e => by rw [e]; exact hsp))
      cases b
      · refine (dvf1_goes w1 p S (popD D) h1 _ ((f1.block _ (lt_of_block hk1) (hne _ (Nat.le_refl _))).trans hk1) hlen (hnS _ (Nat.le_refl _))).mono ?_
        rintro e w' ⟨rfl, h2, f2⟩
        exact ⟨rfl, h2, f01.trans f2⟩
      · refine (dvf1_drop w1 _).mono ?_
        rintro e w' ⟨rfl, rfl⟩
        exact ⟨rfl, h1, f01⟩))
  have HKF := hid kF
  have HH := hid h
  have HOK := hid hok
  clear kF hD hk1
  go_enter Try.func23, Try.ntmps23
  go_wp2_with fail
  refine HCALL.out.mono ?_
  rintro e w' (⟨hf, rfl, h2, f2⟩ | ⟨hf, rfl, h2, f2⟩)
  · go_wp2_with fail
    go_ret
    have hE : flushE D = 21 := by unfold flushE; rw [hf]; rfl
    have hDD : flushF D = popD D := by unfold flushF; rw [hf]; rfl
    exact ⟨by rw [hE]; rfl, by rw [hDD]; exact h2, (HKF.out.mono (T := S) (fun _ _ h => h.elim)).trans (f2.mono (fun k _ e => by rw [e]; exact hsp))⟩
  · go_wp2_with fail
    go_ret
    have hE : flushE D = 0 := by unfold flushE; rw [if_neg hf]
    have hDD : flushF D = if decide (fateD D = 2) then popD D else flushD (popD D) := by
      have := fateD_le HOK.out
      unfold flushF
      by_cases h0 : fateD D = 0
      · rw [if_pos h0, h0]; rfl
      · have : fateD D = 2 := by omega
        rw [if_neg h0, this]; rfl
    exact ⟨by rw [hE]; rfl, by rw [hDD]; exact h2, f2⟩
theorem dv_Flush_nil (w : World) : Calls Try.prog 23 #[.pointer none] w fun e w' => e = .returned (.int .i64 2) ∧ Fr No w w' := by
  have hF := (Fr.refl No w).alloc (.cells #[.pointer none] 24)
  go_enter Try.func23, Try.ntmps23
  go_wp2
  go_ret
  exact ⟨rfl, hF⟩
end Go.Proofs.Ytcdchojdkdimbaa
