/- lavaboref05: the reference's device: New, there, fate. -/
import Derived.Test.YtcdchojdkdimbaaDvE
namespace Go.Proofs.Ytcdchojdkdimbaa
open Go.RowKit

theorem DvV.putF {tD tW : TypeId} {w : World} {p : Nat} {S : Nat → Prop} {D : DM} {vF vO vP : Value} (h : DvV tD tW w p S D vF vO vP) (h1 : tD ≠ 42) (h2 : tD ≠ tW) (h3 : tD ≠ 3) (v : Value) (l : List (List Nat)) (hv : w.ownsRow 0 42 64 v l.length (l.flatMap bk)) (hs : ∀ k, v.ownBlock = some k → S k) :
    DvV tD tW (w.setCell ⟨p, 0, none⟩ v) p S { D with firm := l } v vO vP := by
  obtain ⟨hF, hO, hP⟩ := h.ne h1 h2 h3
  have f := Fr.set1 w p 0 v
  refine ⟨set_blk h.blk 0 v, own_frk hv f (fun k hk => ?_), own_frk h.opn f hO, h.plan.fr f hP, h.sp, hs, h.sO, h.sP, fun k hk => by rw [size_set]; exact h.lt k hk⟩
  obtain ⟨x, hx⟩ := own_ty hv hk
  exact ne_ty hx h.blk (Ne.symm h1)
theorem DvV.putO {tD tW : TypeId} {w : World} {p : Nat} {S : Nat → Prop} {D : DM} {vF vO vP : Value} (h : DvV tD tW w p S D vF vO vP) (h1 : tD ≠ 42) (h2 : tD ≠ tW) (h3 : tD ≠ 3) (v : Value) (l : List (Nat × List Nat)) (hv : w.ownsRow 0 tW 65 v l.length (l.flatMap wk)) (hs : ∀ k, v.ownBlock = some k → S k) :
    DvV tD tW (w.setCell ⟨p, 1, none⟩ v) p S { D with opn := l } vF v vP := by
  obtain ⟨hF, hO, hP⟩ := h.ne h1 h2 h3
  have f := Fr.set1 w p 1 v
  refine ⟨set_blk h.blk 1 v, own_frk h.firm f hF, own_frk hv f (fun k hk => ?_), h.plan.fr f hP, h.sp, h.sF, hs, h.sP, fun k hk => by rw [size_set]; exact h.lt k hk⟩
  obtain ⟨x, hx⟩ := own_ty hv hk
  exact ne_ty hx h.blk (Ne.symm h2)
theorem DvV.wide {tD tW : TypeId} {w : World} {p : Nat} {S T : Nat → Prop} {D : DM} {vF vO vP : Value} (h : DvV tD tW w p S D vF vO vP) (hS : ∀ k, S k → T k) (hT : ∀ k, T k → k < w.heap.size) : DvV tD tW w p T D vF vO vP :=
  ⟨h.blk, h.firm, h.opn, h.plan, hS _ h.sp, fun k hk => hS k (h.sF k hk), fun k hk => hS k (h.sO k hk), fun k hk => hS k (h.sP k hk), hT⟩

theorem blk_slice (Z : List Nat) (h : Z.length = 64) (w : World) : (Instr.buildSlice 35 1 #[(0, .agg (blkA Z))]).run Try.prog w = .ok (.slice (some ⟨w.heap.size, 0, none⟩) 1 1) (w.alloc (.cells (blkA Z) 42)) := by
  obtain ⟨i0, hi0, h1, h2, h3⟩ := info_parts blk_info
  refine run_buildSlice w 35 42 1 _ (blkA Z) i0 (.agg (blkA zeros)) Try.underlying35 hi0 h1 (by rw [h2]; decide) (by rw [h2]; decide) ?_
  have hz : (Value.agg (blkA zeros)).cells.size = 64 := blkA_zeros_size
  rw [h2, range_one _ 64 (by decide) hz]
  have := fill_one (Value.agg (blkA zeros)).cells (.agg (blkA Z)) (by show (blkA Z).size = _; rw [hz, blkA_size, h])
  rw [hz] at this
  exact this

/-- a device under way: so many sectors of noughts -/
def zerosD (k : Nat) : DM := ⟨List.replicate k zeros, [], []⟩
abbrev rD : TypeId := 39
abbrev rW : TypeId := 70
set_option maxRecDepth 100000 in
set_option maxHeartbeats 1000000 in
theorem rf_New (w : World) (n : Nat) (h0 : 1 ≤ n) (hn : n ≤ 4096) : Calls Try.prog 13 #[.int .i64 n] w fun e w' => ∃ p S, e = .returned (.pointer (some ⟨p, 0, none⟩)) ∧ RD w' p S (newD n) ∧ Fr No w w' ∧ ∀ k, S k → w.heap.size ≤ k := by
  obtain ⟨i0, hi, hz0, hz1, hz2⟩ := info_parts blk_info
  have hn' : (n : Int) ≤ 4096 := by omega
  obtain ⟨Z, hZ⟩ : ∃ Z, Z = zeros := ⟨_, rfl⟩
  have hZL : Z.length = 64 := by rw [hZ, zeros_len]
  have HZB : Hid (∀ W, (Instr.build 42 #[]).run Try.prog W = .ok (.agg (blkA Z)) W) := by unfold Hid; rw [hZ]; exact zeros_build
  have HSL := hid (blk_slice Z hZL)
  have HZ := hid hZ
  have HZL := hid hZL
  clear hZ hZL
  go_enter Try.func13, Try.ntmps13
  go_wp2_with fail
  have hA := heap_new w (.cells #[.slice none 0 0, .slice none 0 0, .slice none 0 0] 39)
  have hV0 : DvV 39 70 (w.alloc (.cells #[.slice none 0 0, .slice none 0 0, .slice none 0 0] 39)) w.heap.size (fun k => w.heap.size ≤ k ∧ k < (w.alloc (.cells #[.slice none 0 0, .slice none 0 0, .slice none 0 0] 39)).heap.size) (zerosD 0) (.slice none 0 0) (.slice none 0 0) (.slice none 0 0) :=
    ⟨hA, World.ownsRow_nil _ _ _ _, World.ownsRow_nil _ _ _ _, .inl ⟨rfl, rfl⟩, ⟨Nat.le_refl _, by simp⟩, fun k hk => by simp [Value.ownBlock] at hk, fun k hk => by simp [Value.ownBlock] at hk, fun k hk => by simp [Value.ownBlock] at hk, fun k hk => hk.2⟩
  have HV0 := hid hV0
  have HF0 := hid ((Fr.refl No w).alloc (.cells #[.slice none 0 0, .slice none 0 0, .slice none 0 0] 39))
  clear hA hV0
  go_loopg [4] n (fun g i wr => ∃ (k : Nat) (vF : Value), k + g = n ∧ i = .int .i64 k ∧ Hid (DvV 39 70 wr w.heap.size (fun j => w.heap.size ≤ j ∧ j < wr.heap.size) (zerosD k) vF (.slice none 0 0) (.slice none 0 0)) ∧ Hid (Fr No w wr))
  case atStart => exact ⟨0, _, by omega, rfl, HV0, HF0⟩
  case round =>
    obtain ⟨k, vF, hk, rfl, HV, HF⟩ := hrel
    cases gk with
    | zero =>
      obtain rfl : k = n := by omega
      go_wp2_with fail
      go_ret
      exact ⟨_, _, rfl, ⟨newD_ok k h0 hn, _, _, _, HV.out⟩, HF.out, fun j hj => hj.1⟩
    | succ g =>
      obtain ⟨c0, _, _, f0, _⟩ := HV.out.cells
      have hpz := lt_of_block HV.out.blk
      have hkk : k ≤ 4096 := by omega
      have HVA := hid (HV.out.fr ((Fr.refl No wr).alloc (.cells (blkA Z) 42)) (fun _ _ => id))
      have HNB := hid (World.news_of_block (heap_new wr (.cells (blkA Z) 42)))
      have HPO := hid (HV.out.ne (by decide) (by decide) (by decide)).1
      have hl0 : (zerosD k).firm.length = k := by simp [zerosD]
      go_wp2_with (first
        | (refine list_val rfl _ (exec_build _ _ rfl _ (by simp [Act.eval]) _ (HZB.out _)) ?_)
        | (refine list_buildS rfl _ _ _ rfl _ (by simp [Act.eval, Act.put]) _ _ (HSL.out wr) ?_)
        | (at_builtin; refine wpList_append_lies _ rfl (.tmp 16) (.tmp 18) 35 rfl 0 42 i0 (.agg (blkA zeros)) 64 64 Try.underlying35 hi hz0 hz1 hz2 (by kernel_rfl) (by decide) vF (zerosD k).firm.length _ rfl HVA.out.firm ⟨wr.heap.size, 0, none⟩ 1 1 (bk Z) rfl (by rw [bk_len, HZL.out]) (by simpa [blkA] using HNB.out) (bk_one _) (by decide) (by rw [hl0]; unfold maxLen; omega) (by rw [hl0]; omega) (Nat.zero_le _) _ rfl ?_; intro q cap w1 hown hgrow hgat hgz; have HFG := hid ((Fr.refl (fun k => vF.ownBlock = some k) (wr.alloc (.cells (blkA Z) 42))).grown hgrow (fun k e _ => e)); have HVG := hid ((HFG.out.block w.heap.size (lt_of_block HVA.out.blk) (fun e => HPO.out _ e rfl)).trans HVA.out.blk); have f01 := free_blk HVG.out 0; have c01 : w1.cell? ⟨w.heap.size, 0, none⟩ = some vF := (cell_blk HVG.out 0).trans rfl; have HOWN := hid hown; have HGAT := hid hgat; clear hown hgrow hgat))
      have hset := Fr.set1 w1 w.heap.size 0 (.slice (some ⟨q, 0, none⟩) ((zerosD k).firm.length + 1) cap)
      have hF1 : Fr No w w1 := (HF.out.alloc (.cells (blkA Z) 42)).then HFG.out (fun i hi e => absurd hi (by have := (HV.out.sF i e).1; omega))
      have hwz := hF1.size
      have hpw : w.heap.size < w1.heap.size := lt_of_block HVG.out
      have hqw : w.heap.size ≤ q := by
        rcases HGAT.out with e | e
        · exact (HV.out.sF q e).1
        · have := HF.out.size; simp at e; omega
      have hqp : q ≠ w.heap.size := by
        rintro rfl
        rcases HGAT.out with e | e
        · exact HPO.out _ e rfl
        · simp at e; omega
      have hown2 : w1.ownsRow 0 42 64 (.slice (some ⟨q, 0, none⟩) ((zerosD k).firm.length + 1) cap) (zerosD (k + 1)).firm.length ((zerosD (k + 1)).firm.flatMap bk) := by
        have e1 : (zerosD (k + 1)).firm = (zerosD k).firm ++ [Z] := by unfold zerosD; rw [HZ.out, List.replicate_succ']
        rw [e1, List.length_append, List.flatMap_append, List.length_singleton, List.flatMap_singleton]
        exact HOWN.out
      have HV2 : Hid (DvV 39 70 (w1.setCell ⟨w.heap.size, 0, none⟩ (.slice (some ⟨q, 0, none⟩) ((zerosD k).firm.length + 1) cap)) w.heap.size (fun j => w.heap.size ≤ j ∧ j < (w1.setCell ⟨w.heap.size, 0, none⟩ (.slice (some ⟨q, 0, none⟩) ((zerosD k).firm.length + 1) cap)).heap.size) (zerosD (k + 1)) (.slice (some ⟨q, 0, none⟩) ((zerosD k).firm.length + 1) cap) (.slice none 0 0) (.slice none 0 0)) :=
        ⟨set_blk HVG.out 0 _, own_frk hown2 hset (fun j hj e => hqp ((show q = j by simpa [Value.ownBlock] using hj).trans e)), World.ownsRow_nil _ _ _ _, .inl ⟨rfl, rfl⟩, ⟨Nat.le_refl _, by rw [size_set]; exact hpw⟩, fun j hj => ⟨(by have h : q = j := (by simpa [Value.ownBlock] using hj); omega), (by rw [size_set]; have h : q = j := (by simpa [Value.ownBlock] using hj); omega)⟩, fun j hj => by simp [Value.ownBlock] at hj, fun j hj => by simp [Value.ownBlock] at hj, fun j hj => hj.2⟩
      have HF2 := hid (hF1.then hset (fun i hi e => by subst e; omega))
      clear hset hF1 hwz hpw hqw hqp hown2
      rw [hl0] at HV2 HF2
      go_roundg g
      case measure => omega
      case rel => exact ⟨k + 1, _, by omega, by go_num, HV2, HF2⟩

theorem rf_there (w : World) (p : Nat) (S : Nat → Prop) (D : DM) (h : RD w p S D) (s : Int) : Calls Try.prog 44 #[.pointer (some ⟨p, 0, none⟩), .int .i64 s] w fun e w' => e = .returned (.bool (thereB D s)) ∧ w' = w := by
  obtain ⟨_, vF, vO, vP, h⟩ := h
  obtain ⟨c0, c1, c2, _⟩ := h.cells
  obtain ⟨a, cap, rfl⟩ := own_form h.firm
  clear h
  unfold thereB
  by_cases h0 : 0 ≤ s
  · by_cases h1 : s < D.firm.length
    all_goals
      go_enter Try.func44, Try.ntmps44
      go_wp2
      go_ret
      simp [h0, h1]
  · go_enter Try.func44, Try.ntmps44
    go_wp2
    go_ret
    simp [h0]
    try omega
set_option maxRecDepth 100000 in
theorem rf_fate (w : World) (p : Nat) (S : Nat → Prop) (D : DM) (h : RD w p S D) (hlen : D.plan.length ≤ 100000) : Calls Try.prog 45 #[.pointer (some ⟨p, 0, none⟩)] w fun e w' => e = .returned (.int .i64 ((fateD D : Nat) : Int)) ∧ RD w' p S (popD D) ∧ Fr S w w' := by
  have HD := hid h
  obtain ⟨hok, vF, vO, vP, hV⟩ := h
  obtain ⟨c0, c1, c2, f0, f1, f2⟩ := hV.cells
  clear c0 c1 f0 f1
  cases hp : D.plan with
  | nil =>
    have HFT : Hid (fateD D = 0) := by unfold Hid fateD; rw [hp]; rfl
    have hpd : popD D = D := by unfold popD; rw [hp]; obtain ⟨d1, d2, d3⟩ := D; simp at hp; subst hp; rfl
    obtain ⟨a, c, rfl⟩ := hV.plan.form
    rw [hp, List.length_nil] at c2
    clear hV
    go_enter Try.func45, Try.ntmps45
    go_wp2_with fail
    go_ret
    exact ⟨by rw [HFT.out]; rfl, by rw [hpd]; exact HD.out, Fr.refl _ _⟩
  | cons f t =>
    rcases hV.plan with ⟨_, h0⟩ | ⟨g, o, cp, cs, hv, hb, hoc, hlc, hel⟩
    · rw [hp] at h0; cases h0
    have hPD : popD D = { D with plan := t } := by unfold popD; rw [hp]; rfl
    have HFT : Hid (fateD D = f) := by unfold Hid fateD; rw [hp]; rfl
    have cx : w.cell? ⟨g, o, none⟩ = some (.int .i64 f) := by
      rw [cell_blk hb]
      have h0 := hel 0 (by rw [hp]; simp)
      have e0 : D.plan[0]'(by rw [hp]; simp) = f := by simp [hp]
      rw [Nat.add_zero, e0] at h0
      exact h0
    have hl1 : D.plan.length = t.length + 1 := by rw [hp]; rfl
    have HSET := hid (hV.setP (by decide) (by decide) (by decide))
    have HSP := hid hV.sP
    have HSp := hid hV.sp
    have HROW : Hid (∀ o' c', ((o' = o ∧ c' = 0) ∨ (o' = o + 1 ∧ c' = cp - 1)) → t.length ≤ c' → OffN w (.slice (some ⟨g, o', none⟩) t.length c') t) := fun o' c' hoc' hlc' => by
      refine .inr ⟨g, o', c', cs, rfl, hb, by omega, hlc', fun j hj => ?_⟩
      rcases hoc' with ⟨_, rfl⟩ | ⟨rfl, rfl⟩
      · omega
      · have h1 := hel (j + 1) (by omega)
        have e1 : D.plan[j + 1]'(by omega) = t[j] := by simp [hp]
        rw [e1] at h1
        rw [show o + 1 + j = o + (j + 1) by omega]; exact h1
    rw [hl1] at hv hlc hlen
    subst hv
    have HOK := hid hok
    clear hV hel hb hlen
    go_enter Try.func45, Try.ntmps45
    go_wp2_with fail
    · have hO := HROW.out o 0 (.inl ⟨rfl, rfl⟩) (by omega)
      have hq := HSET.out _ t hO (fun k hk => HSP.out k (by simpa [Value.ownBlock] using hk))
      go_ret
      exact ⟨by rw [HFT.out]; rfl, (by first | exact ⟨hPD ▸ popD_ok HOK.out, _, _, _, hq⟩ | (rw [hPD]; exact ⟨hPD ▸ popD_ok HOK.out, _, _, _, hq⟩)), (Fr.set1 w p 2 _).mono (fun k _ e => by rw [e]; exact HSp.out)⟩
    · have hO := HROW.out (o + 1) (cp - 1) (.inr ⟨rfl, rfl⟩) (by omega)
      have hq := HSET.out _ t hO (fun k hk => HSP.out k (by simpa [Value.ownBlock] using hk))
      go_ret
      exact ⟨by rw [HFT.out]; rfl, (by first | exact ⟨hPD ▸ popD_ok HOK.out, _, _, _, hq⟩ | (rw [hPD]; exact ⟨hPD ▸ popD_ok HOK.out, _, _, _, hq⟩)), (Fr.set1 w p 2 _).mono (fun k _ e => by rw [e]; exact HSp.out)⟩
end Go.Proofs.Ytcdchojdkdimbaa
