/- lavaboref05: Write. -/
import Derived.Test.YtcdchojdkdimbaaDvG
namespace Go.Proofs.Ytcdchojdkdimbaa
open Go.RowKit

set_option maxRecDepth 100000 in
set_option maxHeartbeats 2000000 in
theorem rf_Write (w : World) (p : Nat) (S : Nat → Prop) (D : DM) (h : RD w p S D) (s : Nat) (hs : s < D.firm.length) (B : List Nat) (hB : B.length = 64) (hlen : D.opn.length ≤ 100000) (hpl : D.plan.length ≤ 100000) :
    Calls Try.prog 29 #[.pointer (some ⟨p, 0, none⟩), .int .i64 s, .agg (blkA B)] w fun e w' => e = .returned (.int .i64 ((writeE D : Nat) : Int)) ∧ ∃ S', RD w' p S' (writeD D s B) ∧ Fr S w w' ∧ More w w' S S' := by
  obtain ⟨i0, hi, hz0, hz1, hz2⟩ := info_parts Wr_info
  have kF := (Fr.refl No w).alloc (.cells (blkA B) 42)
  have k5 := heap_new w (.cells (blkA B) 42)
  have hlt := h.lt
  have hsp := h.sp
  have HOK := hid h.1
  have HTH := hid (rf_there _ p S D (h.no kF) s)
  have htB : thereB D s = true := by unfold thereB; simp; omega
  rw [htB] at HTH
  have HFA := hid (rf_fate _ p S D (h.no kF) hpl)
  have HKF := hid kF
  have HK5 := hid k5
  have hnS : ¬ S w.heap.size := fun e => by have := hlt _ e; omega
  clear kF k5 htB
  go_enter Try.func29, Try.ntmps29
  go_wp2_with fail
  refine HTH.out.mono ?_
  rintro e w' ⟨rfl, rfl⟩
  go_wp2_with fail
  refine HFA.out.mono ?_
  rintro e w1 ⟨rfl, hD1, hF1⟩
  have HF01 := hid ((HKF.out.mono (T := S) (fun _ _ h => h.elim)).trans hF1)
  have h51 := (hF1.block _ (lt_of_block HK5.out) hnS).trans HK5.out
  have h3 : fateD D = 0 ∨ fateD D = 1 ∨ fateD D = 2 := by have := fateD_le HOK.out; omega
  obtain ⟨D1, hD1e⟩ : ∃ D1, popD D = D1 := ⟨_, rfl⟩
  have hW0 : fateD D = 0 → writeD D s B = addO D1 s B ∧ writeE D = 0 := fun e => by unfold writeD writeE; rw [e, hD1e]; exact ⟨rfl, rfl⟩
  have hW1 : fateD D = 1 → writeD D s B = D1 ∧ writeE D = 20 := fun e => by unfold writeD writeE; rw [e, hD1e]; exact ⟨rfl, rfl⟩
  have hW2 : fateD D = 2 → writeD D s B = D1 ∧ writeE D = 0 := fun e => by unfold writeD writeE; rw [e, hD1e]; exact ⟨rfl, rfl⟩
  have hl1 : D1.opn.length = D.opn.length := by rw [← hD1e]; rfl
  have hs1 : s < D1.firm.length := by rw [← hD1e]; exact hs
  rw [hD1e] at hD1
  rw [← hl1] at hlen
  clear hD1e hl1 HTH HFA
  obtain ⟨fa, hfa⟩ : ∃ fa, fateD D = fa := ⟨_, rfl⟩
  rw [hfa] at hW0 hW1 hW2 h3 ⊢
  clear hfa
  rcases h3 with rfl | rfl | rfl
  rotate_left
  · obtain ⟨e1, e2⟩ := hW1 rfl
    clear hW0 hW1 hW2
    go_wp2_with fail
    go_ret
    exact ⟨by rw [e2]; rfl, S, by rw [e1]; exact hD1, HF01.out, More.refl hlt HF01.out⟩
  · obtain ⟨e1, e2⟩ := hW2 rfl
    clear hW0 hW1 hW2
    go_wp2_with fail
    go_ret
    exact ⟨by rw [e2]; rfl, S, by rw [e1]; exact hD1, HF01.out, More.refl hlt HF01.out⟩
  obtain ⟨e1, e2⟩ := hW0 rfl
  have HE1 := hid e1
  have HE2 := hid e2
  clear hW0 hW1 hW2 e1 e2
  obtain ⟨hok1, vF, vO, vP, hV⟩ := hD1
  have HOK1 := hid hok1
  obtain ⟨c0, c1, c2, f0, f1, f2⟩ := hV.cells
  have HV := hid hV
  have HI := hid (info64b B hB)
  have HBD := hid (Wr_build s B hB)
  have HSL := hid (Wr_slice (s, B) hB)
  have HN := hid (hV.ne (by decide) (by decide) (by decide))
  have H5 := hid h51
  have HWL := hid (wk_len (s, B) hB)
  obtain ⟨q5, hq5⟩ : ∃ q5, w.heap.size = q5 := ⟨_, rfl⟩
  have hqS : ¬ S q5 := by rw [← hq5]; exact hnS
  rw [hq5] at H5
  clear hV c0 c2 f0 f2 h51 hok1
  have HEND : Hid (∀ w2 g cap, Fr (fun k => vO.ownBlock = some k) (w1.drew.alloc (.cells (wk (s, B)).toArray 70)) w2 → w2.ownsRow 0 70 65 (.slice (some ⟨g, 0, none⟩) (D1.opn.length + 1) cap) (D1.opn.length + 1) (D1.opn.flatMap wk ++ wk (s, B)) → (vO.ownBlock = some g ∨ g = (w1.drew.alloc (.cells (wk (s, B)).toArray 70)).heap.size) → g < w2.heap.size →
      ∃ S', RD (w2.setCell ⟨p, 1, none⟩ (.slice (some ⟨g, 0, none⟩) (D1.opn.length + 1) cap)) p S' (addO D1 s B) ∧ Fr S w (w2.setCell ⟨p, 1, none⟩ (.slice (some ⟨g, 0, none⟩) (D1.opn.length + 1) cap)) ∧ More w (w2.setCell ⟨p, 1, none⟩ (.slice (some ⟨g, 0, none⟩) (D1.opn.length + 1) cap)) S S') := fun w2 g cap f ho hg hgz => by
    have hFa := ((Fr.refl No w1).drew).alloc (.cells (wk (s, B)).toArray 70)
    have hsz := hFa.size
    have hsz01 := HF01.out.size
    have hFp := Fr.set1 w2 p 1 (.slice (some ⟨g, 0, none⟩) (D1.opn.length + 1) cap)
    have hF2 : Fr S w1 w2 := (hFa.mono (T := S) (fun _ _ h => h.elim)).then f (fun i _ e => HV.out.sO i e)
    have hVa := HV.out.fr hFa (fun _ _ => id)
    have hne : ∀ k, vP.ownBlock = some k → vO.ownBlock ≠ some k := fun k hk e => by
      obtain ⟨x, hx⟩ := HV.out.plan.ty hk
      obtain ⟨y, hy⟩ := own_ty HV.out.opn e
      exact ne_ty hx hy (by decide) rfl
    have hnF : ∀ k, vF.ownBlock = some k → vO.ownBlock ≠ some k := fun k hk e => by
      obtain ⟨x, hx⟩ := own_ty HV.out.firm hk
      obtain ⟨y, hy⟩ := own_ty HV.out.opn e
      exact ne_ty hx hy (by decide) rfl
    have hblk1 := (f.block p (lt_of_block hVa.blk) (fun e => HN.out.2.1 _ e rfl)).trans hVa.blk
    have hgp : g ≠ p := fun e => by
      rcases hg with hg | hg
      · exact HN.out.2.1 _ hg e
      · have := lt_of_block hVa.blk; omega
    refine ⟨fun k => S k ∨ k = g, ⟨addO_ok HOK1.out hs1 hB, vF, _, vP, ⟨set_blk hblk1 1 _, own_frk (own_frk hVa.firm f (fun k hk => hnF k hk)) hFp HN.out.1, ?_, (hVa.plan.fr f hne).fr hFp HN.out.2.2, .inl HV.out.sp, fun k hk => .inl (HV.out.sF k hk), fun k hk => .inr (by simpa [Value.ownBlock] using hk.symm), fun k hk => .inl (HV.out.sP k hk), fun k hk => ?_⟩⟩, HF01.out.trans (hF2.trans (hFp.mono (fun k _ e => by rw [e]; exact HV.out.sp))), fun k hk => ?_, fun k hk => ?_⟩
    · have hl : (addO D1 s B).opn.length = D1.opn.length + 1 := by simp [addO]
      have hf : (addO D1 s B).opn.flatMap wk = D1.opn.flatMap wk ++ wk (s, B) := by simp [addO]
      rw [hl, hf]
      exact own_frk ho hFp (fun k hk e => hgp ((show g = k by simpa [Value.ownBlock] using hk).trans e))
    · rw [size_set]
      rcases hk with hk | hk
      · exact hF2.lt (HV.out.lt k hk)
      · omega
    · rcases hk with hk | hk
      · exact .inl hk
      · rcases hg with hg | hg
        · exact .inl (by rw [hk]; exact HV.out.sO _ hg)
        · exact .inr (by omega)
    · rw [size_set]
      rcases hk with hk | hk
      · exact hF2.lt (HV.out.lt k hk)
      · omega
  have HS1 : Hid (∀ W W' : World, Fr (fun k => k = p ∨ vO.ownBlock = some k) W W' → (W.heap[q5]? = some (.cells (blkA B) 42 (0, 0))) → (W'.heap[q5]? = some (.cells (blkA B) 42 (0, 0)))) := fun W W' f a4 =>
    (f.block _ (lt_of_block a4) (fun e => hqS (e.elim (fun e => by rw [e]; exact HV.out.sp) (fun e => HV.out.sO _ e)))).trans a4
  go_wp2_with fail
  try rw [hq5]
  refine wp_region_held_drew (S := fun W => W.heap[q5]? = some (.cells (blkA B) 42 (0, 0))) (by kernel_rfl) H5.out (fun hHeld => ?_)
  have HV0 := hid (HV.out.fr ((Fr.refl No w1).drew) (fun _ _ => id))
  have f10 : w1.drew.frozen? ⟨p, 1, none⟩ = false := f1
  have c10 : w1.drew.cell? ⟨p, 1, none⟩ = some vO := c1
  have hpz : p < w1.drew.heap.size := lt_of_block HV0.out.blk
  obtain ⟨w0, hw0⟩ : ∃ w0, w1.drew = w0 := ⟨_, rfl⟩
  rw [hw0] at HV0 f10 c10 hHeld hpz HEND ⊢
  clear hw0 c1 f1 hq5
  refine wpAnyH_take (i := 0) (v := ?_) rfl (by kernel_rfl) (by kernel_rfl) (by kernel_rfl) (fun _ _ _ h => h) (Or.inl ⟨by rfl, ?_⟩) hHeld ?_
  rotate_left
  · intro w hSw
    go_simp
    with_reducible rfl
  try simp only [Act.put, List.getElem_toArray, List.getElem_cons_zero, List.getElem_cons_succ, List.setIfInBounds_toArray, List.set_cons_zero, List.set_cons_succ]
  refine wpAnyH_take (i := 1) (v := ?_) rfl (by kernel_rfl) (by kernel_rfl) (by kernel_rfl) (fun _ _ _ h => h) (Or.inl ⟨by rfl, ?_⟩) hHeld ?_
  rotate_left
  · intro w hSw
    go_simp
    with_reducible rfl
  try simp only [Act.put, List.getElem_toArray, List.getElem_cons_zero, List.getElem_cons_succ, List.setIfInBounds_toArray, List.set_cons_zero, List.set_cons_succ]
  refine wpAnyH_take (i := 2) (v := ?_) rfl (by kernel_rfl) (by kernel_rfl) (by kernel_rfl) (fun _ _ _ h => h) (Or.inl ⟨by rfl, ?_⟩) hHeld ?_
  rotate_left
  · intro w hSw
    go_simp
    with_reducible rfl
  try simp only [Act.put, List.getElem_toArray, List.getElem_cons_zero, List.getElem_cons_succ, List.setIfInBounds_toArray, List.set_cons_zero, List.set_cons_succ]
  refine wpAnyH_take (i := 3) (v := ?_) rfl (by kernel_rfl) (by kernel_rfl) (by kernel_rfl) (fun _ _ _ h => h) (Or.inl ⟨by rfl, ?_⟩) hHeld ?_
  rotate_left
  · intro w hSw
    go_simp
    with_reducible rfl
  try simp only [Act.put, List.getElem_toArray, List.getElem_cons_zero, List.getElem_cons_succ, List.setIfInBounds_toArray, List.set_cons_zero, List.set_cons_succ]
  refine wpAnyH_take (i := 5) (v := ?_) rfl (by kernel_rfl) (by kernel_rfl) (by kernel_rfl) (fun _ _ _ h => h) (Or.inl ⟨by rfl, ?_⟩) hHeld ?_
  rotate_left
  · intro w hSw
    go_simp
    with_reducible rfl
  try simp only [Act.put, List.getElem_toArray, List.getElem_cons_zero, List.getElem_cons_succ, List.setIfInBounds_toArray, List.set_cons_zero, List.set_cons_succ]
  refine wpAnyH_take (i := 6) (v := .agg (blkA B)) rfl (by kernel_rfl) (by kernel_rfl) (by kernel_rfl) (fun _ _ _ h => h) (yields_row (by rfl) 42 _ rfl q5 rfl 42 (blkA B) (0, 0) _ _ (fun W hW => hW) Try.underlying42 HI.out) hHeld ?_
  try simp only [Act.put, List.getElem_toArray, List.getElem_cons_zero, List.getElem_cons_succ, List.setIfInBounds_toArray, List.set_cons_zero, List.set_cons_succ]
  refine wpAnyH_take (i := 7) (v := .agg (wk (s, B)).toArray) rfl (by kernel_rfl) (by kernel_rfl) (by kernel_rfl) (fun _ _ _ h => h) (.inl ⟨by rfl, fun W _ => exec_build _ _ rfl _ (by simp [Act.eval]) _ (HBD.out W)⟩) hHeld ?_
  try simp only [Act.put, List.getElem_toArray, List.getElem_cons_zero, List.getElem_cons_succ, List.setIfInBounds_toArray, List.set_cons_zero, List.set_cons_succ]
  refine wpAnyH_ready (rs := [4, 8]) (by kernel_rfl) (by simp) ?_
  refine AllReadyH.cons rfl (fun K hK => ?_) (AllReadyH.cons rfl (fun K hK => ?_) AllReadyH.nil)
  · rw [if_pos (by rfl)]
    go_simp
    refine hK.out _ _ hHeld (fun hHeld => ?_)
    clear hK K
    try simp only [Act.put, List.getElem_toArray, List.getElem_cons_zero, List.getElem_cons_succ, List.setIfInBounds_toArray, List.set_cons_zero, List.set_cons_succ]
    refine wpAnyH_ready (rs := [8]) (by kernel_rfl) (by simp) ?_
    refine AllReadyH.cons rfl (fun K hK => ?_) AllReadyH.nil
    rw [if_pos (by rfl)]
    refine wp_buildS _ _ _ rfl _ (by simp [Act.eval]) _ _ (HSL.out w0) ?_
    have HSA := hid (HS1.out w0 _ ((Fr.refl _ w0).alloc (.cells (wk (s, B)).toArray 70)) hHeld)
    refine hK.out _ _ HSA.out (fun hHeld => ?_)
    clear hK K
    try simp only [Act.put, List.getElem_toArray, List.getElem_cons_zero, List.getElem_cons_succ, List.setIfInBounds_toArray, List.set_cons_zero, List.set_cons_succ]
    have HVA := hid (HV0.out.fr ((Fr.refl No w0).alloc (.cells (wk (s, B)).toArray 70)) (fun _ _ => id))
    have HNB := hid (World.news_of_block (heap_new w0 (.cells (wk (s, B)).toArray 70)))
    refine wpAnyH_ready (rs := [9]) (by kernel_rfl) (by simp) ?_
    refine AllReadyH.cons rfl (fun K hK => ?_) AllReadyH.nil
    rw [if_pos (by rfl)]
    refine wp_append_lies _ (.tmp 22) (.tmp 26) 36 rfl 0 70 i0 (.agg (wk (0, zeros)).toArray) 65 72 Try.underlying36 hi hz0 hz1 hz2 (by kernel_rfl) (by decide) vO D1.opn.length _ rfl HVA.out.opn ⟨w0.heap.size, 0, none⟩ 1 1 (wk (s, B)) rfl (by rw [HWL.out]) (by simpa using HNB.out) (wk_one _) (by decide) (by unfold maxLen; omega) (by omega) (Nat.zero_le _) _ rfl ?_
    intro g cap w1 hown hgrow hgat hgz
    have HFG := hid ((Fr.refl (fun k => vO.ownBlock = some k) (w0.alloc (.cells (wk (s, B)).toArray 70))).grown hgrow (fun k e _ => e))
    have HS2 := hid (HS1.out _ _ (HFG.out.mono (T := fun k => k = p ∨ vO.ownBlock = some k) (fun _ _ e => .inr e)) HSA.out)
    refine hK.out _ _ HS2.out (fun hHeld => ?_)
    clear hK K
    try simp only [Act.put, List.getElem_toArray, List.getElem_cons_zero, List.getElem_cons_succ, List.setIfInBounds_toArray, List.set_cons_zero, List.set_cons_succ]
    have HVG : Hid (w1.heap[p]? = some (.cells #[vF, vO, vP] 39 (0, 0))) := (HFG.out.block p (lt_of_block HVA.out.blk) (fun e => HN.out.2.1 _ e rfl)).trans HVA.out.blk
    have f11 := free_blk HVG.out 1
    have c11 : w1.cell? ⟨p, 1, none⟩ = some vO := (cell_blk HVG.out 1).trans rfl
    have HOWN := hid hown
    have HGAT := hid hgat
    clear hown hgrow hgat
    refine wpAnyH_take (i := 10) (v := ?_) rfl (by kernel_rfl) (by kernel_rfl) (by kernel_rfl) (fun _ _ _ h => h) (Or.inl ⟨by rfl, ?_⟩) hHeld ?_
    rotate_left
    · intro w hSw
      go_simp
      with_reducible rfl
    try simp only [Act.put, List.getElem_toArray, List.getElem_cons_zero, List.getElem_cons_succ, List.setIfInBounds_toArray, List.set_cons_zero, List.set_cons_succ]
    refine wpAnyH_take (i := 11) (v := ?_) rfl (by kernel_rfl) (by kernel_rfl) (by kernel_rfl) (fun _ _ _ h => h) (Or.inl ⟨by rfl, ?_⟩) hHeld ?_
    rotate_left
    · intro w hSw
      go_simp
      with_reducible rfl
    try simp only [Act.put, List.getElem_toArray, List.getElem_cons_zero, List.getElem_cons_succ, List.setIfInBounds_toArray, List.set_cons_zero, List.set_cons_succ]
    refine wpAnyH_ready (rs := [12]) (by kernel_rfl) (by simp) ?_
    refine AllReadyH.cons rfl (fun K hK => ?_) AllReadyH.nil
    rw [if_pos (by rfl)]
    go_simp
    have HSET := Fr.set1 w1 p 1 (.slice (some ⟨g, 0, none⟩) (D1.opn.length + 1) cap)
    refine hK.out _ _ (HS1.out _ _ (HSET.mono (T := fun k => k = p ∨ vO.ownBlock = some k) (fun _ _ e => .inl e)) HS2.out) (fun hHeld => ?_)
    clear hK K
    try simp only [Act.put, List.getElem_toArray, List.getElem_cons_zero, List.getElem_cons_succ, List.setIfInBounds_toArray, List.set_cons_zero, List.set_cons_succ]
    refine wpAnyH_done (by kernel_rfl) ?_ _
    go_wp2_with fail
    go_ret
    rw [HE1.out, HE2.out]
    exact ⟨rfl, HEND.out _ g cap HFG.out HOWN.out HGAT.out hgz⟩
  · rw [if_pos (by rfl)]
    refine wp_buildS _ _ _ rfl _ (by simp [Act.eval]) _ _ (HSL.out w0) ?_
    have HSA := hid (HS1.out w0 _ ((Fr.refl _ w0).alloc (.cells (wk (s, B)).toArray 70)) hHeld)
    refine hK.out _ _ HSA.out (fun hHeld => ?_)
    clear hK K
    try simp only [Act.put, List.getElem_toArray, List.getElem_cons_zero, List.getElem_cons_succ, List.setIfInBounds_toArray, List.set_cons_zero, List.set_cons_succ]
    refine wpAnyH_ready (rs := [4]) (by kernel_rfl) (by simp) ?_
    refine AllReadyH.cons rfl (fun K hK => ?_) AllReadyH.nil
    rw [if_pos (by rfl)]
    go_simp
    refine hK.out _ _ hHeld (fun hHeld => ?_)
    clear hK K
    try simp only [Act.put, List.getElem_toArray, List.getElem_cons_zero, List.getElem_cons_succ, List.setIfInBounds_toArray, List.set_cons_zero, List.set_cons_succ]
    have HVA := hid (HV0.out.fr ((Fr.refl No w0).alloc (.cells (wk (s, B)).toArray 70)) (fun _ _ => id))
    have HNB := hid (World.news_of_block (heap_new w0 (.cells (wk (s, B)).toArray 70)))
    refine wpAnyH_ready (rs := [9]) (by kernel_rfl) (by simp) ?_
    refine AllReadyH.cons rfl (fun K hK => ?_) AllReadyH.nil
    rw [if_pos (by rfl)]
    refine wp_append_lies _ (.tmp 22) (.tmp 26) 36 rfl 0 70 i0 (.agg (wk (0, zeros)).toArray) 65 72 Try.underlying36 hi hz0 hz1 hz2 (by kernel_rfl) (by decide) vO D1.opn.length _ rfl HVA.out.opn ⟨w0.heap.size, 0, none⟩ 1 1 (wk (s, B)) rfl (by rw [HWL.out]) (by simpa using HNB.out) (wk_one _) (by decide) (by unfold maxLen; omega) (by omega) (Nat.zero_le _) _ rfl ?_
    intro g cap w1 hown hgrow hgat hgz
    have HFG := hid ((Fr.refl (fun k => vO.ownBlock = some k) (w0.alloc (.cells (wk (s, B)).toArray 70))).grown hgrow (fun k e _ => e))
    have HS2 := hid (HS1.out _ _ (HFG.out.mono (T := fun k => k = p ∨ vO.ownBlock = some k) (fun _ _ e => .inr e)) HSA.out)
    refine hK.out _ _ HS2.out (fun hHeld => ?_)
    clear hK K
    try simp only [Act.put, List.getElem_toArray, List.getElem_cons_zero, List.getElem_cons_succ, List.setIfInBounds_toArray, List.set_cons_zero, List.set_cons_succ]
    have HVG : Hid (w1.heap[p]? = some (.cells #[vF, vO, vP] 39 (0, 0))) := (HFG.out.block p (lt_of_block HVA.out.blk) (fun e => HN.out.2.1 _ e rfl)).trans HVA.out.blk
    have f11 := free_blk HVG.out 1
    have c11 : w1.cell? ⟨p, 1, none⟩ = some vO := (cell_blk HVG.out 1).trans rfl
    have HOWN := hid hown
    have HGAT := hid hgat
    clear hown hgrow hgat
    refine wpAnyH_take (i := 10) (v := ?_) rfl (by kernel_rfl) (by kernel_rfl) (by kernel_rfl) (fun _ _ _ h => h) (Or.inl ⟨by rfl, ?_⟩) hHeld ?_
    rotate_left
    · intro w hSw
      go_simp
      with_reducible rfl
    try simp only [Act.put, List.getElem_toArray, List.getElem_cons_zero, List.getElem_cons_succ, List.setIfInBounds_toArray, List.set_cons_zero, List.set_cons_succ]
    refine wpAnyH_take (i := 11) (v := ?_) rfl (by kernel_rfl) (by kernel_rfl) (by kernel_rfl) (fun _ _ _ h => h) (Or.inl ⟨by rfl, ?_⟩) hHeld ?_
    rotate_left
    · intro w hSw
      go_simp
      with_reducible rfl
    try simp only [Act.put, List.getElem_toArray, List.getElem_cons_zero, List.getElem_cons_succ, List.setIfInBounds_toArray, List.set_cons_zero, List.set_cons_succ]
    refine wpAnyH_ready (rs := [12]) (by kernel_rfl) (by simp) ?_
    refine AllReadyH.cons rfl (fun K hK => ?_) AllReadyH.nil
    rw [if_pos (by rfl)]
    go_simp
    have HSET := Fr.set1 w1 p 1 (.slice (some ⟨g, 0, none⟩) (D1.opn.length + 1) cap)
    refine hK.out _ _ (HS1.out _ _ (HSET.mono (T := fun k => k = p ∨ vO.ownBlock = some k) (fun _ _ e => .inl e)) HS2.out) (fun hHeld => ?_)
    clear hK K
    try simp only [Act.put, List.getElem_toArray, List.getElem_cons_zero, List.getElem_cons_succ, List.setIfInBounds_toArray, List.set_cons_zero, List.set_cons_succ]
    refine wpAnyH_done (by kernel_rfl) ?_ _
    go_wp2_with fail
    go_ret
    rw [HE1.out, HE2.out]
    exact ⟨rfl, HEND.out _ g cap HFG.out HOWN.out HGAT.out hgz⟩
end Go.Proofs.Ytcdchojdkdimbaa
