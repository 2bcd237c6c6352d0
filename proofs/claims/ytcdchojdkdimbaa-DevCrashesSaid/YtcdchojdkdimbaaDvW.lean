/- dev: Write's closure. -/
import Derived.Test.YtcdchojdkdimbaaDvB
import Derived.Test.YtcdchojdkdimbaaDvR
import Derived.Test.YtcdchojdkdimbaaReg
import Derived.Test.YtcdchojdkdimbaaStl
import Derived.Deep.RegionHeld3
namespace Go.Proofs.Ytcdchojdkdimbaa
open Go.RowKit

def addO (D : DM) (s : Nat) (B : List Nat) : DM := { D with opn := D.opn ++ [(s, B)] }
theorem addO_ok {D : DM} (h : DOk D) {s : Nat} (hs : s < D.firm.length) {B : List Nat} (hB : B.length = 64) : DOk (addO D s B) :=
  ⟨h.lo, h.hi, h.firm, fun x hx => by
    rcases List.mem_append.1 hx with hx | hx
    · exact h.at_ x hx
    · rw [List.mem_singleton.1 hx]; exact hs, fun x hx => by
    rcases List.mem_append.1 hx with hx | hx
    · exact h.opn x hx
    · rw [List.mem_singleton.1 hx]; exact wk_len _ hB, h.plan⟩
theorem dvw1_drop (w : World) (b1 b2 b3 : Nat) : Calls Try.prog 37 #[.bool true, .pointer (some ⟨b1, 0, none⟩), .pointer (some ⟨b2, 0, none⟩), .pointer (some ⟨b3, 0, none⟩)] w fun e w' => e = .returned (.tuple #[]) ∧ w' = w := by
  go_enter Try.func37, Try.ntmps37
  go_wp2
  go_end0
  exact ⟨rfl, rfl⟩
set_option maxRecDepth 100000 in
set_option maxHeartbeats 1000000 in
theorem dvw1_goes (w : World) (p : Nat) (S : Nat → Prop) (D : DM) (h : PD w p S D) (s : Nat) (hs : s < D.firm.length) (B : List Nat) (hB : B.length = 64) (b1 b2 b3 : Nat)
    (h1 : w.heap[b1]? = some (.cells #[.pointer (some ⟨p, 0, none⟩)] 24 (0, 0))) (h2 : w.heap[b2]? = some (.cells #[.int .i64 s] 3 (0, 0))) (h3 : w.heap[b3]? = some (.cells (blkA B) 42 (0, 0))) (hlen : D.opn.length ≤ 100000) (hb1 : ¬ S b1) (hb2 : ¬ S b2) (hb3 : ¬ S b3) :
    Calls Try.prog 37 #[.bool false, .pointer (some ⟨b1, 0, none⟩), .pointer (some ⟨b2, 0, none⟩), .pointer (some ⟨b3, 0, none⟩)] w fun e w' => e = .returned (.tuple #[]) ∧ ∃ S', PD w' p S' (addO D s B) ∧ Fr S w w' ∧ More w w' S S' := by
  obtain ⟨i0, hi, hz0, hz1, hz2⟩ := info_parts wr_info
  obtain ⟨hok, vF, vO, vP, hV⟩ := h
  obtain ⟨c0, c1, c2, f0, f1, f2⟩ := hV.cells
  have HV := hid hV
  have k1 := cell_blk h1 0
  have k2 := cell_blk h2 0
  simp only [List.getElem?_toArray, List.getElem?_cons_zero] at k1 k2
  have HI := hid (info64b B hB)
  have HBD := hid (wr_build s B hB)
  have HSL := hid (wr_slice (s, B) hB)
  have HOK := hid (addO_ok hok hs hB)
  have HPO : Hid (∀ k, vO.ownBlock = some k → k ≠ p) := fun k hk => by
    obtain ⟨cs, hcs⟩ := own_ty hV.opn hk
    exact ne_ty hcs hV.blk (by decide)
  have HS1 : Hid (∀ W W' : World, Fr (fun k => k = p ∨ vO.ownBlock = some k) W W' → (W.cell? ⟨b1, 0, none⟩ = some (.pointer (some ⟨p, 0, none⟩)) ∧ W.cell? ⟨b2, 0, none⟩ = some (.int .i64 s) ∧ W.heap[b3]? = some (.cells (blkA B) 42 (0, 0))) → (W'.cell? ⟨b1, 0, none⟩ = some (.pointer (some ⟨p, 0, none⟩)) ∧ W'.cell? ⟨b2, 0, none⟩ = some (.int .i64 s) ∧ W'.heap[b3]? = some (.cells (blkA B) 42 (0, 0)))) := fun W W' f ⟨a1, a3, a4⟩ =>
    have hn : ∀ b, ¬ S b → ¬ (b = p ∨ vO.ownBlock = some b) := fun b hb e => hb (e.elim (fun e => by rw [e]; exact hV.sp) (fun e => hV.sO _ e))
    ⟨(f.cell (World.block_lt_of_cell? _ _ a1) (hn _ hb1)).trans a1, (f.cell (World.block_lt_of_cell? _ _ a3) (hn _ hb2)).trans a3, (f.block _ (lt_of_block a4) (hn _ hb3)).trans a4⟩
  have HEND : Hid (∀ w1 g cap, Fr (fun k => vO.ownBlock = some k) (w.drew.alloc (.cells (wk (s, B)).toArray 68)) w1 → w1.ownsRow 0 68 65 (.slice (some ⟨g, 0, none⟩) (D.opn.length + 1) cap) (D.opn.length + 1) (D.opn.flatMap wk ++ wk (s, B)) → (vO.ownBlock = some g ∨ g = (w.drew.alloc (.cells (wk (s, B)).toArray 68)).heap.size) → g < w1.heap.size →
      ∃ S', PD (w1.setCell ⟨p, 1, none⟩ (.slice (some ⟨g, 0, none⟩) (D.opn.length + 1) cap)) p S' (addO D s B) ∧ Fr S w (w1.setCell ⟨p, 1, none⟩ (.slice (some ⟨g, 0, none⟩) (D.opn.length + 1) cap)) ∧ More w (w1.setCell ⟨p, 1, none⟩ (.slice (some ⟨g, 0, none⟩) (D.opn.length + 1) cap)) S S') := fun w1 g cap f ho hg hgz => by
    have hFa := ((Fr.refl No w).drew).alloc (.cells (wk (s, B)).toArray 68)
    have hsz := hFa.size
    have hFp := Fr.set1 w1 p 1 (.slice (some ⟨g, 0, none⟩) (D.opn.length + 1) cap)
    have hF1 : Fr S w w1 := (hFa.mono (T := S) (fun _ _ h => h.elim)).then f (fun i _ e => hV.sO i e)
    have hVa := hV.fr hFa (fun _ _ => id)
    have hne : ∀ k, vP.ownBlock = some k → vO.ownBlock ≠ some k := fun k hk e => by
      obtain ⟨x, hx⟩ := hV.plan.ty hk
      obtain ⟨y, hy⟩ := own_ty hV.opn e
      exact ne_ty hx hy (by decide) rfl
    have hnF : ∀ k, vF.ownBlock = some k → vO.ownBlock ≠ some k := fun k hk e => by
      obtain ⟨x, hx⟩ := own_ty hV.firm hk
      obtain ⟨y, hy⟩ := own_ty hV.opn e
      exact ne_ty hx hy (by decide) rfl
    have hpF : ∀ k, vF.ownBlock = some k → k ≠ p := fun k hk => by
      obtain ⟨x, hx⟩ := own_ty hV.firm hk
      exact ne_ty hx hV.blk (by decide)
    have hpP : ∀ k, vP.ownBlock = some k → k ≠ p := fun k hk => by
      obtain ⟨x, hx⟩ := hV.plan.ty hk
      exact ne_ty hx hV.blk (by decide)
    have hblk1 := (f.block p (lt_of_block hVa.blk) (fun e => HPO.out _ e rfl)).trans hVa.blk
    have hgp : g ≠ p := fun e => by
      rcases hg with hg | hg
      · exact HPO.out _ hg e
      · have := lt_of_block hVa.blk; omega
    refine ⟨fun k => S k ∨ k = g, ⟨addO_ok hok hs hB, vF, _, vP, ⟨set_blk hblk1 1 _, own_frk (own_frk hVa.firm f (fun k hk => hnF k hk)) hFp hpF, ?_, (hVa.plan.fr f hne).fr hFp hpP, .inl hV.sp, fun k hk => .inl (hV.sF k hk), fun k hk => .inr (by simpa [Value.ownBlock] using hk.symm), fun k hk => .inl (hV.sP k hk), fun k hk => ?_⟩⟩, hF1.trans (hFp.mono (fun k _ e => by rw [e]; exact hV.sp)), fun k hk => ?_, fun k hk => ?_⟩
    · have hl : (addO D s B).opn.length = D.opn.length + 1 := by simp [addO]
      have hf : (addO D s B).opn.flatMap wk = D.opn.flatMap wk ++ wk (s, B) := by simp [addO]
      rw [hl, hf]
      exact own_frk ho hFp (fun k hk e => hgp ((show g = k by simpa [Value.ownBlock] using hk).trans e))
    · rw [size_set]
      rcases hk with hk | hk
      · exact hF1.lt (hV.lt k hk)
      · omega
    · rcases hk with hk | hk
      · exact .inl hk
      · rcases hg with hg | hg
        · exact .inl (by rw [hk]; exact hV.sO _ hg)
        · exact .inr (by omega)
    · rw [size_set]
      rcases hk with hk | hk
      · exact hF1.lt (hV.lt k hk)
      · omega
  have HWL := hid (wk_len (s, B) hB)
  clear hV c0 c2 f0 f2 h1 h2
  go_enter Try.func37, Try.ntmps37
  go_wp2_with fail
  refine wp_region_held_drew (S := fun W => W.cell? ⟨b1, 0, none⟩ = some (.pointer (some ⟨p, 0, none⟩)) ∧ W.cell? ⟨b2, 0, none⟩ = some (.int .i64 s) ∧ W.heap[b3]? = some (.cells (blkA B) 42 (0, 0))) (by kernel_rfl) ⟨k1, k2, h3⟩ (fun hHeld => ?_)
  have HV0 := hid (HV.out.fr ((Fr.refl No w).drew) (fun _ _ => id))
  have HF0 := hid ((Fr.refl No w).drew)
  have f10 : w.drew.frozen? ⟨p, 1, none⟩ = false := f1
  have c10 : w.drew.cell? ⟨p, 1, none⟩ = some vO := c1
  have hpz : p < w.drew.heap.size := lt_of_block HV0.out.blk
  obtain ⟨w0, hw0⟩ : ∃ w0, w.drew = w0 := ⟨_, rfl⟩
  rw [hw0] at HV0 HF0 f10 c10 hHeld hpz HEND ⊢
  clear hw0 k1 k2 c1 f1 h3
  refine wpAnyH_take (i := 0) (v := ?_) rfl (by kernel_rfl) (by kernel_rfl) (by kernel_rfl) (fun _ _ _ h => h) (Or.inl ⟨by rfl, ?_⟩) hHeld ?_
  rotate_left
  · intro w hSw; obtain ⟨hA1, hA2, hA3⟩ := hSw
    go_simp
    with_reducible rfl
  try simp only [Act.put, List.getElem_toArray, List.getElem_cons_zero, List.getElem_cons_succ, List.setIfInBounds_toArray, List.set_cons_zero, List.set_cons_succ]
  refine wpAnyH_take (i := 1) (v := ?_) rfl (by kernel_rfl) (by kernel_rfl) (by kernel_rfl) (fun _ _ _ h => h) (Or.inl ⟨by rfl, ?_⟩) hHeld ?_
  rotate_left
  · intro w hSw; obtain ⟨hA1, hA2, hA3⟩ := hSw
    go_simp
    with_reducible rfl
  try simp only [Act.put, List.getElem_toArray, List.getElem_cons_zero, List.getElem_cons_succ, List.setIfInBounds_toArray, List.set_cons_zero, List.set_cons_succ]
  refine wpAnyH_take (i := 2) (v := ?_) rfl (by kernel_rfl) (by kernel_rfl) (by kernel_rfl) (fun _ _ _ h => h) (Or.inl ⟨by rfl, ?_⟩) hHeld ?_
  rotate_left
  · intro w hSw; obtain ⟨hA1, hA2, hA3⟩ := hSw
    go_simp
    with_reducible rfl
  try simp only [Act.put, List.getElem_toArray, List.getElem_cons_zero, List.getElem_cons_succ, List.setIfInBounds_toArray, List.set_cons_zero, List.set_cons_succ]
  refine wpAnyH_take (i := 3) (v := ?_) rfl (by kernel_rfl) (by kernel_rfl) (by kernel_rfl) (fun _ _ _ h => h) (Or.inl ⟨by rfl, ?_⟩) hHeld ?_
  rotate_left
  · intro w hSw; obtain ⟨hA1, hA2, hA3⟩ := hSw
    go_simp
    with_reducible rfl
  try simp only [Act.put, List.getElem_toArray, List.getElem_cons_zero, List.getElem_cons_succ, List.setIfInBounds_toArray, List.set_cons_zero, List.set_cons_succ]
  refine wpAnyH_take (i := 5) (v := ?_) rfl (by kernel_rfl) (by kernel_rfl) (by kernel_rfl) (fun _ _ _ h => h) (Or.inl ⟨by rfl, ?_⟩) hHeld ?_
  rotate_left
  · intro w hSw; obtain ⟨hA1, hA2, hA3⟩ := hSw
    go_simp
    with_reducible rfl
  try simp only [Act.put, List.getElem_toArray, List.getElem_cons_zero, List.getElem_cons_succ, List.setIfInBounds_toArray, List.set_cons_zero, List.set_cons_succ]
  refine wpAnyH_take (i := 6) (v := .agg (blkA B)) rfl (by kernel_rfl) (by kernel_rfl) (by kernel_rfl) (fun _ _ _ h => h) (yields_row (by rfl) 42 _ rfl b3 rfl 42 (blkA B) (0, 0) _ _ (fun W hW => hW.2.2) Try.underlying42 HI.out) hHeld ?_
  try simp only [Act.put, List.getElem_toArray, List.getElem_cons_zero, List.getElem_cons_succ, List.setIfInBounds_toArray, List.set_cons_zero, List.set_cons_succ]
  refine wpAnyH_take (i := 7) (v := .agg (wk (s, B)).toArray) rfl (by kernel_rfl) (by kernel_rfl) (by kernel_rfl) (fun _ _ _ h => h) (.inl ⟨by rfl, fun W _ => exec_build _ _ rfl _ (by simp [Act.eval]) _ (HBD.out W)⟩) hHeld ?_
  try simp only [Act.put, List.getElem_toArray, List.getElem_cons_zero, List.getElem_cons_succ, List.setIfInBounds_toArray, List.set_cons_zero, List.set_cons_succ]
  refine wpAnyH_ready (rs := [4, 8]) (by kernel_rfl) (by simp) ?_
  refine AllReadyH.cons rfl (fun K hK => ?_) (AllReadyH.cons rfl (fun K hK => ?_) AllReadyH.nil)
  · rw [if_pos (by rfl)]
    go_simp
    refine hK.out _ _ hHeld (fun hHeld => ?_)
    clear hK K
    try simp only [Act.put, List.getElem_toArray, List.getElem_cons_zero, List.getElem_cons_succ, List.setIfInBounds_toArray, List.set_cons_zero, List.set_cons_succ]
    refine wpAnyH_ready (rs := [8]) (by kernel_rfl) (by simp) ?_
    refine AllReadyH.cons rfl (fun K hK => ?_) AllReadyH.nil
    rw [if_pos (by rfl)]
    refine wp_buildS _ _ _ rfl _ (by simp [Act.eval]) _ _ (HSL.out w0) ?_
    have HSA := hid (HS1.out w0 _ ((Fr.refl _ w0).alloc (.cells (wk (s, B)).toArray 68)) hHeld)
    refine hK.out _ _ HSA.out (fun hHeld => ?_)
    clear hK K
    try simp only [Act.put, List.getElem_toArray, List.getElem_cons_zero, List.getElem_cons_succ, List.setIfInBounds_toArray, List.set_cons_zero, List.set_cons_succ]
    have HVA := hid (HV0.out.fr ((Fr.refl No w0).alloc (.cells (wk (s, B)).toArray 68)) (fun _ _ => id))
    have HFA := hid (HF0.out.alloc (.cells (wk (s, B)).toArray 68))
    have HNB := hid (World.news_of_block (heap_new w0 (.cells (wk (s, B)).toArray 68)))
    refine wpAnyH_ready (rs := [9]) (by kernel_rfl) (by simp) ?_
    refine AllReadyH.cons rfl (fun K hK => ?_) AllReadyH.nil
    rw [if_pos (by rfl)]
    refine wp_append_lies _ (.tmp 11) (.tmp 15) 60 rfl 0 68 i0 (.agg (wk (0, zeros)).toArray) 65 72 Try.underlying60 hi hz0 hz1 hz2 (by kernel_rfl) (by decide) vO D.opn.length _ rfl HVA.out.opn ⟨w0.heap.size, 0, none⟩ 1 1 (wk (s, B)) rfl (by rw [HWL.out]) (by simpa using HNB.out) (wk_one _) (by decide) (by unfold maxLen; omega) (by omega) (Nat.zero_le _) _ rfl ?_
    intro g cap w1 hown hgrow hgat hgz
    have HFG := hid ((Fr.refl (fun k => vO.ownBlock = some k) (w0.alloc (.cells (wk (s, B)).toArray 68))).grown hgrow (fun k e _ => e))
    have HS2 := hid (HS1.out _ _ (HFG.out.mono (T := fun k => k = p ∨ vO.ownBlock = some k) (fun _ _ e => .inr e)) HSA.out)
    refine hK.out _ _ HS2.out (fun hHeld => ?_)
    clear hK K
    try simp only [Act.put, List.getElem_toArray, List.getElem_cons_zero, List.getElem_cons_succ, List.setIfInBounds_toArray, List.set_cons_zero, List.set_cons_succ]
    have HVG : Hid (w1.heap[p]? = some (.cells #[vF, vO, vP] 62 (0, 0))) := (HFG.out.block p (lt_of_block HVA.out.blk) (fun e => HPO.out _ e rfl)).trans HVA.out.blk
    have f11 := free_blk HVG.out 1
    have c11 : w1.cell? ⟨p, 1, none⟩ = some vO := (cell_blk HVG.out 1).trans rfl
    have HOWN := hid hown
    have HGAT := hid hgat
    clear hown hgrow hgat
    refine wpAnyH_take (i := 10) (v := ?_) rfl (by kernel_rfl) (by kernel_rfl) (by kernel_rfl) (fun _ _ _ h => h) (Or.inl ⟨by rfl, ?_⟩) hHeld ?_
    rotate_left
    · intro w hSw
      go_simp
      with_reducible rfl
    try simp only [Act.put, List.getElem_toArray, List.getElem_cons_zero, List.getElem_cons_succ, List.setIfInBounds_toArray, List.set_cons_zero, List.set_cons_succ]
    refine wpAnyH_take (i := 11) (v := ?_) rfl (by kernel_rfl) (by kernel_rfl) (by kernel_rfl) (fun _ _ _ h => h) (Or.inl ⟨by rfl, ?_⟩) hHeld ?_
    rotate_left
    · intro w hSw
      go_simp
      with_reducible rfl
    try simp only [Act.put, List.getElem_toArray, List.getElem_cons_zero, List.getElem_cons_succ, List.setIfInBounds_toArray, List.set_cons_zero, List.set_cons_succ]
    refine wpAnyH_ready (rs := [12]) (by kernel_rfl) (by simp) ?_
    refine AllReadyH.cons rfl (fun K hK => ?_) AllReadyH.nil
    rw [if_pos (by rfl)]
    go_simp
    have HSET := Fr.set1 w1 p 1 (.slice (some ⟨g, 0, none⟩) (D.opn.length + 1) cap)
    refine hK.out _ _ (HS1.out _ _ (HSET.mono (T := fun k => k = p ∨ vO.ownBlock = some k) (fun _ _ e => .inl e)) HS2.out) (fun hHeld => ?_)
    clear hK K
    try simp only [Act.put, List.getElem_toArray, List.getElem_cons_zero, List.getElem_cons_succ, List.setIfInBounds_toArray, List.set_cons_zero, List.set_cons_succ]
    refine wpAnyH_done (by kernel_rfl) ?_ _
    go_wp2_with fail
    go_end0
    exact ⟨rfl, HEND.out _ g cap HFG.out HOWN.out HGAT.out hgz⟩
  · rw [if_pos (by rfl)]
    refine wp_buildS _ _ _ rfl _ (by simp [Act.eval]) _ _ (HSL.out w0) ?_
    have HSA := hid (HS1.out w0 _ ((Fr.refl _ w0).alloc (.cells (wk (s, B)).toArray 68)) hHeld)
    refine hK.out _ _ HSA.out (fun hHeld => ?_)
    clear hK K
    try simp only [Act.put, List.getElem_toArray, List.getElem_cons_zero, List.getElem_cons_succ, List.setIfInBounds_toArray, List.set_cons_zero, List.set_cons_succ]
    refine wpAnyH_ready (rs := [4]) (by kernel_rfl) (by simp) ?_
    refine AllReadyH.cons rfl (fun K hK => ?_) AllReadyH.nil
    rw [if_pos (by rfl)]
    go_simp
    refine hK.out _ _ hHeld (fun hHeld => ?_)
    clear hK K
    try simp only [Act.put, List.getElem_toArray, List.getElem_cons_zero, List.getElem_cons_succ, List.setIfInBounds_toArray, List.set_cons_zero, List.set_cons_succ]
    have HVA := hid (HV0.out.fr ((Fr.refl No w0).alloc (.cells (wk (s, B)).toArray 68)) (fun _ _ => id))
    have HFA := hid (HF0.out.alloc (.cells (wk (s, B)).toArray 68))
    have HNB := hid (World.news_of_block (heap_new w0 (.cells (wk (s, B)).toArray 68)))
    refine wpAnyH_ready (rs := [9]) (by kernel_rfl) (by simp) ?_
    refine AllReadyH.cons rfl (fun K hK => ?_) AllReadyH.nil
    rw [if_pos (by rfl)]
    refine wp_append_lies _ (.tmp 11) (.tmp 15) 60 rfl 0 68 i0 (.agg (wk (0, zeros)).toArray) 65 72 Try.underlying60 hi hz0 hz1 hz2 (by kernel_rfl) (by decide) vO D.opn.length _ rfl HVA.out.opn ⟨w0.heap.size, 0, none⟩ 1 1 (wk (s, B)) rfl (by rw [HWL.out]) (by simpa using HNB.out) (wk_one _) (by decide) (by unfold maxLen; omega) (by omega) (Nat.zero_le _) _ rfl ?_
    intro g cap w1 hown hgrow hgat hgz
    have HFG := hid ((Fr.refl (fun k => vO.ownBlock = some k) (w0.alloc (.cells (wk (s, B)).toArray 68))).grown hgrow (fun k e _ => e))
    have HS2 := hid (HS1.out _ _ (HFG.out.mono (T := fun k => k = p ∨ vO.ownBlock = some k) (fun _ _ e => .inr e)) HSA.out)
    refine hK.out _ _ HS2.out (fun hHeld => ?_)
    clear hK K
    try simp only [Act.put, List.getElem_toArray, List.getElem_cons_zero, List.getElem_cons_succ, List.setIfInBounds_toArray, List.set_cons_zero, List.set_cons_succ]
    have HVG : Hid (w1.heap[p]? = some (.cells #[vF, vO, vP] 62 (0, 0))) := (HFG.out.block p (lt_of_block HVA.out.blk) (fun e => HPO.out _ e rfl)).trans HVA.out.blk
    have f11 := free_blk HVG.out 1
    have c11 : w1.cell? ⟨p, 1, none⟩ = some vO := (cell_blk HVG.out 1).trans rfl
    have HOWN := hid hown
    have HGAT := hid hgat
    clear hown hgrow hgat
    refine wpAnyH_take (i := 10) (v := ?_) rfl (by kernel_rfl) (by kernel_rfl) (by kernel_rfl) (fun _ _ _ h => h) (Or.inl ⟨by rfl, ?_⟩) hHeld ?_
    rotate_left
    · intro w hSw
      go_simp
      with_reducible rfl
    try simp only [Act.put, List.getElem_toArray, List.getElem_cons_zero, List.getElem_cons_succ, List.setIfInBounds_toArray, List.set_cons_zero, List.set_cons_succ]
    refine wpAnyH_take (i := 11) (v := ?_) rfl (by kernel_rfl) (by kernel_rfl) (by kernel_rfl) (fun _ _ _ h => h) (Or.inl ⟨by rfl, ?_⟩) hHeld ?_
    rotate_left
    · intro w hSw
      go_simp
      with_reducible rfl
    try simp only [Act.put, List.getElem_toArray, List.getElem_cons_zero, List.getElem_cons_succ, List.setIfInBounds_toArray, List.set_cons_zero, List.set_cons_succ]
    refine wpAnyH_ready (rs := [12]) (by kernel_rfl) (by simp) ?_
    refine AllReadyH.cons rfl (fun K hK => ?_) AllReadyH.nil
    rw [if_pos (by rfl)]
    go_simp
    have HSET := Fr.set1 w1 p 1 (.slice (some ⟨g, 0, none⟩) (D.opn.length + 1) cap)
    refine hK.out _ _ (HS1.out _ _ (HSET.mono (T := fun k => k = p ∨ vO.ownBlock = some k) (fun _ _ e => .inl e)) HS2.out) (fun hHeld => ?_)
    clear hK K
    try simp only [Act.put, List.getElem_toArray, List.getElem_cons_zero, List.getElem_cons_succ, List.setIfInBounds_toArray, List.set_cons_zero, List.set_cons_succ]
    refine wpAnyH_done (by kernel_rfl) ?_ _
    go_wp2_with fail
    go_end0
    exact ⟨rfl, HEND.out _ g cap HFG.out HOWN.out HGAT.out hgz⟩
end Go.Proofs.Ytcdchojdkdimbaa
