/- field.Sealed. -/
import Derived.Test.YtpifiamafgaadaaDoorFdSealM
import Derived.Test.YtpifiamafgaadaaDoorArrEq
import Derived.Test.YtpifiamafgaadaaDoorReg
namespace Go.Proofs.YtpifiamafgaadaaDoor
open Go.RowKit

theorem cells_u8 : Tryd.prog.cellsOf 5 = 1 := by kernel_rfl
theorem guard_blk : Tryd.prog.eqGuardType Tryd.prog.depth 27 = false := by kernel_rfl
theorem equal_blk (a b : List Nat) (ha : a.length = 64) (hb : b.length = 64) (w : World) : (Op.equalIn 10000 27 (.agg (blkA a)) (.agg (blkA b))).run Tryd.prog w = .ok (a == b) w :=
  equal_ints Tryd.underlying27 Tryd.underlying5 cells_u8 a b ha hb w

/-- OK, or ErrSum -/
def sumE (b : Bool) : Int := if b then 0 else 13
set_option maxRecDepth 100000 in
set_option maxHeartbeats 2000000 in
theorem fd_Sealed (w : World) (bs : List Nat) (hl : bs.length = 64) (hlt : ∀ x ∈ bs, x < 256) (hL : Laid w) :
    Calls Tryd.prog 43 #[.agg (blkA bs)] w fun e w' => e = .returned (.int .i64 (sumE (sealB bs == bs))) ∧ Fr No w w' := by
  have HB := hid (heap_new w (.cells (blkA bs) 27))
  have HF := hid ((Fr.refl No w).alloc (.cells (blkA bs) 27))
  have HI := hid (info64b bs hl)
  have HS := fun W (h : Laid W) => hid (fd_seal W bs hl hlt h)
  have HL := hid hL
  have hsl := sealB_len bs hl
  have HE := fun W => hid (equal_blk (sealB bs) bs hsl hl W)
  generalize hX : sealB bs = X at *
  clear hL hlt hX hsl
  go_enter Tryd.func43, Tryd.ntmps43
  go_wp2_with fail
  generalize hw1 : w.alloc (.cells (blkA bs) 27) = w1 at *
  generalize hq : w.heap.size = q at *
  have hq1 : q < w1.heap.size := by rw [← hw1, ← hq]; simp
  clear hw1
  refine wp_region_held_drew (S := fun w' => w'.heap[q]? = some (.cells (blkA bs) 27 (0, 0))) (by kernel_rfl) HB.out (fun hHeld => ?_)
  refine wpAnyH_take (i := 0) (v := .agg (blkA bs)) rfl (by kernel_rfl) (by kernel_rfl) (by kernel_rfl) (fun _ _ _ h => h) (yields_row (by rfl) 27 _ rfl q rfl 27 (blkA bs) (0, 0) _ _ (fun _ h => h) Tryd.underlying27 HI.out) hHeld ?_
  try simp only [Act.put, List.getElem_toArray, List.getElem_cons_zero, List.getElem_cons_succ, List.setIfInBounds_toArray, List.set_cons_zero, List.set_cons_succ]
  refine wpAnyH_take (i := 2) (v := .agg (blkA bs)) rfl (by kernel_rfl) (by kernel_rfl) (by kernel_rfl) (fun _ _ _ h => h) (yields_row (by rfl) 27 _ rfl q rfl 27 (blkA bs) (0, 0) _ _ (fun _ h => h) Tryd.underlying27 HI.out) hHeld ?_
  try simp only [Act.put, List.getElem_toArray, List.getElem_cons_zero, List.getElem_cons_succ, List.setIfInBounds_toArray, List.set_cons_zero, List.set_cons_succ]
  refine wpAnyH_ready (rs := [1]) (by kernel_rfl) (by simp) ?_
  refine AllReadyH.cons rfl (fun K hK => ?_) AllReadyH.nil
  rw [if_pos (by rfl)]
  go_simp
  refine (HS w1.drew (laid_no HL.out HF.out.drew)).out.mono ?_
  rintro e w3 ⟨rfl, hF3⟩
  have HF3 := hid (HF.out.drew.trans hF3)
  refine hK.out _ _ ((hF3.block q hq1 id).trans hHeld) (fun hHeld => ?_)
  clear hK K hF3
  try simp only [Act.put, List.getElem_toArray, List.getElem_cons_zero, List.getElem_cons_succ, List.setIfInBounds_toArray, List.set_cons_zero, List.set_cons_succ]
  have hg := guard_blk
  refine wpAnyH_take (i := 3) (v := .bool (!(X == bs))) rfl (by kernel_rfl) (by kernel_rfl) (by kernel_rfl) (fun _ _ _ h => h) (Or.inl ⟨by rfl, ?_⟩) hHeld ?_
  · intro w hSw
    have he := (HE w).out
    clear hSw hHeld
    go_simp
  try simp only [Act.put, List.getElem_toArray, List.getElem_cons_zero, List.getElem_cons_succ, List.setIfInBounds_toArray, List.set_cons_zero, List.set_cons_succ]
  refine wpAnyH_done (by kernel_rfl) ?_ _
  clear hHeld hg
  cases hb : (X == bs)
  all_goals
    have HBB := hid hb
    clear hb
    go_wp2_with fail
    go_ret
    exact ⟨by rw [HBB.out]; rfl, HF3.out⟩
end Go.Proofs.YtpifiamafgaadaaDoor
