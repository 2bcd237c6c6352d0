/- field.Writer.Seal. -/
import Derived.Test.YtpifiamafgaadaaDoorFdSeal
import Derived.Laws.ResultCell
import Derived.Deep.RegionHeld3
namespace Go.Proofs.YtpifiamafgaadaaDoor
open Go.RowKit

def zeros : List Nat := List.replicate 64 0
theorem results_block2 {fn : Func} {p u : Tmp} {ty : TypeId} (h : fn.results = #[.cell p ty, .tmp u]) (tmps : Array Value) (P : Program) (w : World) (g : Nat) (t : TypeId) (cs : Array Value) (fr : Nat × Nat) (n : Nat) (el : TypeId)
    (hp : tmps.getD p undef = .pointer (some ⟨g, 0, none⟩)) (hg : w.heap[g]? = some (.cells cs t fr))
    (hu : P.underlying ty = some (.array n el)) (hi : (P.info? ty).map (·.size) = some cs.size) :
    (results fn tmps).run P w = .ok (.tuple #[.agg cs, tmps.getD u undef]) w := by
  rw [results_cell_tmp h]
  have hp' : tmps[p]?.getD undef = .pointer (some ⟨g, 0, none⟩) := by simpa using hp
  simp [hp', asAddr, run_loadVar_row w g t ty cs fr _ hg hu rfl hi, Result.andThen]
theorem blkA_zeros : blkA zeros = #[byte 0, byte 0, byte 0, byte 0, byte 0, byte 0, byte 0, byte 0, byte 0, byte 0, byte 0, byte 0, byte 0, byte 0, byte 0, byte 0, byte 0, byte 0, byte 0, byte 0, byte 0, byte 0, byte 0, byte 0, byte 0, byte 0, byte 0, byte 0, byte 0, byte 0, byte 0, byte 0, byte 0, byte 0, byte 0, byte 0, byte 0, byte 0, byte 0, byte 0, byte 0, byte 0, byte 0, byte 0, byte 0, byte 0, byte 0, byte 0, byte 0, byte 0, byte 0, byte 0, byte 0, byte 0, byte 0, byte 0, byte 0, byte 0, byte 0, byte 0, byte 0, byte 0, byte 0, byte 0] := rfl

theorem blkA_zeros_size : (blkA zeros).size = 64 := by simp [blkA, zeros]
theorem WrAt.range {w : World} {p at_ e : Nat} {bs : List Nat} (h : WrAt w p bs at_ e) : w.rangeAt p 0 (bs.map byte) := fun j v hv => by
  rw [cell_blk h.blk]
  have hj : j < (bs.map byte).length := (List.getElem?_eq_some_iff.1 hv).1
  simp only [List.getElem?_toArray, Nat.zero_add]
  rw [List.getElem?_append_left hj, hv]
theorem info64b (bs : List Nat) (h : bs.length = 64) : (Tryd.prog.info? 27).map (·.size) = some (blkA bs).size := by rw [blkA_size, h]; exact info64

set_option maxRecDepth 100000 in
set_option maxHeartbeats 2000000 in
theorem fd_Seal_nil (w : World) : Calls Tryd.prog 29 #[.pointer none] w fun e w' => e = .returned (.tuple #[.agg (blkA zeros), .int .i64 2]) ∧ Fr No w w' := by
  have HB := hid (heap_new w (.cells (blkA zeros) 27))
  have HF := hid ((Fr.refl No w).alloc (.cells (blkA zeros) 27))
  have HZ := hid blkA_zeros
  have HI := hid (info64b zeros (by simp [zeros]))
  have H1 := hid (blkA_one zeros)
  go_enter Tryd.func29, Tryd.ntmps29
  go_wp2_with (refine wpList_store_row rfl 27 _ _ rfl w.heap.size (blkA zeros) rfl rfl 27 (blkA zeros) HB.out HI.out rfl H1.out ?_)
  refine bodyPost_ret (v := .tuple #[.agg (blkA zeros), .int .i64 2]) (results_block2 (fn := Tryd.f29) (p := 2) (u := 3) rfl _ _ _ w.heap.size 27 (blkA zeros) (0, 0) _ _ rfl (setRow_heap _ _ _ _ _ _ HB.out) Tryd.underlying27 HI.out) rfl ⟨rfl, HF.out.setRow _ _ (fun h => absurd h (Nat.lt_irrefl _))⟩
set_option maxRecDepth 100000 in
set_option maxHeartbeats 2000000 in
theorem fd_Seal_ok (w : World) (p at_ : Nat) (bs : List Nat) (h : WrAt w p bs at_ 0) (hL : Laid w) : Calls Tryd.prog 29 #[.pointer (some ⟨p, 0, none⟩)] w fun e w' => e = .returned (.tuple #[.agg (blkA (sealB bs)), .int .i64 0]) ∧ Fr No w w' := by
  have HW := hid h
  have HL := hid hL
  have hce := h.e_cell
  have hlp := h.ltp
  have HB := hid (heap_new w (.cells (blkA zeros) 27))
  have HF := hid ((Fr.refl No w).alloc (.cells (blkA zeros) 27))
  have HI := hid (info64b bs h.len)
  have HR := hid ((h.fr HF.out id).range)
  have HS := hid (fd_seal _ bs h.len h.lt (laid_no hL HF.out))
  clear h hL
  go_enter Tryd.func29, Tryd.ntmps29
  go_wp2_with (refine wpList_load_mid rfl 27 _ rfl p 0 rfl (bs.map byte) _ HR.out Tryd.underlying27 rfl (by simpa [blkA] using HI.out) ?_)
  refine (HS.out).mono ?_
  rintro e w3 ⟨rfl, hF3⟩
  have HB3 := hid ((hF3.block w.heap.size (lt_of_block HB.out) id).trans HB.out)
  have HF3 := hid (HF.out.trans hF3)
  have HI3 := hid (info64b (sealB bs) (sealB_len bs HW.out.len))
  have H13 := hid (blkA_one (sealB bs))
  have HZ3 := hid (blkA_zeros_size.trans ((blkA_size (sealB bs)).trans (sealB_len bs HW.out.len)).symm)
  clear hF3 hce HR HS HI
  go_wp2_with (refine wpList_store_row rfl 27 _ _ rfl w.heap.size (blkA (sealB bs)) rfl rfl 27 (blkA zeros) HB3.out HI3.out HZ3.out H13.out ?_)
  refine bodyPost_ret (v := .tuple #[.agg (blkA (sealB bs)), .int .i64 0]) (results_block2 (fn := Tryd.f29) (p := 2) (u := 3) rfl _ _ _ w.heap.size 27 (blkA (sealB bs)) (0, 0) _ _ rfl (setRow_heap _ _ _ _ _ _ HB3.out) Tryd.underlying27 HI3.out) rfl ⟨rfl, HF3.out.setRow _ _ (fun h => absurd h (Nat.lt_irrefl _))⟩
theorem z64_eq : blkA zeros = #[.int .u8 0, .int .u8 0, .int .u8 0, .int .u8 0, .int .u8 0, .int .u8 0, .int .u8 0, .int .u8 0, .int .u8 0, .int .u8 0, .int .u8 0, .int .u8 0, .int .u8 0, .int .u8 0, .int .u8 0, .int .u8 0, .int .u8 0, .int .u8 0, .int .u8 0, .int .u8 0, .int .u8 0, .int .u8 0, .int .u8 0, .int .u8 0, .int .u8 0, .int .u8 0, .int .u8 0, .int .u8 0, .int .u8 0, .int .u8 0, .int .u8 0, .int .u8 0, .int .u8 0, .int .u8 0, .int .u8 0, .int .u8 0, .int .u8 0, .int .u8 0, .int .u8 0, .int .u8 0, .int .u8 0, .int .u8 0, .int .u8 0, .int .u8 0, .int .u8 0, .int .u8 0, .int .u8 0, .int .u8 0, .int .u8 0, .int .u8 0, .int .u8 0, .int .u8 0, .int .u8 0, .int .u8 0, .int .u8 0, .int .u8 0, .int .u8 0, .int .u8 0, .int .u8 0, .int .u8 0, .int .u8 0, .int .u8 0, .int .u8 0, .int .u8 0] := rfl
set_option maxRecDepth 100000 in
set_option maxHeartbeats 2000000 in
theorem fd_Seal_err (w : World) (p at_ er : Nat) (bs : List Nat) (h : WrAt w p bs at_ er) (he : 0 < er) : Calls Tryd.prog 29 #[.pointer (some ⟨p, 0, none⟩)] w fun e w' => e = .returned (.tuple #[.agg (blkA zeros), .int .i64 er]) ∧ Fr No w w' := by
  have hce := h.e_cell
  have hlp := h.ltp
  have hb : (((er : Nat) : Int) != 0) = true := by simp; omega
  have HB := hid (heap_new w (.cells (blkA zeros) 27))
  have HF := hid ((Fr.refl No w).alloc (.cells (blkA zeros) 27))
  have HI := hid (info64b zeros (by simp [zeros]))
  have HE := hid ((h.fr HF.out id).e_cell)
  clear h
  go_enter Tryd.func29, Tryd.ntmps29
  go_wp2_with fail
  have hz := z64_eq
  rw [← hz]
  clear hz
  generalize hw1 : w.alloc (.cells (blkA zeros) 27) = w1 at *
  generalize hq : w.heap.size = q at *
  clear hw1 hce
  have hpq : p ≠ q := by omega
  have H1 := hid (blkA_one zeros)
  have hce := HE.out
  refine wp_region_held_drew (S := fun w' => w'.cell? ⟨p, 65, none⟩ = some (.int .i64 er)) (by kernel_rfl) hce (fun hHeld => ?_)
  refine wpAnyH_take (i := 0) (v := .agg (blkA zeros)) rfl (by kernel_rfl) (by kernel_rfl) (by kernel_rfl) (fun _ _ _ h => h) (Or.inl ⟨by rfl, ?_⟩) hHeld ?_
  · intro w hSw
    go_simp
    rfl
  simp only [Act.put, List.getElem_toArray, List.getElem_cons_zero, List.getElem_cons_succ, List.setIfInBounds_toArray, List.set_cons_zero, List.set_cons_succ]
  refine wpAnyH_take (i := 1) (v := ?_) rfl (by kernel_rfl) (by kernel_rfl) (by kernel_rfl) (fun _ _ _ h => h) (Or.inl ⟨by rfl, ?_⟩) hHeld ?_
  rotate_left
  · intro w hSw
    go_simp
    with_reducible rfl
  simp only [Act.put, List.getElem_toArray, List.getElem_cons_zero, List.getElem_cons_succ, List.setIfInBounds_toArray, List.set_cons_zero, List.set_cons_succ]
  refine wpAnyH_take (i := 2) (v := ?_) rfl (by kernel_rfl) (by kernel_rfl) (by kernel_rfl) (fun _ _ _ h => h) (Or.inl ⟨by rfl, ?_⟩) hHeld ?_
  rotate_left
  · intro w hSw
    go_simp
    with_reducible rfl
  simp only [Act.put, List.getElem_toArray, List.getElem_cons_zero, List.getElem_cons_succ, List.setIfInBounds_toArray, List.set_cons_zero, List.set_cons_succ]
  refine wpAnyH_take (i := 3) (v := ?_) rfl (by kernel_rfl) (by kernel_rfl) (by kernel_rfl) (fun _ _ _ h => h) (Or.inl ⟨by rfl, ?_⟩) hHeld ?_
  rotate_left
  · intro w hSw
    go_simp
    with_reducible rfl
  simp only [Act.put, List.getElem_toArray, List.getElem_cons_zero, List.getElem_cons_succ, List.setIfInBounds_toArray, List.set_cons_zero, List.set_cons_succ]
  refine wpAnyH_take (i := 4) (v := ?_) rfl (by kernel_rfl) (by kernel_rfl) (by kernel_rfl) (fun _ _ _ h => h) (Or.inl ⟨by rfl, ?_⟩) hHeld ?_
  rotate_left
  · intro w hSw
    go_simp
    with_reducible rfl
  simp only [Act.put, List.getElem_toArray, List.getElem_cons_zero, List.getElem_cons_succ, List.setIfInBounds_toArray, List.set_cons_zero, List.set_cons_succ]
  refine wpAnyH_ready (rs := [5]) (by kernel_rfl) (by simp) ?_
  refine AllReadyH.cons rfl (fun K hK => ?_) AllReadyH.nil
  rw [if_pos (by rfl)]
  refine wp_store_row 27 _ _ rfl q (blkA zeros) rfl rfl 27 (blkA zeros) HB.out HI.out rfl H1.out ?_
  have HSC : (w1.drew.setRow q (blkA zeros)).cell? ⟨p, 65, none⟩ = some (.int .i64 er) := (cell_setRow_other w1.drew q (blkA zeros) ⟨p, 65, none⟩ hpq).trans hHeld
  refine hK.out _ _ HSC (fun hHeld => ?_)
  clear hK K
  simp only [Act.put, List.getElem_toArray, List.getElem_cons_zero, List.getElem_cons_succ, List.setIfInBounds_toArray, List.set_cons_zero, List.set_cons_succ]
  refine wpAnyH_take (i := 6) (v := ?_) rfl (by kernel_rfl) (by kernel_rfl) (by kernel_rfl) (fun _ _ _ h => h) (Or.inl ⟨by rfl, ?_⟩) hHeld ?_
  rotate_left
  · intro w hSw
    go_simp
    with_reducible rfl
  simp only [Act.put, List.getElem_toArray, List.getElem_cons_zero, List.getElem_cons_succ, List.setIfInBounds_toArray, List.set_cons_zero, List.set_cons_succ]
  refine wpAnyH_done (by kernel_rfl) ?_ _
  have HSF := hid (HF.out.drew.setRow q (blkA zeros) (fun h => by omega))
  have HSH := hid (setRow_heap w1.drew q (blkA zeros) (blkA zeros) 27 (0, 0) HB.out)
  clear hHeld HSC hce HE HF HB
  generalize w1.drew.setRow q (blkA zeros) = w2 at *
  go_wp2_with fail
  refine bodyPost_ret (v := .tuple #[.agg (blkA zeros), .int .i64 er]) (results_block2 (fn := Tryd.f29) (p := 2) (u := 3) rfl _ _ _ q 27 (blkA zeros) (0, 0) _ _ rfl HSH.out Tryd.underlying27 HI.out) rfl ⟨rfl, HSF.out⟩
end Go.Proofs.YtpifiamafgaadaaDoor
