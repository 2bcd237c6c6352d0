/- dev: Size, Open, Planned, find, Firm. -/
import Derived.Test.YtcdchojdkdimbaaDv
namespace Go.Proofs.Ytcdchojdkdimbaa
open Go.RowKit

theorem DvV.cells {tD tW : TypeId} {S : Nat → Prop} {w : World} {p : Nat} {D : DM} {vF vO vP : Value} (h : DvV tD tW w p S D vF vO vP) : w.cell? ⟨p, 0, none⟩ = some vF ∧ w.cell? ⟨p, 1, none⟩ = some vO ∧ w.cell? ⟨p, 2, none⟩ = some vP ∧ w.frozen? ⟨p, 0, none⟩ = false ∧ w.frozen? ⟨p, 1, none⟩ = false ∧ w.frozen? ⟨p, 2, none⟩ = false := by
  refine ⟨?_, ?_, ?_, free_blk h.blk 0, free_blk h.blk 1, free_blk h.blk 2⟩ <;> rw [cell_blk h.blk] <;> rfl
theorem dv_Size (w : World) (p : Nat) (S : Nat → Prop) (D : DM) (h : PD w p S D) : Calls Try.prog 28 #[.pointer (some ⟨p, 0, none⟩)] w fun e w' => e = .returned (.int .i64 D.firm.length) ∧ w' = w := by
  obtain ⟨_, vF, vO, vP, h⟩ := h
  obtain ⟨c0, c1, c2, _⟩ := h.cells
  obtain ⟨a, cap, rfl⟩ := own_form h.firm
  clear h
  go_enter Try.func28, Try.ntmps28
  go_wp2
  go_ret
  exact ⟨rfl, rfl⟩
theorem dv_Open (w : World) (p : Nat) (S : Nat → Prop) (D : DM) (h : PD w p S D) : Calls Try.prog 15 #[.pointer (some ⟨p, 0, none⟩)] w fun e w' => e = .returned (.int .i64 D.opn.length) ∧ w' = w := by
  obtain ⟨_, vF, vO, vP, h⟩ := h
  obtain ⟨c0, c1, c2, _⟩ := h.cells
  obtain ⟨a, cap, rfl⟩ := own_form h.opn
  clear h
  go_enter Try.func15, Try.ntmps15
  go_wp2
  go_ret
  exact ⟨rfl, rfl⟩
theorem dv_Planned (w : World) (p : Nat) (S : Nat → Prop) (D : DM) (h : PD w p S D) : Calls Try.prog 16 #[.pointer (some ⟨p, 0, none⟩)] w fun e w' => e = .returned (.int .i64 D.plan.length) ∧ w' = w := by
  obtain ⟨_, vF, vO, vP, h⟩ := h
  obtain ⟨c0, c1, c2, _⟩ := h.cells
  obtain ⟨a, cap, rfl⟩ := h.plan.form
  clear h
  go_enter Try.func16, Try.ntmps16
  go_wp2
  go_ret
  exact ⟨rfl, rfl⟩
theorem dv_Size_nil (w : World) : Calls Try.prog 28 #[.pointer none] w fun e w' => e = .returned (.int .i64 0) ∧ w' = w := by
  go_enter Try.func28, Try.ntmps28
  go_wp2
  go_ret
  exact ⟨rfl, rfl⟩
theorem dv_Open_nil (w : World) : Calls Try.prog 15 #[.pointer none] w fun e w' => e = .returned (.int .i64 0) ∧ w' = w := by
  go_enter Try.func15, Try.ntmps15
  go_wp2
  go_ret
  exact ⟨rfl, rfl⟩
theorem dv_Planned_nil (w : World) : Calls Try.prog 16 #[.pointer none] w fun e w' => e = .returned (.int .i64 0) ∧ w' = w := by
  go_enter Try.func16, Try.ntmps16
  go_wp2
  go_ret
  exact ⟨rfl, rfl⟩
def thereB (D : DM) (s : Int) : Bool := decide (0 ≤ s) && decide (s < D.firm.length)
theorem dv_find_nil (w : World) (s : Int) : Calls Try.prog 34 #[.pointer none, .int .i64 s] w fun e w' => e = .returned (.int .i64 2) ∧ w' = w := by
  go_enter Try.func34, Try.ntmps34
  go_wp2
  go_ret
  exact ⟨rfl, rfl⟩
theorem dv_find_bad (w : World) (p : Nat) (S : Nat → Prop) (D : DM) (h : PD w p S D) (s : Int) (hs : s < 0 ∨ (D.firm.length : Int) ≤ s) : Calls Try.prog 34 #[.pointer (some ⟨p, 0, none⟩), .int .i64 s] w fun e w' => e = .returned (.int .i64 10) ∧ w' = w := by
  obtain ⟨_, vF, vO, vP, h⟩ := h
  obtain ⟨c0, c1, c2, _⟩ := h.cells
  obtain ⟨a, cap, rfl⟩ := own_form h.firm
  clear h
  have hs' : s < 0 ∨ (0 ≤ s ∧ (D.firm.length : Int) ≤ s) := by omega
  clear hs
  rcases hs' with hs | ⟨hs, hs2⟩
  all_goals
    go_enter Try.func34, Try.ntmps34
    go_wp2
    go_ret
    exact ⟨rfl, rfl⟩
theorem dv_find_ok (w : World) (p : Nat) (S : Nat → Prop) (D : DM) (h : PD w p S D) (s : Nat) (hs : s < D.firm.length) : Calls Try.prog 34 #[.pointer (some ⟨p, 0, none⟩), .int .i64 s] w fun e w' => e = .returned (.int .i64 0) ∧ w' = w := by
  obtain ⟨_, vF, vO, vP, h⟩ := h
  obtain ⟨c0, c1, c2, _⟩ := h.cells
  obtain ⟨a, cap, rfl⟩ := own_form h.firm
  clear h
  have hs' : (s : Int) < (D.firm.length : Int) := by omega
  go_enter Try.func34, Try.ntmps34
  go_wp2
  go_ret
  exact ⟨rfl, rfl⟩
theorem blkA_zeros : blkA zeros = (#[.int .u8 0, .int .u8 0, .int .u8 0, .int .u8 0, .int .u8 0, .int .u8 0, .int .u8 0, .int .u8 0, .int .u8 0, .int .u8 0, .int .u8 0, .int .u8 0, .int .u8 0, .int .u8 0, .int .u8 0, .int .u8 0, .int .u8 0, .int .u8 0, .int .u8 0, .int .u8 0, .int .u8 0, .int .u8 0, .int .u8 0, .int .u8 0, .int .u8 0, .int .u8 0, .int .u8 0, .int .u8 0, .int .u8 0, .int .u8 0, .int .u8 0, .int .u8 0, .int .u8 0, .int .u8 0, .int .u8 0, .int .u8 0, .int .u8 0, .int .u8 0, .int .u8 0, .int .u8 0, .int .u8 0, .int .u8 0, .int .u8 0, .int .u8 0, .int .u8 0, .int .u8 0, .int .u8 0, .int .u8 0, .int .u8 0, .int .u8 0, .int .u8 0, .int .u8 0, .int .u8 0, .int .u8 0, .int .u8 0, .int .u8 0, .int .u8 0, .int .u8 0, .int .u8 0, .int .u8 0, .int .u8 0, .int .u8 0, .int .u8 0, .int .u8 0] : Array Value) := rfl
set_option maxRecDepth 100000 in
theorem dv_Firm_bad (w : World) (v : Value) (s : Int) (k : Int) (hk : (k != 0) = true) (hf : ∀ W : World, Fr No w W → Calls Try.prog 34 #[v, .int .i64 s] W fun e w' => e = .returned (.int .i64 k) ∧ w' = W) : Calls Try.prog 18 #[v, .int .i64 s] w fun e w' => e = .returned (.tuple #[.agg (blkA zeros), .int .i64 k]) ∧ Fr No w w' := by
  have HF := hid hf
  clear hf
  have HB := hid (heap_new w (.cells (blkA zeros) 42))
  have HFR := hid ((Fr.refl No w).alloc (.cells (blkA zeros) 42))
  have HZ := hid blkA_zeros
  have HI := hid (info64b zeros zeros_len)
  have H1 := hid (blkA_one zeros)
  go_enter Try.func18, Try.ntmps18
  go_wp2_with fail
  refine (HF.out _ HFR.out).mono ?_
  rintro e w' ⟨rfl, rfl⟩
  go_wp2_with (refine wpList_store_row rfl 42 _ _ rfl w.heap.size (blkA zeros) rfl rfl 42 (blkA zeros) HB.out HI.out rfl H1.out ?_)
  refine bodyPost_ret (v := .tuple #[.agg (blkA zeros), .int .i64 k]) (results_block2 (fn := Try.f18) (p := 4) (u := 5) rfl _ _ _ w.heap.size 42 (blkA zeros) (0, 0) _ _ rfl (setRow_heap _ _ _ _ _ _ HB.out) Try.underlying42 HI.out) rfl ⟨rfl, HFR.out.setRow _ _ (fun h => absurd h (Nat.lt_irrefl _))⟩
def firmAt (D : DM) (s : Nat) : List Nat := D.firm.getD s zeros
theorem firmAt_eq {D : DM} {s : Nat} (hs : s < D.firm.length) : firmAt D s = D.firm[s] := by simp [firmAt, List.getD_eq_getElem?_getD, hs]
theorem DOk.firmAt {D : DM} (h : DOk D) {s : Nat} (hs : s < D.firm.length) : (firmAt D s).length = 64 := by
  rw [firmAt_eq hs]; have := h.firm _ (List.getElem_mem hs); rwa [bk_len] at this
set_option maxRecDepth 100000 in
theorem dv_Firm_ok (w : World) (p : Nat) (S : Nat → Prop) (D : DM) (h : PD w p S D) (s : Nat) (hs : s < D.firm.length) : Calls Try.prog 18 #[.pointer (some ⟨p, 0, none⟩), .int .i64 s] w fun e w' => e = .returned (.tuple #[.agg (blkA (firmAt D s)), .int .i64 0]) ∧ Fr No w w' := by
  have HFR := hid ((Fr.refl No w).alloc (.cells (blkA zeros) 42))
  have hA := h.no HFR.out
  have HFI := hid (dv_find_ok _ p S D hA s hs)
  have HI := hid (info64k (firmAt D s) (h.1.firmAt hs))
  have HI2 := hid (info64b (firmAt D s) (h.1.firmAt hs))
  obtain ⟨hok, vF, vO, vP, hV⟩ := hA
  obtain ⟨c0, c1, c2, _⟩ := hV.cells
  obtain ⟨g, cap, rfl, hlc, hgz, hr, _⟩ := own_at hV.firm hok.firm s hs
  rw [← firmAt_eq hs] at hr
  have HR := hid hr
  have hs' : (s : Int) < (D.firm.length : Int) := by omega
  have HB := hid (heap_new w (.cells (blkA zeros) 42))
  have HZ := hid blkA_zeros
  have H1 := hid (blkA_one (firmAt D s))
  have HSZ : Hid ((blkA zeros).size = (blkA (firmAt D s)).size) := by unfold Hid; rw [blkA_zeros_size, blkA_size, h.1.firmAt hs]
  obtain ⟨B, hB⟩ : ∃ B, firmAt D s = B := ⟨_, rfl⟩
  rw [hB] at HI HI2 HR H1 HSZ ⊢
  clear hV hr h hB c1 c2 hok
  go_enter Try.func18, Try.ntmps18
  go_wp2_with fail
  refine HFI.out.mono ?_
  rintro e w' ⟨rfl, rfl⟩
  go_wp2_with (first
    | (refine wpList_load_mid rfl 42 _ rfl g (s * 64) rfl (bk B) _ HR.out Try.underlying42 rfl HI.out ?_)
    | (refine wpList_store_row rfl 42 _ _ rfl w.heap.size (blkA B) rfl rfl 42 (blkA zeros) HB.out HI2.out HSZ.out H1.out ?_))
  refine bodyPost_ret (v := .tuple #[.agg (blkA B), .int .i64 0]) (results_block2 (fn := Try.f18) (p := 4) (u := 5) rfl _ _ _ w.heap.size 42 (blkA B) (0, 0) _ _ rfl (setRow_heap _ _ _ _ _ _ HB.out) Try.underlying42 HI2.out) rfl ⟨rfl, HFR.out.setRow _ _ (fun h => absurd h (Nat.lt_irrefl _))⟩
end Go.Proofs.Ytcdchojdkdimbaa
