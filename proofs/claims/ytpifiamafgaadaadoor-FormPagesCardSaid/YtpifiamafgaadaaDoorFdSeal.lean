/- field.seal, Seal, Sealed. -/
import Derived.Test.YtpifiamafgaadaaDoorFdPut
import Derived.Deep.MidRow
import Derived.Deep.WholeRow
namespace Go.Proofs.YtpifiamafgaadaaDoor
open Go.RowKit

/-- a sector -/
def blkA (bs : List Nat) : Array Value := (bs.map byte).toArray
theorem blkA_size (bs : List Nat) : (blkA bs).size = bs.length := by simp [blkA]
theorem blkA_set (bs : List Nat) (i x : Nat) : (blkA bs).setIfInBounds i (byte x) = blkA (bs.set i x) := by simp [blkA, List.map_set]
theorem blkA_one (bs : List Nat) : (blkA bs).all (·.oneCell') = true := by
  rw [Array.all_eq_true_iff_forall_mem]
  intro v hv
  simp only [blkA, List.mem_toArray, List.mem_map] at hv
  obtain ⟨x, _, rfl⟩ := hv
  rfl
/-- a sector, its last bytes the sum of the others -/
def sealB (bs : List Nat) : List Nat := bs.take 60 ++ digs 4 (Crc.sumOf (bs.take 60))
theorem sealB_len (bs : List Nat) (h : bs.length = 64) : (sealB bs).length = 64 := by simp [sealB, digs_len, h]
theorem sealB_lt (bs : List Nat) (h : ∀ x ∈ bs, x < 256) : ∀ x ∈ sealB bs, x < 256 := by
  intro x hx
  rcases List.mem_append.1 hx with hx | hx
  · exact h x (List.mem_of_mem_take hx)
  · exact digs_lt _ _ x hx
theorem mid_set (a d bs : List Nat) (n x : Nat) (h : a.length + d.length = n) (hn : n < bs.length) : (a ++ d ++ bs.drop n).set n x = a ++ (d ++ [x]) ++ bs.drop (n + 1) := by
  have hl : (a ++ d).length = n := by rw [List.length_append]; exact h
  rw [List.set_append_right _ _ (by omega), hl, Nat.sub_self, List.drop_eq_getElem_cons hn, List.set_cons_zero]
  simp
theorem laid_no {w w' : World} (h : Laid w) (f : Fr No w w') : Laid w' := ⟨h.1.fr f h.2 id, f.lt h.2⟩
theorem info64 : (Tryd.prog.info? 27).map (·.size) = some 64 := by kernel_rfl
theorem third (w : World) (o1 o2 o3 : Obj) : (((w.alloc o1).alloc o2).alloc o3).heap[w.heap.size]? = some o1 ∧ (((w.alloc o1).alloc o2).alloc o3).heap[w.heap.size + 1]? = some o2 ∧ (((w.alloc o1).alloc o2).alloc o3).heap[w.heap.size + 1 + 1]? = some o3 ∧ Fr No w (((w.alloc o1).alloc o2).alloc o3) := by
  refine ⟨?_, ?_, ?_, (((Fr.refl No w).alloc _).alloc _).alloc _⟩
  · rw [Below.heap_alloc _ _ _ (by simp; omega), Below.heap_alloc _ _ _ (by simp), heap_new]
  · rw [Below.heap_alloc _ _ _ (by simp), show w.heap.size + 1 = (w.alloc o1).heap.size from by simp, heap_new]
  · rw [show w.heap.size + 1 + 1 = ((w.alloc o1).alloc o2).heap.size from by simp, heap_new]
theorem Fr.setRow {S : Nat → Prop} {a w : World} (h : Fr S a w) (g : Nat) (cs : Array Value) (hg : g < a.heap.size → S g) : Fr S a (w.setRow g cs) :=
  h.then (T := fun k => k = g) ⟨rfl, rfl, rfl, by simp, fun k _ hs => setRow_other w g k cs hs⟩ (fun i hi e => by subst e; exact hg hi)

set_option maxRecDepth 100000 in
set_option maxHeartbeats 2000000 in
theorem fd_seal (w : World) (bs : List Nat) (hl : bs.length = 64) (hlt : ∀ x ∈ bs, x < 256) (hL : Laid w) :
    Calls Tryd.prog 51 #[.agg (blkA bs)] w fun e w' => e = .returned (.agg (blkA (sealB bs))) ∧ Fr No w w' := by
  have hsz := blkA_size bs
  rw [hl] at hsz
  have hS := Crc.sumOf_lt (bs.take 60) (fun x hx => hlt x (List.mem_of_mem_take hx))
  have HSE : Hid (sealB bs = bs.take 60 ++ digs 4 (Crc.sumOf (bs.take 60))) := rfl
  have HL := hid hL
  have HLT := hid hlt
  have HLN := hid hl
  generalize hA : blkA bs = A at *
  have HA := hid hA
  clear hA hL hlt hl
  go_enter Tryd.func51, Tryd.ntmps51
  go_wp2_with fail
  have HT := fun o1 o2 o3 => hid (third w o1 o2 o3)
  have HROW : ∀ W : World, W.heap[w.heap.size]? = some (.cells A 27) → Hid (IsB W (.slice (some ⟨w.heap.size, 0, none⟩) 60 64) (bs.take 60)) := fun W hW => by
    refine ⟨some ⟨w.heap.size, 0, none⟩, 64, ?_, ?_, fun x hx => HLT.out x (List.mem_of_mem_take hx), ?_⟩
    · rw [List.length_take, HLN.out]; rfl
    · refine Row.of_blk (n := 60) hW ?_ (by omega)
      rw [← HA.out]; simp [blkA, List.map_take]
    · simp [HLN.out, maxLen]
  refine (sum1 (Crc.sumOf (bs.take 60)) _ (bs.take 60) _ _ (hid rfl) (hid (laid_no HL.out (HT _ _ _).out.2.2.2)) (HT _ _ _).out.2.2.1 (HROW _ (HT _ _ _).out.1).out).mono ?_
  rintro e w3 ⟨rfl, hF⟩
  have hq1 := (hF.block w.heap.size (lt_of_block (HT _ _ _).out.1) id).trans (HT _ _ _).out.1
  have hq2 := (hF.block (w.heap.size + 1) (lt_of_block (HT _ _ _).out.2.1) id).trans (HT _ _ _).out.2.1
  obtain ⟨Z, hZ, hq2⟩ : ∃ Z : Array Value, Z.size = 64 ∧ w3.heap[w.heap.size + 1]? = some (.cells Z 27) := ⟨_, rfl, hq2⟩
  have HF := hid ((HT _ _ _).out.2.2.2.trans hF)
  clear hF HROW HT
  generalize Crc.sumOf (bs.take 60) = S at *
  rw [← HA.out] at hq1
  have HQ1 : Hid (w3.heap[w.heap.size]? = some (.cells (blkA (bs.take 60 ++ digs 0 S ++ bs.drop (60 + 0))) 27)) := by
    unfold Hid; rw [hq1]; simp [digs]
  have HQ2 := hid hq2
  clear hq1 hq2
  go_wp2_with fail
  go_loopg [3, 4] 4 (fun g x i wr => ∃ k : Nat, k + g = 4 ∧ i = .int .i64 ((60 + k : Nat) : Int) ∧ x = .int .i64 ((S / 256 ^ k : Nat) : Int) ∧ Hid (wr.heap[w.heap.size]? = some (.cells (blkA (bs.take 60 ++ digs k S ++ bs.drop (60 + k))) 27)) ∧ Hid (wr.heap[w.heap.size + 1]? = some (.cells Z 27)) ∧ Hid (Fr No w wr))
  case atStart => exact ⟨0, by omega, rfl, by simp, HQ1, HQ2, HF⟩
  case round =>
    obtain ⟨k, hk, rfl, rfl, HK1, HK2, HFk⟩ := hrel
    clear HQ1 HQ2 HF
    cases gk with
    | zero =>
      obtain rfl : k = 4 := by omega
      have hq1 := HK1.out
      rw [List.drop_eq_nil_of_le (by rw [HLN.out]; omega), List.append_nil, ← HSE.out] at hq1
      have hq2 := HK2.out
      have hsz := (blkA_size (sealB bs)).trans (sealB_len bs HLN.out)
      have h1 := blkA_one (sealB bs)
      have hi := info64
      rw [← hsz] at hi
      generalize hX : blkA (sealB bs) = X at *
      have HX := hid hX
      clear HK1 HK2
      have HST := hid (setRow_heap wr (w.heap.size + 1) Z X 27 (0, 0) hq2)
      have HSF := hid (HFk.out.setRow (w.heap.size + 1) X (fun h => by omega))
      have hz2 : Z.size = X.size := by omega
      have HQ1 := hid hq1
      have HQ2 := hid hq2
      have HI := hid hi
      have HZ2 := hid hz2
      have H1 := hid h1
      clear hq1 hq2 hi hz2 h1 hZ hX
      go_wp2_with (first
        | (refine wpList_load_row rfl 27 _ rfl w.heap.size rfl 27 X (0, 0) _ HQ1.out Tryd.underlying27 rfl HI.out ?_)
        | (refine wpList_store_row rfl 27 _ _ rfl (w.heap.size + 1) X rfl rfl 27 Z HQ2.out HI.out HZ2.out H1.out ?_))
      generalize wr.setRow (w.heap.size + 1) X = wz at *
      refine bodyPost_ret (v := .agg X) (results_cell_row rfl _ _ (w.heap.size + 1) 27 X (0, 0) _ rfl HST.out Tryd.underlying27 rfl HI.out) rfl ⟨by rw [HX.out], HSF.out⟩
    | succ g =>
      obtain ⟨m, hm⟩ : ∃ m, S / 256 ^ k = m := ⟨_, rfl⟩
      have HM : Hid (S / 256 ^ (k + 1) = m / 256) := by unfold Hid; rw [← hm, Nat.pow_succ, Nat.div_div_eq_div_mul]
      have HD : Hid (digs (k + 1) S = digs k S ++ [m % 256]) := by unfold Hid; rw [digs_snoc, hm]
      rw [hm]
      clear hm
      have hc : ∃ v, wr.cell? ⟨w.heap.size, 60 + k, none⟩ = some v := by
        rw [cell_blk HK1.out, Array.getElem?_eq_getElem (by rw [blkA_size]; simp [digs_len, HLN.out]; omega)]
        exact ⟨_, rfl⟩
      obtain ⟨v, hc⟩ := hc
      have hf := free_blk HK1.out (60 + k)
      have hms := mid_set (bs.take 60) (digs k S) bs (60 + k) (m % 256) (by rw [List.length_take, digs_len, HLN.out]; omega) (by rw [HLN.out]; omega)
      rw [← HD.out] at hms
      have hb := set_blk HK1.out (60 + k) (byte (m % 256))
      rw [blkA_set, hms] at hb
      have HK1' := hid hb
      have HK2' := hid ((heap_setCell_other wr ⟨w.heap.size, 60 + k, none⟩ (w.heap.size + 1) (byte (m % 256)) (by show w.heap.size + 1 ≠ w.heap.size; omega)).trans HK2.out)
      have HF' := hid (HFk.out.setCell (p := ⟨w.heap.size, 60 + k, none⟩) (fun h => absurd h (Nat.lt_irrefl _)) (byte (m % 256)))
      clear hms hb HK1 HK2 HFk
      go_wp2_with fail
      rw [show ((m : Int) % 256) = ((m % 256 : Nat) : Int) from by omega]
      go_roundg g
      case measure => omega
      case rel => exact ⟨k + 1, by omega, by go_num, by rw [HM.out]; (first | rfl | simp; done | (congr 1; omega)), HK1', HK2', HF'⟩
end Go.Proofs.YtpifiamafgaadaaDoor
