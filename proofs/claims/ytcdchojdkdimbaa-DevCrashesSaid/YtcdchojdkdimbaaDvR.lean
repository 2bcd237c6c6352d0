/- dev: latest, Read. -/
import Derived.Test.YtcdchojdkdimbaaDvA
namespace Go.Proofs.Ytcdchojdkdimbaa
open Go.RowKit

def opAt (D : DM) (k : Nat) : Nat × List Nat := D.opn.getD k (0, zeros)
theorem opAt_eq {D : DM} {k : Nat} (h : k < D.opn.length) : opAt D k = D.opn[k] := by simp [opAt, List.getD_eq_getElem?_getD, h]
/-- what is read of a sector, if only the first k open writes are there -/
def latK (D : DM) (s : Nat) : Nat → List Nat
  | 0 => firmAt D s
  | k + 1 => if (opAt D k).1 = s then (opAt D k).2 else latK D s k
def latest (D : DM) (s : Nat) : List Nat := latK D s D.opn.length
theorem latK_len {D : DM} (h : DOk D) {s : Nat} (hs : s < D.firm.length) : ∀ k, k ≤ D.opn.length → (latK D s k).length = 64
  | 0, _ => h.firmAt hs
  | k + 1, hk => by
    unfold latK
    split
    · have := h.opn _ (List.getElem_mem (show k < D.opn.length by omega))
      rw [← opAt_eq] at this
      simpa [wk, bk] using this
    · exact latK_len h hs k (by omega)
theorem range_wk {w : World} {g o : Nat} {x : Nat × List Nat} (h : w.rangeAt g o (wk x)) : w.cell? ⟨g, o, none⟩ = some (.int .i64 x.1) ∧ w.rangeAt g (o + 1) (bk x.2) :=
  ⟨h 0 _ rfl, fun j v hv => by rw [show o + 1 + j = o + (j + 1) by omega]; exact h (j + 1) v hv⟩
set_option maxRecDepth 100000 in
set_option maxHeartbeats 1000000 in
theorem dv_latest (w : World) (p : Nat) (S : Nat → Prop) (D : DM) (h : PD w p S D) (s : Nat) (hs : s < D.firm.length) (hb : D.opn.length ≤ 100000) : Calls Try.prog 40 #[.pointer (some ⟨p, 0, none⟩), .int .i64 s] w fun e w' => e = .returned (.agg (blkA (latest D s))) ∧ Fr No w w' := by
  have HFR := hid ((Fr.refl No w).alloc (.cells (blkA zeros) 42))
  have HD := hid (h.no HFR.out)
  have hB := heap_new w (.cells (blkA zeros) 42)
  obtain ⟨vF, vO, vP, hV⟩ := HD.out.2
  have HV := hid hV
  obtain ⟨aO, capO, rfl⟩ := own_form hV.opn
  have c1 := (HFR.out.cell (p := ⟨p, 1, none⟩) (h.lt p h.sp) id).symm.trans hV.cells.2.1
  have hpz : p < w.heap.size := h.lt p h.sp
  clear hV h
  have HB := hid hB
  have hs' : (s : Int) < (D.firm.length : Int) := by omega
  have hb' : (D.opn.length : Int) ≤ 100000 := by omega
  obtain ⟨n, hn⟩ : ∃ n, D.opn.length = n := ⟨_, rfl⟩
  have HN := hid hn
  obtain ⟨R, hR⟩ : ∃ R, latest D s = R := ⟨_, rfl⟩
  have HL : Hid (R = latK D s n) := by unfold Hid; rw [← hR]; unfold latest; rw [hn]
  rw [hR]
  clear hR
  rw [hn] at c1 hb'
  clear hn hB
  go_enter Try.func40, Try.ntmps40
  go_wp2_with fail
  go_step3
  go_wp2_with fail
  go_step3
  go_wp2_with fail
  go_loopg [5] n (fun g i wr => i = .int .i64 g ∧ Hid (g ≤ n ∧ latK D s n = latK D s g) ∧ Hid (Fr No (w.alloc (.cells (blkA zeros) 42)) wr))
  case atStart => exact ⟨rfl, ⟨Nat.le_refl _, rfl⟩, Fr.refl _ _⟩
  case round =>
    obtain ⟨rfl, HG, HF⟩ := hrel
    have HVr := hid (HV.out.fr HF.out (fun _ _ => id))
    have HDr := hid (HD.out.no HF.out)
    obtain ⟨c0, c1, c2, _⟩ := HVr.out.cells
    have hBr := (HF.out.block _ (lt_of_block HB.out) id).trans HB.out
    have HBr := hid hBr
    have HFA := hid (HFR.out.trans HF.out)
    rw [HN.out] at c1
    clear hBr c2
    cases gk with
    | zero =>
      clear c1
      obtain ⟨g, cap, rfl, hlc, hgz, hr, _⟩ := own_at HVr.out.firm HD.out.1.firm s hs
      rw [← firmAt_eq hs] at hr
      have hlen := HD.out.1.firmAt hs
      obtain ⟨B, hB⟩ : ∃ B, firmAt D s = B := ⟨_, rfl⟩
      have HLL : Hid (R = B) := by unfold Hid; rw [HL.out, HG.out.2]; exact hB
      rw [hB] at hr hlen
      have HR := hid hr
      have HI := hid (info64k B hlen)
      have HI2 := hid (info64b B hlen)
      have H1 := hid (blkA_one B)
      have HSZ : Hid ((blkA zeros).size = (blkA B).size) := by unfold Hid; rw [blkA_zeros_size, blkA_size, hlen]
      clear hr hB
      go_wp2_with (first
        | (refine wpList_load_mid rfl 42 _ rfl g (s * 64) rfl (bk B) _ HR.out Try.underlying42 rfl HI.out ?_)
        | (refine wpList_store_row rfl 42 _ _ rfl w.heap.size (blkA B) rfl rfl 42 (blkA zeros) HBr.out HI2.out HSZ.out H1.out ?_))
      rw [Exit.noGoto_ret]
      refine bodyPost_ret (v := .agg (blkA B)) ((results_cell_row (fn := Try.f40) (p := 4) rfl _ _ w.heap.size 42 (blkA B) (0, 0) _ rfl (setRow_heap _ _ _ _ _ _ HBr.out) Try.underlying42 rfl HI2.out)) rfl ⟨by rw [HLL.out], HFA.out.setRow _ _ (fun h => absurd h (Nat.lt_irrefl _))⟩
    | succ k =>
      have hkn : k < n := by have := HG.out.1; omega
      have HG2 := hid HG.out.2
      obtain ⟨g, cap, hv, hlc, hgz, hr, _⟩ := own_at HVr.out.opn HD.out.1.opn k (by rw [HN.out]; exact hkn)
      rw [HN.out] at hv hlc
      obtain ⟨rfl, rfl⟩ : aO = some ⟨g, 0, none⟩ ∧ capO = cap := by injection hv with h1 _ h3; exact ⟨h1, h3⟩
      rw [← opAt_eq] at hr
      obtain ⟨hr0, hr1⟩ := range_wk hr
      have hlen := HD.out.1.opn _ (List.getElem_mem (show k < D.opn.length by rw [HN.out]; exact hkn))
      rw [← opAt_eq] at hlen
      have hST : latK D s (k + 1) = if (opAt D k).1 = s then (opAt D k).2 else latK D s k := rfl
      have HST := hid hST
      obtain ⟨x, hx⟩ : ∃ x, opAt D k = x := ⟨_, rfl⟩
      rw [hx] at hr0 hr1 hlen HST
      obtain ⟨xs, B⟩ := x
      have hlenB : B.length = 64 := by simpa [wk, bk] using hlen
      have HR := hid hr1
      clear hx hr hr1 hST hlen hv
      by_cases hxs : xs = s
      · subst hxs
        have HLL : Hid (R = B) := by unfold Hid; rw [HL.out, HG2.out, HST.out]; exact if_pos rfl
        have HI := hid (info64k B hlenB)
        have HI2 := hid (info64b B hlenB)
        have H1 := hid (blkA_one B)
        have HSZ : Hid ((blkA zeros).size = (blkA B).size) := by unfold Hid; rw [blkA_zeros_size, blkA_size, hlenB]
        go_wp2_with (first
          | (refine wpList_load_mid rfl 42 _ rfl g (k * 65 + 1) rfl (bk B) _ HR.out Try.underlying42 rfl HI.out ?_)
          | (refine wpList_store_row rfl 42 _ _ rfl w.heap.size (blkA B) rfl rfl 42 (blkA zeros) HBr.out HI2.out HSZ.out H1.out ?_))
        refine bodyPost_ret (v := .agg (blkA B)) ((results_cell_row (fn := Try.f40) (p := 4) rfl _ _ w.heap.size 42 (blkA B) (0, 0) _ rfl (setRow_heap _ _ _ _ _ _ HBr.out) Try.underlying42 rfl HI2.out)) rfl ⟨by rw [HLL.out], HFA.out.setRow _ _ (fun h => absurd h (Nat.lt_irrefl _))⟩
      · have hne : ((xs : Int) == (s : Int)) = false := by simp; omega
        have HG3 : Hid (k ≤ n ∧ latK D s n = latK D s k) := ⟨by omega, by rw [HG2.out, HST.out]; exact if_neg hxs⟩
        go_wp2_with fail
        go_roundg k
        case measure => omega
        case rel => exact ⟨by go_num, HG3, HF⟩
end Go.Proofs.Ytcdchojdkdimbaa
