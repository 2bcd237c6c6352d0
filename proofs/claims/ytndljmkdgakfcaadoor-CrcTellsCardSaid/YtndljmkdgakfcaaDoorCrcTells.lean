/- The walk of lavabolaw01.CrcTells. -/
import Derived.Test.YtndljmkdgakfcaaDoorCrcParts
import Derived.Test.YtndljmkdgakfcaaDoorBlk
import Derived.Deep.RegionHeld3
import Derived.OwnWalk
namespace Go.Proofs.YtndljmkdgakfcaaDoor
open Go.RowKit

theorem Crc.tells (l : List Nat) (k x : Nat) (hl : ∀ y ∈ l, y < 256) (hx : x < 256) (hk : k < l.length) : Crc.sumOf l = Crc.sumOf (l.set k x) ↔ l[k] = x := by
  constructor
  · intro h
    have h1 : Crc.run Crc.F l = Crc.run Crc.F (l.set k x) := Crc.xor_right_cancel h
    have e1 : l = l.take k ++ l[k] :: l.drop (k + 1) := by rw [List.getElem_cons_drop, List.take_append_drop]
    have e2 : l.set k x = l.take k ++ x :: l.drop (k + 1) := by rw [List.set_eq_take_append_cons_drop, if_pos hk]
    rw [e2] at h1
    rw [show Crc.run Crc.F l = Crc.run Crc.F (l.take k ++ l[k] :: l.drop (k + 1)) from by rw [← e1]] at h1
    rw [Crc.run_append, Crc.run_append, Crc.run_cons, Crc.run_cons] at h1
    have hs := Crc.run_lt (l.take k) Crc.F Crc.F_lt (fun y hy => hl y (List.mem_of_mem_take hy))
    have hy := hl l[k] (List.getElem_mem hk)
    have h2 := Crc.run_inj _ _ _ (Crc.stepB_lt _ _ hs hy) (Crc.stepB_lt _ _ hs hx) (fun y hy => hl y (List.mem_of_mem_drop hy)) h1
    have h3 := Crc.stepB_inj _ _ _ _ hs hs hy hx h2
    rw [Nat.xor_comm _ l[k], Nat.xor_comm _ x] at h3
    exact Crc.xor_right_cancel h3
  · intro h
    rw [show l.set k x = l from by rw [← h]; exact List.set_getElem_self hk]

theorem old_cell {w : World} {g cp k : Nat} {cur : Array Value} {l : List Nat} (h : w.heap[g]? = some (.cells cur 5 (0, 0))) (ht : cur.toList.take l.length = l.map byte) (hs : cur.size = cp) (hk : k < l.length) (hn : l.length ≤ cp) :
    w.cell? ⟨g, k, none⟩ = some (byte l[k]) := by
  rw [cell_blk h]
  have e : (cur.toList.take l.length)[k]? = some (byte l[k]) := by rw [ht, List.getElem?_map, List.getElem?_eq_getElem hk]; rfl
  rw [List.getElem?_take, if_pos hk] at e
  simpa using e

theorem new_row {w : World} {g cp k x : Nat} {cur : Array Value} {l : List Nat} (h : w.heap[g]? = some (.cells cur 5 (0, 0))) (ht : cur.toList.take l.length = l.map byte) (hs : cur.size = cp) (hk : k < l.length) (hn : l.length ≤ cp)
    (hx : x < 256) (hl : ∀ y ∈ l, y < 256) (hm : l.length ≤ 600) (v : Value) (hv : v = byte x) : IsB (w.setCell ⟨g, k, none⟩ v) (.slice (some ⟨g, 0, none⟩) l.length cp) (l.set k x) := by
  subst hv
  refine ⟨some ⟨g, 0, none⟩, cp, by rw [List.length_set], ?_, fun y hy => ?_, by unfold maxLen; simp only [List.length_set]; omega⟩
  · refine Row.of_blk (n := l.length) (set_blk h k (byte x)) ?_ (by simp; omega)
    simp only [Array.toList_setIfInBounds, List.take_set, ht, List.map_set]
  · rcases List.mem_or_eq_of_mem_set hy with h | h
    · exact hl y h
    · rw [h]; exact hx

set_option maxHeartbeats 1000000 in
theorem tells_in (b o cap : Nat) (l : List Nat) (k x : Nat) (w : World) (hr : BRow.Ok w ⟨some ⟨b, o, none⟩, cap, l⟩) (hL : Laid w) (h1 : l.length ≤ 600) (hk : k < l.length) (hx : x < 256) :
    Calls Tryd.prog 7 #[.slice (some ⟨b, o, none⟩) l.length cap, .int .i64 k, .int .u8 x] w fun e w' => e = .returned (.bool true) ∧ Fr No w w' := by
  have HL := hid hL
  have HR := hid hr
  have HK := hid (Crc.tells l k x hr.2.1 hx hk)
  have hy : l[k] < 256 := hr.2.1 _ (List.getElem_mem hk)
  have hcell : b < w.heap.size ∧ w.cell? ⟨b, o + k, none⟩ = some (byte l[k]) := by
    obtain ⟨b1, o1, e, hb, hc⟩ := (show Row w (some ⟨b, o, none⟩) (l.map byte) from hr.1).at (i := k) (by simpa using hk)
    simp only [Option.some.injEq, Addr.mk.injEq, and_true] at e
    obtain ⟨rfl, rfl⟩ := e
    rw [getD_map byte l 0 k hk] at hc
    exact ⟨hb, by rw [hc]; simp [List.getD_eq_getElem?_getD, hk]⟩
  obtain ⟨hbl, hcell⟩ := hcell
  have HC := hid hcell
  generalize hyk : l[k] = y at *
  have info : (Tryd.prog.info? 5).map (fun i => (i.zero, i.size, i.bytes)) = some (some (.int .u8 0), 1, 1) := by kernel_rfl
  obtain ⟨i0, hi, hz0, hz1, hz2⟩ := info_parts info
  have hnews : ∀ j u, (l.map byte)[j]? = some u → w.cell? ((⟨b, o, none⟩ : Addr).add j) = some u := fun j u hu => by
    obtain ⟨b1, o1, e, hb, hc⟩ := (show Row w (some ⟨b, o, none⟩) (l.map byte) from HR.out.1)|>.at (i := j) (by
      rcases Nat.lt_or_ge j (l.map byte).length with h | h
      · exact h
      · rw [List.getElem?_eq_none h] at hu; cases hu)
    simp only [Option.some.injEq, Addr.mk.injEq, and_true] at e
    obtain ⟨rfl, rfl⟩ := e
    rw [List.getD_eq_getElem?_getD, hu] at hc
    rcases Nat.eq_zero_or_pos j with h0 | h0
    · subst h0; simpa [Addr.add] using hc
    · simpa [Addr.add, show j ≠ 0 from by omega] using hc
  have HN := hid hnews
  clear hL hr hcell hnews hyk
  go_enter Tryd.func7, Tryd.ntmps7
  go_wp2_with (at_builtin; refine wpList_append_own _ rfl _ _ 22 rfl w.heap.size 5 i0 (.int .u8 0) 1 1 Tryd.underlying22 hi hz0 hz1 hz2 rfl (by decide) (.slice none 0 0) 0 [] rfl (own_nil w _ _) ⟨b, o, none⟩ l.length cap (l.map byte) rfl (by simp) HN.out (fun u hu => by obtain ⟨z, _, rfl⟩ := List.mem_map.1 hu; rfl) (by unfold maxLen; omega) (by omega) (Nat.le_refl _) ?_; intro v' w1 hown hgrow hnone; clear hnone; have HF1 := hid ((Fr.refl No w).grown hgrow (fun k h => by cases h)); clear hgrow; rw [Nat.zero_add, List.nil_append] at hown; obtain ⟨g, cp, cur, hv, hg, hbk, hn1, hcm, hsz, htk⟩ := own_block hown (by omega); rw [hv]; clear hv hown; have HB := hid hbk; have HT := hid htk; have hck := old_cell hbk htk hsz hk hn1; have hfk := free_blk hbk k; clear hbk htk)
  have hb2 := set_blk HB.out k (byte x)
  have HF2 := hid (HF1.out.setCell (p := ⟨g, k, none⟩) (fun h => absurd h (show ¬ g < w.heap.size by omega)) (byte x))
  have HRW := hid (new_row HB.out HT.out hsz hk hn1 hx (fun y hy => HR.out.2.1 y hy) (by omega) (byte x) rfl)
  have HC2 := hid (show (w1.setCell ⟨g, k, none⟩ (byte x)).cell? ⟨b, o + k, none⟩ = some (byte y) from (HF2.out.cell (p := ⟨b, o + k, none⟩) hbl id).trans HC.out)
  have HZ := hid (size_set w1 ⟨g, k, none⟩ (byte x))
  clear hck hfk hb2
  generalize w1.setCell ⟨g, k, none⟩ (byte x) = w2 at *
  have HS1 : Hid (Crc.sumOf l = Crc.sumOf l) := hid rfl
  have HS2 : Hid (Crc.sumOf (l.set k x) = Crc.sumOf (l.set k x)) := hid rfl
  have hq : (((Crc.sumOf l : Nat) : Int) == ((Crc.sumOf (l.set k x) : Nat) : Int)) = ((y : Int) == (x : Int)) := by
    by_cases h : y = x
    · rw [HK.out.2 h, h]; simp
    · have h2 : Crc.sumOf l ≠ Crc.sumOf (l.set k x) := fun e => h (HK.out.1 e)
      rw [beq_eq_false_iff_ne.2 (by omega), beq_eq_false_iff_ne.2 (by omega)]
  have hs1 := Crc.sumOf_lt l HR.out.2.1
  replace HS1 : Hid (Crc.sumOf l = Crc.sumOf l) := HS1
  generalize hs1e : Crc.sumOf l = s1 at hq hs1
  generalize hs2e : Crc.sumOf (l.set k x) = s2 at hq
  replace HS1 : Hid (Crc.sumOf l = s1) := hid hs1e
  replace HS2 : Hid (Crc.sumOf (l.set k x) = s2) := hid hs2e
  clear hs1e hs2e HK HN hi hz0 hz1 hz2 info hg hn1 hcm hsz
  (with_reducible refine (sum1 s1 ?v0 l _ _ HS1 ?hL0 ?hb0 ?hr0).mono ?hm0)
  case hb0 => rw [← HZ.out]; exact heap_new _ _
  case hL0 => exact HL.out.no (HF2.out.alloc _)
  case hr0 => exact ((HR.out.no (HF2.out.alloc _))).is
  rintro e w3 ⟨rfl, hF⟩
  have HF23 := hid ((((Fr.refl No w2).alloc _)).trans hF)
  have HF3 := hid (HF2.out.trans HF23.out)
  clear hF
  have hC3 : w3.cell? ⟨b, o + k, none⟩ = some (byte y) := (HF3.out.cell (p := ⟨b, o + k, none⟩) hbl id).trans HC.out
  go_wp2_with fail
  go_region_held3 (fun w' => w'.cell? ⟨b, o + k, none⟩ = some (byte y))
    (first | go_keep | exact (HF3.out.cell (p := ⟨b, o + k, none⟩) hbl id).trans HC.out | exact (((HF3.out.alloc _).drew).cell (p := ⟨b, o + k, none⟩) hbl id).trans HC.out | exact (HF4.out.cell (p := ⟨b, o + k, none⟩) hbl id).trans HC.out | exact (HF5.out.cell (p := ⟨b, o + k, none⟩) hbl id).trans HC.out)
    (first
    | (go_at_call 11; (with_reducible refine (sum1 s2 ?v1 (l.set k x) _ _ HS2 ?hL1 ?hb1 ?hr1).mono ?hm1)
       case hb1 => exact heap_new _ _
       case hL1 => exact HL.out.no (((HF3.out).alloc _).drew)
       case hr1 => exact HRW.out.no (((HF23.out).alloc _).drew)
       rintro e w4 ⟨rfl, hF⟩; have HF4 := hid ((((HF3.out).alloc _).drew).trans hF); clear hF)
    | (go_at_call 9; refine (crc_awake _ (HL.out.no HF4.out).1 (HL.out.no HF4.out).2).mono ?_; rintro e w5 ⟨rfl, hF⟩; have HF5 := hid (HF4.out.trans hF); clear hF))
  all_goals go_wp2_with fail
  all_goals go_ret
  all_goals exact ⟨rfl, HF5.out⟩

set_option maxHeartbeats 1000000 in
theorem tells_out (a : Option Addr) (n cap : Nat) (k x : Int) (w : World) (hL : Laid w) (h : 600 < n ∨ (n ≤ 600 ∧ k < 0) ∨ (n ≤ 600 ∧ 0 ≤ k ∧ (n : Int) ≤ k)) :
    Calls Tryd.prog 7 #[.slice a n cap, .int .i64 k, .int .u8 x] w fun e w' => e = .returned (.bool true) ∧ Fr No w w' := by
  have HN := hid (crc_awake w hL.1 hL.2)
  clear hL
  rcases h with h | ⟨h1, h2⟩ | ⟨h1, h2, h3⟩
  all_goals
    go_enter Tryd.func7, Tryd.ntmps7
    go_wp2_with (go_at_call 9; refine HN.out.mono ?_; rintro e w5 ⟨rfl, hF5⟩)
    go_ret
    exact ⟨rfl, by assumption⟩

set_option linter.unusedVariables false in
theorem law_CrcTells (w : World) (r : BRow) (hr : r.Ok w ∧ r.Cap) (k : Int) (hk : (Lit.int .i64 k).wf = true) (x : Int) (hx : (Lit.int .u8 x).wf = true) (hL : Laid w) :
    Calls Tryd.prog 7 #[r.v, .int .i64 k, .int .u8 x] w fun e w' => e = .returned (.bool true) ∧ Fr No w w' := by
  obtain ⟨a, cap, l⟩ := r
  obtain ⟨hr, hc, ha⟩ := hr
  replace hc : l.length ≤ cap := hc
  replace ha : cap = 0 ∨ ∃ b o, a = some ⟨b, o, none⟩ := ha
  obtain ⟨x0, x1⟩ := bounds_u8 hx
  show Calls Tryd.prog 7 #[.slice a l.length cap, .int .i64 k, .int .u8 x] w fun e w' => e = .returned (.bool true) ∧ Fr No w w'
  by_cases h : 600 < l.length ∨ (l.length ≤ 600 ∧ k < 0) ∨ (l.length ≤ 600 ∧ 0 ≤ k ∧ (l.length : Int) ≤ k)
  · exact tells_out a l.length cap k x w hL h
  · obtain ⟨k, rfl⟩ := Int.eq_ofNat_of_zero_le (show 0 ≤ k by omega)
    obtain ⟨x, rfl⟩ := Int.eq_ofNat_of_zero_le x0
    rcases ha with rfl | ⟨b, o, rfl⟩
    · omega
    · exact tells_in b o cap l k x w hr hL (by omega) (by omega) (by omega)
end Go.Proofs.YtndljmkdgakfcaaDoor
