/- forms: the reference's bytes and sectors (out of FdRefP, FdRefB, for a seat that has no more of it). -/
import Derived.Test.YtpifiamafgaadaaDoorCrcRef
import Derived.Test.YtpifiamafgaadaaDoorFmF
import Derived.Test.YtpifiamafgaadaaDoorOwn
import Derived.Maps.AppendAt
import Derived.Laws.AppendOwnNone
namespace Go.Proofs.YtpifiamafgaadaaDoor
open Go.RowKit
theorem two_allocs (w : World) (o1 o2 : Obj) : ((w.alloc o1).alloc o2).heap[w.heap.size]? = some o1 ∧ ((w.alloc o1).alloc o2).heap[w.heap.size + 1]? = some o2 ∧ Fr No w ((w.alloc o1).alloc o2) := by
  refine ⟨?_, ?_, ((Fr.refl No w).alloc _).alloc _⟩
  · rw [Below.heap_alloc _ _ _ (by simp), heap_new]
  · rw [show w.heap.size + 1 = (w.alloc o1).heap.size from by simp, heap_new]
theorem eq_cast (s t : Nat) : ((s : Int) == (t : Int)) = (s == t) := by rw [Bool.eq_iff_iff]; simp; omega
theorem u8_info : (Tryd.prog.info? 5).map (fun i => (i.zero, i.size, i.bytes)) = some (some (.int .u8 0), 1, 1) := by kernel_rfl
theorem own_ge {w : World} {base n r : Nat} {e : TypeId} {v : Value} {xs : List Value} (h : w.ownsRow base e 1 v n xs) (hr : v.ownBlock = some r) : base ≤ r := by
  obtain ⟨_, ⟨hv, _⟩ | ⟨g, cap, cur, hv, hg, _⟩⟩ := h
  · rw [hv] at hr; simp [Value.ownBlock] at hr
  · rw [hv] at hr; simp [Value.ownBlock] at hr; omega
theorem IsB.own {w : World} {base : Nat} {e : TypeId} {v : Value} {l : List Nat} (h : w.ownsRow base e 1 v l.length (l.map byte)) (hlt : ∀ x ∈ l, x < 256) (hn : l.length ≤ maxLen) : IsB w v l := by
  rcases Nat.eq_zero_or_pos l.length with h0 | h0
  · obtain rfl : l = [] := List.eq_nil_of_length_eq_zero h0
    obtain ⟨_, ⟨hv, _⟩ | ⟨g, cap, cur, h1, _⟩⟩ := h
    · rw [hv]; exact IsB.none w _ _
    · rw [h1]; exact IsB.none w _ _
  · obtain ⟨g, cap, cur, rfl, _, hb, hc, _, hs, ht⟩ := own_block h h0
    exact ⟨_, cap, rfl, Row.of_blk hb ht (by omega), hlt, hn⟩
set_option maxRecDepth 100000 in
set_option maxHeartbeats 1000000 in
theorem rf_Bytes (n s : Nat) (hs : s ≤ 7) (hn : n ≤ 9223372036854775807) (w : World) : Calls Tryd.prog 37 #[.int .i64 n, .int .i64 s] w fun e w' => ∃ v, e = .returned (.tuple #[v, .bool (n / 256 ^ s == 0)]) ∧ IsB w' v (digs s n) ∧ Fr No w w' ∧ ∀ r, v.ownBlock = some r → w.heap.size ≤ r := by
  obtain ⟨i0, hi, hz0, hz1, hz2⟩ := info_parts u8_info
  go_enter Tryd.func37, Tryd.ntmps37
  go_wp2_with fail
  go_loopg [0, 6, 7] s (fun g m v i wr => ∃ (k : Nat) (vv : Value), k + g = s ∧ i = .int .i64 k ∧ m = .int .i64 ((n / 256 ^ k : Nat) : Int) ∧ vv = v ∧ Hid (wr.ownsRow w.heap.size 5 1 vv k ((digs k n).map byte)) ∧ Hid (Fr No w wr))
  case atStart => exact ⟨0, _, by omega, rfl, by simp, rfl, own_nil w _ _, Fr.refl No w⟩
  case round =>
    obtain ⟨k, v, hk, rfl, rfl, rfl, HO, HF⟩ := hrel
    obtain ⟨m, hm⟩ : ∃ m, n / 256 ^ k = m := ⟨_, rfl⟩
    have hmn : m ≤ 9223372036854775807 := by rw [← hm]; exact Nat.le_trans (Nat.div_le_self _ _) hn
    have HM : Hid (n / 256 ^ (k + 1) = m / 256) := by unfold Hid; rw [← hm, Nat.pow_succ, Nat.div_div_eq_div_mul]
    have HD : Hid ((digs k n).map byte ++ [byte (m % 256)] = (digs (k + 1) n).map byte) := by unfold Hid; rw [digs_snoc, hm]; simp
    have HM0 := hid hm
    rw [hm]
    clear hm
    cases gk with
    | zero =>
      obtain rfl : k = s := by omega
      go_wp2_with fail
      go_ret2
      refine ⟨v, ?_, IsB.own (by rw [digs_len]; exact HO.out) (digs_lt _ _) (by rw [digs_len]; unfold maxLen; omega), HF.out, fun r hr => own_ge HO.out hr⟩
      rw [HM0.out]
      show Ending.returned (.tuple #[v, .bool ((m : Int) == 0)]) = _
      rw [show ((m : Int) == 0) = (m == 0) from eq_cast m 0]
    | succ g =>
      have hsz := HF.out.size
      have HX : Hid ((digs k n).map byte ++ [Value.int .u8 ((m : Int) % 256)] = (digs (k + 1) n).map byte) := by
        unfold Hid; rw [show ((m : Int) % 256) = ((m % 256 : Nat) : Int) from by omega]; exact HD.out
      go_wp2_with (at_builtin; (refine wpList_append_own _ rfl (.tmp 15) (.tmp 19) 97 rfl w.heap.size 5 i0 (.int .u8 0) 1 1 Tryd.underlying97 hi hz0 hz1 hz2 rfl (by decide) v k _ rfl (HO.out.alloc _) ⟨wr.heap.size, 0, none⟩ 1 1 [.int .u8 ((m : Int) % 256)] rfl rfl (cell_one_new _ _ _) (by simp [Value.oneCell']) (by unfold maxLen; omega) (by omega) (by simp; omega) ?_); intro v' w1 hown' hgrow _)
      rw [HX.out] at hown'
      have HO' := hid hown'
      have HF' := hid ((HF.out.alloc (.cells #[.int .u8 ((m : Int) % 256)] 5)).grown hgrow (fun r hr hl => absurd hl (by have := own_ge HO.out hr; omega)))
      clear hown' hgrow
      go_roundg g
      case measure => omega
      case rel => exact ⟨k + 1, _, by omega, by go_num, by rw [HM.out]; simp, rfl, HO', HF'⟩
/-- bytes, nil if there are none -/
def WB (w : World) (v : Value) (l : List Nat) : Prop := (l = [] ∧ v = .slice none 0 0) ∨ (l ≠ [] ∧ IsB w v l)
theorem IsB.news {w : World} {v : Value} {l : List Nat} (h : IsB w v l) (h0 : l ≠ []) : ∃ b o cap, v = .slice (some ⟨b, o, Option.none⟩) l.length cap ∧ b < w.heap.size ∧ ∀ j u, (l.map byte)[j]? = some u → w.cell? ((⟨b, o, Option.none⟩ : Addr).add j) = some u := by
  obtain ⟨a, cap, rfl, hr, _⟩ := h
  rcases hr with hr | ⟨b, o, hab, hb, hc⟩
  · exact absurd (List.map_eq_nil_iff.1 hr) h0
  · have hab : a = some ⟨b, o, Option.none⟩ := hab
    subst hab
    refine ⟨b, o, cap, rfl, hb, fun j u hu => ?_⟩
    have hj : j < (l.map byte).length := (List.getElem?_eq_some_iff.1 hu).1
    rw [add_off]
    have := hc j hj
    rw [this, List.getD_eq_getElem?_getD, hu]; rfl
theorem byte_ones (l : List Nat) : ∀ u ∈ l.map byte, u.oneCell' = true := fun u hu => by obtain ⟨z, _, rfl⟩ := List.mem_map.1 hu; rfl
set_option maxRecDepth 100000 in
set_option maxHeartbeats 2000000 in
theorem rf_Block (w : World) (vb : Value) (l : List Nat) (hW : WB w vb l) (hlt : ∀ x ∈ l, x < 256) (hll : l.length ≤ 60) :
    Calls Tryd.prog 38 #[vb] w fun e w' => e = .returned (.agg (blkA (sealB (pad l)))) ∧ Fr No w w' := by
  have hv : ∃ a c, vb = .slice a l.length c ∧ Row w a (l.map byte) := by
    rcases hW with ⟨rfl, rfl⟩ | ⟨_, a, c, rfl, hr, _⟩
    · exact ⟨none, 0, rfl, .nil _ _⟩
    · exact ⟨a, c, rfl, hr⟩
  obtain ⟨a, c, rfl, hR⟩ := hv
  have HR := hid hR
  have HLT := hid hlt
  have HT := hid (two_allocs w (.cells (#[.int .u8 0, .int .u8 0, .int .u8 0, .int .u8 0, .int .u8 0, .int .u8 0, .int .u8 0, .int .u8 0, .int .u8 0, .int .u8 0, .int .u8 0, .int .u8 0, .int .u8 0, .int .u8 0, .int .u8 0, .int .u8 0, .int .u8 0, .int .u8 0, .int .u8 0, .int .u8 0, .int .u8 0, .int .u8 0, .int .u8 0, .int .u8 0, .int .u8 0, .int .u8 0, .int .u8 0, .int .u8 0, .int .u8 0, .int .u8 0, .int .u8 0, .int .u8 0, .int .u8 0, .int .u8 0, .int .u8 0, .int .u8 0, .int .u8 0, .int .u8 0, .int .u8 0, .int .u8 0, .int .u8 0, .int .u8 0, .int .u8 0, .int .u8 0, .int .u8 0, .int .u8 0, .int .u8 0, .int .u8 0, .int .u8 0, .int .u8 0, .int .u8 0, .int .u8 0, .int .u8 0, .int .u8 0, .int .u8 0, .int .u8 0, .int .u8 0, .int .u8 0, .int .u8 0, .int .u8 0, .int .u8 0, .int .u8 0, .int .u8 0, .int .u8 0] : Array Value) 27) (.cells (#[.int .u8 0, .int .u8 0, .int .u8 0, .int .u8 0, .int .u8 0, .int .u8 0, .int .u8 0, .int .u8 0, .int .u8 0, .int .u8 0, .int .u8 0, .int .u8 0, .int .u8 0, .int .u8 0, .int .u8 0, .int .u8 0, .int .u8 0, .int .u8 0, .int .u8 0, .int .u8 0, .int .u8 0, .int .u8 0, .int .u8 0, .int .u8 0, .int .u8 0, .int .u8 0, .int .u8 0, .int .u8 0, .int .u8 0, .int .u8 0, .int .u8 0, .int .u8 0, .int .u8 0, .int .u8 0, .int .u8 0, .int .u8 0, .int .u8 0, .int .u8 0, .int .u8 0, .int .u8 0, .int .u8 0, .int .u8 0, .int .u8 0, .int .u8 0, .int .u8 0, .int .u8 0, .int .u8 0, .int .u8 0, .int .u8 0, .int .u8 0, .int .u8 0, .int .u8 0, .int .u8 0, .int .u8 0, .int .u8 0, .int .u8 0, .int .u8 0, .int .u8 0, .int .u8 0, .int .u8 0, .int .u8 0, .int .u8 0, .int .u8 0, .int .u8 0] : Array Value) 27))
  clear hW hR hlt
  go_enter Tryd.func38, Tryd.ntmps38
  go_wp2_with fail
  have HQ2 := hid HT.out.1
  have HQ3 := hid HT.out.2.1
  have HF0 := hid HT.out.2.2
  obtain ⟨w0, hw0⟩ : ∃ w0, (w.alloc (.cells (#[.int .u8 0, .int .u8 0, .int .u8 0, .int .u8 0, .int .u8 0, .int .u8 0, .int .u8 0, .int .u8 0, .int .u8 0, .int .u8 0, .int .u8 0, .int .u8 0, .int .u8 0, .int .u8 0, .int .u8 0, .int .u8 0, .int .u8 0, .int .u8 0, .int .u8 0, .int .u8 0, .int .u8 0, .int .u8 0, .int .u8 0, .int .u8 0, .int .u8 0, .int .u8 0, .int .u8 0, .int .u8 0, .int .u8 0, .int .u8 0, .int .u8 0, .int .u8 0, .int .u8 0, .int .u8 0, .int .u8 0, .int .u8 0, .int .u8 0, .int .u8 0, .int .u8 0, .int .u8 0, .int .u8 0, .int .u8 0, .int .u8 0, .int .u8 0, .int .u8 0, .int .u8 0, .int .u8 0, .int .u8 0, .int .u8 0, .int .u8 0, .int .u8 0, .int .u8 0, .int .u8 0, .int .u8 0, .int .u8 0, .int .u8 0, .int .u8 0, .int .u8 0, .int .u8 0, .int .u8 0, .int .u8 0, .int .u8 0, .int .u8 0, .int .u8 0] : Array Value) 27)).alloc (.cells (#[.int .u8 0, .int .u8 0, .int .u8 0, .int .u8 0, .int .u8 0, .int .u8 0, .int .u8 0, .int .u8 0, .int .u8 0, .int .u8 0, .int .u8 0, .int .u8 0, .int .u8 0, .int .u8 0, .int .u8 0, .int .u8 0, .int .u8 0, .int .u8 0, .int .u8 0, .int .u8 0, .int .u8 0, .int .u8 0, .int .u8 0, .int .u8 0, .int .u8 0, .int .u8 0, .int .u8 0, .int .u8 0, .int .u8 0, .int .u8 0, .int .u8 0, .int .u8 0, .int .u8 0, .int .u8 0, .int .u8 0, .int .u8 0, .int .u8 0, .int .u8 0, .int .u8 0, .int .u8 0, .int .u8 0, .int .u8 0, .int .u8 0, .int .u8 0, .int .u8 0, .int .u8 0, .int .u8 0, .int .u8 0, .int .u8 0, .int .u8 0, .int .u8 0, .int .u8 0, .int .u8 0, .int .u8 0, .int .u8 0, .int .u8 0, .int .u8 0, .int .u8 0, .int .u8 0, .int .u8 0, .int .u8 0, .int .u8 0, .int .u8 0, .int .u8 0] : Array Value) 27) = w0 := ⟨_, rfl⟩
  rw [hw0] at HQ2 HQ3 HF0 ⊢
  clear hw0 HT
  obtain ⟨q, hq⟩ : ∃ q, w.heap.size = q := ⟨_, rfl⟩
  rw [hq] at HQ2 HQ3 ⊢
  rw [← z64_eq] at HQ3
  go_loopg [4] l.length (fun g i wr => ∃ k : Nat, k + g = l.length ∧ i = .int .i64 k ∧ Hid (wr.heap[q + 1]? = some (.cells (blkA (pad (l.take k))) 27 (0, 0))) ∧ Hid (wr.heap[q]? = some (.cells (#[.int .u8 0, .int .u8 0, .int .u8 0, .int .u8 0, .int .u8 0, .int .u8 0, .int .u8 0, .int .u8 0, .int .u8 0, .int .u8 0, .int .u8 0, .int .u8 0, .int .u8 0, .int .u8 0, .int .u8 0, .int .u8 0, .int .u8 0, .int .u8 0, .int .u8 0, .int .u8 0, .int .u8 0, .int .u8 0, .int .u8 0, .int .u8 0, .int .u8 0, .int .u8 0, .int .u8 0, .int .u8 0, .int .u8 0, .int .u8 0, .int .u8 0, .int .u8 0, .int .u8 0, .int .u8 0, .int .u8 0, .int .u8 0, .int .u8 0, .int .u8 0, .int .u8 0, .int .u8 0, .int .u8 0, .int .u8 0, .int .u8 0, .int .u8 0, .int .u8 0, .int .u8 0, .int .u8 0, .int .u8 0, .int .u8 0, .int .u8 0, .int .u8 0, .int .u8 0, .int .u8 0, .int .u8 0, .int .u8 0, .int .u8 0, .int .u8 0, .int .u8 0, .int .u8 0, .int .u8 0, .int .u8 0, .int .u8 0, .int .u8 0, .int .u8 0] : Array Value) 27 (0, 0))) ∧ Hid (Fr No w wr))
  case atStart => exact ⟨0, by omega, rfl, HQ3, HQ2, HF0⟩
  case round =>
    obtain ⟨k, hk, rfl, H3, H2, HF⟩ := hrel
    clear HQ2 HQ3 HF0
    cases gk with
    | succ g =>
      have hkl : k < l.length := by omega
      obtain ⟨b, o, rfl, hb, hc⟩ := (HR.out.no HF.out).at (i := k) (by simpa using hkl)
      rw [getD_map byte l 0 k hkl] at hc
      have hget : l.getD k 0 = l[k] := by simp [List.getD_eq_getElem?_getD, hkl]
      rw [hget] at hc
      have hlk : (l.take k).length = k := by rw [List.length_take]; omega
      have HS := hid (pad_set (l.take k) l[k] (by omega))
      rw [hlk, ← List.take_succ_eq_append_getElem hkl] at HS
      obtain ⟨x, hx⟩ : ∃ x, l[k] = x := ⟨_, rfl⟩
      rw [hx] at hc HS
      have hcv : ∃ v, wr.cell? ⟨q + 1, k, none⟩ = some v := by
        rw [cell_blk H3.out, Array.getElem?_eq_getElem (by rw [blkA_size, pad_len _ (by omega)]; omega)]; exact ⟨_, rfl⟩
      obtain ⟨v, hcv⟩ := hcv
      have hfv := free_blk H3.out k
      have hb3 := set_blk H3.out k (byte x)
      rw [blkA_set, HS.out] at hb3
      have H3' := hid hb3
      have H2' := hid ((heap_setCell_other wr ⟨q + 1, k, none⟩ q (byte x) (by show q ≠ q + 1; omega)).trans H2.out)
      have HF' := hid (HF.out.setCell (p := ⟨q + 1, k, none⟩) (fun h => absurd h (by show ¬ q + 1 < w.heap.size; omega)) (byte x))
      clear hx HS hget hlk hb3 H3 H2 HF
      go_wp2_with fail
      go_roundg g
      case measure => omega
      case rel => exact ⟨k + 1, by omega, by go_num, H3', H2', HF'⟩
    | zero =>
      obtain rfl : k = l.length := by omega
      rw [List.take_length] at H3
      have hpl := pad_len l (by omega)
      have hplt := pad_lt l HLT.out
      have hok : BRow.Ok wr ⟨some ⟨q + 1, 0, none⟩, 64, pad l⟩ := ⟨Row.of_blk (n := 64) H3.out (by rw [show (blkA (pad l)).toList = (pad l).map byte from by simp [blkA]]; exact List.take_of_length_le (by simp; omega)) (by rw [blkA_size]; omega), hplt, by show (pad l).length ≤ maxLen; unfold maxLen; omega⟩
      obtain ⟨a1, c1, e1, hok1⟩ := IsB.take hok 60 (by omega) 64
      have HSum := rsum_any ⟨a1, c1, (pad l).take 60⟩ wr hok1
      rw [← show (Value.slice (some ⟨q + 1, 0, none⟩) 60 64) = BRow.v ⟨a1, c1, (pad l).take 60⟩ from e1] at HSum
      have HSum := hid HSum
      have hS := Crc.sumOf_lt ((pad l).take 60) (fun x hx => hplt x (List.mem_of_mem_take hx))
      have HSB : Hid (sealB (pad l) = (pad l).take 60 ++ digs 4 (Crc.sumOf ((pad l).take 60))) := rfl
      replace HSum : Hid (Calls Tryd.prog 55 #[.slice (some ⟨q + 1, 0, none⟩) 60 64] wr fun e w' => e = .returned (.int .i64 ((Crc.sumOf ((pad l).take 60) : Nat) : Int)) ∧ w' = wr) := HSum
      have HSQ := hid hpl
      obtain ⟨P, hP⟩ : ∃ P, pad l = P := ⟨_, rfl⟩
      obtain ⟨S, hSS⟩ : ∃ S, Crc.sumOf ((pad l).take 60) = S := ⟨_, rfl⟩
      have HGO := hid hP
      rw [hSS] at HSum hS HSB
      rw [hP] at HSB H3 HSQ
      clear e1 hok hok1 hplt hpl hP hSS
      go_wp2_with fail
      refine HSum.out.mono ?_; rintro e w1 ⟨rfl, rfl⟩
      go_wp2_with fail
      refine (rf_Bytes S 4 (by omega) (by omega) _).mono ?_; rintro e w2 ⟨vx, rfl, hX, hF2, hge⟩
      obtain ⟨b2, o2, c2, rfl, hb2, _⟩ := hX.news (by intro e; have := digs_len 4 S; rw [e] at this; cases this)
      have hb2q : q + 1 < b2 := Nat.lt_of_lt_of_le (lt_of_block H3.out) (hge b2 rfl)
      obtain ⟨ax, cx, hvx, hrx, _⟩ := hX
      injection hvx with hvx _ _
      have HRX : Hid (Row w2 (some ⟨b2, o2, none⟩) ((digs 4 S).map byte)) := by rw [hvx]; exact hrx
      rw [digs_len]
      have HF2 := hid (HF.out.trans hF2)
      have H32 := hid ((hF2.block (q + 1) (lt_of_block H3.out) id).trans H3.out)
      have H22 := hid ((hF2.block q (lt_of_block H2.out) id).trans H2.out)
      have HD4 := hid (digs_lt 4 S)
      have HD4l := hid (digs_len 4 S)
      obtain ⟨D, hD⟩ : ∃ D, digs 4 S = D := ⟨_, rfl⟩
      rw [hD] at HRX HD4 HD4l HSB
      clear hD hF2 hvx hrx HF H3 H2 hge
      have H32' : Hid (w2.heap[q + 1]? = some (.cells (blkA (P.take 60 ++ D.take 0 ++ P.drop (60 + 0))) 27 (0, 0))) := by
        unfold Hid; rw [H32.out]; simp
      go_wp2_with fail
      go_loopg [7] 4 (fun g i wr => ∃ k : Nat, k + g = 4 ∧ i = .int .i64 k ∧ Hid (wr.heap[q + 1]? = some (.cells (blkA (P.take 60 ++ D.take k ++ P.drop (60 + k))) 27 (0, 0))) ∧ Hid (wr.heap[q]? = some (.cells (#[.int .u8 0, .int .u8 0, .int .u8 0, .int .u8 0, .int .u8 0, .int .u8 0, .int .u8 0, .int .u8 0, .int .u8 0, .int .u8 0, .int .u8 0, .int .u8 0, .int .u8 0, .int .u8 0, .int .u8 0, .int .u8 0, .int .u8 0, .int .u8 0, .int .u8 0, .int .u8 0, .int .u8 0, .int .u8 0, .int .u8 0, .int .u8 0, .int .u8 0, .int .u8 0, .int .u8 0, .int .u8 0, .int .u8 0, .int .u8 0, .int .u8 0, .int .u8 0, .int .u8 0, .int .u8 0, .int .u8 0, .int .u8 0, .int .u8 0, .int .u8 0, .int .u8 0, .int .u8 0, .int .u8 0, .int .u8 0, .int .u8 0, .int .u8 0, .int .u8 0, .int .u8 0, .int .u8 0, .int .u8 0, .int .u8 0, .int .u8 0, .int .u8 0, .int .u8 0, .int .u8 0, .int .u8 0, .int .u8 0, .int .u8 0, .int .u8 0, .int .u8 0, .int .u8 0, .int .u8 0, .int .u8 0, .int .u8 0, .int .u8 0, .int .u8 0] : Array Value) 27 (0, 0))) ∧ Hid (Fr (fun k => k = q + 1) w2 wr) ∧ Hid (Fr No w wr))
      case atStart => exact ⟨0, by omega, rfl, H32', H22, Fr.refl _ w2, HF2⟩
      case round =>
        obtain ⟨k, hk, rfl, H3, H2, HG, HF⟩ := hrel
        clear H32 H22 HF2 H32'
        cases gk with
        | succ g =>
          have hkl : k < D.length := by rw [HD4l.out]; omega
          obtain ⟨b, o, hbe, hb, hc⟩ := (HRX.out.fr HG.out (fun b o e => by injection e with e; injection e with e _ _; omega)).at (i := k) (by simpa using hkl)
          injection hbe with hbe; injection hbe with hb1 ho1 _
          subst hb1; subst ho1
          rw [getD_map byte D 0 k hkl] at hc
          have hget : D.getD k 0 = D[k] := by simp [List.getD_eq_getElem?_getD, hkl]
          rw [hget] at hc
          have HS := hid (mid_set (P.take 60) (D.take k) P (60 + k) D[k] (by rw [List.length_take, List.length_take, HSQ.out, HD4l.out]; omega) (by rw [HSQ.out]; omega))
          rw [← List.take_succ_eq_append_getElem hkl] at HS
          obtain ⟨x, hx⟩ : ∃ x, D[k] = x := ⟨_, rfl⟩
          rw [hx] at hc HS
          have hcv : ∃ v, wr.cell? ⟨q + 1, 60 + k, none⟩ = some v := by
            rw [cell_blk H3.out, Array.getElem?_eq_getElem (by rw [blkA_size]; simp [HSQ.out, HD4l.out]; omega)]; exact ⟨_, rfl⟩
          obtain ⟨v, hcv⟩ := hcv
          have hfv := free_blk H3.out (60 + k)
          have hb3 := set_blk H3.out (60 + k) (byte x)
          rw [blkA_set, HS.out] at hb3
          have H3' := hid hb3
          have H2' := hid ((heap_setCell_other wr ⟨q + 1, 60 + k, none⟩ q (byte x) (by show q ≠ q + 1; omega)).trans H2.out)
          have HF' := hid (HF.out.setCell (p := ⟨q + 1, 60 + k, none⟩) (fun h => absurd h (by show ¬ q + 1 < w.heap.size; omega)) (byte x))
          have HG' := hid (HG.out.setCell (p := ⟨q + 1, 60 + k, none⟩) (fun _ => rfl) (byte x))
          clear hx HS hget hb3 H3 H2 HF HG
          go_wp2_with fail
          go_roundg g
          case measure => omega
          case rel => exact ⟨k + 1, by omega, by go_num, H3', H2', HG', HF'⟩
        | zero =>
          obtain rfl : k = 4 := by omega
          have hq1 := H3.out
          rw [List.drop_eq_nil_of_le (by rw [HSQ.out]; omega), List.append_nil, show D.take 4 = D from List.take_of_length_le (by rw [HD4l.out]; omega), ← HSB.out] at hq1
          have hsz := (blkA_size (sealB P)).trans (sealB_len P HSQ.out)
          have H1 := hid (blkA_one (sealB P))
          have HI := hid (info64b (sealB P) (sealB_len P HSQ.out))
          have HQ1 := hid hq1
          have HZ2 : Hid (((#[.int .u8 0, .int .u8 0, .int .u8 0, .int .u8 0, .int .u8 0, .int .u8 0, .int .u8 0, .int .u8 0, .int .u8 0, .int .u8 0, .int .u8 0, .int .u8 0, .int .u8 0, .int .u8 0, .int .u8 0, .int .u8 0, .int .u8 0, .int .u8 0, .int .u8 0, .int .u8 0, .int .u8 0, .int .u8 0, .int .u8 0, .int .u8 0, .int .u8 0, .int .u8 0, .int .u8 0, .int .u8 0, .int .u8 0, .int .u8 0, .int .u8 0, .int .u8 0, .int .u8 0, .int .u8 0, .int .u8 0, .int .u8 0, .int .u8 0, .int .u8 0, .int .u8 0, .int .u8 0, .int .u8 0, .int .u8 0, .int .u8 0, .int .u8 0, .int .u8 0, .int .u8 0, .int .u8 0, .int .u8 0, .int .u8 0, .int .u8 0, .int .u8 0, .int .u8 0, .int .u8 0, .int .u8 0, .int .u8 0, .int .u8 0, .int .u8 0, .int .u8 0, .int .u8 0, .int .u8 0, .int .u8 0, .int .u8 0, .int .u8 0, .int .u8 0] : Array Value)).size = (blkA (sealB P)).size) := hsz.symm
          have HST := hid (setRow_heap wr q (#[.int .u8 0, .int .u8 0, .int .u8 0, .int .u8 0, .int .u8 0, .int .u8 0, .int .u8 0, .int .u8 0, .int .u8 0, .int .u8 0, .int .u8 0, .int .u8 0, .int .u8 0, .int .u8 0, .int .u8 0, .int .u8 0, .int .u8 0, .int .u8 0, .int .u8 0, .int .u8 0, .int .u8 0, .int .u8 0, .int .u8 0, .int .u8 0, .int .u8 0, .int .u8 0, .int .u8 0, .int .u8 0, .int .u8 0, .int .u8 0, .int .u8 0, .int .u8 0, .int .u8 0, .int .u8 0, .int .u8 0, .int .u8 0, .int .u8 0, .int .u8 0, .int .u8 0, .int .u8 0, .int .u8 0, .int .u8 0, .int .u8 0, .int .u8 0, .int .u8 0, .int .u8 0, .int .u8 0, .int .u8 0, .int .u8 0, .int .u8 0, .int .u8 0, .int .u8 0, .int .u8 0, .int .u8 0, .int .u8 0, .int .u8 0, .int .u8 0, .int .u8 0, .int .u8 0, .int .u8 0, .int .u8 0, .int .u8 0, .int .u8 0, .int .u8 0] : Array Value) (blkA (sealB P)) 27 (0, 0) H2.out)
          have HSF := hid (HF.out.setRow q (blkA (sealB P)) (fun h => by omega))
          clear hq1 hsz HG HF H3
          go_wp2_with (first
            | (refine wpList_load_row rfl 27 _ rfl (q + 1) rfl 27 (blkA (sealB P)) (0, 0) _ HQ1.out Tryd.underlying27 rfl HI.out ?_)
            | (refine wpList_store_row rfl 27 _ _ rfl q (blkA (sealB P)) rfl rfl 27 _ H2.out HI.out HZ2.out H1.out ?_))
          refine bodyPost_ret (v := .agg (blkA (sealB P))) (results_cell_row rfl _ _ q 27 (blkA (sealB P)) (0, 0) _ rfl HST.out Tryd.underlying27 rfl HI.out) rfl ⟨by rw [HGO.out], HSF.out⟩
end Go.Proofs.YtpifiamafgaadaaDoor
