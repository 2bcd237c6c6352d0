/- lavaboref04: Put as a function, Block. -/
import Derived.Test.YtopheimplclfcaaDoorFdRefP
namespace Go.Proofs.YtopheimplclfcaaDoor
open Go.RowKit

theorem rf_Bytes_neg (n s : Int) (hn : n < 0) (w : World) : Calls Tryd.prog 43 #[.int .i64 n, .int .i64 s] w fun e w' => e = .returned (.tuple #[.slice none 0 0, .bool false]) ∧ w' = w := by
  go_enter Tryd.func43, Tryd.ntmps43
  go_wp2_with fail
  go_ret2
  exact ⟨rfl, rfl⟩
set_option maxHeartbeats 1000000 in
theorem rf_Put (w : World) (lo : Nat) (hlo : lo ≤ w.heap.size) (vb : Value) (l : List Nat) (hW : WBn lo w vb l) (hlt : ∀ x ∈ l, x < 256) (hll : l.length ≤ 60) (n s : Int) (hn : n ≤ 9223372036854775807) :
    Calls Tryd.prog 17 #[vb, .int .i64 n, .int .i64 s] w fun e w' => ∃ v, e = .returned (.tuple #[v, .int .i64 (((putF l 0 n s).2 : Nat) : Int)]) ∧ WBn lo w' v (putF l 0 n s).1 ∧ Fr No w w' := by
  have HW := hid hW
  unfold putF
  rw [if_neg (by simp)]
  by_cases hs : s < 1 ∨ 7 < s
  · rw [if_pos hs]
    clear hW
    rcases hs with hs | hs
    all_goals
      go_enter Tryd.func17, Tryd.ntmps17
      go_wp2_with fail
      go_ret2
      exact ⟨vb, rfl, HW.out, Fr.refl No w⟩
  rw [if_neg hs]
  obtain ⟨s, rfl⟩ := Int.eq_ofNat_of_zero_le (show 0 ≤ s by omega)
  rw [Int.toNat_natCast]
  have hs1 : 1 ≤ s := by omega
  have hs7 : s ≤ 7 := by omega
  clear hs
  by_cases hn0 : n < 0
  · rw [if_pos (.inl hn0)]
    clear hW
    go_enter Tryd.func17, Tryd.ntmps17
    go_wp2_with (refine (rf_Bytes_neg n s hn0 w).mono ?_; rintro e w1 ⟨rfl, rfl⟩)
    go_ret2
    exact ⟨vb, rfl, HW.out, Fr.refl No _⟩
  obtain ⟨n, rfl⟩ := Int.eq_ofNat_of_zero_le (show 0 ≤ n by omega)
  by_cases hf : n / 256 ^ s = 0
  · have hfn : n < 256 ^ s := by
      rcases Nat.div_eq_zero_iff.1 hf with h | h
      · exact absurd h (Nat.ne_of_gt (Nat.pow_pos (by omega)))
      · exact h
    rw [if_neg (by rw [(fits_iff n s).2 hfn]; simp)]
    by_cases hl : 60 < l.length + s
    · rw [if_pos hl]
      have HBy := hid (rf_Bytes n s hs7 (by omega) w)
      rw [hf] at HBy
      have hlv : ∃ b o c, vb = .slice b l.length c ∧ o = (0 : Nat) := by
        rcases hW.1 with ⟨rfl, rfl⟩ | ⟨_, a, c, rfl, _⟩
        · exact ⟨none, 0, 0, rfl, rfl⟩
        · exact ⟨a, 0, c, rfl, rfl⟩
      obtain ⟨ab, _, cb, rfl, _⟩ := hlv
      clear hW hf hfn hn0
      go_enter Tryd.func17, Tryd.ntmps17
      go_wp2_with (refine HBy.out.mono ?_; rintro e w1 ⟨vx, rfl, hX, hF1, _⟩)
      go_ret2
      exact ⟨_, rfl, ⟨HW.out.1.no hF1, HW.out.2⟩, hF1⟩
    · rw [if_neg hl, Int.toNat_natCast]
      exact rf_Put_ok w lo hlo vb l hW hlt n s hs1 hs7 (by omega) hf (by omega)
  · have hfn : ¬ n < 256 ^ s := fun h => hf (Nat.div_eq_of_lt h)
    have hb : ((n : Int) / 2 ^ (8 * s) != 0) = true := by
      cases hb : ((n : Int) / 2 ^ (8 * s) != 0)
      · exact absurd ((fits_iff n s).1 hb) hfn
      · rfl
    rw [if_pos (.inr hb)]
    have HBy := hid (rf_Bytes n s hs7 (by omega) w)
    rw [show (n / 256 ^ s == 0) = false from by simpa using hf] at HBy
    clear hW hf hfn hn0 hb
    go_enter Tryd.func17, Tryd.ntmps17
    go_wp2_with (refine HBy.out.mono ?_; rintro e w1 ⟨vx, rfl, hX, hF1, _⟩)
    go_ret2
    exact ⟨vb, rfl, ⟨HW.out.1.no hF1, HW.out.2⟩, hF1⟩

set_option maxRecDepth 100000 in
set_option maxHeartbeats 2000000 in
theorem rf_Block (w : World) (vb : Value) (l : List Nat) (hW : WB w vb l) (hlt : ∀ x ∈ l, x < 256) (hll : l.length ≤ 60) :
    Calls Tryd.prog 19 #[vb] w fun e w' => e = .returned (.agg (blkA (sealB (pad l)))) ∧ Fr No w w' := by
  have hv : ∃ a c, vb = .slice a l.length c ∧ Row w a (l.map byte) := by
    rcases hW with ⟨rfl, rfl⟩ | ⟨_, a, c, rfl, hr, _⟩
    · exact ⟨none, 0, rfl, .nil _ _⟩
    · exact ⟨a, c, rfl, hr⟩
  obtain ⟨a, c, rfl, hR⟩ := hv
  have HR := hid hR
  have HLT := hid hlt
  have HT := hid (two_allocs w (.cells (#[.int .u8 0, .int .u8 0, .int .u8 0, .int .u8 0, .int .u8 0, .int .u8 0, .int .u8 0, .int .u8 0, .int .u8 0, .int .u8 0, .int .u8 0, .int .u8 0, .int .u8 0, .int .u8 0, .int .u8 0, .int .u8 0, .int .u8 0, .int .u8 0, .int .u8 0, .int .u8 0, .int .u8 0, .int .u8 0, .int .u8 0, .int .u8 0, .int .u8 0, .int .u8 0, .int .u8 0, .int .u8 0, .int .u8 0, .int .u8 0, .int .u8 0, .int .u8 0, .int .u8 0, .int .u8 0, .int .u8 0, .int .u8 0, .int .u8 0, .int .u8 0, .int .u8 0, .int .u8 0, .int .u8 0, .int .u8 0, .int .u8 0, .int .u8 0, .int .u8 0, .int .u8 0, .int .u8 0, .int .u8 0, .int .u8 0, .int .u8 0, .int .u8 0, .int .u8 0, .int .u8 0, .int .u8 0, .int .u8 0, .int .u8 0, .int .u8 0, .int .u8 0, .int .u8 0, .int .u8 0, .int .u8 0, .int .u8 0, .int .u8 0, .int .u8 0] : Array Value) 33) (.cells (#[.int .u8 0, .int .u8 0, .int .u8 0, .int .u8 0, .int .u8 0, .int .u8 0, .int .u8 0, .int .u8 0, .int .u8 0, .int .u8 0, .int .u8 0, .int .u8 0, .int .u8 0, .int .u8 0, .int .u8 0, .int .u8 0, .int .u8 0, .int .u8 0, .int .u8 0, .int .u8 0, .int .u8 0, .int .u8 0, .int .u8 0, .int .u8 0, .int .u8 0, .int .u8 0, .int .u8 0, .int .u8 0, .int .u8 0, .int .u8 0, .int .u8 0, .int .u8 0, .int .u8 0, .int .u8 0, .int .u8 0, .int .u8 0, .int .u8 0, .int .u8 0, .int .u8 0, .int .u8 0, .int .u8 0, .int .u8 0, .int .u8 0, .int .u8 0, .int .u8 0, .int .u8 0, .int .u8 0, .int .u8 0, .int .u8 0, .int .u8 0, .int .u8 0, .int .u8 0, .int .u8 0, .int .u8 0, .int .u8 0, .int .u8 0, .int .u8 0, .int .u8 0, .int .u8 0, .int .u8 0, .int .u8 0, .int .u8 0, .int .u8 0, .int .u8 0] : Array Value) 33))
  clear hW hR hlt
  go_enter Tryd.func19, Tryd.ntmps19
  go_wp2_with fail
  have HQ2 := hid HT.out.1
  have HQ3 := hid HT.out.2.1
  have HF0 := hid HT.out.2.2
  obtain ⟨w0, hw0⟩ : ∃ w0, (w.alloc (.cells (#[.int .u8 0, .int .u8 0, .int .u8 0, .int .u8 0, .int .u8 0, .int .u8 0, .int .u8 0, .int .u8 0, .int .u8 0, .int .u8 0, .int .u8 0, .int .u8 0, .int .u8 0, .int .u8 0, .int .u8 0, .int .u8 0, .int .u8 0, .int .u8 0, .int .u8 0, .int .u8 0, .int .u8 0, .int .u8 0, .int .u8 0, .int .u8 0, .int .u8 0, .int .u8 0, .int .u8 0, .int .u8 0, .int .u8 0, .int .u8 0, .int .u8 0, .int .u8 0, .int .u8 0, .int .u8 0, .int .u8 0, .int .u8 0, .int .u8 0, .int .u8 0, .int .u8 0, .int .u8 0, .int .u8 0, .int .u8 0, .int .u8 0, .int .u8 0, .int .u8 0, .int .u8 0, .int .u8 0, .int .u8 0, .int .u8 0, .int .u8 0, .int .u8 0, .int .u8 0, .int .u8 0, .int .u8 0, .int .u8 0, .int .u8 0, .int .u8 0, .int .u8 0, .int .u8 0, .int .u8 0, .int .u8 0, .int .u8 0, .int .u8 0, .int .u8 0] : Array Value) 33)).alloc (.cells (#[.int .u8 0, .int .u8 0, .int .u8 0, .int .u8 0, .int .u8 0, .int .u8 0, .int .u8 0, .int .u8 0, .int .u8 0, .int .u8 0, .int .u8 0, .int .u8 0, .int .u8 0, .int .u8 0, .int .u8 0, .int .u8 0, .int .u8 0, .int .u8 0, .int .u8 0, .int .u8 0, .int .u8 0, .int .u8 0, .int .u8 0, .int .u8 0, .int .u8 0, .int .u8 0, .int .u8 0, .int .u8 0, .int .u8 0, .int .u8 0, .int .u8 0, .int .u8 0, .int .u8 0, .int .u8 0, .int .u8 0, .int .u8 0, .int .u8 0, .int .u8 0, .int .u8 0, .int .u8 0, .int .u8 0, .int .u8 0, .int .u8 0, .int .u8 0, .int .u8 0, .int .u8 0, .int .u8 0, .int .u8 0, .int .u8 0, .int .u8 0, .int .u8 0, .int .u8 0, .int .u8 0, .int .u8 0, .int .u8 0, .int .u8 0, .int .u8 0, .int .u8 0, .int .u8 0, .int .u8 0, .int .u8 0, .int .u8 0, .int .u8 0, .int .u8 0] : Array Value) 33) = w0 := ⟨_, rfl⟩
  rw [hw0] at HQ2 HQ3 HF0 ⊢
  clear hw0 HT
  obtain ⟨q, hq⟩ : ∃ q, w.heap.size = q := ⟨_, rfl⟩
  rw [hq] at HQ2 HQ3 ⊢
  rw [← z64_eq] at HQ3
  go_loopg [4] l.length (fun g i wr => ∃ k : Nat, k + g = l.length ∧ i = .int .i64 k ∧ Hid (wr.heap[q + 1]? = some (.cells (blkA (pad (l.take k))) 33 (0, 0))) ∧ Hid (wr.heap[q]? = some (.cells (#[.int .u8 0, .int .u8 0, .int .u8 0, .int .u8 0, .int .u8 0, .int .u8 0, .int .u8 0, .int .u8 0, .int .u8 0, .int .u8 0, .int .u8 0, .int .u8 0, .int .u8 0, .int .u8 0, .int .u8 0, .int .u8 0, .int .u8 0, .int .u8 0, .int .u8 0, .int .u8 0, .int .u8 0, .int .u8 0, .int .u8 0, .int .u8 0, .int .u8 0, .int .u8 0, .int .u8 0, .int .u8 0, .int .u8 0, .int .u8 0, .int .u8 0, .int .u8 0, .int .u8 0, .int .u8 0, .int .u8 0, .int .u8 0, .int .u8 0, .int .u8 0, .int .u8 0, .int .u8 0, .int .u8 0, .int .u8 0, .int .u8 0, .int .u8 0, .int .u8 0, .int .u8 0, .int .u8 0, .int .u8 0, .int .u8 0, .int .u8 0, .int .u8 0, .int .u8 0, .int .u8 0, .int .u8 0, .int .u8 0, .int .u8 0, .int .u8 0, .int .u8 0, .int .u8 0, .int .u8 0, .int .u8 0, .int .u8 0, .int .u8 0, .int .u8 0] : Array Value) 33 (0, 0))) ∧ Hid (Fr No w wr))
  case atStart => exact ⟨0, by omega, rfl, HQ3, HQ2, HF0⟩
  case round =>
    obtain ⟨k, hk, rfl, H3, H2, HF⟩ := hrel
    clear HQ2 HQ3 HF0
    cases gk with
    | succ g =>
      have hkl : k < l.length := by omega
      obtain ⟨b, o, rfl, hb, hc⟩ := (HR.out.no HF.out).at (i := k) (by simpa using hkl)
      rw [getD_map byte l 0 k hkl] at hc
      have hget : l.getD k 0 = l[k] := by simp [List.getD_eq_getElem?_getD, hkl]
      rw [hget] at hc
      have hlk : (l.take k).length = k := by rw [List.length_take]; omega
      have HS := hid (pad_set (l.take k) l[k] (by omega))
      rw [hlk, ← List.take_succ_eq_append_getElem hkl] at HS
      obtain ⟨x, hx⟩ : ∃ x, l[k] = x := ⟨_, rfl⟩
      rw [hx] at hc HS
      have hcv : ∃ v, wr.cell? ⟨q + 1, k, none⟩ = some v := by
        rw [cell_blk H3.out, Array.getElem?_eq_getElem (by rw [blkA_size, pad_len _ (by omega)]; omega)]; exact ⟨_, rfl⟩
      obtain ⟨v, hcv⟩ := hcv
      have hfv := free_blk H3.out k
      have hb3 := set_blk H3.out k (byte x)
      rw [blkA_set, HS.out] at hb3
      have H3' := hid hb3
      have H2' := hid ((heap_setCell_other wr ⟨q + 1, k, none⟩ q (byte x) (by show q ≠ q + 1; omega)).trans H2.out)
      have HF' := hid (HF.out.setCell (p := ⟨q + 1, k, none⟩) (fun h => absurd h (by show ¬ q + 1 < w.heap.size; omega)) (byte x))
      clear hx HS hget hlk hb3 H3 H2 HF
      go_wp2_with fail
      go_roundg g
      case measure => omega
      case rel => exact ⟨k + 1, by omega, by go_num, H3', H2', HF'⟩
    | zero =>
      obtain rfl : k = l.length := by omega
      rw [List.take_length] at H3
      have hpl := pad_len l (by omega)
      have hplt := pad_lt l HLT.out
      have hok : BRow.Ok wr ⟨some ⟨q + 1, 0, none⟩, 64, pad l⟩ := ⟨Row.of_blk (n := 64) H3.out (by rw [show (blkA (pad l)).toList = (pad l).map byte from by simp [blkA]]; exact List.take_of_length_le (by simp; omega)) (by rw [blkA_size]; omega), hplt, by show (pad l).length ≤ maxLen; unfold maxLen; omega⟩
      obtain ⟨a1, c1, e1, hok1⟩ := IsB.take hok 60 (by omega) 64
      have HSum := rsum_any ⟨a1, c1, (pad l).take 60⟩ wr hok1
      rw [← show (Value.slice (some ⟨q + 1, 0, none⟩) 60 64) = BRow.v ⟨a1, c1, (pad l).take 60⟩ from e1] at HSum
      have HSum := hid HSum
      have hS := Crc.sumOf_lt ((pad l).take 60) (fun x hx => hplt x (List.mem_of_mem_take hx))
      have HSB : Hid (sealB (pad l) = (pad l).take 60 ++ digs 4 (Crc.sumOf ((pad l).take 60))) := rfl
      replace HSum : Hid (Calls Tryd.prog 45 #[.slice (some ⟨q + 1, 0, none⟩) 60 64] wr fun e w' => e = .returned (.int .i64 ((Crc.sumOf ((pad l).take 60) : Nat) : Int)) ∧ w' = wr) := HSum
      have HSQ := hid hpl
      obtain ⟨P, hP⟩ : ∃ P, pad l = P := ⟨_, rfl⟩
      obtain ⟨S, hSS⟩ : ∃ S, Crc.sumOf ((pad l).take 60) = S := ⟨_, rfl⟩
      have HGO := hid hP
      rw [hSS] at HSum hS HSB
      rw [hP] at HSB H3 HSQ
      clear e1 hok hok1 hplt hpl hP hSS
      go_wp2_with fail
      refine HSum.out.mono ?_; rintro e w1 ⟨rfl, rfl⟩
      go_wp2_with fail
      refine (rf_Bytes S 4 (by omega) (by omega) _).mono ?_; rintro e w2 ⟨vx, rfl, hX, hF2, hge⟩
      obtain ⟨b2, o2, c2, rfl, hb2, _⟩ := hX.news (by intro e; have := digs_len 4 S; rw [e] at this; cases this)
      have hb2q : q + 1 < b2 := Nat.lt_of_lt_of_le (lt_of_block H3.out) (hge b2 rfl)
      obtain ⟨ax, cx, hvx, hrx, _⟩ := hX
      injection hvx with hvx _ _
      have HRX : Hid (Row w2 (some ⟨b2, o2, none⟩) ((digs 4 S).map byte)) := by rw [hvx]; exact hrx
      rw [digs_len]
      have HF2 := hid (HF.out.trans hF2)
      have H32 := hid ((hF2.block (q + 1) (lt_of_block H3.out) id).trans H3.out)
      have H22 := hid ((hF2.block q (lt_of_block H2.out) id).trans H2.out)
      have HD4 := hid (digs_lt 4 S)
      have HD4l := hid (digs_len 4 S)
      obtain ⟨D, hD⟩ : ∃ D, digs 4 S = D := ⟨_, rfl⟩
      rw [hD] at HRX HD4 HD4l HSB
      clear hD hF2 hvx hrx HF H3 H2 hge
      have H32' : Hid (w2.heap[q + 1]? = some (.cells (blkA (P.take 60 ++ D.take 0 ++ P.drop (60 + 0))) 33 (0, 0))) := by
        unfold Hid; rw [H32.out]; simp
      go_wp2_with fail
      go_loopg [7] 4 (fun g i wr => ∃ k : Nat, k + g = 4 ∧ i = .int .i64 k ∧ Hid (wr.heap[q + 1]? = some (.cells (blkA (P.take 60 ++ D.take k ++ P.drop (60 + k))) 33 (0, 0))) ∧ Hid (wr.heap[q]? = some (.cells (#[.int .u8 0, .int .u8 0, .int .u8 0, .int .u8 0, .int .u8 0, .int .u8 0, .int .u8 0, .int .u8 0, .int .u8 0, .int .u8 0, .int .u8 0, .int .u8 0, .int .u8 0, .int .u8 0, .int .u8 0, .int .u8 0, .int .u8 0, .int .u8 0, .int .u8 0, .int .u8 0, .int .u8 0, .int .u8 0, .int .u8 0, .int .u8 0, .int .u8 0, .int .u8 0, .int .u8 0, .int .u8 0, .int .u8 0, .int .u8 0, .int .u8 0, .int .u8 0, .int .u8 0, .int .u8 0, .int .u8 0, .int .u8 0, .int .u8 0, .int .u8 0, .int .u8 0, .int .u8 0, .int .u8 0, .int .u8 0, .int .u8 0, .int .u8 0, .int .u8 0, .int .u8 0, .int .u8 0, .int .u8 0, .int .u8 0, .int .u8 0, .int .u8 0, .int .u8 0, .int .u8 0, .int .u8 0, .int .u8 0, .int .u8 0, .int .u8 0, .int .u8 0, .int .u8 0, .int .u8 0, .int .u8 0, .int .u8 0, .int .u8 0, .int .u8 0] : Array Value) 33 (0, 0))) ∧ Hid (Fr (fun k => k = q + 1) w2 wr) ∧ Hid (Fr No w wr))
      case atStart => exact ⟨0, by omega, rfl, H32', H22, Fr.refl _ w2, HF2⟩
      case round =>
        obtain ⟨k, hk, rfl, H3, H2, HG, HF⟩ := hrel
        clear H32 H22 HF2 H32'
        cases gk with
        | succ g =>
          have hkl : k < D.length := by rw [HD4l.out]; omega
          obtain ⟨b, o, hbe, hb, hc⟩ := (HRX.out.fr HG.out (fun b o e => by injection e with e; injection e with e _ _; omega)).at (i := k) (by simpa using hkl)
          injection hbe with hbe; injection hbe with hb1 ho1 _
          subst hb1; subst ho1
          rw [getD_map byte D 0 k hkl] at hc
          have hget : D.getD k 0 = D[k] := by simp [List.getD_eq_getElem?_getD, hkl]
          rw [hget] at hc
          have HS := hid (mid_set (P.take 60) (D.take k) P (60 + k) D[k] (by rw [List.length_take, List.length_take, HSQ.out, HD4l.out]; omega) (by rw [HSQ.out]; omega))
          rw [← List.take_succ_eq_append_getElem hkl] at HS
          obtain ⟨x, hx⟩ : ∃ x, D[k] = x := ⟨_, rfl⟩
          rw [hx] at hc HS
          have hcv : ∃ v, wr.cell? ⟨q + 1, 60 + k, none⟩ = some v := by
            rw [cell_blk H3.out, Array.getElem?_eq_getElem (by rw [blkA_size]; simp [HSQ.out, HD4l.out]; omega)]; exact ⟨_, rfl⟩
          obtain ⟨v, hcv⟩ := hcv
          have hfv := free_blk H3.out (60 + k)
          have hb3 := set_blk H3.out (60 + k) (byte x)
          rw [blkA_set, HS.out] at hb3
          have H3' := hid hb3
          have H2' := hid ((heap_setCell_other wr ⟨q + 1, 60 + k, none⟩ q (byte x) (by show q ≠ q + 1; omega)).trans H2.out)
          have HF' := hid (HF.out.setCell (p := ⟨q + 1, 60 + k, none⟩) (fun h => absurd h (by show ¬ q + 1 < w.heap.size; omega)) (byte x))
          have HG' := hid (HG.out.setCell (p := ⟨q + 1, 60 + k, none⟩) (fun _ => rfl) (byte x))
          clear hx HS hget hb3 H3 H2 HF HG
          go_wp2_with fail
          go_roundg g
          case measure => omega
          case rel => exact ⟨k + 1, by omega, by go_num, H3', H2', HG', HF'⟩
        | zero =>
          obtain rfl : k = 4 := by omega
          have hq1 := H3.out
          rw [List.drop_eq_nil_of_le (by rw [HSQ.out]; omega), List.append_nil, show D.take 4 = D from List.take_of_length_le (by rw [HD4l.out]; omega), ← HSB.out] at hq1
          have hsz := (blkA_size (sealB P)).trans (sealB_len P HSQ.out)
          have H1 := hid (blkA_one (sealB P))
          have HI := hid (info64b (sealB P) (sealB_len P HSQ.out))
          have HQ1 := hid hq1
          have HZ2 : Hid (((#[.int .u8 0, .int .u8 0, .int .u8 0, .int .u8 0, .int .u8 0, .int .u8 0, .int .u8 0, .int .u8 0, .int .u8 0, .int .u8 0, .int .u8 0, .int .u8 0, .int .u8 0, .int .u8 0, .int .u8 0, .int .u8 0, .int .u8 0, .int .u8 0, .int .u8 0, .int .u8 0, .int .u8 0, .int .u8 0, .int .u8 0, .int .u8 0, .int .u8 0, .int .u8 0, .int .u8 0, .int .u8 0, .int .u8 0, .int .u8 0, .int .u8 0, .int .u8 0, .int .u8 0, .int .u8 0, .int .u8 0, .int .u8 0, .int .u8 0, .int .u8 0, .int .u8 0, .int .u8 0, .int .u8 0, .int .u8 0, .int .u8 0, .int .u8 0, .int .u8 0, .int .u8 0, .int .u8 0, .int .u8 0, .int .u8 0, .int .u8 0, .int .u8 0, .int .u8 0, .int .u8 0, .int .u8 0, .int .u8 0, .int .u8 0, .int .u8 0, .int .u8 0, .int .u8 0, .int .u8 0, .int .u8 0, .int .u8 0, .int .u8 0, .int .u8 0] : Array Value)).size = (blkA (sealB P)).size) := hsz.symm
          have HST := hid (setRow_heap wr q (#[.int .u8 0, .int .u8 0, .int .u8 0, .int .u8 0, .int .u8 0, .int .u8 0, .int .u8 0, .int .u8 0, .int .u8 0, .int .u8 0, .int .u8 0, .int .u8 0, .int .u8 0, .int .u8 0, .int .u8 0, .int .u8 0, .int .u8 0, .int .u8 0, .int .u8 0, .int .u8 0, .int .u8 0, .int .u8 0, .int .u8 0, .int .u8 0, .int .u8 0, .int .u8 0, .int .u8 0, .int .u8 0, .int .u8 0, .int .u8 0, .int .u8 0, .int .u8 0, .int .u8 0, .int .u8 0, .int .u8 0, .int .u8 0, .int .u8 0, .int .u8 0, .int .u8 0, .int .u8 0, .int .u8 0, .int .u8 0, .int .u8 0, .int .u8 0, .int .u8 0, .int .u8 0, .int .u8 0, .int .u8 0, .int .u8 0, .int .u8 0, .int .u8 0, .int .u8 0, .int .u8 0, .int .u8 0, .int .u8 0, .int .u8 0, .int .u8 0, .int .u8 0, .int .u8 0, .int .u8 0, .int .u8 0, .int .u8 0, .int .u8 0, .int .u8 0] : Array Value) (blkA (sealB P)) 33 (0, 0) H2.out)
          have HSF := hid (HF.out.setRow q (blkA (sealB P)) (fun h => by omega))
          clear hq1 hsz HG HF H3
          go_wp2_with (first
            | (refine wpList_load_row rfl 33 _ rfl (q + 1) rfl 33 (blkA (sealB P)) (0, 0) _ HQ1.out Tryd.underlying33 rfl HI.out ?_)
            | (refine wpList_store_row rfl 33 _ _ rfl q (blkA (sealB P)) rfl rfl 33 _ H2.out HI.out HZ2.out H1.out ?_))
          refine bodyPost_ret (v := .agg (blkA (sealB P))) (results_cell_row rfl _ _ q 33 (blkA (sealB P)) (0, 0) _ rfl HST.out Tryd.underlying33 rfl HI.out) rfl ⟨by rw [HGO.out], HSF.out⟩
end Go.Proofs.YtopheimplclfcaaDoor
