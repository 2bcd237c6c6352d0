/- field.Read, Take. -/
import Derived.Test.YtpifiamafgaadaaDoorFdSealed
import Derived.Test.YtpifiamafgaadaaDoorBuild
import Derived.Deep.QuietTactic
import Derived.BigQuiet
namespace Go.Proofs.YtpifiamafgaadaaDoor
open Go.RowKit

/-- a reader at p: its bytes, how many are read, its error -/
structure RdAt (w : World) (p : Nat) (bs : List Nat) (at_ e : Nat) : Prop where
  blk : w.heap[p]? = some (.cells (bs.map byte ++ ([Value.int .i64 at_, Value.int .i64 e] : List Value)).toArray 128 (0, 0))
  len : bs.length = 64
  lt : ∀ x ∈ bs, x < 256
  room : at_ ≤ 60
theorem RdAt.ltp {w : World} {p at_ e : Nat} {bs : List Nat} (h : RdAt w p bs at_ e) : p < w.heap.size := lt_of_block h.blk
theorem RdAt.fr {S : Nat → Prop} {w w' : World} {p at_ e : Nat} {bs : List Nat} (h : RdAt w p bs at_ e) (f : Fr S w w') (hp : ¬ S p) : RdAt w' p bs at_ e := ⟨(f.block p h.ltp hp).trans h.blk, h.len, h.lt, h.room⟩
theorem RdAt.cell {w : World} {p at_ e : Nat} {bs : List Nat} (h : RdAt w p bs at_ e) (i : Nat) (hi : i < bs.length) : w.cell? ⟨p, i, none⟩ = some (byte bs[i]) := by
  rw [cell_blk h.blk]; simp [List.getElem?_append_left, hi]
theorem RdAt.at_cell {w : World} {p at_ e : Nat} {bs : List Nat} (h : RdAt w p bs at_ e) : w.cell? ⟨p, 64, none⟩ = some (.int .i64 at_) := by
  rw [cell_blk h.blk]
  have := h.len
  simp [List.getElem?_append_right, this]
theorem RdAt.e_cell {w : World} {p at_ e : Nat} {bs : List Nat} (h : RdAt w p bs at_ e) : w.cell? ⟨p, 65, none⟩ = some (.int .i64 e) := by
  rw [cell_blk h.blk]
  have := h.len
  simp [List.getElem?_append_right, this]
theorem RdAt.free {w : World} {p at_ e : Nat} {bs : List Nat} (h : RdAt w p bs at_ e) (i : Nat) : w.frozen? ⟨p, i, none⟩ = false := free_blk h.blk i
theorem RdAt.setE {w : World} {p at_ e : Nat} {bs : List Nat} (h : RdAt w p bs at_ e) (e' : Nat) : RdAt (w.setCell ⟨p, 65, none⟩ (.int .i64 e')) p bs at_ e' := by
  refine ⟨?_, h.len, h.lt, h.room⟩
  rw [set_blk h.blk]
  have := h.len
  simp [List.set_append_right, this]
theorem RdAt.setAt {w : World} {p at_ e : Nat} {bs : List Nat} (h : RdAt w p bs at_ e) (a' : Nat) (ha : a' ≤ 60) : RdAt (w.setCell ⟨p, 64, none⟩ (.int .i64 a')) p bs a' e := by
  refine ⟨?_, h.len, h.lt, ha⟩
  rw [set_blk h.blk]
  have := h.len
  simp [List.set_append_right, this]
theorem RdAt.setB {w : World} {p at_ e : Nat} {bs : List Nat} (h : RdAt w p bs at_ e) (i x : Nat) (hi : i < 64) (hx : x < 256) : RdAt (w.setCell ⟨p, i, none⟩ (byte x)) p (bs.set i x) at_ e := by
  refine ⟨?_, by simpa using h.len, fun y hy => ?_, h.room⟩
  · rw [set_blk h.blk]
    have := h.len
    rw [List.map_set]
    simp [List.set_append_left, this, hi]
  · rcases List.mem_or_eq_of_mem_set hy with g | g
    · exact h.lt y g
    · rw [g]; exact hx

theorem RdAt.range {w : World} {p at_ e : Nat} {bs : List Nat} (h : RdAt w p bs at_ e) : w.rangeAt p 0 (bs.map byte) := fun j v hv => by
  rw [cell_blk h.blk]
  have hj : j < (bs.map byte).length := (List.getElem?_eq_some_iff.1 hv).1
  simp only [List.getElem?_toArray, Nat.zero_add]
  rw [List.getElem?_append_left hj, hv]

theorem rd_zero : Tryd.zeroCells128.size = 66 ∧ Tryd.zeroCells128.toList.drop 64 = [Value.int .i64 0, Value.int .i64 0] := ⟨by kernel_rfl, by kernel_rfl⟩
theorem rd_fold (bs : List Nat) (hl : bs.length = 64) : Array.foldl (fun (cs : Array Value) (x : Value × Nat) => cs.setIfInBounds x.snd x.fst) Tryd.zeroCells128 (blkA bs).zipIdx 0 64 = (bs.map byte ++ ([Value.int .i64 ((0 : Nat) : Int), Value.int .i64 ((0 : Nat) : Int)] : List Value)).toArray := by
  have hs : (blkA bs).size = 64 := (blkA_size bs).trans hl
  have h := fold_set (blkA bs) 0 Tryd.zeroCells128 (by rw [hs, rd_zero.1]; omega)
  simp only [Nat.zero_add, hs, rd_zero.2, Array.size_zipIdx, List.take_zero, List.nil_append] at h
  rw [h]
  simp [blkA]

set_option maxRecDepth 100000 in
set_option maxHeartbeats 2000000 in
theorem fd_Read (w : World) (bs : List Nat) (hl : bs.length = 64) (hlt : ∀ x ∈ bs, x < 256) : Calls Tryd.prog 44 #[.agg (blkA bs)] w fun e w' => e = .returned (.pointer (some ⟨w.heap.size + 1, 0, none⟩)) ∧ RdAt w' (w.heap.size + 1) bs 0 0 ∧ Fr No w w' := by
  have HB := hid (heap_new w (.cells (blkA bs) 27))
  have HI := hid (info64b bs hl)
  have HT := hid (rd_fold bs hl)
  have hs : (blkA bs).size = 64 := (blkA_size bs).trans hl
  have HR : Hid (RdAt ((w.alloc (.cells (blkA bs) 27)).alloc (.cells (bs.map byte ++ ([Value.int .i64 ((0 : Nat) : Int), Value.int .i64 ((0 : Nat) : Int)] : List Value)).toArray 128)) (w.heap.size + 1) bs 0 0) :=
    ⟨by rw [show w.heap.size + 1 = (w.alloc (.cells (blkA bs) 27)).heap.size from by simp]; exact heap_new _ _, hl, hlt, by omega⟩
  have HF := hid (((Fr.refl No w).alloc (.cells (blkA bs) 27)).alloc (.cells (bs.map byte ++ ([Value.int .i64 ((0 : Nat) : Int), Value.int .i64 ((0 : Nat) : Int)] : List Value)).toArray 128))
  clear hlt
  go_enter Tryd.func44, Tryd.ntmps44
  go_wp2_with (refine wpList_load_row rfl 27 _ rfl w.heap.size rfl 27 (blkA bs) (0, 0) _ HB.out Tryd.underlying27 rfl HI.out ?_)
  rw [HT.out]
  go_ret
  exact ⟨rfl, HR.out, HF.out⟩
theorem fd_Take_nil (s : Int) (w : World) : Calls Tryd.prog 45 #[.pointer none, .int .i64 s] w fun e w' => e = .returned (.int .i64 0) ∧ w' = w := by
  go_enter Tryd.func45, Tryd.ntmps45
  go_wp2_with fail
  go_step3
  go_wp2_with fail
  rw [Exit.noGoto_ret]
  go_ret
  exact ⟨rfl, rfl⟩
theorem fd_Take_err (w : World) (p at_ e : Nat) (bs : List Nat) (s : Int) (h : RdAt w p bs at_ e) (he : 0 < e) : Calls Tryd.prog 45 #[.pointer (some ⟨p, 0, none⟩), .int .i64 s] w fun r w' => r = .returned (.int .i64 0) ∧ w' = w := by
  have hce := h.e_cell
  have hb : (((e : Nat) : Int) != 0) = true := by simp; omega
  clear h
  go_enter Tryd.func45, Tryd.ntmps45
  go_wp2_with fail
  go_step3
  go_wp2_with fail
  rw [Exit.noGoto_ret]
  go_ret
  exact ⟨rfl, rfl⟩
theorem fd_Take_arg (w : World) (p at_ : Nat) (bs : List Nat) (s : Int) (h : RdAt w p bs at_ 0) (hs : s < 1 ∨ 7 < s) : Calls Tryd.prog 45 #[.pointer (some ⟨p, 0, none⟩), .int .i64 s] w fun r w' => r = .returned (.int .i64 0) ∧ RdAt w' p bs at_ 1 ∧ Fr (fun k => k = p) w w' := by
  have HW := hid (h.setE 1)
  have HF := hid (Fr.set1 w p 65 (.int .i64 1))
  have hce := h.e_cell
  have hfe := h.free 65
  clear h
  rcases hs with hs | hs
  all_goals
    go_enter Tryd.func45, Tryd.ntmps45
    go_wp2_with fail
    go_step3
    go_wp2_with fail
    rw [Exit.noGoto_ret]
    go_ret
    exact ⟨rfl, HW.out, HF.out⟩
theorem fd_Take_full (w : World) (p at_ s : Nat) (bs : List Nat) (h : RdAt w p bs at_ 0) (hs1 : 1 ≤ s) (hs : s ≤ 7) (hf : 60 < at_ + s) : Calls Tryd.prog 45 #[.pointer (some ⟨p, 0, none⟩), .int .i64 s] w fun r w' => r = .returned (.int .i64 0) ∧ RdAt w' p bs at_ 17 ∧ Fr (fun k => k = p) w w' := by
  have HW := hid (h.setE 17)
  have HF := hid (Fr.set1 w p 65 (.int .i64 17))
  have hce := h.e_cell
  have hca := h.at_cell
  have hfe := h.free 65
  have hr := h.room
  have HP := hid (fd_place at_ s w hr hs)
  rw [if_pos hf] at HP
  clear h
  go_enter Tryd.func45, Tryd.ntmps45
  go_wp2_with fail
  go_step3
  go_wp2_with fail
  refine HP.out.mono ?_
  rintro e w' ⟨rfl, rfl⟩
  have hce' := HW.out.e_cell
  go_wp2_with fail
  rw [Exit.noGoto_ret]
  go_ret
  exact ⟨rfl, HW.out, HF.out⟩
/-- the number of bytes, the lowest first -/
def numOf : List Nat → Nat
  | [] => 0
  | x :: l => x + 256 * numOf l
theorem numOf_snoc (l : List Nat) (x : Nat) : numOf (l ++ [x]) = numOf l + x * 256 ^ l.length := by
  induction l with
  | nil => simp [numOf]
  | cons y l ih => rw [List.cons_append, numOf, ih, numOf, List.length_cons, Nat.pow_succ, Nat.mul_add, Nat.add_assoc]; congr 2; rw [Nat.mul_comm 256, Nat.mul_assoc]
theorem numOf_lt (l : List Nat) (h : ∀ x ∈ l, x < 256) : numOf l < 256 ^ l.length := by
  induction l with
  | nil => simp [numOf]
  | cons y l ih =>
    have h1 := h y (List.mem_cons_self ..)
    have h2 := ih (fun x hx => h x (List.mem_cons_of_mem _ hx))
    rw [numOf, List.length_cons, Nat.pow_succ]
    omega
theorem numOf_digs (s n : Nat) (h : n < 256 ^ s) : numOf (digs s n) = n := by
  induction s generalizing n with
  | zero => simp at h; subst h; rfl
  | succ s ih =>
    rw [digs, numOf, ih (n / 256) (by rw [Nat.pow_succ] at h; omega)]
    omega

theorem i64_or_nat (a b : Nat) (ha : a < 9223372036854775808) (hb : b < 9223372036854775808) : bits .or .i64 (a : Int) (b : Int) = ((a ||| b : Nat) : Int) := by
  have hx : a ||| b < 2 ^ 63 := Nat.or_lt_two_pow (by omega) (by omega)
  show IntKind.i64.wrap ((BitVec.ofInt 64 (a : Int) ||| BitVec.ofInt 64 (b : Int)).toNat : Int) = _
  rw [BitVec.toNat_or, ofInt_u64 a (by omega), ofInt_u64 b (by omega)]
  exact IntWalk.i64_in _ (by omega)
theorem or_shift (m x k : Nat) (hm : m < 256 ^ k) (hx : x < 256) (hk : k ≤ 6) : bits .or .i64 (m : Int) (wrap64 ((x : Int) * 2 ^ (8 * k))) = ((m + x * 256 ^ k : Nat) : Int) := by
  have h256 : (256 : Nat) ^ k = 2 ^ (8 * k) := by rw [show (256 : Nat) = 2 ^ 8 from rfl, ← Nat.pow_mul]
  have hp : (2 : Nat) ^ (8 * k) ≤ 2 ^ 48 := Nat.pow_le_pow_right (by omega) (by omega)
  have hxx : x * 2 ^ (8 * k) < 2 ^ 56 := by
    have : x * 2 ^ (8 * k) ≤ 255 * 2 ^ 48 := Nat.mul_le_mul (by omega) hp
    omega
  have e1 : ((x : Int) * 2 ^ (8 * k)) = ((x * 2 ^ (8 * k) : Nat) : Int) := by simp
  rw [e1, IntWalk.wrap64_in _ (by constructor <;> omega), i64_or_nat m _ (by rw [h256] at hm; omega) (by omega), h256]
  congr 1
  have := Nat.two_pow_add_eq_or_of_lt (i := 8 * k) (b := m) (by rw [← h256]; exact hm) x
  rw [Nat.or_comm, Nat.mul_comm x, ← this, Nat.add_comm]

set_option maxRecDepth 100000 in
set_option maxHeartbeats 2000000 in
theorem fd_Take_ok (w : World) (p at_ s : Nat) (bs : List Nat) (h : RdAt w p bs at_ 0) (hs1 : 1 ≤ s) (hs : s ≤ 7) (hf : at_ + s ≤ 60) : Calls Tryd.prog 45 #[.pointer (some ⟨p, 0, none⟩), .int .i64 s] w fun r w' => r = .returned (.int .i64 ((numOf ((bs.drop at_).take s) : Nat) : Int)) ∧ RdAt w' p bs (at_ + s) 0 ∧ Fr (fun k => k = p) w w' := by
  have HW : Hid (RdAt (w.setCell ⟨p, 65, none⟩ (.int .i64 0)) p bs at_ 0) := h.setE 0
  have HF := hid (Fr.set1 w p 65 (.int .i64 0))
  have hce := h.e_cell
  have hca := h.at_cell
  have hfe := h.free 65
  have hr := h.room
  have HP := hid (fd_place at_ s w hr hs)
  rw [if_neg (by omega)] at HP
  have hd1 : decide ((s : Int) < 1) = false := by simp; omega
  have hd2 : decide ((7 : Int) < s) = false := by simp; omega
  have HLT := hid h.lt
  have HLN := hid h.len
  clear h
  go_enter Tryd.func45, Tryd.ntmps45
  go_wp2_with fail
  go_step3
  go_wp2_with fail
  refine HP.out.mono ?_
  rintro e w' ⟨rfl, rfl⟩
  have hce' := HW.out.e_cell
  go_wp2_with fail
  generalize w'.setCell ⟨p, 65, none⟩ (.int .i64 0) = w2 at *
  clear hce hca hfe HP hce'
  go_step3
  go_wp2_with fail
  go_loopg [5, 6] s (fun g x i wr => ∃ k : Nat, k + g = s ∧ i = .int .i64 k ∧ x = .int .i64 ((numOf ((bs.drop at_).take k) : Nat) : Int) ∧ Hid (RdAt wr p bs at_ 0) ∧ Hid (Fr (fun k => k = p) w' wr))
  case atStart => exact ⟨0, by omega, rfl, rfl, HW, HF⟩
  case round =>
    obtain ⟨k, hk, rfl, rfl, HWk, HFk⟩ := hrel
    clear HW HF
    cases gk with
    | zero =>
      obtain rfl : k = s := by omega
      have hkk : ((k : Int) == (k : Int)) = true := by simp
      have hca := HWk.out.at_cell
      have hfa := HWk.out.free 64
      have HW := hid (HWk.out.setAt (at_ + k) (by omega))
      have HF := hid (HFk.out.setCell (p := ⟨p, 64, none⟩) (fun _ => rfl) (.int .i64 ((at_ + k : Nat) : Int)))
      generalize hM : numOf ((bs.drop at_).take k) = m at *
      have HM := hid hM
      clear HWk HFk hM
      go_wp2_with fail
      rw [show ((at_ : Int) + (k : Int)) = ((at_ + k : Nat) : Int) from by simp]
      rw [Exit.noGoto_ret]
      go_ret
      exact ⟨by rw [HM.out]; rfl, HW.out, HF.out⟩
    | succ g =>
      have hkk : ((k : Int) == (s : Int)) = false := by simp; omega
      have hca := HWk.out.at_cell
      have hlen := HLN.out
      have hc := HWk.out.cell (at_ + k) (by omega)
      obtain ⟨x, hx⟩ : ∃ x, bs[at_ + k] = x := ⟨_, rfl⟩
      have hxl : x < 256 := hx ▸ HLT.out _ (List.getElem_mem (by omega))
      have hts : (bs.drop at_).take (k + 1) = (bs.drop at_).take k ++ [x] := by
        rw [List.take_succ_eq_append_getElem (by rw [List.length_drop]; omega), List.getElem_drop, hx]
      have HN : Hid (numOf ((bs.drop at_).take (k + 1)) = numOf ((bs.drop at_).take k) + x * 256 ^ k) := by
        unfold Hid; rw [hts, numOf_snoc]; congr 2; rw [List.length_take, List.length_drop]; congr 1; omega
      have hm := numOf_lt ((bs.drop at_).take k) (fun x hx => HLT.out x (List.mem_of_mem_drop (List.mem_of_mem_take hx)))
      rw [List.length_take, List.length_drop, Nat.min_eq_left (by omega)] at hm
      rw [hx] at hc
      generalize numOf ((bs.drop at_).take k) = m at *
      clear hts hx hlen
      go_wp2_with fail
      have hb1 : (at_ : Int) + k < 64 := by omega
      have hb0 : (0 : Int) ≤ (at_ : Int) + k := by omega
      go_quiet (fail)
      rw [or_shift m x k hm hxl (by omega), ← HN.out]
      have HW := hid (HWk.out.fr ((Fr.refl No wr).drewN nq) id)
      have HF := hid (HFk.out.drewN nq)
      clear hca hc HWk HFk hb1 hb0 HN
      generalize hM : numOf ((bs.drop at_).take (k + 1)) = m2 at *
      have HM := hid hM
      clear hM
      generalize wr.drewN nq = wq at *
      go_wp2_with fail
      go_roundg g
      case measure => omega
      case rel => exact ⟨k + 1, by omega, by go_num, by rw [HM.out], HW, HF⟩
end Go.Proofs.YtpifiamafgaadaaDoor
