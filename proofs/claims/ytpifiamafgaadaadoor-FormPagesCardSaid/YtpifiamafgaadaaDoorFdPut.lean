/- field.Writer: Write, place, Put$1. (layer 4, begun) -/
import Derived.Test.YtpifiamafgaadaaDoorLaid
import Derived.Test.YtpifiamafgaadaaDoorBlk
import Derived.StillTailTactics
namespace Go.Proofs.YtpifiamafgaadaaDoor
open Go.RowKit

/-- a writer at p: its bytes, how many are written, its error -/
structure WrAt (w : World) (p : Nat) (bs : List Nat) (at_ e : Nat) : Prop where
  blk : w.heap[p]? = some (.cells (bs.map byte ++ ([Value.int .i64 at_, Value.int .i64 e] : List Value)).toArray 117 (0, 0))
  len : bs.length = 64
  lt : ∀ x ∈ bs, x < 256
  room : at_ ≤ 60
theorem WrAt.ltp {w : World} {p at_ e : Nat} {bs : List Nat} (h : WrAt w p bs at_ e) : p < w.heap.size := lt_of_block h.blk
theorem WrAt.fr {S : Nat → Prop} {w w' : World} {p at_ e : Nat} {bs : List Nat} (h : WrAt w p bs at_ e) (f : Fr S w w') (hp : ¬ S p) : WrAt w' p bs at_ e := ⟨(f.block p h.ltp hp).trans h.blk, h.len, h.lt, h.room⟩
theorem WrAt.cell {w : World} {p at_ e : Nat} {bs : List Nat} (h : WrAt w p bs at_ e) (i : Nat) (hi : i < bs.length) : w.cell? ⟨p, i, none⟩ = some (byte bs[i]) := by
  rw [cell_blk h.blk]; simp [List.getElem?_append_left, hi]
theorem WrAt.at_cell {w : World} {p at_ e : Nat} {bs : List Nat} (h : WrAt w p bs at_ e) : w.cell? ⟨p, 64, none⟩ = some (.int .i64 at_) := by
  rw [cell_blk h.blk]
  have := h.len
  simp [List.getElem?_append_right, this]
theorem WrAt.e_cell {w : World} {p at_ e : Nat} {bs : List Nat} (h : WrAt w p bs at_ e) : w.cell? ⟨p, 65, none⟩ = some (.int .i64 e) := by
  rw [cell_blk h.blk]
  have := h.len
  simp [List.getElem?_append_right, this]
theorem WrAt.free {w : World} {p at_ e : Nat} {bs : List Nat} (h : WrAt w p bs at_ e) (i : Nat) : w.frozen? ⟨p, i, none⟩ = false := free_blk h.blk i
theorem WrAt.setE {w : World} {p at_ e : Nat} {bs : List Nat} (h : WrAt w p bs at_ e) (e' : Nat) : WrAt (w.setCell ⟨p, 65, none⟩ (.int .i64 e')) p bs at_ e' := by
  refine ⟨?_, h.len, h.lt, h.room⟩
  rw [set_blk h.blk]
  have := h.len
  simp [List.set_append_right, this]
theorem WrAt.setAt {w : World} {p at_ e : Nat} {bs : List Nat} (h : WrAt w p bs at_ e) (a' : Nat) (ha : a' ≤ 60) : WrAt (w.setCell ⟨p, 64, none⟩ (.int .i64 a')) p bs a' e := by
  refine ⟨?_, h.len, h.lt, ha⟩
  rw [set_blk h.blk]
  have := h.len
  simp [List.set_append_right, this]
theorem WrAt.setB {w : World} {p at_ e : Nat} {bs : List Nat} (h : WrAt w p bs at_ e) (i x : Nat) (hi : i < 64) (hx : x < 256) : WrAt (w.setCell ⟨p, i, none⟩ (byte x)) p (bs.set i x) at_ e := by
  refine ⟨?_, by simpa using h.len, fun y hy => ?_, h.room⟩
  · rw [set_blk h.blk]
    have := h.len
    rw [List.map_set]
    simp [List.set_append_left, this, hi]
  · rcases List.mem_or_eq_of_mem_set hy with g | g
    · exact h.lt y g
    · rw [g]; exact hx

theorem fd_place (a s : Nat) (w : World) (ha : a ≤ 60) (hs : s ≤ 7) : Calls Tryd.prog 49 #[.int .i64 a, .int .i64 s] w fun e w' => e = .returned (.int .i64 (((if 60 < a + s then 17 else 0) : Nat) : Int)) ∧ w' = w := by
  by_cases h : 60 < a + s
  · rw [if_pos h]
    have h' : (60 : Int) - a < s := by omega
    go_enter Tryd.func49, Tryd.ntmps49
    go_wp2
    go_ret
    exact ⟨rfl, rfl⟩
  · rw [if_neg h]
    have h' : (s : Int) ≤ 60 - a := by omega
    go_enter Tryd.func49, Tryd.ntmps49
    go_wp2
    go_ret
    exact ⟨rfl, rfl⟩
theorem fd_write (w : World) : Calls Tryd.prog 27 #[] w fun e w' => e = .returned (.pointer (some ⟨w.heap.size, 0, none⟩)) ∧ WrAt w' w.heap.size (List.replicate 64 0) 0 0 ∧ Fr No w w' := by
  go_enter Tryd.func27, Tryd.ntmps27
  go_wp2
  go_ret
  refine ⟨rfl, ⟨?_, by simp, fun x hx => by rw [List.eq_of_mem_replicate hx]; omega, by omega⟩, (Fr.refl No w).alloc _⟩
  exact heap_new w _

set_option maxHeartbeats 1000000 in
theorem fd_put1 (w : World) (bx p at_ e b : Nat) (bs : List Nat) (h : WrAt w p bs at_ e) (hcb : w.cell? ⟨bx, 0, none⟩ = some (.pointer (some ⟨p, 0, none⟩))) (hne : bx ≠ p) (hat : at_ < 60) (hb : b < 256) :
    Calls Tryd.prog 50 #[byte b, .pointer (some ⟨bx, 0, none⟩)] w fun e' w' => (∃ v, e' = .returned v) ∧ WrAt w' p (bs.set at_ b) (at_ + 1) e ∧ Fr (fun k => k = p) w w' ∧ w'.heap.size = w.heap.size := by
  have HW := hid h
  have hca := h.at_cell
  have hfz := h.free at_
  have hf64 := h.free 64
  obtain ⟨old, hcc⟩ : ∃ old, w.cell? ⟨p, at_, none⟩ = some (byte old) := ⟨_, h.cell at_ (by have := h.len; omega)⟩
  clear h
  go_enter Tryd.func50, Tryd.ntmps50
  go_wp2
  go_region
  have HF0 := hid (((Fr.refl (fun k => k = p) w).setCell (p := ⟨p, at_, none⟩) (fun _ => rfl) (byte b)).drew)
  have HW1 := hid ((HW.out.setB at_ b (by omega) hb).fr ((Fr.refl No (w.setCell ⟨p, at_, none⟩ (byte b))).drew) id)
  have hcb1 := (HF0.out.cell (p := ⟨bx, 0, none⟩) (lt_of_cell hcb) hne).trans hcb
  have HZ := hid (show (w.setCell ⟨p, at_, none⟩ (byte b)).drew.heap.size = w.heap.size from size_set _ _ _)
  clear hcb hca hfz hf64 hcc
  change Exit.then _ _ Exit.normal _ (w.setCell ⟨p, at_, none⟩ (byte b)).drew
  generalize (w.setCell ⟨p, at_, none⟩ (byte b)).drew = w1 at *
  have hca := HW1.out.at_cell
  have hf64 := HW1.out.free 64
  go_wp2
  go_end0
  exact ⟨⟨_, rfl⟩, HW1.out.setAt (at_ + 1) (by omega), HF0.out.setCell (p := ⟨p, 64, none⟩) (fun _ => rfl) _, (size_set _ _ _).trans HZ.out⟩

theorem fd_put_nil (n s : Int) (w : World) : Calls Tryd.prog 28 #[.pointer none, .int .i64 n, .int .i64 s] w fun e w' => e = .returned (.pointer none) ∧ Fr No w w' := by
  go_enter Tryd.func28, Tryd.ntmps28
  go_wp2
  go_ret
  exact ⟨rfl, (Fr.refl No w).alloc _⟩
/-- a writer with an error stays as it is -/
theorem fd_put_err (w : World) (p at_ e : Nat) (bs : List Nat) (n s : Int) (h : WrAt w p bs at_ e) (he : 0 < e) : Calls Tryd.prog 28 #[.pointer (some ⟨p, 0, none⟩), .int .i64 n, .int .i64 s] w fun r w' => r = .returned (.pointer (some ⟨p, 0, none⟩)) ∧ Fr No w w' := by
  have hlp := h.ltp
  have hce := h.e_cell
  have hb : (((e : Nat) : Int) != 0) = true := by simp; omega
  clear h
  go_enter Tryd.func28, Tryd.ntmps28
  go_wp2
  go_ret
  exact ⟨rfl, (Fr.refl No w).alloc _⟩
/-- a size that may not be -/
theorem fd_put_arg (w : World) (p at_ : Nat) (bs : List Nat) (n s : Int) (h : WrAt w p bs at_ 0) (hs : s < 1 ∨ 7 < s) : Calls Tryd.prog 28 #[.pointer (some ⟨p, 0, none⟩), .int .i64 n, .int .i64 s] w fun r w' => r = .returned (.pointer (some ⟨p, 0, none⟩)) ∧ WrAt w' p bs at_ 1 ∧ Fr (fun k => k = p) w w' := by
  have hlp := h.ltp
  have HW := hid (h.setE 1)
  have hce := h.e_cell
  have hfe := h.free 65
  clear h
  rcases hs with hs | hs
  all_goals
    go_enter Tryd.func28, Tryd.ntmps28
    go_wp2
    go_ret
    exact ⟨rfl, HW.out.fr ((Fr.refl No _).alloc _) id, ((Fr.refl (fun k => k = p) w).setCell (p := ⟨p, 65, none⟩) (fun _ => rfl) _).alloc _⟩
/-- a number that has no room in so many bytes -/
theorem fd_put_over (w : World) (p at_ s : Nat) (bs : List Nat) (n : Int) (h : WrAt w p bs at_ 0) (hs1 : 1 ≤ s) (hs : s ≤ 7) (hn : n < 0 ∨ (n / 2 ^ (8 * s) != 0) = true) : Calls Tryd.prog 28 #[.pointer (some ⟨p, 0, none⟩), .int .i64 n, .int .i64 s] w fun r w' => r = .returned (.pointer (some ⟨p, 0, none⟩)) ∧ WrAt w' p bs at_ 11 ∧ Fr (fun k => k = p) w w' := by
  have hlp := h.ltp
  have HW := hid (h.setE 11)
  have hce := h.e_cell
  have hfe := h.free 65
  clear h
  by_cases h0 : n < 0
  · clear hn
    go_enter Tryd.func28, Tryd.ntmps28
    go_wp2_with fail
    go_ret
    exact ⟨rfl, HW.out.fr ((Fr.refl No _).alloc _) id, ((Fr.refl (fun k => k = p) w).setCell (p := ⟨p, 65, none⟩) (fun _ => rfl) _).alloc _⟩
  · have h1 : (n / 2 ^ (8 * s) != 0) = true := by rcases hn with h | h; exact absurd h h0; exact h
    clear hn
    go_enter Tryd.func28, Tryd.ntmps28
    go_wp2_with fail
    go_ret
    exact ⟨rfl, HW.out.fr ((Fr.refl No _).alloc _) id, ((Fr.refl (fun k => k = p) w).setCell (p := ⟨p, 65, none⟩) (fun _ => rfl) _).alloc _⟩
/-- a writer whose pointer is boxed -/
structure Boxed (w0 w : World) (bx p : Nat) (v : Value) : Prop where
  cell : w.cell? ⟨bx, 0, none⟩ = some v
  ne : bx ≠ p
  fr : Fr No w0 w
theorem boxed_new (w : World) (p : Nat) (hp : p < w.heap.size) (v : Value) (t : TypeId) : Boxed w (w.alloc (.cells #[v] t)) w.heap.size p v :=
  ⟨by rw [cell_blk (heap_new w _)]; rfl, by omega, (Fr.refl No w).alloc _⟩
set_option maxRecDepth 100000 in
/-- a number for which there is no room -/
theorem fd_put_full (w : World) (p at_ s : Nat) (bs : List Nat) (n : Int) (h : WrAt w p bs at_ 0) (hs1 : 1 ≤ s) (hs : s ≤ 7) (hn0 : 0 ≤ n) (hn : (n / 2 ^ (8 * s) != 0) = false) (hf : 60 < at_ + s) : Calls Tryd.prog 28 #[.pointer (some ⟨p, 0, none⟩), .int .i64 n, .int .i64 s] w fun r w' => r = .returned (.pointer (some ⟨p, 0, none⟩)) ∧ WrAt w' p bs at_ 17 ∧ Fr (fun k => k = p) w w' := by
  have hlp := h.ltp
  have HW := hid h
  have hce := h.e_cell
  have hr := h.room
  have HP := fun W => hid (fd_place at_ s W hr hs)
  rw [if_pos hf] at HP
  clear h
  go_enter Tryd.func28, Tryd.ntmps28
  go_wp2_with fail
  have HB := hid (boxed_new w p hlp (.pointer (some ⟨p, 0, none⟩)) 79)
  generalize w.alloc (.cells #[.pointer (some ⟨p, 0, none⟩)] 79) = w1 at *
  generalize w.heap.size = bx at *
  have HW1 := hid (HW.out.fr HB.out.fr id)
  have hcb := HB.out.cell
  have hca := HW1.out.at_cell
  clear hce
  go_still_tail 9, (by kernel_rfl)
  still_call (HP _).out
  repeat still_step
  refine wpStill_nil ?_
  change wpList _ _ _ _ _ w1.drew
  have HF1 := hid (HB.out.fr.drew)
  have HW2 := hid (HW1.out.fr ((Fr.refl No w1).drew) id)
  have hcb : w1.drew.cell? ⟨bx, 0, none⟩ = _ := hcb
  clear HB HW1 hca HP
  generalize w1.drew = w2 at *
  have hfe := HW2.out.free 65
  have hce := HW2.out.e_cell
  have HW3 := hid (HW2.out.setE 17)
  have HF3 := hid ((Fr.refl (fun k => k = p) w2).setCell (p := ⟨p, 65, none⟩) (fun _ => rfl) (.int .i64 17))
  go_wp2_with fail
  go_ret
  exact ⟨rfl, HW3.out, (HF1.out.mono (fun i _ e => e.elim)).trans HF3.out⟩

/-- 64 bytes that begin with these -/
def pad (l : List Nat) : List Nat := l ++ List.replicate (64 - l.length) 0
theorem pad_len (l : List Nat) (h : l.length ≤ 64) : (pad l).length = 64 := by simp [pad]; omega
theorem pad_set (l : List Nat) (b : Nat) (h : l.length < 64) : (pad l).set l.length b = pad (l ++ [b]) := by
  unfold pad
  rw [List.set_append_right _ _ (Nat.le_refl _), Nat.sub_self, show 64 - l.length = (63 - l.length) + 1 from by omega, List.replicate_succ, List.set_cons_zero]
  simp only [List.length_append, List.length_cons, List.length_nil, List.append_assoc, List.cons_append, List.nil_append]
  rw [show 64 - (l.length + (0 + 1)) = 63 - l.length from by omega]
/-- a number's bytes, the lowest first -/
def digs : Nat → Nat → List Nat
  | 0, _ => []
  | s + 1, n => n % 256 :: digs s (n / 256)
theorem digs_len (s n : Nat) : (digs s n).length = s := by
  induction s generalizing n with
  | zero => rfl
  | succ s ih => simp [digs, ih]
theorem digs_snoc (k n : Nat) : digs (k + 1) n = digs k n ++ [n / 256 ^ k % 256] := by
  induction k generalizing n with
  | zero => simp [digs]
  | succ k ih =>
    rw [digs, ih (n / 256), digs, List.cons_append]
    rw [Nat.div_div_eq_div_mul, Nat.pow_succ, Nat.mul_comm 256]
theorem digs_lt (s n : Nat) : ∀ x ∈ digs s n, x < 256 := by
  induction s generalizing n with
  | zero => intro x hx; simp [digs] at hx
  | succ s ih =>
    intro x hx
    rcases List.mem_cons.1 hx with rfl | hx
    · omega
    · exact ih _ x hx

set_option maxRecDepth 100000 in
set_option maxHeartbeats 2000000 in
theorem fd_put_ok (w : World) (p s : Nat) (l : List Nat) (n : Nat) (h : WrAt w p (pad l) l.length 0) (hs1 : 1 ≤ s) (hs : s ≤ 7) (hn : ((n : Int) / 2 ^ (8 * s) != 0) = false) (hf : l.length + s ≤ 60) : Calls Tryd.prog 28 #[.pointer (some ⟨p, 0, none⟩), .int .i64 n, .int .i64 s] w fun r w' => r = .returned (.pointer (some ⟨p, 0, none⟩)) ∧ WrAt w' p (pad (l ++ digs s n)) (l.length + s) 0 ∧ Fr (fun k => k = p) w w' := by
  have hlp := h.ltp
  have HW := hid h
  have hce := h.e_cell
  have hr := h.room
  have HP := fun W => hid (fd_place l.length s W hr hs)
  rw [if_neg (by omega)] at HP
  have hd1 : decide ((s : Int) < 1) = false := by simp; omega
  have hd2 : decide ((7 : Int) < s) = false := by simp; omega
  have hd3 : decide ((n : Int) < 0) = false := by simp
  clear h
  go_enter Tryd.func28, Tryd.ntmps28
  go_wp2_with fail
  have HB := hid (boxed_new w p hlp (.pointer (some ⟨p, 0, none⟩)) 79)
  generalize w.alloc (.cells #[.pointer (some ⟨p, 0, none⟩)] 79) = w1 at *
  generalize w.heap.size = bx at *
  have HW1 := hid (HW.out.fr HB.out.fr id)
  have hcb := HB.out.cell
  have hca := HW1.out.at_cell
  clear hce
  go_still_tail 9, (by kernel_rfl)
  still_call (HP _).out
  repeat still_step
  refine wpStill_nil ?_
  change wpList _ _ _ _ _ w1.drew
  have HF1 := hid (HB.out.fr.drew)
  have HW2 := hid (HW1.out.fr ((Fr.refl No w1).drew) id)
  have hcb : w1.drew.cell? ⟨bx, 0, none⟩ = _ := hcb
  have hne := HB.out.ne
  clear HB HW1 hca HP HW
  generalize w1.drew = w2 at *
  have hfe := HW2.out.free 65
  have hce := HW2.out.e_cell
  have HW3 : Hid (WrAt (w2.setCell ⟨p, 65, none⟩ (.int .i64 0)) p (pad l) l.length 0) := HW2.out.setE 0
  have HF3 := hid ((HF1.out.mono (T := fun k => k = p) (fun i _ e => e.elim)).trans ((Fr.refl (fun k => k = p) w2).setCell (p := ⟨p, 65, none⟩) (fun _ => rfl) (.int .i64 0)))
  have HC3 : Hid ((w2.setCell ⟨p, 65, none⟩ (.int .i64 0)).cell? ⟨bx, 0, none⟩ = some (.pointer (some ⟨p, 0, none⟩))) := by
    have hlb := lt_of_cell hcb
    exact ((Fr.set1 w2 p 65 (.int .i64 0)).cell (p := ⟨bx, 0, none⟩) hlb hne).trans hcb
  clear HF1 HW2
  go_wp2_with fail
  clear hcb hfe hce
  generalize w2.setCell ⟨p, 65, none⟩ (.int .i64 0) = w3 at *
  clear w2
  go_loopg [1, 58] s (fun g x i wr => ∃ k : Nat, k + g = s ∧ i = .int .i64 k ∧ x = .int .i64 ((n / 256 ^ k : Nat) : Int) ∧ Hid (WrAt wr p (pad (l ++ digs k n)) (l.length + k) 0) ∧ Hid (wr.cell? ⟨bx, 0, none⟩ = some (.pointer (some ⟨p, 0, none⟩))) ∧ Hid (Fr (fun k => k = p) w wr))
  case atStart => exact ⟨0, by omega, rfl, by simp, by simpa [digs] using HW3, HC3, HF3⟩
  case round =>
    obtain ⟨k, hk, rfl, rfl, HWk, HCk, HFk⟩ := hrel
    clear HW3 HC3 HF3
    cases gk with
    | zero =>
      obtain rfl : k = s := by omega
      have hcb := HCk.out
      go_wp2_with fail
      go_ret
      exact ⟨rfl, HWk.out, HFk.out⟩
    | succ g =>
      obtain ⟨m, hm⟩ : ∃ m, n / 256 ^ k = m := ⟨_, rfl⟩
      have HM : Hid (n / 256 ^ (k + 1) = m / 256) := by unfold Hid; rw [← hm, Nat.pow_succ, Nat.div_div_eq_div_mul]
      have HD : Hid (digs (k + 1) n = digs k n ++ [m % 256]) := by unfold Hid; rw [digs_snoc, hm]
      rw [hm]
      clear hm
      go_wp2_with fail
      rw [show ((m : Int) % 256) = ((m % 256 : Nat) : Int) from by omega]
      refine (fd_put1 wr bx p (l.length + k) 0 (m % 256) _ HWk.out HCk.out hne (by omega) (by omega)).mono ?_
      rintro e w5 ⟨⟨v, rfl⟩, hW5, hF5, hz5⟩
      have hps := pad_set (l ++ digs k n) (m % 256) (by rw [List.length_append, digs_len]; omega)
      rw [List.length_append, digs_len, List.append_assoc, ← HD.out] at hps
      rw [hps] at hW5
      have HW5 := hid hW5
      have HF5 := hid (HFk.out.trans hF5)
      have HC5 := hid ((hF5.cell (p := ⟨bx, 0, none⟩) (lt_of_cell HCk.out) hne).trans HCk.out)
      clear hps hW5 hF5 hz5 HWk HCk HFk
      go_wp2_with fail
      go_roundg g
      case measure => omega
      case rel => exact ⟨k + 1, by omega, by go_num, by rw [HM.out]; (first | rfl | simp; done | (congr 1; omega)), HW5, HC5, HF5⟩
end Go.Proofs.YtpifiamafgaadaaDoor
