/- The ring of ints: Put, by the machine's own steps at the select. -/
import Derived.Test.YtndljmkdgakfcaaBlk
import Derived.Test.YtndljmkdgakfcaaChecked
import Derived.Conc.LoneCalls
import Derived.Conc.LoneSelect
import Derived.Conc.LoneSelectN
import Derived.KernelRfl
import Derived.Laws.Rows
namespace Go.Proofs.Ytndljmkdgakfcaa
open Go.Conc Go.RowKit

/-- a ring at block p over the channel of block c: its bound, what waits in it, whether it is closed -/
structure Rg (w : World) (p c most : Nat) (l : List Value) (shut : Bool) : Prop where
  blk : w.heap[p]? = some (.cells #[.chan (some c), .int .i64 most, .bool shut] 67 (0, 0))
  ch : ∃ s r, w.heap[c]? = some (.chan most l.toArray shut s r false)
theorem Rg.fr {S : Nat → Prop} {w w' : World} {p c most : Nat} {l : List Value} {shut : Bool} (h : Rg w p c most l shut) (f : Fr S w w') (hp : ¬ S p) (hc : ¬ S c) : Rg w' p c most l shut :=
  ⟨(f.block p (lt_of_block h.blk) hp).trans h.blk, let ⟨s, r, hs⟩ := h.ch; ⟨s, r, (f.block c (lt_of_block hs) hc).trans hs⟩⟩
theorem setChan_fr (w : World) (c cap : Nat) (buf : Array Value) (cl : Bool) (s r : Nat) (tm : Bool) : Fr (fun k => k = c) w (w.setChan c cap buf cl s r tm) :=
  ⟨rfl, rfl, rfl, by simp [World.setChan], fun k _ hk => by simp only [World.setChan]; rw [Array.getElem?_setIfInBounds_ne (by omega)]⟩

set_option maxRecDepth 100000 in
theorem rg_put_send (w : World) (p c most : Nat) (l : List Value) (x : Value) (hb : w.heap[p]? = some (.cells #[.chan (some c), .int .i64 most, .bool false] 67 (0, 0))) (s r : Nat) (hc : w.heap[c]? = some (.chan most l.toArray false s r false)) (hr : l.length < most) :
    Calls Try.prog 16 #[.pointer (some ⟨p, 0, none⟩), x] w fun e w' => e = .returned (.int .i64 0) ∧ w' = w.setChan c most (l.toArray.push x) false (s + 1) r false := by
  have c0 := cell_blk hb 0
  have c2 := cell_blk hb 2
  simp only [List.getElem?_toArray, List.getElem?_cons_zero, List.getElem?_cons_succ] at c0 c2
  refine calls_of_loneTo fun cs => ?_
  have e : Frame.enter Try.prog 16 #[.pointer (some ⟨p, 0, none⟩), x] .normal = (base 16).at ⟨#[.pointer (some ⟨p, 0, none⟩), x, undef, undef, undef, undef, undef, undef, undef, undef, undef, undef, undef, undef, undef, undef, undef, undef, undef], []⟩ [.code (Try.f16.body.getD .skip)] := by
    simp [Frame.enter, Frame.at, Try.func16, base, Try.f16]
  rw [e]
  refine LoneTo.goes (n := 60) ?_
  simp only [Try.f16, Option.getD_some]
  s_c stepG_seq
  s_reg
  s_op
  s_c stepG_region_end
  s_c stepG_seq
  s_c stepG_seq
  s_reg
  s_op
  s_op
  s_c stepG_region_end
  s_cond false
  s_c stepG_skip
  s_c stepG_seq
  s_c stepG_seq
  s_reg
  s_op
  s_op
  s_op
  s_op
  s_c stepG_region_end
  s_cond false
  s_c stepG_skip
  s_c stepG_seq
  s_c stepG_seq
  s_reg
  s_op
  s_op
  s_op
  s_op
  s_c stepG_region_end
  s_reg
  s_op
  s_c stepG_region_end
  s_c stepG_seq
  s_reg
  s_stop
  refine LoneTo.step (step_lone_select_send_room (c := c) (v := x) (z' := .int .i64 0) (cap := most) (buf := l.toArray) (s := s) (r := r) (tm := false)
    (stepG_comm (cases := #[scase c x (.int .i64 0)]) (blocking := false) (shape := .select) (w' := w) rfl rfl (by decide) (by simp [go_sem, execOp, scase, Act.eval]))
    hc (by simpa using hr)) ?_
  rw [Frame.finish_at]
  walk_nrm
  refine LoneTo.goes (n := 60) ?_
  s_op
  s_op
  s_c stepG_region_end
  s_c stepG_block
  s_cond true
  s_c stepG_seq
  s_reg
  s_op
  s_c stepG_region_end
  s_c stepG_ret'
  s_stop
  refine LoneTo.done ⟨.returned (.int .i64 0), _, rfl, ⟨rfl, rfl⟩, rfl, rfl, rfl, rfl, _, Try.func16, by simp [results, Try.f16, Frame.at]⟩
set_option maxRecDepth 100000 in
theorem rg_put_full (w : World) (p c most : Nat) (l : List Value) (x : Value) (hb : w.heap[p]? = some (.cells #[.chan (some c), .int .i64 most, .bool false] 67 (0, 0))) (s r : Nat) (hc : w.heap[c]? = some (.chan most l.toArray false s r false)) (hr : most ≤ l.length) :
    Calls Try.prog 16 #[.pointer (some ⟨p, 0, none⟩), x] w fun e w' => e = .returned (.int .i64 17) ∧ w' = w := by
  have c0 := cell_blk hb 0
  have c2 := cell_blk hb 2
  simp only [List.getElem?_toArray, List.getElem?_cons_zero, List.getElem?_cons_succ] at c0 c2
  refine calls_of_loneTo fun cs => ?_
  have e : Frame.enter Try.prog 16 #[.pointer (some ⟨p, 0, none⟩), x] .normal = (base 16).at ⟨#[.pointer (some ⟨p, 0, none⟩), x, undef, undef, undef, undef, undef, undef, undef, undef, undef, undef, undef, undef, undef, undef, undef, undef, undef], []⟩ [.code (Try.f16.body.getD .skip)] := by
    simp [Frame.enter, Frame.at, Try.func16, base, Try.f16]
  rw [e]
  refine LoneTo.goes (n := 60) ?_
  simp only [Try.f16, Option.getD_some]
  s_c stepG_seq
  s_reg
  s_op
  s_c stepG_region_end
  s_c stepG_seq
  s_c stepG_seq
  s_reg
  s_op
  s_op
  s_c stepG_region_end
  s_cond false
  s_c stepG_skip
  s_c stepG_seq
  s_c stepG_seq
  s_reg
  s_op
  s_op
  s_op
  s_op
  s_c stepG_region_end
  s_cond false
  s_c stepG_skip
  s_c stepG_seq
  s_c stepG_seq
  s_reg
  s_op
  s_op
  s_op
  s_op
  s_c stepG_region_end
  s_reg
  s_op
  s_c stepG_region_end
  s_c stepG_seq
  s_reg
  s_stop
  refine LoneTo.step (step_lone_select_send_full (c := c) (v := x) (z' := .int .i64 0) (cap := most) (buf := l.toArray) (s := s) (r := r) (tm := false)
    (stepG_comm (cases := #[scase c x (.int .i64 0)]) (blocking := false) (shape := .select) (w' := w) rfl rfl (by decide) (by simp [go_sem, execOp, scase, Act.eval]))
    hc (by simpa using hr)) ?_
  rw [Frame.finish_at]
  walk_nrm
  refine LoneTo.goes (n := 60) ?_
  s_op
  s_op
  s_c stepG_region_end
  s_c stepG_block
  s_cond false
  s_c stepG_seq
  s_reg
  s_op
  s_c stepG_region_end
  s_c stepG_ret'
  s_stop
  refine LoneTo.done ⟨.returned (.int .i64 17), _, rfl, ⟨rfl, rfl⟩, rfl, rfl, rfl, rfl, _, Try.func16, by simp [results, Try.f16, Frame.at]⟩
end Go.Proofs.Ytndljmkdgakfcaa
