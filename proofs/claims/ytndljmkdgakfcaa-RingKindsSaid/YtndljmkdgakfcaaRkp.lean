/- The ring at lavabo/lavabolaw02.pair: Put. -/
import Derived.Test.YtndljmkdgakfcaaRgOps
namespace Go.Proofs.Ytndljmkdgakfcaa
open Go.Conc Go.RowKit

set_option maxRecDepth 100000 in
theorem kp_put_send (w : World) (p c most : Nat) (l : List Value) (n : Int) (s : ByteArray) (hb0 : w.heap[p]? = some (.cells #[.chan (some c), .int .i64 most, .bool false] 71 (0, 0))) (u r : Nat) (hc0 : w.heap[c]? = some (.chan most l.toArray false u r false)) (hr : l.length < most) :
    Calls Try.prog 22 #[.pointer (some ⟨p, 0, none⟩), .agg #[.int .i64 n, .string s]] w fun e w' => e = .returned (.int .i64 0) ∧ w' = (w.alloc (.cells #[.int .i64 n, .string s] 49)).setChan c most (l.toArray.push (.agg #[.int .i64 n, .string s])) false (u + 1) r false := by
  have hb : (w.alloc (.cells #[.int .i64 n, .string s] 49)).heap[p]? = some (.cells #[.chan (some c), .int .i64 most, .bool false] 71 (0, 0)) := (Below.heap_alloc _ _ _ (lt_of_block hb0)).trans hb0
  have hc : (w.alloc (.cells #[.int .i64 n, .string s] 49)).heap[c]? = some (.chan most l.toArray false u r false) := (Below.heap_alloc _ _ _ (lt_of_block hc0)).trans hc0
  have hx := heap_new w (.cells #[.int .i64 n, .string s] 49)
  have c0 := cell_blk hb 0
  have c2 := cell_blk hb 2
  have x0 := cell_blk hx 0
  have x1 := cell_blk hx 1
  simp only [List.getElem?_toArray, List.getElem?_cons_zero, List.getElem?_cons_succ] at c0 c2 x0 x1
  refine calls_of_loneTo fun cs => ?_
  have e : Frame.enter Try.prog 22 #[.pointer (some ⟨p, 0, none⟩), .agg #[.int .i64 n, .string s]] .normal = (base 22).at ⟨#[.pointer (some ⟨p, 0, none⟩), .agg #[.int .i64 n, .string s], undef, undef, undef, undef, undef, undef, undef, undef, undef, undef, undef, undef, undef, undef, undef, undef, undef], []⟩ [.code (Try.f22.body.getD .skip)] := by
    simp [Frame.enter, Frame.at, Try.func22, base, Try.f22]
  rw [e]
  refine LoneTo.goes (n := 60) ?_
  simp only [Try.f22, Option.getD_some]
  s_c stepG_seq
  s_reg
  s_op
  s_op
  s_c stepG_region_end
  s_c stepG_seq
  s_c stepG_seq
  s_reg
  s_op
  s_op
  s_c stepG_region_end
  s_cond false
  s_c stepG_skip
  s_c stepG_seq
  s_c stepG_seq
  s_reg
  s_op
  s_op
  s_op
  s_op
  s_c stepG_region_end
  s_cond false
  s_c stepG_skip
  s_c stepG_seq
  s_c stepG_seq
  s_reg
  s_op
  s_op
  s_op
  s_op
  s_c stepG_region_end
  s_reg
  s_op
  s_c stepG_region_end
  s_c stepG_seq
  s_reg
  s_stop
  refine LoneTo.step (step_lone_select_send_room (c := c) (v := .agg #[.int .i64 n, .string s]) (z' := .agg #[.int .i64 0, .string ⟨#[]⟩]) (cap := most) (buf := l.toArray) (s := u) (r := r) (tm := false)
    (stepG_comm (cases := #[scase c (.agg #[.int .i64 n, .string s]) (.agg #[.int .i64 0, .string ⟨#[]⟩])]) (blocking := false) (shape := .select) (w' := w.alloc (.cells #[.int .i64 n, .string s] 49)) rfl rfl (by decide) (by simp [go_sem, execOp, scase, Act.eval]))
    hc (by simpa using hr)) ?_
  rw [Frame.finish_at]
  walk_nrm
  refine LoneTo.goes (n := 60) ?_
  s_op
  s_op
  s_c stepG_region_end
  s_c stepG_block
  s_cond true
  s_c stepG_seq
  s_reg
  s_op
  s_c stepG_region_end
  s_c stepG_ret'
  s_stop
  refine LoneTo.done ⟨.returned (.int .i64 0), _, rfl, ⟨rfl, rfl⟩, rfl, rfl, rfl, rfl, _, Try.func22, by simp [results, Try.f22, Frame.at]⟩
set_option maxRecDepth 100000 in
theorem kp_put_full (w : World) (p c most : Nat) (l : List Value) (n : Int) (s : ByteArray) (hb0 : w.heap[p]? = some (.cells #[.chan (some c), .int .i64 most, .bool false] 71 (0, 0))) (u r : Nat) (hc0 : w.heap[c]? = some (.chan most l.toArray false u r false)) (hr : most ≤ l.length) :
    Calls Try.prog 22 #[.pointer (some ⟨p, 0, none⟩), .agg #[.int .i64 n, .string s]] w fun e w' => e = .returned (.int .i64 17) ∧ w' = (w.alloc (.cells #[.int .i64 n, .string s] 49)) := by
  have hb : (w.alloc (.cells #[.int .i64 n, .string s] 49)).heap[p]? = some (.cells #[.chan (some c), .int .i64 most, .bool false] 71 (0, 0)) := (Below.heap_alloc _ _ _ (lt_of_block hb0)).trans hb0
  have hc : (w.alloc (.cells #[.int .i64 n, .string s] 49)).heap[c]? = some (.chan most l.toArray false u r false) := (Below.heap_alloc _ _ _ (lt_of_block hc0)).trans hc0
  have hx := heap_new w (.cells #[.int .i64 n, .string s] 49)
  have c0 := cell_blk hb 0
  have c2 := cell_blk hb 2
  have x0 := cell_blk hx 0
  have x1 := cell_blk hx 1
  simp only [List.getElem?_toArray, List.getElem?_cons_zero, List.getElem?_cons_succ] at c0 c2 x0 x1
  refine calls_of_loneTo fun cs => ?_
  have e : Frame.enter Try.prog 22 #[.pointer (some ⟨p, 0, none⟩), .agg #[.int .i64 n, .string s]] .normal = (base 22).at ⟨#[.pointer (some ⟨p, 0, none⟩), .agg #[.int .i64 n, .string s], undef, undef, undef, undef, undef, undef, undef, undef, undef, undef, undef, undef, undef, undef, undef, undef, undef], []⟩ [.code (Try.f22.body.getD .skip)] := by
    simp [Frame.enter, Frame.at, Try.func22, base, Try.f22]
  rw [e]
  refine LoneTo.goes (n := 60) ?_
  simp only [Try.f22, Option.getD_some]
  s_c stepG_seq
  s_reg
  s_op
  s_op
  s_c stepG_region_end
  s_c stepG_seq
  s_c stepG_seq
  s_reg
  s_op
  s_op
  s_c stepG_region_end
  s_cond false
  s_c stepG_skip
  s_c stepG_seq
  s_c stepG_seq
  s_reg
  s_op
  s_op
  s_op
  s_op
  s_c stepG_region_end
  s_cond false
  s_c stepG_skip
  s_c stepG_seq
  s_c stepG_seq
  s_reg
  s_op
  s_op
  s_op
  s_op
  s_c stepG_region_end
  s_reg
  s_op
  s_c stepG_region_end
  s_c stepG_seq
  s_reg
  s_stop
  refine LoneTo.step (step_lone_select_send_full (c := c) (v := .agg #[.int .i64 n, .string s]) (z' := .agg #[.int .i64 0, .string ⟨#[]⟩]) (cap := most) (buf := l.toArray) (s := u) (r := r) (tm := false)
    (stepG_comm (cases := #[scase c (.agg #[.int .i64 n, .string s]) (.agg #[.int .i64 0, .string ⟨#[]⟩])]) (blocking := false) (shape := .select) (w' := w.alloc (.cells #[.int .i64 n, .string s] 49)) rfl rfl (by decide) (by simp [go_sem, execOp, scase, Act.eval]))
    hc (by simpa using hr)) ?_
  rw [Frame.finish_at]
  walk_nrm
  refine LoneTo.goes (n := 60) ?_
  s_op
  s_op
  s_c stepG_region_end
  s_c stepG_block
  s_cond false
  s_c stepG_seq
  s_reg
  s_op
  s_c stepG_region_end
  s_c stepG_ret'
  s_stop
  refine LoneTo.done ⟨.returned (.int .i64 17), _, rfl, ⟨rfl, rfl⟩, rfl, rfl, rfl, rfl, _, Try.func22, by simp [results, Try.f22, Frame.at]⟩
end Go.Proofs.Ytndljmkdgakfcaa
