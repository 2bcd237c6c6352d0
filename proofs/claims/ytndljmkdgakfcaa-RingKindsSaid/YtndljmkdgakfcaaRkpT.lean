/- The ring at pair: Take. -/
import Derived.Test.YtndljmkdgakfcaaRkp
namespace Go.Proofs.Ytndljmkdgakfcaa
open Go.Conc Go.RowKit

theorem pair_size : (Try.prog.info? 49).map (·.size) = some (#[Value.int .i64 0, Value.int .i64 0] : Array Value).size := by kernel_rfl

set_option maxRecDepth 100000 in
theorem kp_take_buf (w : World) (n : Int) (s : ByteArray) (l : List Value) (shut : Bool) (p c most : Nat) (hb0 : w.heap[p]? = some (.cells #[.chan (some c), .int .i64 most, .bool shut] 71 (0, 0))) (u r : Nat) (hc0 : w.heap[c]? = some (.chan most (.agg #[.int .i64 n, .string s] :: l).toArray shut u r false)) :
    Calls Try.prog 30 #[.pointer (some ⟨p, 0, none⟩)] w fun e w' => e = .returned (.tuple #[.agg #[.int .i64 n, .string s], .int .i64 0]) ∧ w'.heap[c]? = some (.chan most l.toArray shut u (r + 1) false) ∧ Fr (fun k => k = c) w w' := by
  have hb : ((w.alloc (.cells #[.int .i64 0, .string ⟨#[]⟩] 49)).alloc (.cells #[.int .i64 0, .string ⟨#[]⟩] 49)).heap[p]? = some (.cells #[.chan (some c), .int .i64 most, .bool shut] 71 (0, 0)) := (Below.heap_alloc _ _ _ (by simp; have := lt_of_block hb0; omega)).trans ((Below.heap_alloc _ _ _ (lt_of_block hb0)).trans hb0)
  have hc : ((w.alloc (.cells #[.int .i64 0, .string ⟨#[]⟩] 49)).alloc (.cells #[.int .i64 0, .string ⟨#[]⟩] 49)).heap[c]? = some (.chan most (.agg #[.int .i64 n, .string s] :: l).toArray shut u r false) := (Below.heap_alloc _ _ _ (by simp; have := lt_of_block hc0; omega)).trans ((Below.heap_alloc _ _ _ (lt_of_block hc0)).trans hc0)
  have c0 := cell_blk hb 0
  simp only [List.getElem?_toArray, List.getElem?_cons_zero, List.getElem?_cons_succ] at c0
  refine calls_of_loneTo fun cs => ?_
  have e : Frame.enter Try.prog 30 #[.pointer (some ⟨p, 0, none⟩)] .normal = (base 30).at ⟨#[.pointer (some ⟨p, 0, none⟩), undef, undef, undef, undef, undef, undef, undef, undef, undef, undef, undef, undef, undef, undef, undef, undef, undef, undef, undef, undef, undef, undef, undef], []⟩ [.code (Try.f30.body.getD .skip)] := by
    simp [Frame.enter, Frame.at, Try.func30, base, Try.f30]
  rw [e]
  refine LoneTo.goes (n := 60) ?_
  simp only [Try.f30, Option.getD_some]
  s_c stepG_seq
  s_reg
  s_op
  s_op
  s_c stepG_region_end
  s_c stepG_seq
  s_reg
  s_op
  s_c stepG_region_end
  s_c stepG_seq
  s_c stepG_seq
  s_reg
  s_op
  s_op
  s_c stepG_region_end
  s_cond false
  s_c stepG_skip
  s_c stepG_seq
  s_reg
  s_op
  s_op
  s_op
  s_op
  s_c stepG_region_end
  s_c stepG_seq
  s_reg
  s_stop
  refine LoneTo.step (step_lone_select_recv_buf (c := c) (z := .agg #[.int .i64 0, .string ⟨#[]⟩]) (cap := most) (buf := (.agg #[.int .i64 n, .string s] :: l).toArray) (closed := shut) (s := u) (r := r) (tm := false)
    (stepG_comm (cases := #[rcase c (.agg #[.int .i64 0, .string ⟨#[]⟩])]) (blocking := false) (shape := .select) (w' := (w.alloc (.cells #[.int .i64 0, .string ⟨#[]⟩] 49)).alloc (.cells #[.int .i64 0, .string ⟨#[]⟩] 49)) rfl rfl (by decide) (by simp [go_sem, execOp, rcase, Act.eval]))
    hc (by simp)) ?_
  rw [Frame.finish_at]
  walk_nrm
  refine LoneTo.goes (n := 60) ?_
  s_op
  s_op
  s_c stepG_region_end
  s_c stepG_block
  s_cond true
  s_c stepG_seq
  s_reg
  s_op
  s_op
  s_op
  have hq2 := heap_new (((w.alloc (.cells #[.int .i64 0, .string ⟨#[]⟩] 49)).alloc (.cells #[.int .i64 0, .string ⟨#[]⟩] 49)).setChan c most l.toArray shut u (r + 1) false) (.cells #[.int .i64 0, .string ⟨#[]⟩] 49)
  have hF3 : Fr (fun k => k = c) w (((w.alloc (.cells #[.int .i64 0, .string ⟨#[]⟩] 49)).alloc (.cells #[.int .i64 0, .string ⟨#[]⟩] 49)).setChan c most l.toArray shut u (r + 1) false) := (((Fr.refl (fun k => k = c) w).alloc _).alloc _).trans (setChan_fr _ c most l.toArray shut u (r + 1) false)
  have hF4 := hF3.alloc (.cells #[.int .i64 0, .string ⟨#[]⟩] 49)
  have hcz : c < ((w.alloc (.cells #[.int .i64 0, .string ⟨#[]⟩] 49)).alloc (.cells #[.int .i64 0, .string ⟨#[]⟩] 49)).heap.size := lt_of_block hc
  have hc4 : ((((w.alloc (.cells #[.int .i64 0, .string ⟨#[]⟩] 49)).alloc (.cells #[.int .i64 0, .string ⟨#[]⟩] 49)).setChan c most l.toArray shut u (r + 1) false).alloc (.cells #[.int .i64 0, .string ⟨#[]⟩] 49)).heap[c]? = some (.chan most l.toArray shut u (r + 1) false) := (Below.heap_alloc _ _ _ (by rw [size_setChan]; exact hcz)).trans (heap_setChan _ c most l.toArray shut u (r + 1) false hcz)
  have hcw : c < w.heap.size := lt_of_block hc0
  have hq0 : ((((w.alloc (.cells #[.int .i64 0, .string ⟨#[]⟩] 49)).alloc (.cells #[.int .i64 0, .string ⟨#[]⟩] 49)).setChan c most l.toArray shut u (r + 1) false).alloc (.cells #[.int .i64 0, .string ⟨#[]⟩] 49)).heap[w.heap.size]? = some (.cells #[.int .i64 0, .string ⟨#[]⟩] 49 (0, 0)) := (Below.heap_alloc _ _ _ (by rw [size_setChan]; simp; omega)).trans (((setChan_fr _ c most l.toArray shut u (r + 1) false).block w.heap.size (by simp; omega) (by show ¬ w.heap.size = c; omega)).trans ((Below.heap_alloc _ _ _ (by simp)).trans (heap_new w _)))
  obtain ⟨q2, hq2e⟩ : ∃ q, (((w.alloc (.cells #[.int .i64 0, .string ⟨#[]⟩] 49)).alloc (.cells #[.int .i64 0, .string ⟨#[]⟩] 49)).setChan c most l.toArray shut u (r + 1) false).heap.size = q := ⟨_, rfl⟩
  have hq2n : w.heap.size < q2 := by rw [← hq2e, size_setChan]; simp; omega
  obtain ⟨W4, hW4⟩ : ∃ W, (((w.alloc (.cells #[.int .i64 0, .string ⟨#[]⟩] 49)).alloc (.cells #[.int .i64 0, .string ⟨#[]⟩] 49)).setChan c most l.toArray shut u (r + 1) false).alloc (.cells #[.int .i64 0, .string ⟨#[]⟩] 49) = W := ⟨_, rfl⟩
  rw [hq2e] at hq2 ⊢
  rw [hW4] at hq2 hF4 hc4 hq0 ⊢
  obtain ⟨q0, hq0e⟩ : ∃ q, w.heap.size = q := ⟨_, rfl⟩
  have HF4 := hid hF4
  have HQE := hid hq0e
  rw [hq0e] at hq0 hq2n hcw ⊢
  have y0 := cell_blk hq2 0
  have y1 := cell_blk hq2 1
  have z0 := cell_blk hq0 0
  have z1 := cell_blk hq0 1
  have fy0 := free_blk hq2 0
  have fy1 := free_blk hq2 1
  have fz0 := free_blk hq0 0
  have fz1 := free_blk hq0 1
  simp only [List.getElem?_toArray, List.getElem?_cons_zero, List.getElem?_cons_succ] at y0 y1 z0 z1
  have hne : q2 ≠ q0 := by omega
  have hne' : q0 ≠ q2 := by omega
  clear hq2e hW4 hq0e hF3 hF4 hc hb c0 hb0 hc0 e hcz
  s_op
  s_op
  s_c stepG_region_end
  s_c stepG_seq
  s_c stepG_seq
  s_reg
  s_op
  s_op
  s_c stepG_region_end
  s_cond false
  s_c stepG_skip
  s_c stepG_seq
  s_reg
  s_op
  s_op
  s_op
  s_c stepG_region_end
  s_c stepG_ret'
  s_stop
  refine LoneTo.done ⟨.returned (.tuple #[.agg #[.int .i64 n, .string s], .int .i64 0]), _, rfl, ⟨rfl, ?_, ?_⟩, rfl, rfl, rfl, rfl, _, Try.func30, ?_⟩
  · rw [heap_setCell_other _ _ _ _ (by show c ≠ q0; omega), heap_setCell_other _ _ _ _ (by show c ≠ q0; omega), heap_setCell_other _ _ _ _ (by show c ≠ q2; omega), heap_setCell_other _ _ _ _ (by show c ≠ q2; omega)]
    exact hc4
  · exact (((HF4.out.setCell (p := ⟨q2, 0, none⟩) (fun h => absurd h (by have := HQE.out; show ¬ q2 < w.heap.size; omega)) _).setCell (p := ⟨q2, 1, none⟩) (fun h => absurd h (by have := HQE.out; show ¬ q2 < w.heap.size; omega)) _).setCell (p := ⟨q0, 0, none⟩) (fun h => absurd h (by have := HQE.out; show ¬ q0 < w.heap.size; omega)) _).setCell (p := ⟨q0, 1, none⟩) (fun h => absurd h (by have := HQE.out; show ¬ q0 < w.heap.size; omega)) _
  · have hS : ((((W4.setCell ⟨q2, 0, none⟩ (.int .i64 n)).setCell ⟨q2, 1, none⟩ (.string s)).setCell ⟨q0, 0, none⟩ (.int .i64 n)).setCell ⟨q0, 1, none⟩ (.string s)).heap[q0]? = some (.cells #[.int .i64 n, .string s] 49 (0, 0)) :=
      set_blk (set_blk ((heap_setCell_other _ ⟨q2, 1, none⟩ q0 _ hne').trans ((heap_setCell_other _ ⟨q2, 0, none⟩ q0 _ hne').trans hq0)) 0 (.int .i64 n)) 1 (.string s)
    have hrow := run_loadVar_row _ q0 49 49 #[.int .i64 n, .string s] (0, 0) _ hS Try.underlying49 rfl pair_size
    simp [results, Try.f30, Frame.at, asAddr, hrow]
set_option maxRecDepth 100000 in
theorem kp_take_none (w : World) (p c most : Nat) (hb0 : w.heap[p]? = some (.cells #[.chan (some c), .int .i64 most, .bool false] 71 (0, 0))) (u r : Nat) (hc0 : w.heap[c]? = some (.chan most #[] false u r false)) :
    Calls Try.prog 30 #[.pointer (some ⟨p, 0, none⟩)] w fun e w' => e = .returned (.tuple #[.agg #[.int .i64 0, .string ⟨#[]⟩], .int .i64 14]) ∧ w'.heap[c]? = some (.chan most #[] false u r false) ∧ Fr No w w' := by
  have hb : ((w.alloc (.cells #[.int .i64 0, .string ⟨#[]⟩] 49)).alloc (.cells #[.int .i64 0, .string ⟨#[]⟩] 49)).heap[p]? = some (.cells #[.chan (some c), .int .i64 most, .bool false] 71 (0, 0)) := (Below.heap_alloc _ _ _ (by simp; have := lt_of_block hb0; omega)).trans ((Below.heap_alloc _ _ _ (lt_of_block hb0)).trans hb0)
  have hc : ((w.alloc (.cells #[.int .i64 0, .string ⟨#[]⟩] 49)).alloc (.cells #[.int .i64 0, .string ⟨#[]⟩] 49)).heap[c]? = some (.chan most #[] false u r false) := (Below.heap_alloc _ _ _ (by simp; have := lt_of_block hc0; omega)).trans ((Below.heap_alloc _ _ _ (lt_of_block hc0)).trans hc0)
  have hq1 := heap_new (w.alloc (.cells #[.int .i64 0, .string ⟨#[]⟩] 49)) (.cells #[.int .i64 0, .string ⟨#[]⟩] 49)
  have hq0 : ((w.alloc (.cells #[.int .i64 0, .string ⟨#[]⟩] 49)).alloc (.cells #[.int .i64 0, .string ⟨#[]⟩] 49)).heap[w.heap.size]? = some (.cells #[.int .i64 0, .string ⟨#[]⟩] 49 (0, 0)) := (Below.heap_alloc _ _ _ (by simp)).trans (heap_new w _)
  have HF := hid (((Fr.refl No w).alloc (.cells #[.int .i64 0, .string ⟨#[]⟩] 49)).alloc (.cells #[.int .i64 0, .string ⟨#[]⟩] 49))
  rw [World.size_alloc] at hq1
  have c0 := cell_blk hb 0
  have y0 := cell_blk hq1 0
  have y1 := cell_blk hq1 1
  have z0 := cell_blk hq0 0
  have z1 := cell_blk hq0 1
  have fz0 := free_blk hq0 0
  have fz1 := free_blk hq0 1
  simp only [List.getElem?_toArray, List.getElem?_cons_zero, List.getElem?_cons_succ] at c0 y0 y1 z0 z1
  have hcw : c < w.heap.size := lt_of_block hc0
  refine calls_of_loneTo fun cs => ?_
  have e : Frame.enter Try.prog 30 #[.pointer (some ⟨p, 0, none⟩)] .normal = (base 30).at ⟨#[.pointer (some ⟨p, 0, none⟩), undef, undef, undef, undef, undef, undef, undef, undef, undef, undef, undef, undef, undef, undef, undef, undef, undef, undef, undef, undef, undef, undef, undef], []⟩ [.code (Try.f30.body.getD .skip)] := by
    simp [Frame.enter, Frame.at, Try.func30, base, Try.f30]
  rw [e]
  refine LoneTo.goes (n := 60) ?_
  simp only [Try.f30, Option.getD_some]
  s_c stepG_seq
  s_reg
  s_op
  s_op
  s_c stepG_region_end
  s_c stepG_seq
  s_reg
  s_op
  s_c stepG_region_end
  s_c stepG_seq
  s_c stepG_seq
  s_reg
  s_op
  s_op
  s_c stepG_region_end
  s_cond false
  s_c stepG_skip
  s_c stepG_seq
  s_reg
  s_op
  s_op
  s_op
  s_op
  s_c stepG_region_end
  s_c stepG_seq
  s_reg
  s_stop
  refine LoneTo.step (step_lone_select_default (c := c) (z := .agg #[.int .i64 0, .string ⟨#[]⟩]) (cap := most) (s := u) (r := r) (tm := false)
    (stepG_comm (cases := #[rcase c (.agg #[.int .i64 0, .string ⟨#[]⟩])]) (blocking := false) (shape := .select) (w' := (w.alloc (.cells #[.int .i64 0, .string ⟨#[]⟩] 49)).alloc (.cells #[.int .i64 0, .string ⟨#[]⟩] 49)) rfl rfl (by decide) (by simp [go_sem, execOp, rcase, Act.eval]))
    hc) ?_
  rw [Frame.finish_at]
  walk_nrm
  refine LoneTo.goes (n := 60) ?_
  s_op
  s_op
  s_c stepG_region_end
  s_c stepG_block
  s_cond false
  s_c stepG_seq
  s_reg
  s_op
  s_op
  s_op
  s_c stepG_region_end
  s_c stepG_ret'
  s_stop
  refine LoneTo.done ⟨.returned (.tuple #[.agg #[.int .i64 0, .string ⟨#[]⟩], .int .i64 14]), _, rfl, ⟨rfl, ?_, ?_⟩, rfl, rfl, rfl, rfl, _, Try.func30, ?_⟩
  · exact hc
  · exact HF.out
  · have hrow := run_loadVar_row _ w.heap.size 49 49 #[.int .i64 0, .string ⟨#[]⟩] (0, 0) _ hq0 Try.underlying49 rfl pair_size
    simp [results, Try.f30, Frame.at, asAddr, hrow]
end Go.Proofs.Ytndljmkdgakfcaa
