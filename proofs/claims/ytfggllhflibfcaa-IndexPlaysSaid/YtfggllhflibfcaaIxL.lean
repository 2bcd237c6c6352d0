/- The laws of layer 9: their arguments. -/
import Derived.Test.YtfggllhflibfcaaIxI
import Derived.Test.YtfggllhflibfcaaAggs
namespace Go.Proofs.Ytfggllhflibfcaa
open Go.ChangeShapes Go.WideShapes Go.ChangeAt Go.RowKit

def op9Sh : Sh := .st4 (.int .i64) (.int .i64) (.int .i64) .bool
theorem is_op9 : Is Try.prog 35 op9Sh := .st4 Try.underlying35 (by kernel_rfl) rfl rfl rfl rfl (.int Try.underlying3 (by kernel_rfl)) (.int Try.underlying3 (by kernel_rfl)) (.int Try.underlying3 (by kernel_rfl)) (.bool Try.underlying4 (by kernel_rfl))
def opV9 (o : OpI) : List Value := [.int .i64 o.ask, .int .i64 o.blk, .int .i64 o.slot, .bool o.dirt]
theorem op9_of (cs : List Value) (h : op9Sh.Ok cs) : ∃ o : OpI, cs = opV9 o ∧ (Lit.int .i64 o.slot).wf = true := by
  obtain ⟨a, b, c, d, rfl, ⟨x, rfl, _⟩, ⟨y, rfl, _⟩, ⟨z, rfl, hz⟩, ⟨t, rfl⟩⟩ := h
  exact ⟨⟨x, y, z, t⟩, rfl, hz⟩
theorem open_ops9 {H : Type} {enc : TypeId × Value → H} {W : World} {base : Nat} {v : Value} {d : DataW H} {ps : List MemPlace}
    (hval : Value.okWide Try.prog W .any base 23 v) (h : DataW.Trod enc Try.prog W 0 (fun _ => true) true 23 v d ps) : ∃ r : SRow, v = r.v ∧ r.Ok W op9Sh :=
  open_row Try.underlying23 is_op9 (by decide) hval h
abbrev Ops9 (w : World) (a : Option Addr) (xs : List OpI) : Prop := Elems opV9 4 w a xs
theorem ops9_of {w : World} {r : SRow} (h : r.Ok w op9Sh) : ∃ xs : List OpI, r.v = .slice r.a xs.length r.cap ∧ Ops9 w r.a xs ∧ ∀ x ∈ xs, (Lit.int .i64 x.slot).wf = true :=
  elems_of (P := fun o : OpI => (Lit.int .i64 o.slot).wf = true) (f := opV9) h op9_of
theorem Elems.op9 {w : World} {a : Option Addr} {xs : List OpI} (h : Ops9 w a xs) (i : Nat) (hi : i < xs.length) :
    ∃ b o, a = some ⟨b, o, none⟩ ∧ b < w.heap.size ∧ w.cell? ⟨b, o + i * 4, none⟩ = some (.int .i64 xs[i].ask) ∧ w.cell? ⟨b, o + i * 4 + 1, none⟩ = some (.int .i64 xs[i].blk) ∧ w.cell? ⟨b, o + i * 4 + 2, none⟩ = some (.int .i64 xs[i].slot) ∧ w.cell? ⟨b, o + i * 4 + 3, none⟩ = some (.bool xs[i].dirt) := by
  rcases h with h | ⟨b, o, e, hb, hc⟩
  · subst h; simp at hi
  · exact ⟨b, o, e, hb, hc i 0 hi (by omega), hc i 1 hi (by omega), hc i 2 hi (by omega), hc i 3 hi (by omega)⟩
theorem open_op9 {H : Type} {enc : TypeId × Value → H} {W : World} {base : Nat} {v : Value} {d : DataW H} {ps : List MemPlace}
    (hval : Value.okWide Try.prog W .any base 35 v) (h : DataW.Trod enc Try.prog W 0 (fun _ => true) true 35 v d ps) : ∃ x : OpI, v = x.v ∧ (Lit.int .i64 x.slot).wf = true := by
  obtain ⟨cs, rfl, hok⟩ := open_sh is_op9 (by rw [Try.underlying35]) hval h
  obtain ⟨o, rfl, hw⟩ := op9_of cs hok
  exact ⟨o, rfl, hw⟩
def spSh : Sh := .st2 (.int .i64) (.int .i64)
theorem is_sp9 : Is Try.prog 25 spSh := .st2 Try.underlying25 (by kernel_rfl) rfl rfl (.int Try.underlying3 (by kernel_rfl)) (.int Try.underlying3 (by kernel_rfl))
def spV9 (x : Int × Int) : Value := .agg #[.int .i64 x.1, .int .i64 x.2]
theorem open_span9 {H : Type} {enc : TypeId × Value → H} {W : World} {base : Nat} {v : Value} {d : DataW H} {ps : List MemPlace}
    (hval : Value.okWide Try.prog W .any base 25 v) (h : DataW.Trod enc Try.prog W 0 (fun _ => true) true 25 v d ps) : ∃ x : Int × Int, v = spV9 x ∧ (Lit.int .i64 x.1).wf = true ∧ (Lit.int .i64 x.2).wf = true := by
  obtain ⟨cs, rfl, hok⟩ := open_sh is_sp9 (by rw [Try.underlying25]) hval h
  obtain ⟨a, b, rfl, ⟨x, rfl, hx⟩, ⟨y, rfl, hy⟩⟩ := hok
  exact ⟨(x, y), rfl, hx, hy⟩
theorem is_i2 : Is Try.prog 22 (.arr 2 (.int .i64)) := .arr Try.underlying22 (by kernel_rfl) (.int Try.underlying3 (by kernel_rfl))
def i2v (x : Int × Int) : Value := .agg #[.int .i64 x.1, .int .i64 x.2]
theorem open_i2 {H : Type} {enc : TypeId × Value → H} {W : World} {base : Nat} {v : Value} {d : DataW H} {ps : List MemPlace}
    (hval : Value.okWide Try.prog W .any base 22 v) (h : DataW.Trod enc Try.prog W 0 (fun _ => true) true 22 v d ps) : ∃ x : Int × Int, v = i2v x ∧ (Lit.int .i64 x.1).wf = true ∧ (Lit.int .i64 x.2).wf = true := by
  obtain ⟨cs, rfl, hok⟩ := open_sh is_i2 (by rw [Try.underlying22]) hval h
  obtain ⟨a, b, rfl, wa, wb⟩ := ok_pair hok
  exact ⟨(a, b), rfl, wa, wb⟩
end Go.Proofs.Ytfggllhflibfcaa
