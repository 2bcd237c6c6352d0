/- From a law's walk to its row: the arguments read as they did, the result is true. -/
import Derived.Test.YtpifiamafgaadaaDoorRow
import Derived.Test.YtpifiamafgaadaaDoorRows
import Derived.OpenShut
import Derived.Deep.DeepHandedRow
import Derived.Lib.LaidTab
import Derived.Carry
namespace Go.Proofs.YtpifiamafgaadaaDoor
open Go.ChangeShapes Go.WideShapes Go.ChangeAt Go.RowKit

theorem own : ownKnob Tryd.prog.godebug = none := by kernel_rfl
theorem laidOut : laidOutB Tryd.prog = true := by kernel_rfl

theorem trodAll_below {H : Type} {enc : TypeId × Value → H} {P : Program} (hl : laidOutB P = true) {W W' : World} (hb : Below W.heap.size W W') :
    ∀ {ts : List TypeId} {vs : List Value} {ds : List (DataW H)} {ps : List MemPlace}, (ts.all fun t => P.readableRec t && decide (t < P.types.size)) = true → DataW.TrodAll enc P W 0 (fun _ => true) true ts vs ds ps →
      DataW.TrodAll enc P W' 0 (fun b => decide (b < W.heap.size)) true ts vs ds ps
  | [], [], [], _, _, h => h
  | t :: ts, v :: vs, d :: ds, _, hr, ⟨a, b, h1, h2, e⟩ => by
    simp only [List.all_cons, Bool.and_eq_true, decide_eq_true_eq] at hr
    have lt1 : ∀ x ∈ a, x.block < W.heap.size := by obtain ⟨m, hm⟩ := h1; exact DataW.trod_lt m _ _ _ hm
    exact ⟨a, b, Below.trod hl hr.1.1 hr.1.2 h1 hb lt1, trodAll_below hl hb hr.2 h2, e⟩

theorem post_true {P : Program} {F : Nat} {fn : Func} {spec : ChangeSpec} {tb : TypeId} (hl : laidOutB P = true) (hvars : spec.vars = []) (hres : fn.resultTypes = #[tb]) (hbool : P.underlying tb = some .bool)
    (hread : (fn.params.toList.all fun t => P.readableRec t && decide (t < P.types.size)) = true) {H : Type} {enc : TypeId × Value → H} {W : World} {args : Array Value} {ds gs : List (DataW H)} {before : List MemPlace}
    (hW : DataW.Whole enc P fn.params.toList spec.vars false W args.toList ds gs before) (hspec : spec.fn H (ds ++ gs) = { results := [.lit (.bool true)], args := ds })
    (walk : Calls P F args W fun e W' => e = .returned (.bool true) ∧ Fr No W W') :
    Calls P F args W fun e W' => ∃ v, e = .returned v ∧ spec.post enc P fn false true false false W args v W' := by
  have hW' := hW
  obtain ⟨p, q, hA, hV, rfl, hfz, hnd⟩ := hW
  refine walk.mono fun e W' ⟨he, hf⟩ => ?_
  subst he
  have bel := hf.below
  refine ⟨_, rfl, ds, gs, _, [], p, [], hW', ?_, ?_, ?_, bel.frame _, fun h => by cases h⟩
  · rw [hspec, hres]; exact trodAll_mk1 (shut_bool hbool _)
  · rw [hspec]; exact trodAll_below hl bel hread hA
  · rw [hspec, hvars]; rfl
end Go.Proofs.YtpifiamafgaadaaDoor
