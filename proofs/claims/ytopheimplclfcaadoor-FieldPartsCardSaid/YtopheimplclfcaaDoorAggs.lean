/- Arguments that are aggregates of plain data, by value. No program. -/
import Derived.Test.YtopheimplclfcaaDoorElems
namespace Go.Proofs.YtopheimplclfcaaDoor
open Go.ChangeShapes Go.WideShapes Go.ChangeAt Go.RowKit

theorem open_sh {H : Type} {enc : TypeId × Value → H} {P : Program} {W : World} {b0 : Nat} {t : TypeId} {s : Sh} {v : Value} {d : DataW H} {ps : List MemPlace} (hI : Is P t s)
    (ha : (match P.underlying t with | some (.struct _) | some (.array _ _) => true | _ => false) = true) (hval : Value.okWide P W .any b0 t v) (h : DataW.Trod enc P W 0 (fun _ => true) true t v d ps) :
    ∃ cs : List Value, v = .agg cs.toArray ∧ s.Ok cs := by
  have hv : ∃ cs : Array Value, v = .agg cs := by
    unfold Value.okWide at hval
    cases hu : P.underlying t with
    | none => rw [hu] at ha; cases ha
    | some u =>
      rw [hu] at ha hval
      cases u <;> first | (cases ha; done) | exact ⟨_, hval.choose_spec.1⟩
  obtain ⟨cs, rfl⟩ := hv
  obtain ⟨fuel, hf⟩ := h
  exact ⟨cs.toList, by simp, hI.open hf⟩
theorem ok_list {f : Nat → Value} {s : Sh} (hs : s.size = 1) (hf : ∀ cs, s.Ok cs → ∃ n, cs = [f n]) : ∀ (m : Nat) (cs : List Value), (Sh.arr m s).Ok cs → ∃ xs : List Nat, cs = xs.map f ∧ xs.length = m
  | 0, cs, ⟨hl, _⟩ => ⟨[], by have : cs.length = 0 := by rw [hl]; omega
                              rw [List.eq_nil_of_length_eq_zero this]; rfl, rfl⟩
  | m + 1, cs, ⟨hl, he⟩ => by
    rw [hs] at hl he
    cases cs with
    | nil => simp at hl
    | cons c cs =>
      obtain ⟨n, hn⟩ := hf _ (he 0 (by omega))
      simp at hn
      obtain ⟨xs, hx, hlx⟩ := ok_list hs hf m cs ⟨by rw [hs]; simpa using hl, fun i hi => by
        have := he (i + 1) (by omega)
        rw [hs]
        simpa using this⟩
      exact ⟨n :: xs, by rw [hn, hx]; rfl, by simp [hlx]⟩
theorem ok_pair {k : IntKind} {cs : List Value} (h : (Sh.arr 2 (.int k)).Ok cs) : ∃ a b : Int, cs = [.int k a, .int k b] ∧ (Lit.int k a).wf = true ∧ (Lit.int k b).wf = true := by
  obtain ⟨hl, he⟩ := h
  obtain ⟨a, ha, wa⟩ := he 0 (by omega)
  obtain ⟨b, hb, wb⟩ := he 1 (by omega)
  refine ⟨a, b, ?_, wa, wb⟩
  match cs, hl with
  | [x, y], _ =>
    simp [Sh.size] at ha hb
    rw [ha, hb]
end Go.Proofs.YtopheimplclfcaaDoor
