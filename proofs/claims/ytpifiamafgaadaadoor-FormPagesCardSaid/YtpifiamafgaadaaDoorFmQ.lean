/- forms: whole loads -/
import Derived.Test.YtpifiamafgaadaaDoorFmR
namespace Go.Proofs.YtpifiamafgaadaaDoor
open Go.RowKit Go.Shelf
theorem yields_whole {ops : Array Oper} {P : Program} {S : World → Prop} {op : Oper} {a : Act} (hw : Region.wanted op (yielded ops a.tmps) = true) (ty : TypeId) (x : Operand) (ho : op.op = .load ty x)
    (g : Nat) (hx : a.eval x = .pointer (some ⟨g, 0, none⟩)) (t : TypeId) (cs : Array Value) (fr : Nat × Nat) (d : TypeDesc) (hS : ∀ w, S w → w.heap[g]? = some (.cells cs t fr))
    (hu : P.underlying ty = some d) (hd : (match d with | .struct _ | .array _ _ => true | _ => false) = true) (hi : (P.info? ty).map (·.size) = some cs.size) : YieldsIf P ops S op (.agg cs) a :=
  .inl ⟨hw, fun w hw' => exec_load_whole ty x ho g hx t cs fr d (hS w hw') hu hd hi⟩
theorem putN_len (K : Nat) (L : List NumI) (f : Bool) (h : (bytesN L).length ≤ 59) : (putN K L f).1.length = 64 := by
  unfold putN; split
  · exact sealB_len _ (pad_len _ (by simp only [List.length_cons]; omega))
  · rfl
end Go.Proofs.YtpifiamafgaadaaDoor
