/- A struct built out of parts that are no literals. No program. -/
import Derived.Test.YtpifiamafgaadaaDoorBlk
import Derived.Laws.Tables
namespace Go.Proofs.YtpifiamafgaadaaDoor
open Go.RowKit

theorem fold_set_list : ∀ (v : List Value) (k off : Nat) (cs : Array Value), off + k + v.length ≤ cs.size →
    ((v.zipIdx k).foldl (fun (cs : Array Value) (p : Value × Nat) => cs.setIfInBounds (off + p.2) p.1) cs).toList = cs.toList.take (off + k) ++ v ++ cs.toList.drop (off + k + v.length)
  | [], k, off, cs, h => by simp
  | x :: v, k, off, cs, h => by
    rw [List.zipIdx_cons, List.foldl_cons, fold_set_list v (k + 1) off _ (by simp at h ⊢; omega)]
    have hk : off + k < cs.toList.length := by simp at h ⊢; omega
    simp only [Array.toList_setIfInBounds]
    rw [show off + (k + 1) = (off + k) + 1 from rfl, List.take_succ_eq_append_getElem (by simpa using hk), List.take_set_of_le (Nat.le_refl _), List.getElem_set_self, List.drop_set_of_lt (by omega)]
    simp
    omega
theorem fold_set (v : Array Value) (off : Nat) (cs : Array Value) (h : off + v.size ≤ cs.size) :
    v.zipIdx.foldl (fun (cs : Array Value) (p : Value × Nat) => cs.setIfInBounds (off + p.2) p.1) cs = (cs.toList.take off ++ v.toList ++ cs.toList.drop (off + v.size)).toArray := by
  apply Array.ext'
  have := fold_set_list v.toList 0 off cs (by simpa using h)
  rw [← Array.foldl_toList, Array.toList_zipIdx]
  simpa using this
/-- one field's value alone -/
theorem built_one {P : Program} {t : TypeId} {it : TypeInfo} {fields : Array Field} {z : Value} {places : List (Nat × Nat)} (hit : P.info? t = some it) (hz : it.zero = some z) (hu : P.underlying t = some (.struct fields))
    (hp : fields.toList.mapM (fun f => (P.info? f.type).map fun i => (f.offset, i.size)) = some places) (i off : Nat) (v : Value) (h0 : places[i]? = some (off, v.cells.size)) (hb : off + v.cells.size ≤ z.cells.size) :
    P.built t [(i, v)] = some (z.cells.toList.take off ++ v.cells.toList ++ z.cells.toList.drop (off + v.cells.size)).toArray := by
  unfold Program.built
  simp only [hit, hu, hz, hp, Instr.fill, List.getElem?_toArray, h0]
  rw [if_neg (by simp; omega), fold_set _ _ _ hb]
end Go.Proofs.YtpifiamafgaadaaDoor
