/- '==' between two arrays of numbers. No program. -/
import Derived.Test.YtpifiamafgaadaaDoorRow
import Derived.ChangeKeysEq
import Derived.Laws.StructEq
namespace Go.Proofs.YtpifiamafgaadaaDoor
open Go.RowKit

section
variable {P : Program}
theorem part_int {e : TypeId} {k : IntKind} (he : P.underlying e = some (.int k)) {xs : Array Value} {off : Nat} {v : Value} (hx : xs[off]? = some v) (w : World) : (part e xs off).run P w = .ok v w := by
  simp [part, isAgg, run_underlying he, hx]
theorem eqItems_ints (d : Nat) {e : TypeId} {k : IntKind} (he : P.underlying e = some (.int k)) (a b : List Nat) (w : World) : ∀ (m j : Nat), j + m = a.length → j + m = b.length →
    (Op.eqItems (d + 1) e 1 (a.map fun x : Nat => Value.int k (x : Int)).toArray (b.map fun x : Nat => Value.int k (x : Int)).toArray (List.range' j m)).run P w = .ok (a.drop j == b.drop j) w
  | 0, j, h1, h2 => by
    rw [List.drop_eq_nil_of_le (by omega), List.drop_eq_nil_of_le (by omega)]
    simp [Op.eqItems]
  | m + 1, j, h1, h2 => by
    have ha : j < a.length := by omega
    have hb : j < b.length := by omega
    have p1 := part_int (P := P) he (xs := (a.map fun x : Nat => Value.int k (x : Int)).toArray) (off := j * 1) (v := .int k (a[j] : Int)) (by simp [ha]) w
    have p2 := part_int (P := P) he (xs := (b.map fun x : Nat => Value.int k (x : Int)).toArray) (off := j * 1) (v := .int k (b[j] : Int)) (by simp [hb]) w
    have ih := eqItems_ints d he a b w m (j + 1) (by omega) (by omega)
    rw [List.range'_succ, List.drop_eq_getElem_cons ha, List.drop_eq_getElem_cons hb, List.cons_beq_cons]
    simp only [Op.eqItems, Sem.run_bind, p1, p2, Result.andThen_ok, run_equalIn_int w d e k k _ _ he]
    by_cases h : a[j] = b[j]
    · rw [h]
      simp only [beq_self_eq_true, Bool.not_true, Bool.false_eq_true, if_false, ih, Bool.true_and]
    · have h' : (((a[j] : Nat) : Int) == ((b[j] : Nat) : Int)) = false := by simp; omega
      have h2 : (a[j] == b[j]) = false := by simp; exact h
      rw [h', h2]
      simp
theorem equalIn_ints (d : Nat) {t e : TypeId} {k : IntKind} {n : Nat} (ht : P.underlying t = some (.array n e)) (he : P.underlying e = some (.int k)) (hc : P.cellsOf e = 1) (a b : List Nat) (ha : a.length = n) (hb : b.length = n) (w : World) :
    (Op.equalIn (d + 1 + 1) t (.agg (a.map fun x : Nat => Value.int k (x : Int)).toArray) (.agg (b.map fun x : Nat => Value.int k (x : Int)).toArray)).run P w = .ok (a == b) w := by
  obtain ⟨i, hi⟩ : ∃ i, P.info? e = some i := by
    unfold Program.underlying at he
    cases hi : P.info? e with
    | none => simp [hi] at he
    | some i => exact ⟨i, rfl⟩
  rw [run_equalIn_array w (d + 1) _ _ ht hi, hc, List.range_eq_range']
  simpa using eqItems_ints d he a b w n 0 (by omega) (by omega)
theorem equal_ints {t e : TypeId} {k : IntKind} {n : Nat} (ht : P.underlying t = some (.array n e)) (he : P.underlying e = some (.int k)) (hc : P.cellsOf e = 1) (a b : List Nat) (ha : a.length = n) (hb : b.length = n) (w : World) :
    (Op.equalIn 10000 t (.agg (a.map fun x : Nat => Value.int k (x : Int)).toArray) (.agg (b.map fun x : Nat => Value.int k (x : Int)).toArray)).run P w = .ok (a == b) w := equalIn_ints 9998 ht he hc a b ha hb w
end
end Go.Proofs.YtpifiamafgaadaaDoor
