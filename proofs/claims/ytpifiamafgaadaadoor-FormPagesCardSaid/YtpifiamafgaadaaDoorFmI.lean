/- forms: which pages may be. -/
import Derived.Test.YtpifiamafgaadaaDoorFmH
import Derived.Laws.StructEq
namespace Go.Proofs.YtpifiamafgaadaaDoor
open Go.RowKit Go.Shelf
def entV (e : EntI) : List Value := [.int .i64 e.b, .int .i64 e.s, .bool e.d, .int .i64 e.u]
def eqE (x y : EntI) : Bool := x.b == y.b && (x.s == y.s && (x.d == y.d && x.u == y.u))
def ent0 : EntI := ⟨0, 0, false, 0⟩
theorem eqE_zero (x : EntI) : eqE x ent0 = entZ x := by
  obtain ⟨b, s, d, u⟩ := x
  cases d <;> (simp [eqE, ent0, entZ, Bool.and_assoc, BEq.beq]; try rfl)
theorem eqE_self (x : EntI) : eqE x x = true := by simp [eqE]
set_option maxRecDepth 100000 in
theorem ent_eq (x y : EntI) (d : Nat) (w : World) : (Op.equalIn (d + 1 + 1) 39 (.agg (entV x).toArray) (.agg (entV y).toArray)).run Tryd.prog w = .ok (eqE x y) w := by
  have u3 := Tryd.underlying3
  have u4 := Tryd.underlying4
  have hS : Tryd.prog.underlying 39 = some (.struct (Tryd.prog.fieldsOf 39)) := by kernel_rfl
  have hp : Tryd.prog.stoodInHeld 39 = false := by kernel_rfl
  rw [run_equalIn_agg w (d + 1) 39 _ _ hS hp]
  simp only [Program.fieldsOf, Tryd.underlying39, entV, eqE]
  obtain ⟨x1, x2, x3, x4⟩ := x
  obtain ⟨y1, y2, y3, y4⟩ := y
  dsimp only
  obtain ⟨r1, h1⟩ : ∃ r, (x1 == y1) = r := ⟨_, rfl⟩
  obtain ⟨r2, h2⟩ : ∃ r, (x2 == y2) = r := ⟨_, rfl⟩
  obtain ⟨r3, h3⟩ : ∃ r, (x3 == y3) = r := ⟨_, rfl⟩
  obtain ⟨r4, h4⟩ : ∃ r, (x4 == y4) = r := ⟨_, rfl⟩
  cases r1 <;> cases r2 <;> cases r3 <;> cases r4 <;> (simp only [h1, h2, h3, h4]; go_simp; try simp [h1, h2, h3, h4])
theorem ents_guard : Tryd.prog.eqGuardType Tryd.prog.depth 40 = false := by kernel_rfl
theorem part_ent (xs : Array Value) (off : Nat) (w : World) : (part 39 xs off).run Tryd.prog w = .ok (.agg (xs.extract off (off + 4))) w := by
  have hi : (Tryd.prog.info? 39).map (·.size) = some 4 := by kernel_rfl
  obtain ⟨i, hi, hs⟩ := Option.map_eq_some_iff.1 hi
  simp [part, isAgg, run_underlying Tryd.underlying39, sizeOf, typeInfo, hi, hs]
theorem eq_step (d : Nat) (xs ys : Array Value) (x y : EntI) (j : Nat) (is : List Nat) (w : World) (hx : xs.extract (j * 4) (j * 4 + 4) = (entV x).toArray) (hy : ys.extract (j * 4) (j * 4 + 4) = (entV y).toArray) :
    (Op.eqItems (d + 1 + 1) 39 4 xs ys (j :: is)).run Tryd.prog w = if eqE x y = true then (Op.eqItems (d + 1 + 1) 39 4 xs ys is).run Tryd.prog w else .ok false w := by
  simp only [Op.eqItems, Sem.run_bind, part_ent, Result.andThen_ok, hx, hy, ent_eq]
  cases eqE x y
  · rfl
  · rfl
def entsA (a b c d : EntI) : Array Value := (entV a ++ entV b ++ entV c ++ entV d).toArray
set_option maxRecDepth 100000 in
theorem ents_eq (a b c d a' b' c' d' : EntI) (w : World) : (Op.equalIn 10000 40 (.agg (entsA a b c d)) (.agg (entsA a' b' c' d'))).run Tryd.prog w = .ok (eqE a a' && (eqE b b' && (eqE c c' && eqE d d'))) w := by
  have hi : (Tryd.prog.info? 39).map (·.size) = some 4 := by kernel_rfl
  obtain ⟨i, hi, hs⟩ := Option.map_eq_some_iff.1 hi
  rw [show (10000 : Nat) = 9997 + 1 + 1 + 1 from rfl, run_equalIn_array w (9997 + 1 + 1) _ _ Tryd.underlying40 hi]
  show (Op.eqItems (9997 + 1 + 1) 39 _ (entsA a b c d) (entsA a' b' c' d') [0, 1, 2, 3]).run Tryd.prog w = _
  have e0 : ∀ a b c d : EntI, (entsA a b c d).extract (0 * 4) (0 * 4 + 4) = (entV a).toArray := fun _ _ _ _ => rfl
  have e1 : ∀ a b c d : EntI, (entsA a b c d).extract (1 * 4) (1 * 4 + 4) = (entV b).toArray := fun _ _ _ _ => rfl
  have e2 : ∀ a b c d : EntI, (entsA a b c d).extract (2 * 4) (2 * 4 + 4) = (entV c).toArray := fun _ _ _ _ => rfl
  have e3 : ∀ a b c d : EntI, (entsA a b c d).extract (3 * 4) (3 * 4 + 4) = (entV d).toArray := fun _ _ _ _ => rfl
  have hc : Tryd.prog.cellsOf 39 = 4 := by kernel_rfl
  rw [hc, eq_step _ _ _ _ _ _ _ _ (e0 a b c d) (e0 a' b' c' d'), eq_step _ _ _ _ _ _ _ _ (e1 a b c d) (e1 a' b' c' d'), eq_step _ _ _ _ _ _ _ _ (e2 a b c d) (e2 a' b' c' d'), eq_step _ _ _ _ _ _ _ _ (e3 a b c d) (e3 a' b' c' d')]
  have hn : (Op.eqItems (9997 + 1 + 1) 39 4 (entsA a b c d) (entsA a' b' c' d') []).run Tryd.prog w = .ok true w := rfl
  rw [hn]
  cases eqE a a' <;> cases eqE b b' <;> cases eqE c c' <;> cases eqE d d' <;> rfl
theorem ents_eql (a b c d a' b' c' d' : EntI) (w : World) : (binOp .eql 40 (.agg (entsA a b c d)) (.agg (entsA a' b' c' d'))).run Tryd.prog w = .ok (.bool (eqE a a' && (eqE b b' && (eqE c c' && eqE d d')))) w := by
  rw [run_eql_struct, ents_eq]
  rfl
end Go.Proofs.YtpifiamafgaadaaDoor
