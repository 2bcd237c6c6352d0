/- The arguments of the laws of layer 4. -/
import Derived.Test.YtopheimplclfcaaDoorFdParts
namespace Go.Proofs.YtopheimplclfcaaDoor
open Go.ChangeShapes Go.WideShapes Go.ChangeAt Go.RowKit

theorem open_i2s {H : Type} {enc : TypeId × Value → H} {W : World} {base : Nat} {v : Value} {d : DataW H} {ps : List MemPlace}
    (hval : Value.okWide Tryd.prog W .any base 22 v) (h : DataW.Trod enc Tryd.prog W 0 (fun _ => true) true 22 v d ps) : ∃ r : SRow, v = r.v ∧ r.Ok W (.arr 2 (.int .i64)) :=
  open_row Tryd.underlying22 is_i2 (by decide) hval h
def pairV (x : Int × Int) : List Value := [.int .i64 x.1, .int .i64 x.2]
abbrev Pairs (w : World) (a : Option Addr) (xs : List (Int × Int)) : Prop := Elems pairV 2 w a xs
theorem pairs_of {w : World} {r : SRow} (h : r.Ok w (.arr 2 (.int .i64))) : ∃ xs : List (Int × Int), r.v = .slice r.a xs.length r.cap ∧ Pairs w r.a xs ∧ xs.length ≤ maxLen := by
  obtain ⟨xs, h1, h2, _⟩ := elems_of (P := fun _ : Int × Int => True) (f := pairV) h (fun cs hc => by obtain ⟨a, b, rfl, _⟩ := ok_pair hc; exact ⟨(a, b), rfl, trivial⟩)
  refine ⟨xs, h1, h2, ?_⟩
  have hl : r.ls.length = xs.length := by injection h1
  rw [← hl]; exact Nat.le_trans h.len h.max
theorem Elems.pair {w : World} {a : Option Addr} {xs : List (Int × Int)} (h : Pairs w a xs) (i : Nat) (hi : i < xs.length) :
    ∃ b o, a = some ⟨b, o, none⟩ ∧ w.cell? ⟨b, o + i * 2, none⟩ = some (.int .i64 xs[i].1) ∧ w.cell? ⟨b, o + i * 2 + 1, none⟩ = some (.int .i64 xs[i].2) := by
  rcases h with h | ⟨b, o, e, hb, hc⟩
  · subst h; simp at hi
  · exact ⟨b, o, e, hc i 0 hi (by omega), hc i 1 hi (by omega)⟩
theorem is_blk : Is Tryd.prog 33 (.arr 64 (.int .u8)) := .arr Tryd.underlying33 (by kernel_rfl) (.int Tryd.underlying5 (by kernel_rfl))
theorem open_blk {H : Type} {enc : TypeId × Value → H} {W : World} {base : Nat} {v : Value} {d : DataW H} {ps : List MemPlace}
    (hval : Value.okWide Tryd.prog W .any base 33 v) (h : DataW.Trod enc Tryd.prog W 0 (fun _ => true) true 33 v d ps) : ∃ bs : List Nat, v = .agg (blkA bs) ∧ bs.length = 64 ∧ ∀ x ∈ bs, x < 256 := by
  obtain ⟨cs, rfl, hok⟩ := open_sh is_blk (by rw [Tryd.underlying33]) hval h
  obtain ⟨bs, rfl, hl, hlt⟩ := ok_bytes hok
  exact ⟨bs, rfl, hl, hlt⟩
/-- a sector, and how it is read -/
structure Three where
  bs : List Nat
  r : SRow
def Three.v (x : Three) : Value := .agg (x.bs.map byte ++ [x.r.v]).toArray
structure Three.Ok (x : Three) (w : World) : Prop where
  len : x.bs.length = 64
  lt : ∀ y ∈ x.bs, y < 256
  row : x.r.Ok w (.int .i64)
theorem is_int : Is Tryd.prog 3 (.int .i64) := .int Tryd.underlying3 (by kernel_rfl)
theorem three_fields : ∃ f0 f1 : Field, Tryd.prog.underlying 43 = some (.struct #[f0, f1]) ∧ f0.offset = 0 ∧ f0.type = 33 ∧ f1.offset = 64 ∧ f1.type = 41 := ⟨_, _, Tryd.underlying43, rfl, rfl, rfl, rfl⟩
theorem cells_blk : Tryd.prog.cellsOf 33 = 64 := by kernel_rfl
theorem cells_ints : Tryd.prog.cellsOf 41 = 1 := by kernel_rfl
theorem cells_three : Tryd.prog.cellsOf 43 = 65 := by kernel_rfl
theorem open_three {H : Type} {enc : TypeId × Value → H} {W : World} {base : Nat} {v : Value} {d : DataW H} {ps : List MemPlace}
    (hval : Value.okWide Tryd.prog W .any base 43 v) (h : DataW.Trod enc Tryd.prog W 0 (fun _ => true) true 43 v d ps) : ∃ x : Three, v = x.v ∧ x.Ok W := by
  obtain ⟨f0, f1, hu, o0, t0, o1, t1⟩ := three_fields
  have hv : ∃ cs : Array Value, v = .agg cs := by
    unfold Value.okWide at hval; rw [hu] at hval; exact ⟨_, hval.choose_spec.1⟩
  obtain ⟨cs, rfl⟩ := hv
  obtain ⟨fuel, hf⟩ := h
  obtain ⟨xs, m, _, _, hl, hn, hel⟩ := DataW.trod_struct hu hf
  replace hn : xs.length = 2 := hn
  obtain ⟨y0, hy0⟩ := some_of (l := xs) (i := 0) (by omega)
  obtain ⟨y1, hy1⟩ := some_of (l := xs) (i := 1) (by omega)
  have e0 := hel 0 f0 rfl
  have e1 := hel 1 f1 rfl
  rw [hy0, o0, t0, cells_blk] at e0
  rw [hy1, o1, t1, cells_ints] at e1
  obtain ⟨bs, hb, hbl, hblt⟩ := ok_bytes (is_blk.open e0)
  obtain ⟨r, hr, hrok⟩ := open_row_cells Tryd.underlying41 is_int (by decide) e1
  refine ⟨⟨bs, r⟩, ?_, ⟨hbl, hblt, hrok⟩⟩
  have hp := part2 (Value.cells (.agg cs)).toList 64 1 (by rw [hl, cells_three])
  rw [hr] at hp
  rw [List.drop_zero] at hb
  rw [hb] at hp
  show Value.agg cs = .agg (bs.map byte ++ [r.v]).toArray
  rw [← hp]; simp [Value.cells]
theorem introw_of {w : World} {r : SRow} (h : r.Ok w (.int .i64)) : ∃ xs : List Int, r.v = .slice r.a xs.length r.cap ∧ Row w r.a (xs.map (.int .i64)) ∧ xs.length ≤ maxLen := by
  obtain ⟨xs, h1, h2, _⟩ := elems_of (P := fun _ : Int => True) (f := fun n : Int => [Value.int .i64 n]) h (fun cs hc => by obtain ⟨n, rfl, _⟩ := hc; exact ⟨n, rfl, trivial⟩)
  have hl : r.ls.length = xs.length := by injection h1
  refine ⟨xs, h1, ?_, by rw [← hl]; exact Nat.le_trans h.len h.max⟩
  rcases h2 with h2 | ⟨b, o, e, hb, hc⟩
  · subst h2; exact .inl rfl
  · refine .inr ⟨b, o, e, hb, fun i hi => ?_⟩
    have hi' : i < xs.length := by simpa using hi
    have := hc i 0 hi' (by decide)
    have hsz : (Sh.int .i64).size = 1 := rfl
    rw [hsz, Nat.mul_one, Nat.add_zero] at this
    rw [this]
    simp [List.getD_eq_getElem?_getD, hi']
end Go.Proofs.YtopheimplclfcaaDoor
