/- forms: the arguments of the laws -/
import Derived.Test.YtpifiamafgaadaaDoorFmMath
import Derived.Test.YtpifiamafgaadaaDoorAggs
namespace Go.Proofs.YtpifiamafgaadaaDoor
open Go.RowKit
open Go.ChangeShapes Go.WideShapes Go.ChangeAt
structure SupI where
  i : Int
  b : Int
  s : Int
  j : Int
  p : Int
  g : Int
  t : Int
def SupI.v (x : SupI) : Value := .agg #[.int .i64 x.i, .int .i64 x.b, .int .i64 x.s, .int .i64 x.j, .int .i64 x.p, .int .i64 x.g, .int .i64 x.t]
structure RecI where
  q : Int
  l : Int
  o : Int
  b : Int
  s : Int
  d : Bool
  u : Int
def RecI.v (x : RecI) : Value := .agg #[.int .i64 x.q, .int .i64 x.l, .int .i64 x.o, .int .i64 x.b, .int .i64 x.s, .bool x.d, .int .i64 x.u]
def entC (e : EntI) : List Value := [.int .i64 e.b, .int .i64 e.s, .bool e.d, .int .i64 e.u]
structure PagI where
  q : Int
  n : Int
  o : Int
  m : Int
  a : EntI
  b : EntI
  c : EntI
  d : EntI
def PagI.v (x : PagI) : Value := .agg (([.int .i64 x.q, .int .i64 x.n, .int .i64 x.o, .int .i64 x.m] : List Value) ++ (entC x.a ++ entC x.b ++ entC x.c ++ entC x.d).toArray.toList).toArray
theorem open_agg {H : Type} {enc : TypeId × Value → H} {P : Program} {W : World} {b0 : Nat} {t : TypeId} {v : Value} {d : DataW H} {ps : List MemPlace}
    (ha : (match P.underlying t with | some (.struct _) | some (.array _ _) => true | _ => false) = true) (hval : Value.okWide P W .any b0 t v) (h : DataW.Trod enc P W 0 (fun _ => true) true t v d ps) :
    ∃ (cs : List Value) (fuel : Nat), v = .agg cs.toArray ∧ DataW.trod enc P W 0 (fun _ => true) true fuel t cs = some (d, ps) := by
  have hv : ∃ cs : Array Value, v = .agg cs := by
    unfold Value.okWide at hval
    cases hu : P.underlying t with
    | none => rw [hu] at ha; cases ha
    | some u =>
      rw [hu] at ha hval
      cases u <;> first | (cases ha; done) | exact ⟨_, hval.choose_spec.1⟩
  obtain ⟨cs, rfl⟩ := hv
  obtain ⟨fuel, hf⟩ := h
  exact ⟨cs.toList, fuel, by simp, hf⟩
theorem flat_field {H : Type} {enc : TypeId × Value → H} {P : Program} {w : World} {base : Nat} {spare : Nat → Bool} {held : Bool} {t : TypeId} {fs : Array Field} {fuel : Nat} {cs : List Value} {x : DataW H × List MemPlace}
    (ht : P.underlying t = some (.struct fs)) (hx : DataW.trod enc P w base spare held fuel t cs = some x) (i : Nat) (f : Field) (hi : fs[i]? = some f) {s : Sh} (hs : Is P f.type s) (o : Nat) (ho : f.offset = o) : s.Ok ((cs.drop o).take s.size) := by
  obtain ⟨xs, m, _, _, hl, hn, hel⟩ := DataW.trod_struct ht hx
  have hif : i < fs.size := (Array.getElem?_eq_some_iff.1 hi).1
  obtain ⟨y, hy⟩ := some_of (l := xs) (i := i) (by rw [hn]; exact hif)
  have e := hel i f hi
  rw [hy, ho, hs.cells] at e
  exact hs.open e
theorem flat_size {H : Type} {enc : TypeId × Value → H} {P : Program} {w : World} {base : Nat} {spare : Nat → Bool} {held : Bool} {t : TypeId} {fs : Array Field} {fuel : Nat} {cs : List Value} {x : DataW H × List MemPlace}
    (ht : P.underlying t = some (.struct fs)) (hx : DataW.trod enc P w base spare held fuel t cs = some x) : cs.length = P.cellsOf t := by
  obtain ⟨xs, m, _, _, hl, hn, hel⟩ := DataW.trod_struct ht hx
  exact hl
theorem is_int6 : Is Tryd.prog 3 (.int .i64) := .int Tryd.underlying3 (by kernel_rfl)
theorem is_bool6 : Is Tryd.prog 4 .bool := .bool Tryd.underlying4 (by kernel_rfl)
theorem seven {cs : List Value} (h : cs.length = 7) : ∃ a b c d e f g, cs = [a, b, c, d, e, f, g] := by
  match cs, h with
  | [a, b, c, d, e, f, g], _ => exact ⟨a, b, c, d, e, f, g, rfl⟩
set_option maxRecDepth 100000 in
theorem open_super {H : Type} {enc : TypeId × Value → H} {W : World} {base : Nat} {v : Value} {d : DataW H} {ps : List MemPlace}
    (hval : Value.okWide Tryd.prog W .any base 23 v) (h : DataW.Trod enc Tryd.prog W 0 (fun _ => true) true 23 v d ps) : ∃ x : SupI, v = x.v ∧ True := by
  obtain ⟨cs, fuel, rfl, hx⟩ := open_agg (by rw [Tryd.underlying23]) hval h
  obtain ⟨c0, c1, c2, c3, c4, c5, c6, rfl⟩ := seven ((flat_size Tryd.underlying23 hx).trans (by kernel_rfl))
  obtain ⟨i, h0, _⟩ := flat_field Tryd.underlying23 hx 0 _ rfl (s := .int .i64) is_int6 0 rfl
  obtain ⟨b, h1, _⟩ := flat_field Tryd.underlying23 hx 1 _ rfl (s := .int .i64) is_int6 1 rfl
  obtain ⟨s, h2, _⟩ := flat_field Tryd.underlying23 hx 2 _ rfl (s := .int .i64) is_int6 2 rfl
  obtain ⟨j, h3, _⟩ := flat_field Tryd.underlying23 hx 3 _ rfl (s := .int .i64) is_int6 3 rfl
  obtain ⟨p, h4, _⟩ := flat_field Tryd.underlying23 hx 4 _ rfl (s := .int .i64) is_int6 4 rfl
  obtain ⟨g, h5, _⟩ := flat_field Tryd.underlying23 hx 5 _ rfl (s := .int .i64) is_int6 5 rfl
  obtain ⟨t, h6, _⟩ := flat_field Tryd.underlying23 hx 6 _ rfl (s := .int .i64) is_int6 6 rfl
  obtain rfl : c0 = .int .i64 i := by injection h0
  obtain rfl : c1 = .int .i64 b := by injection h1
  obtain rfl : c2 = .int .i64 s := by injection h2
  obtain rfl : c3 = .int .i64 j := by injection h3
  obtain rfl : c4 = .int .i64 p := by injection h4
  obtain rfl : c5 = .int .i64 g := by injection h5
  obtain rfl : c6 = .int .i64 t := by injection h6
  exact ⟨⟨i, b, s, j, p, g, t⟩, rfl, trivial⟩
set_option maxRecDepth 100000 in
theorem open_record {H : Type} {enc : TypeId × Value → H} {W : World} {base : Nat} {v : Value} {d : DataW H} {ps : List MemPlace}
    (hval : Value.okWide Tryd.prog W .any base 25 v) (h : DataW.Trod enc Tryd.prog W 0 (fun _ => true) true 25 v d ps) : ∃ x : RecI, v = x.v ∧ True := by
  obtain ⟨cs, fuel, rfl, hx⟩ := open_agg (by rw [Tryd.underlying25]) hval h
  obtain ⟨c0, c1, c2, c3, c4, c5, c6, rfl⟩ := seven ((flat_size Tryd.underlying25 hx).trans (by kernel_rfl))
  obtain ⟨i, h0, _⟩ := flat_field Tryd.underlying25 hx 0 _ rfl (s := .int .i64) is_int6 0 rfl
  obtain ⟨b, h1, _⟩ := flat_field Tryd.underlying25 hx 1 _ rfl (s := .int .i64) is_int6 1 rfl
  obtain ⟨s, h2, _⟩ := flat_field Tryd.underlying25 hx 2 _ rfl (s := .int .i64) is_int6 2 rfl
  obtain ⟨j, h3, _⟩ := flat_field Tryd.underlying25 hx 3 _ rfl (s := .int .i64) is_int6 3 rfl
  obtain ⟨p, h4, _⟩ := flat_field Tryd.underlying25 hx 4 _ rfl (s := .int .i64) is_int6 4 rfl
  obtain ⟨g, h5⟩ := flat_field Tryd.underlying25 hx 5 _ rfl (s := .bool) is_bool6 5 rfl
  obtain ⟨t, h6, _⟩ := flat_field Tryd.underlying25 hx 6 _ rfl (s := .int .i64) is_int6 6 rfl
  obtain rfl : c0 = .int .i64 i := by injection h0
  obtain rfl : c1 = .int .i64 b := by injection h1
  obtain rfl : c2 = .int .i64 s := by injection h2
  obtain rfl : c3 = .int .i64 j := by injection h3
  obtain rfl : c4 = .int .i64 p := by injection h4
  obtain rfl : c5 = .bool g := by injection h5
  obtain rfl : c6 = .int .i64 t := by injection h6
  exact ⟨⟨i, b, s, j, p, g, t⟩, rfl, trivial⟩
def entSh : Sh := .st4 (.int .i64) (.int .i64) .bool (.int .i64)
theorem is_ent6 : Is Tryd.prog 39 entSh := .st4 Tryd.underlying39 (by kernel_rfl) rfl rfl rfl rfl is_int6 is_int6 is_bool6 is_int6
theorem is_page6 : Is Tryd.prog 42 (.st5 (.int .i64) (.int .i64) (.int .i64) (.int .i64) (.arr 4 entSh)) :=
  .st5 Tryd.underlying42 (by kernel_rfl) rfl rfl rfl rfl rfl is_int6 is_int6 is_int6 is_int6 (.arr Tryd.underlying40 (by kernel_rfl) is_ent6)
theorem ent_of {cs : List Value} (h : entSh.Ok cs) : ∃ e : EntI, cs = entC e := by
  obtain ⟨a, b, c, d, rfl, ⟨x, rfl, _⟩, ⟨y, rfl, _⟩, ⟨z, rfl⟩, ⟨u, rfl, _⟩⟩ := h
  exact ⟨⟨x, y, z, u⟩, rfl⟩
theorem ents_of {cs : List Value} (h : (Sh.arr 4 entSh).Ok cs) : ∃ a b c d : EntI, cs = entC a ++ entC b ++ entC c ++ entC d := by
  obtain ⟨hl, he⟩ := h
  have hl : cs.length = 16 := hl
  obtain ⟨a, ha⟩ := ent_of (he 0 (by omega))
  obtain ⟨b, hb⟩ := ent_of (he 1 (by omega))
  obtain ⟨c, hc⟩ := ent_of (he 2 (by omega))
  obtain ⟨d, hd⟩ := ent_of (he 3 (by omega))
  refine ⟨a, b, c, d, ?_⟩
  rw [← ha, ← hb, ← hc, ← hd]
  exact part4 cs 4 4 4 4 (by omega)
set_option maxRecDepth 100000 in
theorem open_page {H : Type} {enc : TypeId × Value → H} {W : World} {base : Nat} {v : Value} {d : DataW H} {ps : List MemPlace}
    (hval : Value.okWide Tryd.prog W .any base 42 v) (h : DataW.Trod enc Tryd.prog W 0 (fun _ => true) true 42 v d ps) : ∃ x : PagI, v = x.v ∧ x.o ≤ 9223372036854775807 := by
  obtain ⟨cs, rfl, hok⟩ := open_sh is_page6 (by rw [Tryd.underlying42]) hval h
  obtain ⟨c0, c1, c2, c3, c4, rfl, ⟨q, rfl, _⟩, ⟨n, rfl, _⟩, ⟨o, rfl, wo⟩, ⟨m, rfl, _⟩, he⟩ := hok
  obtain ⟨a, b, c, d, rfl⟩ := ents_of he
  exact ⟨⟨q, n, o, m, a, b, c, d⟩, rfl, by unfold Lit.wf at wo; rw [Bool.and_eq_true, decide_eq_true_eq, decide_eq_true_eq] at wo; exact wo.2⟩
end Go.Proofs.YtpifiamafgaadaaDoor
