/- The datum of plain cells; a listed variable's cells out of its datum. No program. -/
import Derived.Test.YtopheimplclfcaaDoorShape
import Derived.LaidLaws
import Derived.LaidMore
namespace Go.Proofs.YtopheimplclfcaaDoor
open Go.ChangeShapes Go.WideShapes Go.ChangeAt Go.RowKit

def Sh.dat {H : Type} : Sh → List Value → DataW H
  | .int _, cs => match cs with
    | [.int k n] => .lit (.int k n)
    | _ => .nil
  | .bool, cs => match cs with
    | [.bool b] => .lit (.bool b)
    | _ => .nil
  | .arr n s, cs => .agg ((List.range n).map fun i => s.dat ((cs.drop (i * s.size)).take s.size))
  | .st2 s t, cs => .agg [s.dat (cs.take s.size), t.dat ((cs.drop s.size).take t.size)]
  | .st3 s t u, cs => .agg [s.dat (cs.take s.size), t.dat ((cs.drop s.size).take t.size), u.dat ((cs.drop (s.size + t.size)).take u.size)]
  | .st4 _ _ _ _, _ => .nil
  | .st5 _ _ _ _ _, _ => .nil
/-- shapes whose datum is told here -/
def Sh.plain : Sh → Bool
  | .int _ => true
  | .bool => true
  | .arr _ s => s.plain
  | .st2 s t => s.plain && t.plain
  | .st3 s t u => s.plain && t.plain && u.plain
  | _ => false

theorem Is.datum {H : Type} {enc : TypeId × Value → H} {P : Program} {w : World} {base : Nat} {spare : Nat → Bool} {held : Bool} {t : TypeId} {s : Sh} (h : Is P t s) :
    s.plain = true → ∀ {fuel : Nat} {cs : List Value} {x : DataW H × List MemPlace}, DataW.trod enc P w base spare held fuel t cs = some x → x.1 = s.dat cs := by
  induction h with
  | int ht hc =>
    intro _ fuel cs x hx
    obtain ⟨n, rfl, rfl, h3⟩ := DataW.trod_int ht hx
    rfl
  | bool ht hc =>
    intro _ fuel cs x hx
    obtain ⟨b, rfl, rfl⟩ := DataW.trod_bool ht hx
    rfl
  | @arr ty n e s ht hc he ih =>
    intro hp fuel cs x hx
    obtain ⟨xs, m, _, rfl, hl, hn, hel⟩ := DataW.trod_array ht hx
    show DataW.agg _ = DataW.agg _
    congr 1
    refine List.ext_getElem (by simp [hn]) fun i h1 h2 => ?_
    have hi : i < n := by simpa using h2
    have hi' : i < xs.length := by omega
    have := hel i hi
    rw [List.getElem?_eq_getElem hi', he.cells] at this
    have := ih hp this
    simpa using this
  | @st2 ty f0 f1 s0 s1 ht hc o0 o1 h0 h1 ih0 ih1 =>
    intro hp fuel cs x hx
    simp only [Sh.plain, Bool.and_eq_true] at hp
    obtain ⟨xs, m, _, rfl, hl, hn, hel⟩ := DataW.trod_struct ht hx
    replace hn : xs.length = 2 := hn
    match xs, hn with
    | [y0, y1], _ =>
      have e0 := hel 0 f0 rfl
      have e1 := hel 1 f1 rfl
      rw [o0, h0.cells] at e0
      rw [o1, h1.cells] at e1
      have r0 := ih0 hp.1 (x := y0) e0
      have r1 := ih1 hp.2 (x := y1) e1
      simp only [List.map_cons, List.map_nil, r0, r1]
      rfl
  | @st3 ty f0 f1 f2 s0 s1 s2 ht hc o0 o1 o2 h0 h1 h2 ih0 ih1 ih2 =>
    intro hp fuel cs x hx
    simp only [Sh.plain, Bool.and_eq_true] at hp
    obtain ⟨xs, m, _, rfl, hl, hn, hel⟩ := DataW.trod_struct ht hx
    replace hn : xs.length = 3 := hn
    match xs, hn with
    | [y0, y1, y2], _ =>
      have e0 := hel 0 f0 rfl
      have e1 := hel 1 f1 rfl
      have e2 := hel 2 f2 rfl
      rw [o0, h0.cells] at e0
      rw [o1, h1.cells] at e1
      rw [o2, h2.cells] at e2
      have r0 := ih0 hp.1.1 (x := y0) e0
      have r1 := ih1 hp.1.2 (x := y1) e1
      have r2 := ih2 hp.2 (x := y2) e2
      simp only [List.map_cons, List.map_nil, r0, r1, r2]
      rfl
  | st4 => intro hp; cases hp
  | st5 => intro hp; cases hp

theorem chunks_eq {α : Type} (n sz : Nat) (a b : List α) (ha : a.length = n * sz) (hb : b.length = n * sz) (h : ∀ i, i < n → (a.drop (i * sz)).take sz = (b.drop (i * sz)).take sz) : a = b := by
  refine List.ext_getElem (by omega) fun j h1 h2 => ?_
  rcases Nat.eq_zero_or_pos sz with h0 | h0
  · subst h0; omega
  · have hj : j / sz < n := by rw [Nat.div_lt_iff_lt_mul h0]; omega
    have hm := Nat.mod_lt j h0
    have hd := Nat.div_add_mod j sz
    have e := congrArg (·[j % sz]?) (h (j / sz) hj)
    simp only [List.getElem?_take, hm, if_true, List.getElem?_drop] at e
    rw [show j / sz * sz + j % sz = j from by rw [Nat.mul_comm]; exact hd, List.getElem?_eq_getElem h1, List.getElem?_eq_getElem h2] at e
    exact Option.some.inj e

theorem Sh.dat_inj {H : Type} : ∀ {s : Sh}, s.plain = true → ∀ {a b : List Value}, s.Ok a → s.Ok b → (s.dat a : DataW H) = s.dat b → a = b
  | .int k, _, _, _, ⟨n, e1, _⟩, ⟨m, e2, _⟩, h => by
    subst e1; subst e2
    simp only [Sh.dat, DataW.lit.injEq, Lit.int.injEq, true_and] at h
    rw [h]
  | .bool, _, _, _, ⟨n, e1⟩, ⟨m, e2⟩, h => by
    subst e1; subst e2
    simp only [Sh.dat, DataW.lit.injEq, Lit.bool.injEq] at h
    rw [h]
  | .arr n s, hp, a, b, ha, hb, h => by
    simp only [Sh.dat, DataW.agg.injEq] at h
    refine chunks_eq n s.size a b ha.1 hb.1 fun i hi => ?_
    have e := congrArg (·[i]?) h
    simp only [List.getElem?_map, List.getElem?_range hi, Option.map_some, Option.some.injEq] at e
    exact Sh.dat_inj (s := s) hp (ha.2 i hi) (hb.2 i hi) e
  | .st2 s t, hp, a, b, ⟨a0, a1, e1, h0, h1⟩, ⟨b0, b1, e2, g0, g1⟩, h => by
    simp only [Sh.plain, Bool.and_eq_true] at hp
    subst e1; subst e2
    have l0 := h0.length; have l1 := h1.length; have m0 := g0.length; have m1 := g1.length
    simp only [Sh.dat, DataW.agg.injEq, List.cons.injEq, and_true] at h
    rw [List.take_left' l0, List.take_left' m0, List.drop_left' l0, List.drop_left' m0, List.take_of_length_le (by omega), List.take_of_length_le (by omega)] at h
    rw [Sh.dat_inj (s := s) hp.1 h0 g0 h.1, Sh.dat_inj (s := t) hp.2 h1 g1 h.2]
  | .st3 s t u, hp, a, b, ⟨a0, a1, a2, e1, h0, h1, h2⟩, ⟨b0, b1, b2, e2, g0, g1, g2⟩, h => by
    simp only [Sh.plain, Bool.and_eq_true] at hp
    subst e1; subst e2
    have l0 := h0.length; have l1 := h1.length; have l2 := h2.length; have m0 := g0.length; have m1 := g1.length; have m2 := g2.length
    simp only [Sh.dat, DataW.agg.injEq, List.cons.injEq, and_true, List.append_assoc] at h
    rw [List.take_left' l0, List.take_left' m0, List.drop_left' l0, List.drop_left' m0, List.take_left' l1, List.take_left' m1] at h
    rw [← List.append_assoc, ← List.append_assoc, List.drop_left' (by simp; omega), List.drop_left' (by simp; omega), List.take_of_length_le (by omega), List.take_of_length_le (by omega)] at h
    rw [Sh.dat_inj (s := s) hp.1.1 h0 g0 h.1, Sh.dat_inj (s := t) hp.1.2 h1 g1 h.2.1, Sh.dat_inj (s := u) hp.2 h2 g2 h.2.2]
/-- WHAT A LISTED VARIABLE HOLDS: the one on the list's head: its cells are those whose datum is listed. -/
theorem cells_of_laid {P : Program} {W : World} {name : String} {rest : List (String × DataW Unit)} {g : Nat} {t : TypeId} {s : Sh} (hs : Is P t s) (hp : s.plain = true) {cs : List Value} (hok : s.Ok cs)
    (hg : P.globalNamed name = some g) (hty : (P.globals[g]?).map (·.type) = some t) (h : laidMet P ((name, s.dat cs) :: rest) W) : ∀ i, i < cs.length → W.cell? ⟨g, i, none⟩ = some (cs.getD i undef) := by
  obtain ⟨ps, ⟨g0, t0, cs0, f0, p0, q0, hg0, ht0, hv0, hd0, _⟩, _⟩ := h
  obtain rfl := Option.some.inj (hg.symm.trans hg0)
  obtain rfl := Option.some.inj (hty.symm.trans ht0)
  have e := hs.datum hp hd0
  have e2 := Sh.dat_inj hp (hs.open hd0) hok e.symm
  intro i hi
  have := World.var?_cell hg0 hv0 i
  rw [this, ← Array.getElem?_toList, e2, List.getElem?_eq_getElem hi]
  simp [List.getD_eq_getElem?_getD, hi]
end Go.Proofs.YtopheimplclfcaaDoor
