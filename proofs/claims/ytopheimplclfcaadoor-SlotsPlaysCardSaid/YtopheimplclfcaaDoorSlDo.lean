/- A call of an Op of the laws of layer 8; what Turn and Alloc do, said as functions. -/
import Derived.Test.YtopheimplclfcaaDoorSlAwake
import Derived.Test.YtopheimplclfcaaDoorSlCount
import Derived.Test.YtopheimplclfcaaDoorSlLawAll
import Derived.Test.YtopheimplclfcaaDoorSlCopy
import Derived.Test.YtopheimplclfcaaDoorSlNil
import Derived.Test.YtopheimplclfcaaDoorElems
namespace Go.Proofs.YtopheimplclfcaaDoor
open Go.RowKit Go.ChangeShapes Go.WideShapes Go.ChangeAt

structure Op8 where
  al : Bool
  slot : Int
  st : Int
def Op8.cs (o : Op8) : List Value := [.bool o.al, .int .i64 o.slot, .int .i64 o.st]
def op8Sh : Sh := .st3 .bool (.int .i64) (.int .i64)
theorem is_op8 : Is Tryd.prog 58 op8Sh := .st3 Tryd.underlying58 (by kernel_rfl) rfl rfl rfl (.bool Tryd.underlying4 (by kernel_rfl)) (.int Tryd.underlying3 (by kernel_rfl)) (.int Tryd.underlying3 (by kernel_rfl))
theorem open_ops8 {H : Type} {enc : TypeId × Value → H} {W : World} {base : Nat} {v : Value} {d : DataW H} {ps : List MemPlace}
    (hval : Value.okWide Tryd.prog W .any base 51 v) (h : DataW.Trod enc Tryd.prog W 0 (fun _ => true) true 51 v d ps) : ∃ r : SRow, v = r.v ∧ r.Ok W op8Sh :=
  open_row Tryd.underlying51 is_op8 (by decide) hval h
theorem op8_of (cs : List Value) (h : op8Sh.Ok cs) : ∃ o : Op8, cs = o.cs ∧ True := by
  obtain ⟨a, b, c, rfl, ⟨x, rfl⟩, ⟨y, rfl, _⟩, ⟨z, rfl, _⟩⟩ := h
  exact ⟨⟨x, y, z⟩, rfl, trivial⟩
/-- the calls of a slice -/
abbrev Ops8 (w : World) (a : Option Addr) (xs : List Op8) : Prop := Elems Op8.cs 3 w a xs
theorem ops8_of {w : World} {r : SRow} (h : r.Ok w op8Sh) : ∃ xs : List Op8, r.v = .slice r.a xs.length r.cap ∧ Ops8 w r.a xs := by
  obtain ⟨xs, h1, h2, _⟩ := elems_of (P := fun _ : Op8 => True) h op8_of
  exact ⟨xs, h1, h2⟩
theorem Elems.op8 {w : World} {a : Option Addr} {xs : List Op8} (h : Ops8 w a xs) (i : Nat) (hi : i < xs.length) :
    ∃ b o, a = some ⟨b, o, none⟩ ∧ w.cell? ⟨b, o + i * 3, none⟩ = some (.bool xs[i].al) ∧ w.cell? ⟨b, o + i * 3 + 1, none⟩ = some (.int .i64 xs[i].slot) ∧ w.cell? ⟨b, o + i * 3 + 2, none⟩ = some (.int .i64 xs[i].st) := by
  rcases h with h | ⟨b, o, e, hb, hc⟩
  · subst h; simp at hi
  · exact ⟨b, o, e, hc i 0 hi (by omega), hc i 1 hi (by omega), hc i 2 hi (by omega)⟩

/-- what a call may do to the states: nothing, or one slot has another state that it may have -/
def Step (l l' : List Nat) : Prop := l' = l ∨ ∃ i b, ∃ h : i < l.length, b ≤ 4 ∧ mayN l[i] b = true ∧ l' = l.set i b
theorem Step.len {l l' : List Nat} (h : Step l l') : l'.length = l.length := by
  rcases h with rfl | ⟨i, b, h, _, _, rfl⟩
  · rfl
  · simp
def turnF (l : List Nat) (x y : Int) : Nat × List Nat :=
  if h : 0 ≤ x ∧ x < l.length then
    if 0 ≤ y ∧ y ≤ 4 then
      if mayN (l[x.toNat]'(by omega)) y.toNat = true then (0, l.set x.toNat y.toNat) else (16, l)
    else (1, l)
  else (10, l)
theorem turnF_step (l : List Nat) (x y : Int) : Step l (turnF l x y).2 := by
  unfold turnF
  split
  · split
    · split
      · exact .inr ⟨x.toNat, y.toNat, by omega, by omega, by assumption, rfl⟩
      · exact .inl rfl
    · exact .inl rfl
  · exact .inl rfl
theorem slturn_any (w : World) (p q : Nat) (l : List Nat) (x y : Int) (hT : TurnsAt w) (h : SlAt w p q l) : Calls Tryd.prog 30 #[slv p, .int .i64 x, .int .i64 y] w fun e w' =>
    e = .returned (.int .i64 ((turnF l x y).1 : Int)) ∧ SlAt w' p q (turnF l x y).2 ∧ Fr (fun k => k = q) w w' ∧ w'.heap.size = w.heap.size := by
  by_cases hx : 0 ≤ x ∧ x < l.length
  · by_cases hy : 0 ≤ y ∧ y ≤ 4
    · obtain ⟨x, rfl⟩ := Int.eq_ofNat_of_zero_le hx.1
      obtain ⟨y, rfl⟩ := Int.eq_ofNat_of_zero_le hy.1
      have hxl : x < l.length := by omega
      refine (slturn_in w p q l x y hT h hxl (by omega)).mono ?_
      rintro e w' (⟨hm, rfl, rfl⟩ | ⟨hm, rfl, hS, hF, hz⟩)
      · have e1 : turnF l x y = (16, l) := by unfold turnF; rw [dif_pos hx, if_pos hy, if_neg (by simpa using hm)]
        rw [e1]; exact ⟨rfl, h, Fr.refl _ _, rfl⟩
      · have e1 : turnF l x y = (0, l.set x y) := by unfold turnF; rw [dif_pos hx, if_pos hy, if_pos (by simpa using hm)]; rfl
        rw [e1]; exact ⟨rfl, hS, hF, hz⟩
    · obtain ⟨x, rfl⟩ := Int.eq_ofNat_of_zero_le hx.1
      refine (slturn_arg w p q l x y h (by omega) (by omega)).mono ?_
      rintro e w' ⟨rfl, rfl⟩
      have e1 : turnF l x y = (1, l) := by unfold turnF; rw [dif_pos hx, if_neg hy]
      rw [e1]; exact ⟨rfl, h, Fr.refl _ _, rfl⟩
  · refine (slturn_out w p q l x y h (by omega)).mono ?_
    rintro e w' ⟨rfl, rfl⟩
    have e1 : turnF l x y = (10, l) := by unfold turnF; rw [dif_neg hx]
    rw [e1]; exact ⟨rfl, h, Fr.refl _ _, rfl⟩
def allocF (l : List Nat) : Nat × Nat × List Nat := match l.findIdx? (· == 0) with
  | some i => (i, 0, l.set i 1)
  | none => (0, 17, l)
theorem allocF_step (l : List Nat) : Step l (allocF l).2.2 := by
  unfold allocF
  cases h : l.findIdx? (· == 0) with
  | none => exact .inl rfl
  | some i =>
    rw [List.findIdx?_eq_some_iff_getElem] at h
    obtain ⟨hi, h0, _⟩ := h
    have h0 : l[i] = 0 := by simpa using h0
    exact .inr ⟨i, 1, hi, by omega, by rw [h0]; rfl, rfl⟩
theorem slalloc_F (w : World) (p q : Nat) (l : List Nat) (h : SlAt w p q l) : Calls Tryd.prog 28 #[slv p] w fun e w' =>
    e = .returned (.tuple #[i64v (allocF l).1, .int .i64 ((allocF l).2.1 : Int)]) ∧ SlAt w' p q (allocF l).2.2 ∧ Fr (fun k => k = q) w w' ∧ w'.heap.size = w.heap.size := by
  refine (slalloc_any w p q l h).mono ?_
  intro e w' hp
  unfold allocF
  cases hi : l.findIdx? (· == 0) with
  | none => obtain ⟨rfl, rfl⟩ := hp.full hi; exact ⟨rfl, h, Fr.refl _ _, rfl⟩
  | some i => exact hp.get hi
end Go.Proofs.YtopheimplclfcaaDoor
