/- Arguments of plain data (numbers, bools, texts, arrays and structs of them), opened by their shape. No program. -/
import Derived.Test.YtpifiamafgaadaaDoorRow
import Derived.OpenShut
import Derived.Deep.Slices
import Derived.Deep.Strs
namespace Go.Proofs.YtpifiamafgaadaaDoor
open Go.ChangeShapes Go.WideShapes Go.ChangeAt Go.RowKit

inductive Sh where
  | int (k : IntKind)
  | bool
  | arr (n : Nat) (s : Sh)
  | st2 (s t : Sh)
  | st3 (s t u : Sh)
  | st4 (s t u v : Sh)
  | st5 (s t u v x : Sh)
def Sh.size : Sh → Nat
  | .int _ => 1
  | .bool => 1
  | .arr n s => n * s.size
  | .st2 s t => s.size + t.size
  | .st3 s t u => s.size + t.size + u.size
  | .st4 s t u v => s.size + t.size + u.size + v.size
  | .st5 s t u v x => s.size + t.size + u.size + v.size + x.size
/-- these cells are a value of that shape -/
def Sh.Ok : Sh → List Value → Prop
  | .int k, cs => ∃ n : Int, cs = [.int k n] ∧ (Lit.int k n).wf = true
  | .bool, cs => ∃ b : Bool, cs = [.bool b]
  | .arr n s, cs => cs.length = n * s.size ∧ ∀ i, i < n → s.Ok ((cs.drop (i * s.size)).take s.size)
  | .st2 s t, cs => ∃ a b, cs = a ++ b ∧ s.Ok a ∧ t.Ok b
  | .st3 s t u, cs => ∃ a b c, cs = a ++ b ++ c ∧ s.Ok a ∧ t.Ok b ∧ u.Ok c
  | .st4 s t u v, cs => ∃ a b c d, cs = a ++ b ++ c ++ d ∧ s.Ok a ∧ t.Ok b ∧ u.Ok c ∧ v.Ok d
  | .st5 s t u v x, cs => ∃ a b c d e, cs = a ++ b ++ c ++ d ++ e ∧ s.Ok a ∧ t.Ok b ∧ u.Ok c ∧ v.Ok d ∧ x.Ok e
/-- a type of the program has that shape -/
inductive Is (P : Program) : TypeId → Sh → Prop where
  | int {t k} (h : P.underlying t = some (.int k)) (hc : P.cellsOf t = 1) : Is P t (.int k)
  | bool {t} (h : P.underlying t = some .bool) (hc : P.cellsOf t = 1) : Is P t .bool
  | arr {t n e s} (h : P.underlying t = some (.array n e)) (hc : P.cellsOf t = n * s.size) (he : Is P e s) : Is P t (.arr n s)
  | st2 {t f0 f1 s0 s1} (h : P.underlying t = some (.struct #[f0, f1])) (hc : P.cellsOf t = s0.size + s1.size) (o0 : f0.offset = 0) (o1 : f1.offset = s0.size) (h0 : Is P f0.type s0) (h1 : Is P f1.type s1) : Is P t (.st2 s0 s1)
  | st3 {t f0 f1 f2 s0 s1 s2} (h : P.underlying t = some (.struct #[f0, f1, f2])) (hc : P.cellsOf t = s0.size + s1.size + s2.size) (o0 : f0.offset = 0) (o1 : f1.offset = s0.size) (o2 : f2.offset = s0.size + s1.size)
      (h0 : Is P f0.type s0) (h1 : Is P f1.type s1) (h2 : Is P f2.type s2) : Is P t (.st3 s0 s1 s2)
  | st4 {t f0 f1 f2 f3 s0 s1 s2 s3} (h : P.underlying t = some (.struct #[f0, f1, f2, f3])) (hc : P.cellsOf t = s0.size + s1.size + s2.size + s3.size) (o0 : f0.offset = 0) (o1 : f1.offset = s0.size) (o2 : f2.offset = s0.size + s1.size) (o3 : f3.offset = s0.size + s1.size + s2.size)
      (h0 : Is P f0.type s0) (h1 : Is P f1.type s1) (h2 : Is P f2.type s2) (h3 : Is P f3.type s3) : Is P t (.st4 s0 s1 s2 s3)
  | st5 {t f0 f1 f2 f3 f4 s0 s1 s2 s3 s4} (h : P.underlying t = some (.struct #[f0, f1, f2, f3, f4])) (hc : P.cellsOf t = s0.size + s1.size + s2.size + s3.size + s4.size) (o0 : f0.offset = 0) (o1 : f1.offset = s0.size) (o2 : f2.offset = s0.size + s1.size) (o3 : f3.offset = s0.size + s1.size + s2.size) (o4 : f4.offset = s0.size + s1.size + s2.size + s3.size)
      (h0 : Is P f0.type s0) (h1 : Is P f1.type s1) (h2 : Is P f2.type s2) (h3 : Is P f3.type s3) (h4 : Is P f4.type s4) : Is P t (.st5 s0 s1 s2 s3 s4)
theorem Is.cells {P : Program} {t : TypeId} {s : Sh} (h : Is P t s) : P.cellsOf t = s.size := by cases h <;> assumption

theorem part2 {α : Type} (l : List α) (a b : Nat) (h : l.length = a + b) : l = l.take a ++ (l.drop a).take b := by
  have e1 : (l.drop a).take b = l.drop a := List.take_of_length_le (by simp; omega)
  rw [e1, List.take_append_drop]
theorem part3 {α : Type} (l : List α) (a b c : Nat) (h : l.length = a + b + c) : l = l.take a ++ (l.drop a).take b ++ (l.drop (a + b)).take c := by
  have e1 : (l.drop (a + b)).take c = l.drop (a + b) := List.take_of_length_le (by simp; omega)
  rw [e1, ← List.take_add, List.take_append_drop]
theorem part4 {α : Type} (l : List α) (a b c d : Nat) (h : l.length = a + b + c + d) : l = l.take a ++ (l.drop a).take b ++ (l.drop (a + b)).take c ++ (l.drop (a + b + c)).take d := by
  have e1 : (l.drop (a + b + c)).take d = l.drop (a + b + c) := List.take_of_length_le (by simp; omega)
  rw [e1, ← List.take_add, ← List.take_add, List.take_append_drop]
theorem part5 {α : Type} (l : List α) (a b c d e : Nat) (h : l.length = a + b + c + d + e) : l = l.take a ++ (l.drop a).take b ++ (l.drop (a + b)).take c ++ (l.drop (a + b + c)).take d ++ (l.drop (a + b + c + d)).take e := by
  have e1 : (l.drop (a + b + c + d)).take e = l.drop (a + b + c + d) := List.take_of_length_le (by simp; omega)
  rw [e1, ← List.take_add, ← List.take_add, ← List.take_add, List.take_append_drop]

theorem some_of {α : Type} {l : List α} {i : Nat} (h : i < l.length) : ∃ y, l[i]? = some y := ⟨l[i], List.getElem?_eq_getElem h⟩
theorem Is.open {H : Type} {enc : TypeId × Value → H} {P : Program} {w : World} {base : Nat} {spare : Nat → Bool} {held : Bool} {t : TypeId} {s : Sh} (h : Is P t s) :
    ∀ {fuel : Nat} {cs : List Value} {x : DataW H × List MemPlace}, DataW.trod enc P w base spare held fuel t cs = some x → s.Ok cs := by
  induction h with
  | int ht hc =>
    intro fuel cs x hx
    obtain ⟨n, h1, h2, h3⟩ := DataW.trod_int ht hx
    exact ⟨n, h1, h3⟩
  | bool ht hc =>
    intro fuel cs x hx
    obtain ⟨b, h1, _⟩ := DataW.trod_bool ht hx
    exact ⟨b, h1⟩
  | arr ht hc he ih =>
    intro fuel cs x hx
    obtain ⟨xs, m, _, _, hl, hn, hel⟩ := DataW.trod_array ht hx
    refine ⟨hl.trans hc, fun i hi => ?_⟩
    obtain ⟨y, hy⟩ := some_of (l := xs) (i := i) (by omega)
    have := hel i hi
    rw [hy, he.cells] at this
    exact ih this
  | @st2 ty f0 f1 s0 s1 ht hc o0 o1 h0 h1 ih0 ih1 =>
    intro fuel cs x hx
    obtain ⟨xs, m, _, _, hl, hn, hel⟩ := DataW.trod_struct ht hx
    replace hn : xs.length = 2 := hn
    obtain ⟨y0, hy0⟩ := some_of (l := xs) (i := 0) (by omega)
    obtain ⟨y1, hy1⟩ := some_of (l := xs) (i := 1) (by omega)
    have e0 := hel 0 f0 rfl
    have e1 := hel 1 f1 rfl
    rw [hy0, o0, h0.cells] at e0
    rw [hy1, o1, h1.cells] at e1
    exact ⟨_, _, part2 cs _ _ (hl.trans hc), ih0 e0, ih1 e1⟩
  | @st3 ty f0 f1 f2 s0 s1 s2 ht hc o0 o1 o2 h0 h1 h2 ih0 ih1 ih2 =>
    intro fuel cs x hx
    obtain ⟨xs, m, _, _, hl, hn, hel⟩ := DataW.trod_struct ht hx
    replace hn : xs.length = 3 := hn
    obtain ⟨y0, hy0⟩ := some_of (l := xs) (i := 0) (by omega)
    obtain ⟨y1, hy1⟩ := some_of (l := xs) (i := 1) (by omega)
    obtain ⟨y2, hy2⟩ := some_of (l := xs) (i := 2) (by omega)
    have e0 := hel 0 f0 rfl
    have e1 := hel 1 f1 rfl
    have e2 := hel 2 f2 rfl
    rw [hy0, o0, h0.cells] at e0
    rw [hy1, o1, h1.cells] at e1
    rw [hy2, o2, h2.cells] at e2
    exact ⟨_, _, _, part3 cs _ _ _ (hl.trans hc), ih0 e0, ih1 e1, ih2 e2⟩
  | @st4 ty f0 f1 f2 f3 s0 s1 s2 s3 ht hc o0 o1 o2 o3 h0 h1 h2 h3 ih0 ih1 ih2 ih3 =>
    intro fuel cs x hx
    obtain ⟨xs, m, _, _, hl, hn, hel⟩ := DataW.trod_struct ht hx
    replace hn : xs.length = 4 := hn
    obtain ⟨y0, hy0⟩ := some_of (l := xs) (i := 0) (by omega)
    obtain ⟨y1, hy1⟩ := some_of (l := xs) (i := 1) (by omega)
    obtain ⟨y2, hy2⟩ := some_of (l := xs) (i := 2) (by omega)
    obtain ⟨y3, hy3⟩ := some_of (l := xs) (i := 3) (by omega)
    have e0 := hel 0 f0 rfl
    have e1 := hel 1 f1 rfl
    have e2 := hel 2 f2 rfl
    have e3 := hel 3 f3 rfl
    rw [hy0, o0, h0.cells] at e0
    rw [hy1, o1, h1.cells] at e1
    rw [hy2, o2, h2.cells] at e2
    rw [hy3, o3, h3.cells] at e3
    exact ⟨_, _, _, _, part4 cs _ _ _ _ (hl.trans hc), ih0 e0, ih1 e1, ih2 e2, ih3 e3⟩
  | @st5 ty f0 f1 f2 f3 f4 s0 s1 s2 s3 s4 ht hc o0 o1 o2 o3 o4 h0 h1 h2 h3 h4 ih0 ih1 ih2 ih3 ih4 =>
    intro fuel cs x hx
    obtain ⟨xs, m, _, _, hl, hn, hel⟩ := DataW.trod_struct ht hx
    replace hn : xs.length = 5 := hn
    obtain ⟨y0, hy0⟩ := some_of (l := xs) (i := 0) (by omega)
    obtain ⟨y1, hy1⟩ := some_of (l := xs) (i := 1) (by omega)
    obtain ⟨y2, hy2⟩ := some_of (l := xs) (i := 2) (by omega)
    obtain ⟨y3, hy3⟩ := some_of (l := xs) (i := 3) (by omega)
    obtain ⟨y4, hy4⟩ := some_of (l := xs) (i := 4) (by omega)
    have e0 := hel 0 f0 rfl
    have e1 := hel 1 f1 rfl
    have e2 := hel 2 f2 rfl
    have e3 := hel 3 f3 rfl
    have e4 := hel 4 f4 rfl
    rw [hy0, o0, h0.cells] at e0
    rw [hy1, o1, h1.cells] at e1
    rw [hy2, o2, h2.cells] at e2
    rw [hy3, o3, h3.cells] at e3
    rw [hy4, o4, h4.cells] at e4
    exact ⟨_, _, _, _, _, part5 cs _ _ _ _ _ (hl.trans hc), ih0 e0, ih1 e1, ih2 e2, ih3 e3, ih4 e4⟩

/-- A slice of such elements: where it stands, how many elements, their cells; all cells up to the length are there. -/
structure SRow where
  a : Option Addr
  cap : Nat
  ls : List (List Value)
abbrev SRow.v (r : SRow) : Value := .slice r.a r.ls.length r.cap
/-- the elements' cells stand one behind the other -/
def SRow.At (w : World) (r : SRow) (sz : Nat) : Prop := r.ls = [] ∨ ∃ b o, r.a = some ⟨b, o, none⟩ ∧ b < w.heap.size ∧ ∀ i j, i < r.ls.length → j < sz → w.cell? ⟨b, o + (i * sz + j), none⟩ = some ((r.ls.getD i []).getD j undef)
structure SRow.Ok (w : World) (r : SRow) (s : Sh) : Prop where
  at_ : r.At w s.size
  el : ∀ cs ∈ r.ls, s.Ok cs ∧ cs.length = s.size
  len : r.ls.length ≤ r.cap
  max : r.cap ≤ maxLen
  where_ : r.cap = 0 ∨ ∃ b o, r.a = some ⟨b, o, none⟩
theorem SRow.At.fr {w w' : World} {r : SRow} {sz : Nat} (h : r.At w sz) {S : Nat → Prop} (f : Fr S w w') (hS : ∀ b o, r.a = some ⟨b, o, none⟩ → ¬ S b) : r.At w' sz := by
  rcases h with h | ⟨b, o, e, hb, hc⟩
  · exact .inl h
  · exact .inr ⟨b, o, e, f.lt hb, fun i j hi hj => (f.cell (p := ⟨b, o + (i * sz + j), none⟩) hb (hS b o e)).trans (hc i j hi hj)⟩
theorem SRow.Ok.no {w w' : World} {r : SRow} {s : Sh} (h : r.Ok w s) (f : Fr No w w') : r.Ok w' s := ⟨h.at_.fr f (fun _ _ _ => id), h.el, h.len, h.max, h.where_⟩

theorem lt_of_cell {w : World} {p : Addr} {v : Value} (h : w.cell? p = some v) : p.block < w.heap.size := by
  rcases Nat.lt_or_ge p.block w.heap.size with g | g
  · exact g
  · simp [World.cell?, Array.getElem?_eq_none g] at h
theorem add_off (b o i : Nat) : (⟨b, o, none⟩ : Addr).add i = ⟨b, o + i, none⟩ := by
  unfold Addr.add; split <;> simp_all

theorem Sh.Ok.length {s : Sh} : ∀ {cs : List Value}, s.Ok cs → cs.length = s.size := by
  induction s with
  | int k => rintro cs ⟨n, rfl, _⟩; rfl
  | bool => rintro cs ⟨n, rfl⟩; rfl
  | arr n s ih => intro cs h; exact h.1
  | st2 s t i0 i1 => rintro cs ⟨a, b, rfl, h0, h1⟩; simp [i0 h0, i1 h1, Sh.size]
  | st3 s t u i0 i1 i2 => rintro cs ⟨a, b, c, rfl, h0, h1, h2⟩; simp [i0 h0, i1 h1, i2 h2, Sh.size]; omega
  | st4 s t u v i0 i1 i2 i3 => rintro cs ⟨a, b, c, d, rfl, h0, h1, h2, h3⟩; simp [i0 h0, i1 h1, i2 h2, i3 h3, Sh.size]; omega
  | st5 s t u v x i0 i1 i2 i3 i4 => rintro cs ⟨a, b, c, d, e, rfl, h0, h1, h2, h3, h4⟩; simp [i0 h0, i1 h1, i2 h2, i3 h3, i4 h4, Sh.size]; omega

theorem open_row {H : Type} {enc : TypeId × Value → H} {P : Program} {W : World} {b0 : Nat} {t e : TypeId} {s : Sh} {v : Value} {d : DataW H} {ps : List MemPlace}
    (ht : P.underlying t = some (.slice e)) (he : Is P e s) (hpos : 0 < s.size)
    (hval : Value.okWide P W .any b0 t v) (h : DataW.Trod enc P W 0 (fun _ => true) true t v d ps) : ∃ r : SRow, v = r.v ∧ r.Ok W s := by
  obtain ⟨a, len, cap, rfl⟩ := okWide_slice ht hval
  obtain ⟨fuel, hf⟩ := h
  rcases Deep.open_slice ht hf with ⟨hcs, _⟩ | ⟨x, l, c, m, n, D, Pl, hcs, _, hl, hm, hmm, _, hel⟩
  · simp [Value.cells] at hcs
    obtain ⟨rfl, rfl, rfl⟩ := hcs
    exact ⟨⟨none, 0, []⟩, rfl, .inl rfl, fun cs hcs => by simp at hcs, Nat.le_refl _, by unfold maxLen; simp, .inl rfl⟩
  · simp [Value.cells] at hcs
    obtain ⟨rfl, rfl, rfl⟩ := hcs
    simp only [if_true] at hmm
    subst hmm
    rw [he.cells] at hel
    have hwhere : m = 0 ∨ ∃ b o, x = ⟨b, o, none⟩ := by
      rcases Nat.eq_zero_or_pos m with h0 | h0
      · exact .inl h0
      · obtain ⟨cs', h1, h2⟩ := hel 0 h0
        obtain ⟨_, hlen, hcell⟩ := World.cells?_some h1
        have hc0 := hcell 0 hpos
        obtain ⟨b, off, spot⟩ := x
        have hspot : spot = none := by
          have h3 : (((⟨b, off, spot⟩ : Addr).add (0 * s.size)).add 0) = ⟨b, off, spot⟩ := by rw [Nat.zero_mul]; rfl
          rw [h3] at hc0
          cases hv : cs'[0]? with
          | none => rw [List.getElem?_eq_none_iff] at hv; omega
          | some y => rw [hv] at hc0; simpa using World.cell?_spot hc0
        exact .inr ⟨b, off, by rw [hspot]⟩
    have hall : ∀ i, ∃ cs', i < m → s.Ok cs' ∧ W.cells? 0 (x.add (i * s.size)) s.size = some cs' := fun i => by
      rcases Nat.lt_or_ge i m with hi | hi
      · obtain ⟨cs', h1, h2⟩ := hel i hi
        exact ⟨cs', fun _ => ⟨he.open h2, h1⟩⟩
      · exact ⟨[], fun h => by omega⟩
    have hex : ∃ f : Nat → List Value, ∀ i, i < m → s.Ok (f i) ∧ W.cells? 0 (x.add (i * s.size)) s.size = some (f i) := ⟨fun i => (hall i).choose, fun i => (hall i).choose_spec⟩
    obtain ⟨f, hf'⟩ := hex
    refine ⟨⟨some x, m, (List.range len).map f⟩, ?_, ?_, ?_, ?_, hm, ?_⟩
    · simp [SRow.v]
    · rcases Nat.eq_zero_or_pos len with h0 | h0
      · subst h0; exact .inl rfl
      · rcases hwhere with h1 | ⟨b, o, rfl⟩
        · omega
        · have cellf : ∀ i j, i < len → j < s.size → W.cell? ⟨b, o + (i * s.size + j), none⟩ = some ((f i).getD j undef) := fun i j hi hj => by
            obtain ⟨h1, h2⟩ := hf' i (by omega)
            obtain ⟨_, hlen, hcell⟩ := World.cells?_some h2
            have := hcell j hj
            rw [add_off, add_off, Nat.add_assoc] at this
            rw [this, List.getElem?_eq_getElem (by omega)]
            simp [List.getD_eq_getElem?_getD, show j < (f i).length by omega]
          refine .inr ⟨b, o, rfl, lt_of_cell (cellf 0 0 h0 hpos), fun i j hi hj => ?_⟩
          have hi' : i < len := by simpa using hi
          rw [cellf i j hi' hj]
          simp [List.getD_eq_getElem?_getD, hi']
    · intro cs hcs
      obtain ⟨i, hi, rfl⟩ := List.mem_map.1 hcs
      have := (hf' i (by have := List.mem_range.1 hi; omega)).1
      exact ⟨this, this.length⟩
    · simpa using hl
    · rcases hwhere with h0 | ⟨b, o, rfl⟩
      · exact .inl h0
      · exact .inr ⟨b, o, rfl⟩
end Go.Proofs.YtpifiamafgaadaaDoor
