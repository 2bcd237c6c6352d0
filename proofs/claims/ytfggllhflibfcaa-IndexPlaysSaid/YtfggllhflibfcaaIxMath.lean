/- index: places as data; where a slot's block is; what the map holds. -/
import Derived.Maps.OwnSet
import Derived.WalkKit
namespace Go.Proofs.Ytfggllhflibfcaa
open Go.RowKit Go.Maps

/-- a block's slot, and whether it is dirty; none: nowhere -/
abbrev Pl := Option (Nat × Bool)
def isAt (s : Int) : Pl → Bool
  | some (x, _) => decide ((x : Int) = s)
  | none => false
def atS (L : List Pl) (s : Int) : Option Nat := L.findIdx? (isAt s)
def Uniq (L : List Pl) : Prop := ∀ (i j x : Nat) (d e : Bool), L[i]? = some (some (x, d)) → L[j]? = some (some (x, e)) → i = j
theorem isAt_iff {s : Int} {p : Pl} : isAt s p = true ↔ ∃ (x : Nat) (d : Bool), p = some (x, d) ∧ (x : Int) = s := by
  cases p with
  | none => simp [isAt]
  | some q =>
    obtain ⟨x, d⟩ := q
    simp only [isAt, decide_eq_true_eq, Option.some.injEq, Prod.mk.injEq]
    constructor
    · intro h; exact ⟨x, d, ⟨rfl, rfl⟩, h⟩
    · rintro ⟨_, _, ⟨rfl, _⟩, h⟩; exact h
theorem atS_some {L : List Pl} {s : Int} {i : Nat} (h : atS L s = some i) : ∃ (x : Nat) (d : Bool), L[i]? = some (some (x, d)) ∧ (x : Int) = s := by
  unfold atS at h
  rw [List.findIdx?_eq_some_iff_getElem] at h
  obtain ⟨hi, h1, _⟩ := h
  obtain ⟨x, d, e, hx⟩ := isAt_iff.1 h1
  exact ⟨x, d, by rw [List.getElem?_eq_getElem hi, e], hx⟩
theorem atS_lt {L : List Pl} {s : Int} {i : Nat} (h : atS L s = some i) : i < L.length := by
  obtain ⟨_, _, h, _⟩ := atS_some h
  exact (List.getElem?_eq_some_iff.1 h).1
theorem atS_none {L : List Pl} {s : Int} : atS L s = none ↔ ∀ (i x : Nat) (d : Bool), L[i]? = some (some (x, d)) → (x : Int) ≠ s := by
  unfold atS
  rw [List.findIdx?_eq_none_iff]
  constructor
  · intro h i x d hi e
    have := h _ (List.mem_of_getElem? hi)
    simp [isAt, e] at this
  · intro h p hp
    obtain ⟨i, hi, rfl⟩ := List.getElem_of_mem hp
    cases e : isAt s L[i]
    · rfl
    · obtain ⟨x, d, e1, e2⟩ := isAt_iff.1 e
      exact absurd e2 (h i x d (by rw [List.getElem?_eq_getElem hi, e1]))
theorem atS_of {L : List Pl} (hU : Uniq L) {i x : Nat} {d : Bool} (h : L[i]? = some (some (x, d))) : atS L x = some i := by
  cases e : atS L x with
  | none => exact absurd rfl (atS_none.1 e i x d h)
  | some j =>
    obtain ⟨y, e', h1, h2⟩ := atS_some e
    obtain rfl : y = x := by omega
    rw [hU i j y d e' h h1]
theorem atS_iff {L : List Pl} (hU : Uniq L) {s : Int} {i : Nat} : atS L s = some i ↔ ∃ (x : Nat) (d : Bool), L[i]? = some (some (x, d)) ∧ (x : Int) = s :=
  ⟨atS_some, fun ⟨_, _, h, e⟩ => by rw [← e]; exact atS_of hU h⟩
theorem Uniq.replicate (n : Nat) : Uniq (List.replicate n none) := fun i j x d e h => by
  rw [List.getElem?_replicate] at h
  split at h <;> cases h
theorem Uniq.set {L : List Pl} (hU : Uniq L) (b : Nat) (q : Pl) (hq : ∀ (x : Nat) (d : Bool), q = some (x, d) → ∀ (j : Nat) (e : Bool), L[j]? = some (some (x, e)) → j = b) : Uniq (L.set b q) := by
  intro i j x d e h1 h2
  rw [List.getElem?_set] at h1 h2
  split at h1 <;> split at h2
  · omega
  · split at h1
    · rename_i hb _ hl
      have := hq x d (by simpa using h1) j e h2
      omega
    · cases h1
  · split at h2
    · rename_i hb _ hl
      have := hq x e (by simpa using h2) i d h1
      omega
    · cases h2
  · exact hU i j x d e h1 h2
/-- the map: which block each slot has -/
def MapR (D : DataW Unit) (L : List Pl) : Prop := ∀ s : Int, Maps.has D (.int .i64 s) = (atS L s).isSome ∧ ∀ i, atS L s = some i → ∀ z, D.atKey (.int .i64 s) z = .lit (.int .i64 (i : Int))
theorem MapR.nil (n : Nat) : MapR (.map []) (List.replicate n none) := fun s => by
  have : atS (List.replicate n none) s = none := atS_none.2 (fun i x d h => by rw [List.getElem?_replicate] at h; split at h <;> cases h)
  rw [this]
  exact ⟨rfl, fun i h => by cases h⟩
def mvDel (D : DataW Unit) : Pl → DataW Unit
  | none => D
  | some (x, _) => D.del (.int .i64 (x : Int))
def mvPut (D : DataW Unit) (b : Nat) : Pl → DataW Unit
  | none => D
  | some (x, _) => D.put (.int .i64 (x : Int)) (.lit (.int .i64 (b : Int)))
theorem lit_ne {s t : Int} (h : s ≠ t) : (Lit.int .i64 s) ≠ (Lit.int .i64 t) := fun e => h (by injection e)
theorem isKey_int (s : Int) : WideAt.IsKeyLit (.int .i64 s) := by simp [WideAt.IsKeyLit]
theorem MapR.move {D : DataW Unit} {L : List Pl} (h : MapR D L) (hD : IsMap D) (hU : Uniq L) (b : Nat) (p0 q : Pl) (hb : L[b]? = some p0) (hq : ∀ (x : Nat) (d : Bool), q = some (x, d) → ∀ (j : Nat) (e : Bool), L[j]? = some (some (x, e)) → j = b) :
    MapR (mvPut (mvDel D p0) b q) (L.set b q) := by
  have hbl : b < L.length := (List.getElem?_eq_some_iff.1 hb).1
  have hU' := hU.set b q hq
  have hD1 : IsMap (mvDel D p0) := by unfold mvDel; split; exact hD; exact hD.del _
  -- behind the deletion: as it was, but for b
  have h1 : ∀ s : Int, (∀ x d, p0 = some (x, d) → (x : Int) ≠ s) → (Maps.has (mvDel D p0) (.int .i64 s) = (atS L s).isSome ∧ ∀ i, atS L s = some i → ∀ z, (mvDel D p0).atKey (.int .i64 s) z = .lit (.int .i64 (i : Int))) := by
    intro s hs
    cases p0 with
    | none => exact h s
    | some y =>
      obtain ⟨x, d⟩ := y
      have hne := hs x d rfl
      have h2 := h s
      simp only [mvDel]
      refine ⟨by rw [has_del_other (lit_ne (Ne.symm hne))]; exact h2.1, fun i hi z => ?_⟩
      rw [atKey_del_other (lit_ne (Ne.symm hne))]
      exact h2.2 i hi z
  have h2 : ∀ (x : Nat) (d : Bool), p0 = some (x, d) → Maps.has (mvDel D p0) (.int .i64 (x : Int)) = false := by
    rintro x d rfl
    simp only [mvDel]; exact has_del_same
  -- where s's block is then
  have hset : ∀ s : Int, (∀ x d, q = some (x, d) → (x : Int) ≠ s) → (∀ x d, p0 = some (x, d) → (x : Int) ≠ s) → atS (L.set b q) s = atS L s := by
    intro s hs1 hs2
    apply Option.ext
    intro i
    rw [atS_iff hU', atS_iff hU]
    constructor
    · rintro ⟨x, d, e, hx⟩
      rw [List.getElem?_set] at e
      split at e
      · try rw [if_pos (by omega)] at e
        exact absurd hx (hs1 x d (by simpa using e))
      · exact ⟨x, d, e, hx⟩
    · rintro ⟨x, d, e, hx⟩
      refine ⟨x, d, ?_, hx⟩
      rw [List.getElem?_set_ne]
      · exact e
      · rintro rfl
        rw [hb] at e
        exact absurd hx (hs2 x d (by simpa using e))
  intro s
  cases q with
  | none =>
    simp only [mvPut]
    by_cases hs : ∃ x d, p0 = some (x, d) ∧ ((x : Nat) : Int) = s
    · obtain ⟨x, d, rfl, rfl⟩ := hs
      have hn : atS (L.set b none) x = none := atS_none.2 (fun i y e hi hy => by
        rw [List.getElem?_set] at hi
        split at hi
        · try rw [if_pos (by omega)] at hi
          simp at hi
        · rename_i hne
          obtain rfl : y = x := by omega
          exact hne (hU b i y d e hb hi))
      rw [hn]
      exact ⟨h2 x d rfl, fun i hi => by cases hi⟩
    · have hs' : ∀ x d, p0 = some (x, d) → ((x : Nat) : Int) ≠ s := fun x d e1 e2 => hs ⟨x, d, e1, e2⟩
      rw [hset s (fun x d e => by cases e) hs']
      exact h1 s hs'
  | some y =>
    obtain ⟨y, dy⟩ := y
    simp only [mvPut]
    by_cases hy : (y : Int) = s
    · subst hy
      have hn : atS (L.set b (some (y, dy))) y = some b := atS_of hU' (d := dy) (by rw [List.getElem?_set_self hbl])
      rw [hn]
      exact ⟨has_put_same hD1 (isKey_int _) _, fun i hi z => by rw [atKey_put_same hD1 (isKey_int _)]; injection hi with hi; rw [hi]⟩
    · have hy' : ∀ x d, some (y, dy) = some (x, d) → ((x : Nat) : Int) ≠ s := fun x d e => by simp only [Option.some.injEq, Prod.mk.injEq] at e; rw [← e.1]; exact hy
      by_cases hs : ∃ x d, p0 = some (x, d) ∧ ((x : Nat) : Int) = s
      · obtain ⟨x, d, rfl, rfl⟩ := hs
        have hn : atS (L.set b (some (y, dy))) x = none := atS_none.2 (fun i z e hi hz => by
          rw [List.getElem?_set] at hi
          split at hi
          · try rw [if_pos (by omega)] at hi
            simp only [Option.some.injEq, Prod.mk.injEq] at hi
            omega
          · rename_i hne
            obtain rfl : z = x := by omega
            exact hne (hU b i z d e hb hi))
        rw [hn, has_put_other (lit_ne (Ne.symm hy))]
        exact ⟨h2 x d rfl, fun i hi => by cases hi⟩
      · have hs' : ∀ x d, p0 = some (x, d) → ((x : Nat) : Int) ≠ s := fun x d e1 e2 => hs ⟨x, d, e1, e2⟩
        rw [hset s hy' hs']
        have h3 := h1 s hs'
        refine ⟨by rw [has_put_other (lit_ne (Ne.symm hy))]; exact h3.1, fun i hi z => ?_⟩
        rw [atKey_put_other (lit_ne (Ne.symm hy))]
        exact h3.2 i hi z
/-- at places alone: dirty, or not -/
theorem atS_dirty {L : List Pl} {b x : Nat} {d e : Bool} (hb : L[b]? = some (some (x, d))) (s : Int) : atS (L.set b (some (x, e))) s = atS L s := by
  unfold atS
  have hbl : b < L.length := (List.getElem?_eq_some_iff.1 hb).1
  have hm : (L.set b (some (x, e))).map (isAt s) = L.map (isAt s) := by
    rw [List.map_set]
    apply List.ext_getElem?
    intro i
    rw [List.getElem?_set]
    split
    · rename_i h
      subst h
      rw [List.length_map, if_pos hbl, List.getElem?_map, hb]; rfl
    · rfl
  have key : ∀ l : List Pl, l.findIdx? (isAt s) = (l.map (isAt s)).findIdx? id := fun l => by rw [List.findIdx?_map]; rfl
  rw [key, key, hm]
theorem Uniq.dirty {L : List Pl} (hU : Uniq L) {b x : Nat} {d : Bool} (e : Bool) (hb : L[b]? = some (some (x, d))) : Uniq (L.set b (some (x, e))) :=
  hU.set b _ (fun y f hy j g hj => by
    simp only [Option.some.injEq, Prod.mk.injEq] at hy
    obtain ⟨rfl, _⟩ := hy
    exact hU j b x g d hj hb)
theorem MapR.dirty {D : DataW Unit} {L : List Pl} (h : MapR D L) {b x : Nat} {d : Bool} (e : Bool) (hb : L[b]? = some (some (x, d))) : MapR D (L.set b (some (x, e))) := fun s => by
  rw [atS_dirty hb s]; exact h s
end Go.Proofs.Ytfggllhflibfcaa
