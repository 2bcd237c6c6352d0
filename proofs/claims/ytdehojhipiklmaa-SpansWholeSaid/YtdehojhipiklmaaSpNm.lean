/- spans: what New makes of a list, told by its numbers; lists moved on. No program. -/
import Derived.Test.YtdehojhipiklmaaSpK
import Derived.Test.YtdehojhipiklmaaSpNum
namespace Go.Proofs.Ytdehojhipiklmaa

def inI (x : ISp) (y : Nat) : Prop := x.1 ≤ (y : Int) ∧ (y : Int) < x.1 + x.2
theorem foldl_good : ∀ (l : List ISp) (L : List Sp), rightAll l = true → GoodB L → GoodB (l.foldl addI L) ∧ ∀ y, hasL (l.foldl addI L) y ↔ hasL L y ∨ ∃ x ∈ l, inI x y
  | [], L, _, hg => ⟨hg, fun y => ⟨.inl, fun h => h.elim id (fun ⟨x, hx, _⟩ => by simp at hx)⟩⟩
  | x :: l, L, hr, hg => by
    have hr1 : mayB x.1 x.2 = true := (List.all_eq_true.1 hr) x (List.mem_cons_self ..)
    have hr2 : rightAll l = true := List.all_eq_true.2 (fun z hz => (List.all_eq_true.1 hr) z (List.mem_cons_of_mem _ hz))
    obtain ⟨a, n, e1, e2, hl⟩ := mayB_toNat hr1
    have hA := addL_good L hg a n hl
    have e : addI L x = addL L a n := by unfold addI; rw [e1, e2]; rfl
    rw [List.foldl_cons, e]
    obtain ⟨g1, g2⟩ := foldl_good l _ hr2 hA.1
    refine ⟨g1, fun y => ?_⟩
    rw [g2, hA.2]
    have hx : inI x y ↔ (a ≤ y ∧ y < a + n) := by unfold inI; rw [e1, e2]; omega
    constructor
    · rintro ((h | h) | ⟨z, hz, h⟩)
      · exact .inl h
      · exact .inr ⟨x, List.mem_cons_self .., hx.2 h⟩
      · exact .inr ⟨z, List.mem_cons_of_mem _ hz, h⟩
    · rintro (h | ⟨z, hz, h⟩)
      · exact .inl (.inl h)
      · rcases List.mem_cons.1 hz with rfl | hz
        · exact .inl (.inr (hx.1 h))
        · exact .inr ⟨z, hz, h⟩
theorem newL_good (l : List ISp) (h : rightAll l = true) : GoodB (newL l) ∧ ∀ y, hasL (newL l) y ↔ ∃ x ∈ l, inI x y := by
  obtain ⟨h1, h2⟩ := foldl_good l [] h GoodB.nil
  exact ⟨h1, fun y => (h2 y).trans ⟨fun h => h.elim (fun e => absurd e (hasL_nil y)) id, .inr⟩⟩
/-- the set is told by the numbers of the list -/
theorem newL_ext (l m : List ISp) (h : rightAll l = true) (h' : rightAll m = true) (he : ∀ y, (∃ x ∈ l, inI x y) ↔ ∃ x ∈ m, inI x y) : newL l = newL m :=
  good_ext _ _ (newL_good l h).1.1 (newL_good m h').1.1 (fun y => ((newL_good l h).2 y).trans ((he y).trans ((newL_good m h').2 y).symm))
theorem addL_len (L : List Sp) (a n : Nat) : (addL L a n).length ≤ L.length + 1 := by
  unfold addL
  split
  · omega
  · have h1 := first_le_last L ((a : Int) - 1) ((a : Int) + n)
    have h2 := lastOf_le L ((a : Int) - 1) ((a : Int) + n)
    rw [List.length_append, List.length_append, List.length_take, List.length_drop, List.length_singleton]; omega
theorem foldl_len : ∀ (l : List ISp) (L : List Sp), (l.foldl addI L).length ≤ L.length + l.length
  | [], L => by simp
  | x :: l, L => by
    rw [List.foldl_cons, List.length_cons]
    have := foldl_len l (addI L x)
    have := addL_len L x.1.toNat x.2.toNat
    unfold addI at *
    omega
theorem newL_len (l : List ISp) : (newL l).length ≤ l.length := by have := foldl_len l []; simpa [newL] using this
/-- so much further on -/
def movI (by_ : Int) (x : ISp) : ISp := (x.1 + by_, x.2)
def movS (k : Nat) (s : Sp) : Sp := (s.1 + k, s.2)
theorem hasL_mov (L : List Sp) (k y : Nat) : hasL (L.map (movS k)) y ↔ k ≤ y ∧ hasL L (y - k) := by
  unfold hasL
  constructor
  · rintro ⟨s, hs, h1, h2⟩
    obtain ⟨t, ht, rfl⟩ := List.mem_map.1 hs
    have h1 : t.1 + k ≤ y := h1
    have h2 : y < t.1 + k + t.2 := h2
    exact ⟨by omega, t, ht, by omega, by omega⟩
  · rintro ⟨hk, t, ht, h1, h2⟩
    exact ⟨movS k t, List.mem_map.2 ⟨t, ht, rfl⟩, by show t.1 + k ≤ y; omega, by show y < t.1 + k + t.2; omega⟩
theorem good_mov (L : List Sp) (k : Nat) (h : Good L) : Good (L.map (movS k)) := by
  refine ⟨fun s hs => ?_, ?_⟩
  · obtain ⟨t, ht, rfl⟩ := List.mem_map.1 hs
    exact h.1 t ht
  · rw [List.pairwise_map]
    exact h.2.imp (fun {s t} hst => by show s.1 + k + s.2 < t.1 + k; omega)
theorem newL_mov (l : List ISp) (k : Nat) (h : rightAll l = true) (h' : rightAll (l.map (movI k)) = true) : newL (l.map (movI k)) = (newL l).map (movS k) := by
  obtain ⟨g1, g2⟩ := newL_good l h
  obtain ⟨g3, g4⟩ := newL_good _ h'
  refine good_ext _ _ g3.1 (good_mov _ k g1.1) (fun y => ?_)
  rw [g4, hasL_mov, g2]
  constructor
  · rintro ⟨x, hx, h1, h2⟩
    obtain ⟨z, hz, rfl⟩ := List.mem_map.1 hx
    have h1 : z.1 + (k : Int) ≤ y := h1
    have h2 : (y : Int) < z.1 + (k : Int) + z.2 := h2
    have h3 := mayB_iff.1 ((List.all_eq_true.1 h) z hz)
    exact ⟨by omega, z, hz, by show z.1 ≤ ((y - k : Nat) : Int); omega, by show ((y - k : Nat) : Int) < z.1 + z.2; omega⟩
  · rintro ⟨hk, z, hz, h1, h2⟩
    have h1 : z.1 ≤ ((y - k : Nat) : Int) := h1
    have h2 : ((y - k : Nat) : Int) < z.1 + z.2 := h2
    exact ⟨movI k z, List.mem_map.2 ⟨z, hz, rfl⟩, by show z.1 + (k : Int) ≤ y; omega, by show (y : Int) < z.1 + (k : Int) + z.2; omega⟩
theorem sumN_mov (k : Nat) : ∀ L : List Sp, sumN (L.map (movS k)) = sumN L
  | [] => rfl
  | s :: L => by rw [List.map_cons, sumN, sumN, sumN_mov k L]; rfl
/-! parted, and going round -/
def bigI (x : ISp) : Bool := decide (1099511627776 < x.1) || decide (1099511627776 < x.2) || decide (x.1 < 0) || decide (x.2 < 0)
/-- a span, parted at k -/
def partI (k : Int) (x : ISp) : List ISp := if bigI x = true then [x] else [(x.1 + k, x.2 - k), (x.1, k)]
theorem part_right {x : ISp} {k : Int} (h0 : 0 ≤ k) (hk : k ≤ x.2) : (partI k x).all (fun z => mayB z.1 z.2) = mayB x.1 x.2 := by
  unfold partI
  split
  · simp
  · rw [Bool.eq_iff_iff]
    simp only [List.all_cons, List.all_nil, Bool.and_true, Bool.and_eq_true, mayB_iff]
    constructor
    · rintro ⟨h1, h2⟩; exact ⟨h2.1, by omega, by omega⟩
    · rintro ⟨h1, h2, h3⟩; exact ⟨⟨by omega, by omega, by omega⟩, by omega, by omega, by omega⟩
theorem part_right_big {x : ISp} {k : Int} (hb : bigI x = true) : (partI k x).all (fun z => mayB z.1 z.2) = mayB x.1 x.2 := by unfold partI; rw [if_pos hb]; simp
theorem part_in {x : ISp} {k : Int} {y : Nat} (h : bigI x = true ∨ (0 ≤ k ∧ k ≤ x.2)) : (∃ z ∈ partI k x, inI z y) ↔ inI x y := by
  unfold partI
  split
  · simp
  · rename_i hb
    obtain ⟨h0, hk⟩ := h.resolve_left hb
    unfold inI
    constructor
    · rintro ⟨z, hz, h1, h2⟩
      simp only [List.mem_cons, List.not_mem_nil, or_false] at hz
      rcases hz with rfl | rfl
      · have h1 : x.1 + k ≤ y := h1
        have h2 : (y : Int) < x.1 + k + (x.2 - k) := h2
        omega
      · have h1 : x.1 ≤ y := h1
        have h2 : (y : Int) < x.1 + k := h2
        omega
    · rintro ⟨h1, h2⟩
      by_cases hy : (y : Int) < x.1 + k
      · exact ⟨(x.1, k), by simp, h1, hy⟩
      · exact ⟨(x.1 + k, x.2 - k), by simp, by show x.1 + k ≤ y; omega, by show (y : Int) < x.1 + k + (x.2 - k); omega⟩
/-- all of a list, going round, each one parted -/
theorem round_ext (l : List ISp) (n f : Nat) (hn : l.length = n) (hf : f < n) (g : ISp → Int) (hg : ∀ x ∈ l, bigI x = true ∨ (0 ≤ g x ∧ g x ≤ x.2)) (m : List ISp) (hm : m = (List.range n).flatMap (fun i => match l[(f + i) % n]? with | some x => partI (g x) x | none => [])) :
    rightAll m = rightAll l ∧ (∀ y, (∃ x ∈ l, inI x y) ↔ ∃ x ∈ m, inI x y) := by
  subst hm
  have key : ∀ P : ISp → Prop, (∃ i, i < n ∧ ∃ x, l[(f + i) % n]? = some x ∧ P x) ↔ ∃ x ∈ l, P x := fun P => by
    constructor
    · rintro ⟨i, hi, x, hx, hp⟩
      exact ⟨x, List.mem_of_getElem? hx, hp⟩
    · rintro ⟨x, hx, hp⟩
      obtain ⟨j, hj, rfl⟩ := List.getElem_of_mem hx
      refine ⟨(j + (n - f)) % n, Nat.mod_lt _ (by omega), l[j], ?_, hp⟩
      have e : (f + (j + (n - f)) % n) % n = j := by
        rw [Nat.add_mod_mod, show f + (j + (n - f)) = j + n by omega, Nat.add_mod_right, Nat.mod_eq_of_lt (by omega)]
      rw [e, List.getElem?_eq_getElem hj]
  have hall : ∀ Q : ISp → Bool, (∀ x ∈ l, (partI (g x) x).all Q = Q x) → ((List.range n).flatMap (fun i => match l[(f + i) % n]? with | some x => partI (g x) x | none => [])).all Q = l.all Q := fun Q hQ => by
    rw [Bool.eq_iff_iff, List.all_eq_true, List.all_eq_true]
    constructor
    · intro h x hx
      obtain ⟨i, hi, z, hz, rfl⟩ := (key (fun z => z = x)).2 ⟨x, hx, rfl⟩
      rw [← hQ z hx, List.all_eq_true]
      intro u hu
      exact h u (List.mem_flatMap.2 ⟨i, List.mem_range.2 hi, by rw [hz]; exact hu⟩)
    · intro h u hu
      obtain ⟨i, hi, hu⟩ := List.mem_flatMap.1 hu
      cases hz : l[(f + i) % n]? with
      | none => rw [hz] at hu; simp at hu
      | some z =>
        rw [hz] at hu
        have hzl := List.mem_of_getElem? hz
        have := hQ z hzl
        rw [h z hzl, List.all_eq_true] at this
        exact this u hu
  refine ⟨hall _ (fun x hx => ?_), fun y => ?_⟩
  · rcases hg x hx with h | ⟨h1, h2⟩
    · exact part_right_big h
    · exact part_right h1 h2
  · constructor
    · rintro ⟨x, hx, h⟩
      obtain ⟨i, hi, z, hz, rfl⟩ := (key (fun z => z = x)).2 ⟨x, hx, rfl⟩
      obtain ⟨u, hu, hu2⟩ := (part_in (hg z hx)).2 h
      exact ⟨u, List.mem_flatMap.2 ⟨i, List.mem_range.2 hi, by rw [hz]; exact hu⟩, hu2⟩
    · rintro ⟨u, hu, h⟩
      obtain ⟨i, hi, hu⟩ := List.mem_flatMap.1 hu
      cases hz : l[(f + i) % n]? with
      | none => rw [hz] at hu; simp at hu
      | some z =>
        rw [hz] at hu
        have hzl := List.mem_of_getElem? hz
        exact ⟨z, hzl, (part_in (hg z hzl)).1 ⟨u, hu, h⟩⟩
end Go.Proofs.Ytdehojhipiklmaa
