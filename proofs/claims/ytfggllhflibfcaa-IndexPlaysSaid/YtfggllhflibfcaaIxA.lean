/- index: the index in memory; there, nowhere, Get, At. -/
import Derived.Test.YtfggllhflibfcaaIxMath
import Derived.Test.YtfggllhflibfcaaOwn
import Derived.Test.YtfggllhflibfcaaStl
import Derived.Test.YtfggllhflibfcaaElems
import Derived.WalkMore
import Derived.Deep.LoopGhost
import Derived.BigQuiet
import Derived.Deep.QuietTactic
import Derived.WalkLawsBesides
import Derived.Deep.DeepCutAuto
import Derived.Laws.ResultCell
import Derived.Laws.Rows
namespace Go.Proofs.Ytfggllhflibfcaa
open Go.RowKit Go.Maps

def plV : Pl → List Value
  | none => [.int .i64 (-1), .bool false]
  | some (s, d) => [.int .i64 (s : Int), .bool d]
theorem plV_len (p : Pl) : (plV p).length = 2 := by cases p <;> rfl
theorem plV_one (p : Pl) : ∀ u ∈ plV p, u.oneCell' = true := fun u hu => by
  cases p with
  | none => simp [plV] at hu; rcases hu with rfl | rfl <;> rfl
  | some q => obtain ⟨s, d⟩ := q; simp [plV] at hu; rcases hu with rfl | rfl <;> rfl
/-- a place's slot as Go has it -/
def plS : Pl → Int
  | none => -1
  | some (s, _) => (s : Int)
def plD : Pl → Bool
  | none => false
  | some (_, d) => d
theorem plV_eq (p : Pl) : plV p = [.int .i64 (plS p), .bool (plD p)] := by cases p <;> rfl
def plA (p : Pl) : Value := .agg #[.int .i64 (plS p), .bool (plD p)]
theorem law_int : Keyed Try.prog 3 := int_keyed Try.underlying3
theorem zero_int (w : World) : (zeroValue 3).run Try.prog w = .ok (.int .i64 0) w := by kernel_rfl
abbrev MapIn (w : World) (b c : Nat) (D : DataW Unit) : Prop := w.ownsMap Try.prog 3 (plainElem Try.prog 3) b c D
theorem MapIn.blk {w w' : World} {b c : Nat} {D : DataW Unit} (h : MapIn w b c D) (e : w'.heap[b]? = w.heap[b]?) : MapIn w' b c D := by
  obtain ⟨es, k, hb, r⟩ := h
  exact ⟨es, k, e.trans hb, r⟩
structure IxV (w : World) (p g b cp : Nat) (L : List Pl) (m c : Nat) (D : DataW Unit) : Prop where
  blk : w.heap[p]? = some (.cells #[.slice (some ⟨g, 0, none⟩) L.length cp, .map (some b), .int .i64 (m : Int)] 64 (0, 0))
  row : w.ownsRow 0 44 2 (.slice (some ⟨g, 0, none⟩) L.length cp) L.length (L.flatMap plV)
  map : MapIn w b c D
  rep : MapR D L
  uniq : Uniq L
  slot : ∀ (i x : Nat) (d : Bool), L[i]? = some (some (x, d)) → x < m
  len : 1 ≤ L.length ∧ L.length ≤ 4096
  most : m ≤ 1024
  cnt : c ≤ 100000
def Ix (w : World) (p : Nat) (S : Nat → Prop) (L : List Pl) (m c : Nat) : Prop := ∃ g b cp D, IxV w p g b cp L m c D ∧ S p ∧ S g ∧ S b ∧ ∀ k, S k → k < w.heap.size
theorem IxV.fr {T : Nat → Prop} {w w' : World} {p g b cp m c : Nat} {L : List Pl} {D : DataW Unit} (h : IxV w p g b cp L m c D) (f : Fr T w w') (hp : ¬ T p) (hg : ¬ T g) (hb : ¬ T b) : IxV w' p g b cp L m c D :=
  ⟨(f.block p (lt_of_block h.blk) hp).trans h.blk, own_frk h.row f (fun k hk => by simp only [Value.ownBlock, Option.some.injEq] at hk; subst hk; exact hg), h.map.blk (f.block b h.map.lt hb), h.rep, h.uniq, h.slot, h.len, h.most, h.cnt⟩
theorem Ix.fr {S T : Nat → Prop} {w w' : World} {p m c : Nat} {L : List Pl} (h : Ix w p S L m c) (f : Fr T w w') (hT : ∀ k, S k → ¬ T k) : Ix w' p S L m c := by
  obtain ⟨g, b, cp, D, h1, h2, h3, h4, h5⟩ := h
  exact ⟨g, b, cp, D, h1.fr f (hT _ h2) (hT _ h3) (hT _ h4), h2, h3, h4, fun k hk => f.lt (h5 k hk)⟩
theorem Ix.no {S : Nat → Prop} {w w' : World} {p m c : Nat} {L : List Pl} (h : Ix w p S L m c) (f : Fr No w w') : Ix w' p S L m c := h.fr f (fun _ _ => id)
theorem Ix.lt {S : Nat → Prop} {w : World} {p m c : Nat} {L : List Pl} (h : Ix w p S L m c) : ∀ k, S k → k < w.heap.size := by obtain ⟨_, _, _, _, _, _, _, _, h⟩ := h; exact h
theorem Ix.sp {S : Nat → Prop} {w : World} {p m c : Nat} {L : List Pl} (h : Ix w p S L m c) : S p := by obtain ⟨_, _, _, _, _, h, _⟩ := h; exact h
theorem Ix.len {S : Nat → Prop} {w : World} {p m c : Nat} {L : List Pl} (h : Ix w p S L m c) : 1 ≤ L.length ∧ L.length ≤ 4096 := by obtain ⟨_, _, _, _, h, _⟩ := h; exact h.len
/-- the index's cells -/
theorem IxV.cells {w : World} {p g b cp m c : Nat} {L : List Pl} {D : DataW Unit} (h : IxV w p g b cp L m c D) : w.cell? ⟨p, 0, none⟩ = some (.slice (some ⟨g, 0, none⟩) L.length cp) ∧ w.cell? ⟨p, 1, none⟩ = some (.map (some b)) ∧ w.cell? ⟨p, 2, none⟩ = some (.int .i64 (m : Int)) :=
  ⟨by rw [cell_blk h.blk]; rfl, by rw [cell_blk h.blk]; rfl, by rw [cell_blk h.blk]; rfl⟩
theorem IxV.at {w : World} {p g b cp m c : Nat} {L : List Pl} {D : DataW Unit} (h : IxV w p g b cp L m c D) (i : Nat) (hi : i < L.length) : w.cell? ⟨g, i * 2, none⟩ = some (.int .i64 (plS L[i])) ∧ w.cell? ⟨g, i * 2 + 1, none⟩ = some (.bool (plD L[i])) := by
  obtain ⟨g', cap', hv', _, _, hr, _⟩ := own_at h.row (fun x _ => plV_len x) i hi
  obtain rfl : g = g' := by injection hv' with e; injection e with e; injection e
  refine ⟨?_, ?_⟩
  · have := hr 0 (.int .i64 (plS L[i])) (by rw [plV_eq]; rfl)
    simpa using this
  · exact hr 1 (.bool (plD L[i])) (by rw [plV_eq]; rfl)
theorem pl_size : (Try.prog.info? 44).map (·.size) = some 2 := by kernel_rfl
theorem res_pl {fn : Func} {p : Tmp} (h : fn.results = #[.cell p 44]) {tmps : Array Value} {w : World} {g : Nat} {a b : Value} (hp : tmps.getD p undef = .pointer (some ⟨g, 0, none⟩)) (hg : w.heap[g]? = some (.cells #[a, b] 44 (0, 0))) :
    (results fn tmps).run Try.prog w = .ok (.agg #[a, b]) w :=
  results_cell_row h tmps w g _ _ (0, 0) _ hp hg Try.underlying44 rfl pl_size
theorem res_pl2 {fn : Func} {p u : Tmp} (h : fn.results = #[.cell p 44, .tmp u]) {tmps : Array Value} {w : World} {g : Nat} {a b : Value} (hp : tmps.getD p undef = .pointer (some ⟨g, 0, none⟩)) (hg : w.heap[g]? = some (.cells #[a, b] 44 (0, 0))) :
    (results fn tmps).run Try.prog w = .ok (.tuple #[.agg #[a, b], tmps.getD u undef]) w := by
  rw [results_cell_tmp h]
  have hp' : tmps[p]?.getD undef = .pointer (some ⟨g, 0, none⟩) := by simpa using hp
  simp [hp', asAddr, run_loadVar_row w g 44 44 #[a, b] (0, 0) _ hg Try.underlying44 rfl pl_size, Result.andThen]
theorem lit_inj {a b : Int} (h : (DataW.lit (.int .i64 a) : DataW Unit) = .lit (.int .i64 b)) : a = b := by cases h; rfl
theorem blk2 {w : World} {q : Nat} {a b : Value} {t : TypeId} (h : w.heap[q]? = some (.cells #[a, b] t (0, 0))) : w.cell? ⟨q, 0, none⟩ = some a ∧ w.cell? ⟨q, 1, none⟩ = some b ∧ w.frozen? ⟨q, 0, none⟩ = false ∧ w.frozen? ⟨q, 1, none⟩ = false :=
  ⟨by rw [cell_blk h]; rfl, by rw [cell_blk h]; rfl, free_blk h 0, free_blk h 1⟩
theorem put2 {w : World} {q : Nat} {a b : Value} {t : TypeId} (h : w.heap[q]? = some (.cells #[a, b] t (0, 0))) (v0 v1 : Value) : ((w.setCell ⟨q, 0, none⟩ v0).setCell ⟨q, 1, none⟩ v1).heap[q]? = some (.cells #[v0, v1] t (0, 0)) := by
  rw [set_blk (set_blk h 0 v0) 1 v1]; rfl
theorem fr_put2 {S : Nat → Prop} {w w1 : World} {q : Nat} (h : Fr S w w1) (hq : w.heap.size ≤ q) (v0 v1 : Value) : Fr S w ((w1.setCell ⟨q, 0, none⟩ v0).setCell ⟨q, 1, none⟩ v1) :=
  (h.setCell (p := ⟨q, 0, none⟩) (fun h => absurd h (by show ¬ q < _; omega)) v0).setCell (p := ⟨q, 1, none⟩) (fun h => absurd h (by show ¬ q < _; omega)) v1
/-- the result's own block, and what it is behind a call -/
theorem made2 (w : World) (a b : Value) (t : TypeId) {w1 : World} (h : Fr No (w.alloc (.cells #[a, b] t)) w1) : w1.heap[w.heap.size]? = some (.cells #[a, b] t (0, 0)) := (h.block _ (by simp) id).trans (heap_new w _)
theorem ix_nowhere (w : World) : Calls Try.prog 25 #[] w fun e w' => e = .returned (.agg #[.int .i64 (-1), .bool false]) ∧ Fr No w w' := by
  go_enter Try.func25, Try.ntmps25
  go_wp2_with fail
  exact bodyPost_ret (res_pl rfl rfl (heap_new w _)) rfl ⟨rfl, (Fr.refl _ _).alloc _⟩
def thereI (L : List Pl) (x : Int) : Int := if 0 ≤ x ∧ x < L.length then 0 else 10
theorem ix_there_nil (w : World) (x : Int) : Calls Try.prog 36 #[.pointer none, .int .i64 x] w fun e w' => e = .returned (.int .i64 2) ∧ Fr No w w' := by
  go_enter Try.func36, Try.ntmps36
  go_wp2_with fail
  go_ret
  exact ⟨rfl, Fr.refl _ _⟩
theorem ix_there (w : World) (p m c : Nat) (S : Nat → Prop) (L : List Pl) (h : Ix w p S L m c) (x : Int) : Calls Try.prog 36 #[.pointer (some ⟨p, 0, none⟩), .int .i64 x] w fun e w' => e = .returned (.int .i64 (thereI L x)) ∧ Fr No w w' := by
  obtain ⟨g, b, cp, D, hV, _⟩ := h
  obtain ⟨c0, _, _⟩ := hV.cells
  have hl := hV.len
  clear hV
  obtain ⟨n, hn⟩ : ∃ n, L.length = n := ⟨_, rfl⟩
  rw [hn] at c0 hl
  have hT : thereI L x = if 0 ≤ x ∧ x < n then 0 else 10 := by unfold thereI; rw [hn]
  clear hn
  have hl2 := hl.2
  by_cases h0 : 0 ≤ x
  · by_cases h1 : x < n
    · rw [hT, if_pos ⟨h0, h1⟩]
      clear hT
      go_enter Try.func36, Try.ntmps36
      go_wp2_with fail
      go_ret
      exact ⟨rfl, Fr.refl _ _⟩
    · rw [hT, if_neg (fun h => h1 h.2)]
      clear hT
      go_enter Try.func36, Try.ntmps36
      go_wp2_with fail
      go_ret
      exact ⟨rfl, Fr.refl _ _⟩
  · rw [hT, if_neg (fun h => h0 h.1)]
    clear hT
    go_enter Try.func36, Try.ntmps36
    go_wp2_with fail
    go_ret
    exact ⟨rfl, Fr.refl _ _⟩
theorem ix_At_nil (w : World) (x : Int) : Calls Try.prog 17 #[.pointer none, .int .i64 x] w fun e w' => e = .returned (.tuple #[.int .i64 0, .int .i64 2]) ∧ Fr No w w' := by
  go_enter Try.func17, Try.ntmps17
  go_wp2_with fail
  go_ret2
  exact ⟨rfl, Fr.refl _ _⟩
/-- what At answers -/
def atI (L : List Pl) (m : Nat) (x : Int) : Int × Int := if 0 ≤ x ∧ x < m then (match atS L x with | some i => ((i : Int), (0 : Int)) | none => ((0 : Int), (14 : Int))) else ((0 : Int), (10 : Int))
theorem ix_At (w : World) (p m c : Nat) (S : Nat → Prop) (L : List Pl) (h : Ix w p S L m c) (x : Int) (hx : (Lit.int .i64 x).wf = true) : Calls Try.prog 17 #[.pointer (some ⟨p, 0, none⟩), .int .i64 x] w fun e w' => e = .returned (.tuple #[.int .i64 (atI L m x).1, .int .i64 (atI L m x).2]) ∧ Fr No w w' := by
  obtain ⟨g, b, cp, D, hV, _⟩ := h
  obtain ⟨_, c1, c2⟩ := hV.cells
  have hm := hV.most
  have HM := hid hV.map
  have HR := hid (hV.rep x)
  clear hV
  have hT : atI L m x = if 0 ≤ x ∧ x < m then (match atS L x with | some i => ((i : Int), (0 : Int)) | none => ((0 : Int), (14 : Int))) else ((0 : Int), (10 : Int)) := rfl
  by_cases h0 : 0 ≤ x
  · by_cases h1 : x < m
    · rw [hT, if_pos ⟨h0, h1⟩]
      clear hT
      have hkey := keyOf_int_mk Try.underlying3 hx
      obtain ⟨r, hr⟩ : ∃ r, Maps.has D (.int .i64 x) = r := ⟨_, rfl⟩
      have HH := hid hr
      go_enter Try.func17, Try.ntmps17
      cases r
      · have hn : atS L x = none := by have := HR.out.1; rw [HH.out] at this; cases e : atS L x with | none => rfl | some i => rw [e] at this; cases this
        rw [hn]
        go_wp2_with (at_lookup; refine wpList_lookup_own_ok_int _ rfl _ _ 62 rfl 3 3 .i64 law_int Try.underlying62 Try.underlying3 (zero_int _) b c D rfl HM.out _ _ rfl hkey ?_; intro v hat hwv; have HAT := hid hat; rw [HH.out]; clear hat)
        go_ret2
        exact ⟨rfl, Fr.refl _ _⟩
      · obtain ⟨i, hi⟩ : ∃ i, atS L x = some i := by have := HR.out.1; rw [HH.out] at this; cases e : atS L x with | none => rw [e] at this; cases this | some i => exact ⟨i, rfl⟩
        have HI := hid (HR.out.2 i hi (.lit (.int .i64 0)))
        rw [hi]
        clear hi
        go_wp2_with (at_lookup; refine wpList_lookup_own_ok_int _ rfl _ _ 62 rfl 3 3 .i64 law_int Try.underlying62 Try.underlying3 (zero_int _) b c D rfl HM.out _ _ rfl hkey ?_; intro v hat hwv; obtain rfl : v = (i : Int) := (lit_inj (HI.out.symm.trans hat)).symm; rw [HH.out]; clear hat)
        go_ret2
        exact ⟨rfl, Fr.refl _ _⟩
    · rw [hT, if_neg (fun h => h1 h.2)]
      clear hT
      go_enter Try.func17, Try.ntmps17
      go_wp2_with fail
      go_ret2
      exact ⟨rfl, Fr.refl _ _⟩
  · rw [hT, if_neg (fun h => h0 h.1)]
    clear hT
    go_enter Try.func17, Try.ntmps17
    go_wp2_with fail
    go_ret2
    exact ⟨rfl, Fr.refl _ _⟩
theorem ix_Get_nil (w : World) (x : Int) : Calls Try.prog 16 #[.pointer none, .int .i64 x] w fun e w' => e = .returned (.tuple #[.agg #[.int .i64 0, .bool false], .int .i64 2]) ∧ Fr No w w' := by
  have HA := hid ((Fr.refl No w).alloc (.cells #[.int .i64 0, .bool false] 44))
  go_enter Try.func16, Try.ntmps16
  go_wp2_with (go_at_call 36; refine (ix_there_nil _ x).mono ?_; rintro e w1 ⟨rfl, hF⟩; have HQ := hid (made2 _ _ _ _ hF); have HF := hid (HA.out.trans hF); obtain ⟨q0, q1, f0, f1⟩ := blk2 HQ.out; clear hF)
  exact bodyPost_ret (res_pl2 rfl rfl (put2 HQ.out _ _)) rfl ⟨rfl, fr_put2 HF.out (Nat.le_refl _) _ _⟩
/-- what Get answers -/
def getI (L : List Pl) (x : Int) : Pl × Int := if 0 ≤ x ∧ x < L.length then (match L[x.toNat]? with | some (some q) => (some q, (0 : Int)) | _ => (some (0, false), (14 : Int))) else (some (0, false), (10 : Int))
theorem plA_eq (p : Pl) : plA p = .agg #[.int .i64 (plS p), .bool (plD p)] := rfl
theorem ix_Get (w : World) (p m c : Nat) (S : Nat → Prop) (L : List Pl) (h : Ix w p S L m c) (x : Int) : Calls Try.prog 16 #[.pointer (some ⟨p, 0, none⟩), .int .i64 x] w fun e w' => e = .returned (.tuple #[plA (getI L x).1, .int .i64 (getI L x).2]) ∧ Fr No w w' := by
  have HI := hid h
  obtain ⟨g, b, cp, D, hV, _⟩ := h
  have HV := hid hV
  have hlen := hV.len.2
  obtain ⟨c0, _, _⟩ := hV.cells
  have hT : getI L x = if 0 ≤ x ∧ x < L.length then (match L[x.toNat]? with | some (some q) => (some q, (0 : Int)) | _ => (some (0, false), (14 : Int))) else (some (0, false), (10 : Int)) := rfl
  have hE : thereI L x = if 0 ≤ x ∧ x < L.length then 0 else 10 := rfl
  have HA := hid ((Fr.refl No w).alloc (.cells #[.int .i64 0, .bool false] 44))
  have hlp := lt_of_block hV.blk
  by_cases hx : 0 ≤ x ∧ x < L.length
  · rw [hT, if_pos hx]
    rw [if_pos hx] at hE
    obtain ⟨i, rfl⟩ : ∃ i : Nat, x = i := ⟨x.toNat, by omega⟩
    have hi : i < L.length := by omega
    obtain ⟨a0, a1⟩ := hV.at i hi
    rw [Int.toNat_natCast, List.getElem?_eq_getElem hi]
    obtain ⟨q, hq⟩ : ∃ q, L[i] = q := ⟨_, rfl⟩
    rw [hq] at a0 a1 ⊢
    have hgl : g < w.heap.size := by obtain ⟨cs, hc⟩ := own_ty hV.row (by rfl); exact lt_of_block hc
    have HE := hid hE
    clear hT hE hV hq hx
    obtain ⟨n, hn⟩ : ∃ n, L.length = n := ⟨_, rfl⟩
    rw [hn] at c0 hi hlen
    have hin : (i : Int) < (n : Int) := by omega
    cases q with
    | none =>
      show Calls _ _ _ _ fun e w' => e = .returned (.tuple #[.agg #[.int .i64 0, .bool false], .int .i64 14]) ∧ Fr No w w'
      simp only [plS, plD] at a0 a1
      go_enter Try.func16, Try.ntmps16
      go_wp2_with (go_at_call 36; refine (ix_there _ p m c S L (HI.out.no HA.out) i).mono ?_; rw [HE.out]; rintro e w1 ⟨rfl, hF⟩; have HQ := hid (made2 _ _ _ _ hF); have HF := hid (HA.out.trans hF); obtain ⟨q0, q1, f0, f1⟩ := blk2 HQ.out; have d0 := (HF.out.cell (p := ⟨p, 0, none⟩) hlp id).trans c0; have e0 := (HF.out.cell (p := ⟨g, i * 2, none⟩) hgl id).trans a0; have e1 := (HF.out.cell (p := ⟨g, i * 2 + 1, none⟩) hgl id).trans a1; clear hF)
      refine wp_region_held_drew (S := fun W => W.cell? ⟨p, 0, none⟩ = some (.slice (some ⟨g, 0, none⟩) n cp) ∧ W.cell? ⟨g, i * 2, none⟩ = some (.int .i64 (-1)) ∧ W.cell? ⟨g, i * 2 + 1, none⟩ = some (.bool false)) (by kernel_rfl) ⟨d0, e0, e1⟩ (fun hHeld => ?_)
      refine wpAnyH_take (i := 0) (v := ?_) rfl (by kernel_rfl) (by kernel_rfl) (by kernel_rfl) (fun _ _ _ h => h) (Or.inl ⟨by rfl, ?_⟩) hHeld ?_
      rotate_left
      · intro w hSw
        go_simp
        with_reducible rfl
      try simp only [Act.put, List.getElem_toArray, List.getElem_cons_zero, List.getElem_cons_succ, List.setIfInBounds_toArray, List.set_cons_zero, List.set_cons_succ]
      refine wpAnyH_take (i := 1) (v := ?_) rfl (by kernel_rfl) (by kernel_rfl) (by kernel_rfl) (fun _ _ _ h => h) (Or.inl ⟨by rfl, ?_⟩) hHeld ?_
      rotate_left
      · intro w hSw
        go_simp
        with_reducible rfl
      try simp only [Act.put, List.getElem_toArray, List.getElem_cons_zero, List.getElem_cons_succ, List.setIfInBounds_toArray, List.set_cons_zero, List.set_cons_succ]
      refine wpAnyH_take (i := 2) (v := ?_) rfl (by kernel_rfl) (by kernel_rfl) (by kernel_rfl) (fun _ _ _ h => h) (Or.inl ⟨by rfl, ?_⟩) hHeld ?_
      rotate_left
      · intro w hSw
        go_simp
        with_reducible rfl
      try simp only [Act.put, List.getElem_toArray, List.getElem_cons_zero, List.getElem_cons_succ, List.setIfInBounds_toArray, List.set_cons_zero, List.set_cons_succ]
      refine wpAnyH_take (i := 3) (v := ?_) rfl (by kernel_rfl) (by kernel_rfl) (by kernel_rfl) (fun _ _ _ h => h) (Or.inl ⟨by rfl, ?_⟩) hHeld ?_
      rotate_left
      · intro w hSw; obtain ⟨s0, s1, s2⟩ := hSw
        go_simp
        with_reducible rfl
      try simp only [Act.put, List.getElem_toArray, List.getElem_cons_zero, List.getElem_cons_succ, List.setIfInBounds_toArray, List.set_cons_zero, List.set_cons_succ]
      refine wpAnyH_take (i := 4) (v := ?_) rfl (by kernel_rfl) (by kernel_rfl) (by kernel_rfl) (fun _ _ _ h => h) (Or.inl ⟨by rfl, ?_⟩) hHeld ?_
      rotate_left
      · intro w hSw
        go_simp
        with_reducible rfl
      try simp only [Act.put, List.getElem_toArray, List.getElem_cons_zero, List.getElem_cons_succ, List.setIfInBounds_toArray, List.set_cons_zero, List.set_cons_succ]
      refine wpAnyH_take (i := 5) (v := ?_) rfl (by kernel_rfl) (by kernel_rfl) (by kernel_rfl) (fun _ _ _ h => h) (Or.inl ⟨by rfl, ?_⟩) hHeld ?_
      rotate_left
      · intro w hSw
        go_simp
        with_reducible rfl
      try simp only [Act.put, List.getElem_toArray, List.getElem_cons_zero, List.getElem_cons_succ, List.setIfInBounds_toArray, List.set_cons_zero, List.set_cons_succ]
      refine wpAnyH_take (i := 6) (v := ?_) rfl (by kernel_rfl) (by kernel_rfl) (by kernel_rfl) (fun _ _ _ h => h) (Or.inl ⟨by rfl, ?_⟩) hHeld ?_
      rotate_left
      · intro w hSw; obtain ⟨s0, s1, s2⟩ := hSw
        go_simp
        with_reducible rfl
      try simp only [Act.put, List.getElem_toArray, List.getElem_cons_zero, List.getElem_cons_succ, List.setIfInBounds_toArray, List.set_cons_zero, List.set_cons_succ]
      refine wpAnyH_ready (rs := [7]) (by kernel_rfl) (by simp) ?_
      refine AllReadyH.cons rfl (fun K hK => ?_) AllReadyH.nil
      rw [if_pos (by rfl)]
      go_simp
      refine (ix_nowhere _).mono ?_
      rintro e w2 ⟨rfl, hF⟩
      have HQ2 := hid ((hF.block w.heap.size (lt_of_block HQ.out) id).trans HQ.out)
      have HF2 := hid (HF.out.trans ((Fr.refl No w1).drew.trans hF))
      have HH2 := hid (And.intro ((HF2.out.cell (p := ⟨p, 0, none⟩) hlp id).trans c0) (And.intro ((HF2.out.cell (p := ⟨g, i * 2, none⟩) hgl id).trans a0) ((HF2.out.cell (p := ⟨g, i * 2 + 1, none⟩) hgl id).trans a1)))
      refine hK.out _ _ HH2.out (fun hHeld => ?_)
      clear hK K hF q0 q1 f0 f1 d0 e0 e1
      obtain ⟨q0, q1, f0, f1⟩ := blk2 HQ2.out
      obtain ⟨d0, e0, e1⟩ := HH2.out
      try simp only [Act.put, List.getElem_toArray, List.getElem_cons_zero, List.getElem_cons_succ, List.setIfInBounds_toArray, List.set_cons_zero, List.set_cons_succ]
      refine wpAnyH_take (i := 8) (v := ?_) rfl (by kernel_rfl) (by kernel_rfl) (by kernel_rfl) (fun _ _ _ h => h) (Or.inl ⟨by rfl, ?_⟩) hHeld ?_
      rotate_left
      · intro w hSw
        go_simp
        with_reducible rfl
      try simp only [Act.put, List.getElem_toArray, List.getElem_cons_zero, List.getElem_cons_succ, List.setIfInBounds_toArray, List.set_cons_zero, List.set_cons_succ]
      refine wpAnyH_done (by kernel_rfl) ?_ _
      go_wp2_with fail
      exact bodyPost_ret (res_pl2 rfl rfl (put2 HQ2.out _ _)) rfl ⟨rfl, fr_put2 HF2.out (Nat.le_refl _) _ _⟩
    | some q =>
      obtain ⟨x, dd⟩ := q
      show Calls _ _ _ _ fun e w' => e = .returned (.tuple #[.agg #[.int .i64 (x : Int), .bool dd], .int .i64 0]) ∧ Fr No w w'
      simp only [plS, plD] at a0 a1
      have hxne : ((x : Int) == -1) = false := by simp
      go_enter Try.func16, Try.ntmps16
      go_wp2_with (go_at_call 36; refine (ix_there _ p m c S L (HI.out.no HA.out) i).mono ?_; rw [HE.out]; rintro e w1 ⟨rfl, hF⟩; have HQ := hid (made2 _ _ _ _ hF); have HF := hid (HA.out.trans hF); obtain ⟨q0, q1, f0, f1⟩ := blk2 HQ.out; have d0 := (HF.out.cell (p := ⟨p, 0, none⟩) hlp id).trans c0; have e0 := (HF.out.cell (p := ⟨g, i * 2, none⟩) hgl id).trans a0; have e1 := (HF.out.cell (p := ⟨g, i * 2 + 1, none⟩) hgl id).trans a1; clear hF)
      refine wp_region_held_drew (S := fun W => W.cell? ⟨p, 0, none⟩ = some (.slice (some ⟨g, 0, none⟩) n cp) ∧ W.cell? ⟨g, i * 2, none⟩ = some (.int .i64 (x : Int)) ∧ W.cell? ⟨g, i * 2 + 1, none⟩ = some (.bool dd)) (by kernel_rfl) ⟨d0, e0, e1⟩ (fun hHeld => ?_)
      refine wpAnyH_take (i := 0) (v := ?_) rfl (by kernel_rfl) (by kernel_rfl) (by kernel_rfl) (fun _ _ _ h => h) (Or.inl ⟨by rfl, ?_⟩) hHeld ?_
      rotate_left
      · intro w hSw
        go_simp
        with_reducible rfl
      try simp only [Act.put, List.getElem_toArray, List.getElem_cons_zero, List.getElem_cons_succ, List.setIfInBounds_toArray, List.set_cons_zero, List.set_cons_succ]
      refine wpAnyH_take (i := 1) (v := ?_) rfl (by kernel_rfl) (by kernel_rfl) (by kernel_rfl) (fun _ _ _ h => h) (Or.inl ⟨by rfl, ?_⟩) hHeld ?_
      rotate_left
      · intro w hSw
        go_simp
        with_reducible rfl
      try simp only [Act.put, List.getElem_toArray, List.getElem_cons_zero, List.getElem_cons_succ, List.setIfInBounds_toArray, List.set_cons_zero, List.set_cons_succ]
      refine wpAnyH_take (i := 2) (v := ?_) rfl (by kernel_rfl) (by kernel_rfl) (by kernel_rfl) (fun _ _ _ h => h) (Or.inl ⟨by rfl, ?_⟩) hHeld ?_
      rotate_left
      · intro w hSw
        go_simp
        with_reducible rfl
      try simp only [Act.put, List.getElem_toArray, List.getElem_cons_zero, List.getElem_cons_succ, List.setIfInBounds_toArray, List.set_cons_zero, List.set_cons_succ]
      refine wpAnyH_take (i := 3) (v := ?_) rfl (by kernel_rfl) (by kernel_rfl) (by kernel_rfl) (fun _ _ _ h => h) (Or.inl ⟨by rfl, ?_⟩) hHeld ?_
      rotate_left
      · intro w hSw; obtain ⟨s0, s1, s2⟩ := hSw
        go_simp
        with_reducible rfl
      try simp only [Act.put, List.getElem_toArray, List.getElem_cons_zero, List.getElem_cons_succ, List.setIfInBounds_toArray, List.set_cons_zero, List.set_cons_succ]
      refine wpAnyH_take (i := 4) (v := ?_) rfl (by kernel_rfl) (by kernel_rfl) (by kernel_rfl) (fun _ _ _ h => h) (Or.inl ⟨by rfl, ?_⟩) hHeld ?_
      rotate_left
      · intro w hSw
        go_simp
        with_reducible rfl
      try simp only [Act.put, List.getElem_toArray, List.getElem_cons_zero, List.getElem_cons_succ, List.setIfInBounds_toArray, List.set_cons_zero, List.set_cons_succ]
      refine wpAnyH_take (i := 5) (v := ?_) rfl (by kernel_rfl) (by kernel_rfl) (by kernel_rfl) (fun _ _ _ h => h) (Or.inl ⟨by rfl, ?_⟩) hHeld ?_
      rotate_left
      · intro w hSw
        go_simp
        with_reducible rfl
      try simp only [Act.put, List.getElem_toArray, List.getElem_cons_zero, List.getElem_cons_succ, List.setIfInBounds_toArray, List.set_cons_zero, List.set_cons_succ]
      refine wpAnyH_take (i := 6) (v := ?_) rfl (by kernel_rfl) (by kernel_rfl) (by kernel_rfl) (fun _ _ _ h => h) (Or.inl ⟨by rfl, ?_⟩) hHeld ?_
      rotate_left
      · intro w hSw; obtain ⟨s0, s1, s2⟩ := hSw
        go_simp
        with_reducible rfl
      try simp only [Act.put, List.getElem_toArray, List.getElem_cons_zero, List.getElem_cons_succ, List.setIfInBounds_toArray, List.set_cons_zero, List.set_cons_succ]
      refine wpAnyH_ready (rs := [7]) (by kernel_rfl) (by simp) ?_
      refine AllReadyH.cons rfl (fun K hK => ?_) AllReadyH.nil
      rw [if_pos (by rfl)]
      go_simp
      refine (ix_nowhere _).mono ?_
      rintro e w2 ⟨rfl, hF⟩
      have HQ2 := hid ((hF.block w.heap.size (lt_of_block HQ.out) id).trans HQ.out)
      have HF2 := hid (HF.out.trans ((Fr.refl No w1).drew.trans hF))
      have HH2 := hid (And.intro ((HF2.out.cell (p := ⟨p, 0, none⟩) hlp id).trans c0) (And.intro ((HF2.out.cell (p := ⟨g, i * 2, none⟩) hgl id).trans a0) ((HF2.out.cell (p := ⟨g, i * 2 + 1, none⟩) hgl id).trans a1)))
      refine hK.out _ _ HH2.out (fun hHeld => ?_)
      clear hK K hF q0 q1 f0 f1 d0 e0 e1
      obtain ⟨q0, q1, f0, f1⟩ := blk2 HQ2.out
      obtain ⟨d0, e0, e1⟩ := HH2.out
      try simp only [Act.put, List.getElem_toArray, List.getElem_cons_zero, List.getElem_cons_succ, List.setIfInBounds_toArray, List.set_cons_zero, List.set_cons_succ]
      refine wpAnyH_take (i := 8) (v := ?_) rfl (by kernel_rfl) (by kernel_rfl) (by kernel_rfl) (fun _ _ _ h => h) (Or.inl ⟨by rfl, ?_⟩) hHeld ?_
      rotate_left
      · intro w hSw
        go_simp
        with_reducible rfl
      try simp only [Act.put, List.getElem_toArray, List.getElem_cons_zero, List.getElem_cons_succ, List.setIfInBounds_toArray, List.set_cons_zero, List.set_cons_succ]
      refine wpAnyH_done (by kernel_rfl) ?_ _
      go_wp2_with fail
      exact bodyPost_ret (res_pl2 rfl rfl (put2 HQ2.out _ _)) rfl ⟨rfl, fr_put2 HF2.out (Nat.le_refl _) _ _⟩
  · rw [hT, if_neg hx]
    rw [if_neg hx] at hE
    have HE := hid hE
    clear hT hE hV hx c0 hlen
    show Calls _ _ _ _ fun e w' => e = .returned (.tuple #[.agg #[.int .i64 0, .bool false], .int .i64 10]) ∧ Fr No w w'
    go_enter Try.func16, Try.ntmps16
    go_wp2_with (go_at_call 36; refine (ix_there _ p m c S L (HI.out.no HA.out) x).mono ?_; rw [HE.out]; rintro e w1 ⟨rfl, hF⟩; have HQ := hid (made2 _ _ _ _ hF); have HF := hid (HA.out.trans hF); obtain ⟨q0, q1, f0, f1⟩ := blk2 HQ.out; clear hF)
    exact bodyPost_ret (res_pl2 rfl rfl (put2 HQ.out _ _)) rfl ⟨rfl, fr_put2 HF.out (Nat.le_refl _) _ _⟩
end Go.Proofs.Ytfggllhflibfcaa
