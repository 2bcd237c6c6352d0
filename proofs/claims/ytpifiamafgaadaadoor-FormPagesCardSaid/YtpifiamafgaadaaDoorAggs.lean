/- Arguments that are aggregates of plain data, by value. No program. -/
import Derived.Test.YtpifiamafgaadaaDoorElems
namespace Go.Proofs.YtpifiamafgaadaaDoor
open Go.ChangeShapes Go.WideShapes Go.ChangeAt Go.RowKit

theorem open_sh {H : Type} {enc : TypeId × Value → H} {P : Program} {W : World} {b0 : Nat} {t : TypeId} {s : Sh} {v : Value} {d : DataW H} {ps : List MemPlace} (hI : Is P t s)
    (ha : (match P.underlying t with | some (.struct _) | some (.array _ _) => true | _ => false) = true) (hval : Value.okWide P W .any b0 t v) (h : DataW.Trod enc P W 0 (fun _ => true) true t v d ps) :
    ∃ cs : List Value, v = .agg cs.toArray ∧ s.Ok cs := by
  have hv : ∃ cs : Array Value, v = .agg cs := by
    unfold Value.okWide at hval
    cases hu : P.underlying t with
    | none => rw [hu] at ha; cases ha
    | some u =>
      rw [hu] at ha hval
      cases u <;> first | (cases ha; done) | exact ⟨_, hval.choose_spec.1⟩
  obtain ⟨cs, rfl⟩ := hv
  obtain ⟨fuel, hf⟩ := h
  exact ⟨cs.toList, by simp, hI.open hf⟩
theorem ok_list {f : Nat → Value} {s : Sh} (hs : s.size = 1) (hf : ∀ cs, s.Ok cs → ∃ n, cs = [f n]) : ∀ (m : Nat) (cs : List Value), (Sh.arr m s).Ok cs → ∃ xs : List Nat, cs = xs.map f ∧ xs.length = m
  | 0, cs, ⟨hl, _⟩ => ⟨[], by have : cs.length = 0 := by rw [hl]; omega
                              rw [List.eq_nil_of_length_eq_zero this]; rfl, rfl⟩
  | m + 1, cs, ⟨hl, he⟩ => by
    rw [hs] at hl he
    cases cs with
    | nil => simp at hl
    | cons c cs =>
      obtain ⟨n, hn⟩ := hf _ (he 0 (by omega))
      simp at hn
      obtain ⟨xs, hx, hlx⟩ := ok_list hs hf m cs ⟨by rw [hs]; simpa using hl, fun i hi => by
        have := he (i + 1) (by omega)
        rw [hs]
        simpa using this⟩
      exact ⟨n :: xs, by rw [hn, hx]; rfl, by simp [hlx]⟩
theorem ok_pair {k : IntKind} {cs : List Value} (h : (Sh.arr 2 (.int k)).Ok cs) : ∃ a b : Int, cs = [.int k a, .int k b] ∧ (Lit.int k a).wf = true ∧ (Lit.int k b).wf = true := by
  obtain ⟨hl, he⟩ := h
  obtain ⟨a, ha, wa⟩ := he 0 (by omega)
  obtain ⟨b, hb, wb⟩ := he 1 (by omega)
  refine ⟨a, b, ?_, wa, wb⟩
  match cs, hl with
  | [x, y], _ =>
    simp [Sh.size] at ha hb
    rw [ha, hb]
theorem open_row_cells {H : Type} {enc : TypeId × Value → H} {P : Program} {W : World} {t e : TypeId} {s : Sh} {cs0 : List Value} {x : DataW H × List MemPlace} {fuel : Nat}
    (ht : P.underlying t = some (.slice e)) (he : Is P e s) (hpos : 0 < s.size)
    (hf : DataW.trod enc P W 0 (fun _ => true) true fuel t cs0 = some x) : ∃ r : SRow, cs0 = [r.v] ∧ r.Ok W s := by
  rcases Deep.open_slice ht hf with ⟨hcs, _⟩ | ⟨x, l, c, m, n, D, Pl, hcs, _, hl, hm, hmm, _, hel⟩
  · subst hcs
    exact ⟨⟨none, 0, []⟩, rfl, .inl rfl, fun cs hcs => by simp at hcs, Nat.le_refl _, by unfold maxLen; simp, .inl rfl⟩
  · subst hcs
    simp only [if_true] at hmm
    subst hmm
    rw [he.cells] at hel
    have hwhere : m = 0 ∨ ∃ b o, x = ⟨b, o, none⟩ := by
      rcases Nat.eq_zero_or_pos m with h0 | h0
      · exact .inl h0
      · obtain ⟨cs', h1, h2⟩ := hel 0 h0
        obtain ⟨_, hlen, hcell⟩ := World.cells?_some h1
        have hc0 := hcell 0 hpos
        obtain ⟨b, off, spot⟩ := x
        have hspot : spot = none := by
          have h3 : (((⟨b, off, spot⟩ : Addr).add (0 * s.size)).add 0) = ⟨b, off, spot⟩ := by rw [Nat.zero_mul]; rfl
          rw [h3] at hc0
          cases hv : cs'[0]? with
          | none => rw [List.getElem?_eq_none_iff] at hv; omega
          | some y => rw [hv] at hc0; simpa using World.cell?_spot hc0
        exact .inr ⟨b, off, by rw [hspot]⟩
    have hall : ∀ i, ∃ cs', i < m → s.Ok cs' ∧ W.cells? 0 (x.add (i * s.size)) s.size = some cs' := fun i => by
      rcases Nat.lt_or_ge i m with hi | hi
      · obtain ⟨cs', h1, h2⟩ := hel i hi
        exact ⟨cs', fun _ => ⟨he.open h2, h1⟩⟩
      · exact ⟨[], fun h => by omega⟩
    have hex : ∃ f : Nat → List Value, ∀ i, i < m → s.Ok (f i) ∧ W.cells? 0 (x.add (i * s.size)) s.size = some (f i) := ⟨fun i => (hall i).choose, fun i => (hall i).choose_spec⟩
    obtain ⟨f, hf'⟩ := hex
    refine ⟨⟨some x, m, (List.range l).map f⟩, ?_, ?_, ?_, ?_, hm, ?_⟩
    · simp [SRow.v]
    · rcases Nat.eq_zero_or_pos l with h0 | h0
      · subst h0; exact .inl rfl
      · rcases hwhere with h1 | ⟨b, o, rfl⟩
        · omega
        · have cellf : ∀ i j, i < l → j < s.size → W.cell? ⟨b, o + (i * s.size + j), none⟩ = some ((f i).getD j undef) := fun i j hi hj => by
            obtain ⟨h1, h2⟩ := hf' i (by omega)
            obtain ⟨_, hlen, hcell⟩ := World.cells?_some h2
            have := hcell j hj
            rw [add_off, add_off, Nat.add_assoc] at this
            rw [this, List.getElem?_eq_getElem (by omega)]
            simp [List.getD_eq_getElem?_getD, show j < (f i).length by omega]
          refine .inr ⟨b, o, rfl, lt_of_cell (cellf 0 0 h0 hpos), fun i j hi hj => ?_⟩
          have hi' : i < l := by simpa using hi
          rw [cellf i j hi' hj]
          simp [List.getD_eq_getElem?_getD, hi']
    · intro cs hcs
      obtain ⟨i, hi, rfl⟩ := List.mem_map.1 hcs
      have := (hf' i (by have := List.mem_range.1 hi; omega)).1
      exact ⟨this, this.length⟩
    · simpa using hl
    · rcases hwhere with h0 | ⟨b, o, rfl⟩
      · exact .inl h0
      · exact .inr ⟨b, o, rfl⟩
theorem ok_bytes {m : Nat} {cs : List Value} (h : (Sh.arr m (.int .u8)).Ok cs) : ∃ bs : List Nat, cs = bs.map byte ∧ bs.length = m ∧ ∀ x ∈ bs, x < 256 := by
  have hb : ∀ cs, (Sh.int .u8).Ok cs → ∃ n : Nat, cs = [byte n] ∧ n < 256 := fun cs ⟨n, hc, wn⟩ => by
    have := bounds_u8 wn
    exact ⟨n.toNat, by rw [hc]; simp [byte]; omega, by omega⟩
  obtain ⟨xs, hx, hl⟩ := ok_list (f := byte) (s := .int .u8) rfl (fun cs h => by obtain ⟨n, h1, _⟩ := hb cs h; exact ⟨n, h1⟩) m cs h
  refine ⟨xs, hx, hl, fun x hx' => ?_⟩
  obtain ⟨i, hi, rfl⟩ := List.getElem_of_mem hx'
  obtain ⟨n, h1, h2⟩ := hb _ (h.2 i (by omega))
  rw [hx] at h1
  have hsz : (Sh.int .u8).size = 1 := rfl
  rw [hsz, Nat.mul_one, ← List.map_drop, List.take_one, List.head?_map, List.head?_drop, List.getElem?_eq_getElem hi] at h1
  simp [byte] at h1
  omega
end Go.Proofs.YtpifiamafgaadaaDoor
