/- slices.Clone, slots.Copy, slots.Len. -/
import Derived.Test.YtopheimplclfcaaDoorSlAll
namespace Go.Proofs.YtopheimplclfcaaDoor
open Go.RowKit Go.Shelf

theorem sllen_nil (w : World) : Calls Tryd.prog 36 #[.pointer none] w fun e w' => e = .returned (.int .i64 0) ∧ w' = w := by
  go_enter Tryd.func36, Tryd.ntmps36
  go_wp2
  go_ret
  exact ⟨rfl, rfl⟩
theorem sllen_at (w : World) (p q : Nat) (l : List Nat) (h : SlAt w p q l) : Calls Tryd.prog 36 #[slv p] w fun e w' => e = .returned (i64v l.length) ∧ w' = w := by
  obtain ⟨c0, hc0⟩ := h.cell0
  clear h
  unfold slv
  go_enter Tryd.func36, Tryd.ntmps36
  go_wp2
  go_ret
  exact ⟨rfl, rfl⟩

theorem slcopy_nil (w : World) : Calls Tryd.prog 39 #[.pointer none] w fun e w' => e = .returned (.pointer none) ∧ w' = w := by
  go_enter Tryd.func39, Tryd.ntmps39
  go_wp2
  go_ret
  exact ⟨rfl, rfl⟩

theorem slice_not_nil (q n c : Nat) (W : World) : (binOp .eql 41 (.slice (some ⟨q, 0, none⟩) n c) (.slice none 0 0)).run Tryd.prog W = .ok (.bool false) W := rfl

set_option maxRecDepth 100000 in
set_option maxHeartbeats 1000000 in
theorem clone_c (w : World) (q : Nat) (l : List Nat) (c : Nat) (h0 : 0 < l.length) (hl : l.length ≤ 1024) (h : ∀ i (hi : i < l.length), w.cell? ⟨q, i, none⟩ = some (i64v l[i])) :
    Calls Tryd.prog 51 #[.slice (some ⟨q, 0, none⟩) l.length c] w fun e w' => ∃ q' c', e = .returned (.slice (some ⟨q', 0, none⟩) l.length c') ∧ w.heap.size ≤ q' ∧ Fr No w w' ∧ ∃ cur, w'.heap[q']? = some (.cells cur 3 (0, 0)) ∧ cur.toList.take l.length = l.map i64v := by
  obtain ⟨i0, hi, hz0, hz1, hz2⟩ := info_parts infoInt
  have hnews : ∀ j u, (l.map i64v)[j]? = some u → (w.alloc (.cells #[] 3)).cell? ((⟨q, 0, none⟩ : Addr).add j) = some u := by
    intro j u hu
    obtain ⟨x, hx, rfl⟩ : ∃ x, l[j]? = some x ∧ i64v x = u := by
      rw [List.getElem?_map] at hu
      cases hx : l[j]? with
      | none => rw [hx] at hu; cases hu
      | some x => rw [hx] at hu; exact ⟨x, rfl, by simpa using hu⟩
    obtain ⟨hj, hjx⟩ := List.getElem?_eq_some_iff.1 hx
    have hcell := cell_allocd (.cells #[] 3) (h j hj)
    rw [hjx] at hcell
    rcases Nat.eq_zero_or_pos j with h1 | h1
    · subst h1; simpa [Addr.add] using hcell
    · simpa [Addr.add, show j ≠ 0 from by omega] using hcell
  have HN := hid hnews
  clear h hnews
  have hown0 : (w.alloc (.cells #[] 3)).ownsRow w.heap.size 3 1 (.slice (some ⟨w.heap.size, 0, none⟩) 0 0) 0 [] := ⟨rfl, .inr ⟨w.heap.size, 0, #[], rfl, Nat.le_refl _, heap_new w _, Nat.le_refl _, Nat.zero_le _, rfl, rfl⟩⟩
  have HO := hid hown0
  clear hown0
  have hne := slice_not_nil q l.length c
  go_enter Tryd.func51, Tryd.ntmps51
  go_wp2_with (at_builtin; refine wpList_append_own _ rfl (.tmp 5) (.tmp 6) 41 rfl w.heap.size 3 i0 (.int .i64 0) 1 8 Tryd.underlying41 hi hz0 hz1 hz2 rfl (by decide) _ 0 [] rfl HO.out ⟨q, 0, none⟩ l.length c (l.map i64v) rfl (by simp) HN.out (fun u hu => by obtain ⟨z, _, rfl⟩ := List.mem_map.1 hu; rfl) (by unfold maxLen; omega) (by omega) (by simp) ?_; intro v' w1 hown hgrow hnone; clear hnone; have HF1 := hid (((Fr.refl No w).alloc (.cells #[] 3)).grown hgrow (fun k h hk => by cases h; exact absurd hk (Nat.lt_irrefl _))); clear hgrow; rw [Nat.zero_add, List.nil_append] at hown; obtain ⟨g, cp, cur, hv, hg, hbk, hn1, hcm, hsz, htk⟩ := own_block hown h0; rw [hv]; clear hv hown)
  go_ret
  exact ⟨g, cp, rfl, hg, HF1.out, cur, hbk, htk⟩

/-- a copy: slots of their own, in new blocks -/
theorem slcopy_at (w : World) (p q : Nat) (l : List Nat) (h : SlAt w p q l) (h0 : 0 < l.length) : Calls Tryd.prog 39 #[slv p] w fun e w' => ∃ p' q', e = .returned (slv p') ∧ w.heap.size ≤ p' ∧ w.heap.size ≤ q' ∧ SlAt w' p' q' l ∧ Fr No w w' := by
  obtain ⟨c0, hc0⟩ := h.cell0
  have HC := hid (clone_c w q l c0 h0 h.len h.cell)
  have HE := hid h.le
  have hlen := h.len
  clear h
  unfold slv
  go_enter Tryd.func39, Tryd.ntmps39
  go_wp2_with (go_at_call 51; refine HC.out.mono ?_; rintro e w1 ⟨q1, c1, rfl, hq1, hF1, hblk⟩; have HF1 := hid hF1; have HB := hid hblk; clear hF1 hblk)
  go_ret
  obtain ⟨cur, hb, ht⟩ := HB.out
  have hz := HF1.out.size
  have hlt := lt_of_block hb
  exact ⟨w1.heap.size, q1, rfl, hz, hq1, ⟨⟨c1, heap_new w1 _⟩, ⟨cur, (Below.heap_alloc _ _ _ hlt).trans hb, ht⟩, by omega, hlen, HE.out⟩, HF1.out.alloc _⟩
end Go.Proofs.YtopheimplclfcaaDoor
