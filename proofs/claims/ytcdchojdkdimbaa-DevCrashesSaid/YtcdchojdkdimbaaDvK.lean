/- slices.Clone of sectors, of writes, of fates. -/
import Derived.Test.YtcdchojdkdimbaaDvF
import Derived.Maps.AppendAt
namespace Go.Proofs.Ytcdchojdkdimbaa
open Go.RowKit

set_option maxRecDepth 100000 in
set_option maxHeartbeats 1000000 in
theorem cloneB (w : World) (g o n c : Nat) (xs : List Value) (hl : xs.length = n * 64) (hx : ∀ j u, xs[j]? = some u → w.cell? ⟨g, o + j, none⟩ = some u) (h1 : ∀ u ∈ xs, u.oneCell' = true) (hn : n ≤ 1000000) :
    Calls Try.prog 35 #[.slice (some ⟨g, o, none⟩) n c] w fun e w' => ∃ v, e = .returned v ∧ w'.ownsRow w.heap.size 42 64 v n xs ∧ Fr No w w' := by
  obtain ⟨i0, hi, hz0, hz1, hz2⟩ := info_parts blk_info
  have HN : Hid (∀ j u, xs[j]? = some u → (w.alloc (.cells #[] 42)).cell? ((⟨g, o, none⟩ : Addr).add j) = some u) := fun j u hu => by
    rw [Addr.add_mid]; exact cell_allocd (.cells #[] 42) (hx j u hu)
  have HO : Hid ((w.alloc (.cells #[] 42)).ownsRow w.heap.size 42 64 (.slice (some ⟨w.heap.size, 0, none⟩) 0 0) 0 []) := ⟨by simp, .inr ⟨w.heap.size, 0, #[], rfl, Nat.le_refl _, heap_new w _, Nat.le_refl _, Nat.zero_le _, by simp, by simp⟩⟩
  have hne : ∀ W, (binOp .eql 35 (.slice (some ⟨g, o, none⟩) n c) (.slice none 0 0)).run Try.prog W = .ok (.bool false) W := fun W => rfl
  have H1 := hid h1
  have HL := hid hl
  clear hx h1 hl
  go_enter Try.func35, Try.ntmps35
  go_wp2_with (at_builtin; refine wpList_append_own _ rfl (.tmp 5) (.tmp 6) 35 rfl w.heap.size 42 i0 (.agg (blkA zeros)) 64 64 Try.underlying35 hi hz0 hz1 hz2 (by kernel_rfl) (by decide) _ 0 [] rfl HO.out ⟨g, o, none⟩ n c xs rfl HL.out HN.out H1.out (by unfold maxLen; omega) (by omega) (by simp) ?_; intro v' w1 hown hgrow hnone; clear hnone; have HF1 := hid (((Fr.refl No w).alloc (.cells #[] 42)).grown hgrow (fun k h hk => by cases h; exact absurd hk (Nat.lt_irrefl _))); clear hgrow; rw [Nat.zero_add, List.nil_append] at hown; have HW := hid hown; clear hown)
  go_ret
  exact ⟨_, rfl, HW.out, HF1.out⟩
theorem cloneB_nil (w : World) : Calls Try.prog 35 #[.slice none 0 0] w fun e w' => e = .returned (.slice none 0 0) ∧ w' = w := by
  have hne : ∀ W, (binOp .eql 35 (.slice none 0 0) (.slice none 0 0)).run Try.prog W = .ok (.bool true) W := fun W => rfl
  go_enter Try.func35, Try.ntmps35
  go_wp2
  go_ret
  exact ⟨rfl, rfl⟩
set_option maxRecDepth 100000 in
set_option maxHeartbeats 1000000 in
theorem cloneW (w : World) (g o n c : Nat) (xs : List Value) (hl : xs.length = n * 65) (hx : ∀ j u, xs[j]? = some u → w.cell? ⟨g, o + j, none⟩ = some u) (h1 : ∀ u ∈ xs, u.oneCell' = true) (hn : n ≤ 1000000) :
    Calls Try.prog 42 #[.slice (some ⟨g, o, none⟩) n c] w fun e w' => ∃ v, e = .returned v ∧ w'.ownsRow w.heap.size 68 65 v n xs ∧ Fr No w w' := by
  obtain ⟨i0, hi, hz0, hz1, hz2⟩ := info_parts wr_info
  have HN : Hid (∀ j u, xs[j]? = some u → (w.alloc (.cells #[] 68)).cell? ((⟨g, o, none⟩ : Addr).add j) = some u) := fun j u hu => by
    rw [Addr.add_mid]; exact cell_allocd (.cells #[] 68) (hx j u hu)
  have HO : Hid ((w.alloc (.cells #[] 68)).ownsRow w.heap.size 68 65 (.slice (some ⟨w.heap.size, 0, none⟩) 0 0) 0 []) := ⟨by simp, .inr ⟨w.heap.size, 0, #[], rfl, Nat.le_refl _, heap_new w _, Nat.le_refl _, Nat.zero_le _, by simp, by simp⟩⟩
  have hne : ∀ W, (binOp .eql 60 (.slice (some ⟨g, o, none⟩) n c) (.slice none 0 0)).run Try.prog W = .ok (.bool false) W := fun W => rfl
  have H1 := hid h1
  have HL := hid hl
  clear hx h1 hl
  go_enter Try.func42, Try.ntmps42
  go_wp2_with (at_builtin; refine wpList_append_own _ rfl (.tmp 5) (.tmp 6) 60 rfl w.heap.size 68 i0 (.agg (wk (0, zeros)).toArray) 65 72 Try.underlying60 hi hz0 hz1 hz2 (by kernel_rfl) (by decide) _ 0 [] rfl HO.out ⟨g, o, none⟩ n c xs rfl HL.out HN.out H1.out (by unfold maxLen; omega) (by omega) (by simp) ?_; intro v' w1 hown hgrow hnone; clear hnone; have HF1 := hid (((Fr.refl No w).alloc (.cells #[] 68)).grown hgrow (fun k h hk => by cases h; exact absurd hk (Nat.lt_irrefl _))); clear hgrow; rw [Nat.zero_add, List.nil_append] at hown; have HW := hid hown; clear hown)
  go_ret
  exact ⟨_, rfl, HW.out, HF1.out⟩
theorem cloneW_nil (w : World) : Calls Try.prog 42 #[.slice none 0 0] w fun e w' => e = .returned (.slice none 0 0) ∧ w' = w := by
  have hne : ∀ W, (binOp .eql 60 (.slice none 0 0) (.slice none 0 0)).run Try.prog W = .ok (.bool true) W := fun W => rfl
  go_enter Try.func42, Try.ntmps42
  go_wp2
  go_ret
  exact ⟨rfl, rfl⟩
set_option maxRecDepth 100000 in
set_option maxHeartbeats 1000000 in
theorem cloneN (w : World) (g o n c : Nat) (xs : List Value) (hl : xs.length = n * 1) (hx : ∀ j u, xs[j]? = some u → w.cell? ⟨g, o + j, none⟩ = some u) (h1 : ∀ u ∈ xs, u.oneCell' = true) (hn : n ≤ 1000000) :
    Calls Try.prog 43 #[.slice (some ⟨g, o, none⟩) n c] w fun e w' => ∃ v, e = .returned v ∧ w'.ownsRow w.heap.size 3 1 v n xs ∧ Fr No w w' := by
  obtain ⟨i0, hi, hz0, hz1, hz2⟩ := info_parts int_info
  have HN : Hid (∀ j u, xs[j]? = some u → (w.alloc (.cells #[] 3)).cell? ((⟨g, o, none⟩ : Addr).add j) = some u) := fun j u hu => by
    rw [Addr.add_mid]; exact cell_allocd (.cells #[] 3) (hx j u hu)
  have HO : Hid ((w.alloc (.cells #[] 3)).ownsRow w.heap.size 3 1 (.slice (some ⟨w.heap.size, 0, none⟩) 0 0) 0 []) := ⟨by simp, .inr ⟨w.heap.size, 0, #[], rfl, Nat.le_refl _, heap_new w _, Nat.le_refl _, Nat.zero_le _, by simp, by simp⟩⟩
  have hne : ∀ W, (binOp .eql 37 (.slice (some ⟨g, o, none⟩) n c) (.slice none 0 0)).run Try.prog W = .ok (.bool false) W := fun W => rfl
  have H1 := hid h1
  have HL := hid hl
  clear hx h1 hl
  go_enter Try.func43, Try.ntmps43
  go_wp2_with (at_builtin; refine wpList_append_own _ rfl (.tmp 5) (.tmp 6) 37 rfl w.heap.size 3 i0 (.int .i64 0) 1 8 Try.underlying37 hi hz0 hz1 hz2 (by kernel_rfl) (by decide) _ 0 [] rfl HO.out ⟨g, o, none⟩ n c xs rfl HL.out HN.out H1.out (by unfold maxLen; omega) (by omega) (by simp) ?_; intro v' w1 hown hgrow hnone; clear hnone; have HF1 := hid (((Fr.refl No w).alloc (.cells #[] 3)).grown hgrow (fun k h hk => by cases h; exact absurd hk (Nat.lt_irrefl _))); clear hgrow; rw [Nat.zero_add, List.nil_append] at hown; have HW := hid hown; clear hown)
  go_ret
  exact ⟨_, rfl, HW.out, HF1.out⟩
theorem cloneN_nil (w : World) : Calls Try.prog 43 #[.slice none 0 0] w fun e w' => e = .returned (.slice none 0 0) ∧ w' = w := by
  have hne : ∀ W, (binOp .eql 37 (.slice none 0 0) (.slice none 0 0)).run Try.prog W = .ok (.bool true) W := fun W => rfl
  go_enter Try.func43, Try.ntmps43
  go_wp2
  go_ret
  exact ⟨rfl, rfl⟩
theorem own_ge2 {w : World} {base n z r : Nat} {e : TypeId} {v : Value} {xs : List Value} (h : w.ownsRow base e z v n xs) (hr : v.ownBlock = some r) : base ≤ r := (h.lt r hr).1
theorem own_mono {w : World} {base n z : Nat} {e : TypeId} {v : Value} {xs : List Value} (h : w.ownsRow base e z v n xs) : w.ownsRow 0 e z v n xs := by
  obtain ⟨h1, h2 | ⟨g, cap, cur, hv, hg, h3⟩⟩ := h
  · exact ⟨h1, .inl h2⟩
  · exact ⟨h1, .inr ⟨g, cap, cur, hv, Nat.zero_le _, h3⟩⟩
/-- a copy of a row: a row of its own, new -/
def NewRow (w w' : World) (e : TypeId) (z : Nat) (v : Value) (n : Nat) (xs : List Value) : Prop := w'.ownsRow 0 e z v n xs ∧ (∀ k, v.ownBlock = some k → w.heap.size ≤ k) ∧ Fr No w w'
theorem cloneB_own (w : World) (v : Value) (n : Nat) (xs : List Value) (h : w.ownsRow 0 42 64 v n xs) (h1 : ∀ u ∈ xs, u.oneCell' = true) (hn : n ≤ 1000000) : Calls Try.prog 35 #[v] w fun e w' => ∃ v', e = .returned v' ∧ NewRow w w' 42 64 v' n xs := by
  obtain ⟨hl, ⟨rfl, rfl⟩ | ⟨g, cap, cur, rfl, _, hb, h4, h5, h6, h7⟩⟩ := h
  · refine (cloneB_nil w).mono ?_
    rintro e w' ⟨rfl, rfl⟩
    exact ⟨_, rfl, ⟨hl, .inl ⟨rfl, rfl⟩⟩, fun k hk => by simp [Value.ownBlock] at hk, Fr.refl _ _⟩
  · refine (cloneB w g 0 n cap xs hl (fun j u hu => ?_) h1 hn).mono ?_
    · rw [Nat.zero_add, cell_blk hb]
      rw [← h7, List.getElem?_take] at hu
      split at hu
      · simpa using hu
      · cases hu
    · rintro e w' ⟨v, rfl, ho, hF⟩
      exact ⟨v, rfl, own_mono ho, fun k hk => own_ge2 ho hk, hF⟩
theorem cloneW_own (w : World) (v : Value) (n : Nat) (xs : List Value) (h : w.ownsRow 0 68 65 v n xs) (h1 : ∀ u ∈ xs, u.oneCell' = true) (hn : n ≤ 1000000) : Calls Try.prog 42 #[v] w fun e w' => ∃ v', e = .returned v' ∧ NewRow w w' 68 65 v' n xs := by
  obtain ⟨hl, ⟨rfl, rfl⟩ | ⟨g, cap, cur, rfl, _, hb, h4, h5, h6, h7⟩⟩ := h
  · refine (cloneW_nil w).mono ?_
    rintro e w' ⟨rfl, rfl⟩
    exact ⟨_, rfl, ⟨hl, .inl ⟨rfl, rfl⟩⟩, fun k hk => by simp [Value.ownBlock] at hk, Fr.refl _ _⟩
  · refine (cloneW w g 0 n cap xs hl (fun j u hu => ?_) h1 hn).mono ?_
    · rw [Nat.zero_add, cell_blk hb]
      rw [← h7, List.getElem?_take] at hu
      split at hu
      · simpa using hu
      · cases hu
    · rintro e w' ⟨v, rfl, ho, hF⟩
      exact ⟨v, rfl, own_mono ho, fun k hk => own_ge2 ho hk, hF⟩
theorem cloneN_off (w : World) (v : Value) (l : List Nat) (h : OffN w v l) (hn : l.length ≤ 1000000) : Calls Try.prog 43 #[v] w fun e w' => ∃ v', e = .returned v' ∧ OffN w' v' l ∧ (∀ k, v'.ownBlock = some k → w.heap.size ≤ k) ∧ Fr No w w' := by
  rcases h with ⟨rfl, rfl⟩ | ⟨g, o, cap, cs, rfl, hb, h4, h5, h6⟩
  · refine (cloneN_nil w).mono ?_
    rintro e w' ⟨rfl, rfl⟩
    exact ⟨_, rfl, .inl ⟨rfl, rfl⟩, fun k hk => by simp [Value.ownBlock] at hk, Fr.refl _ _⟩
  · refine (cloneN w g o l.length cap (l.map nv) (by simp) (fun j u hu => ?_) (fun u hu => by obtain ⟨z, _, rfl⟩ := List.mem_map.1 hu; rfl) hn).mono ?_
    · rw [cell_blk hb]
      have hj : j < l.length := by have := (List.getElem?_eq_some_iff.1 hu).1; simpa using this
      rw [h6 j hj]
      rw [List.getElem?_map, List.getElem?_eq_getElem hj] at hu
      simpa using hu
    · rintro e w' ⟨v, rfl, ho, hF⟩
      exact ⟨v, rfl, OffN.own ho, fun k hk => own_ge2 ho hk, hF⟩
theorem flat_one {α : Type} {f : α → List Value} (hf : ∀ x, ∀ u ∈ f x, u.oneCell' = true) (l : List α) : ∀ u ∈ l.flatMap f, u.oneCell' = true := fun u hu => by
  obtain ⟨x, _, hx⟩ := List.mem_flatMap.1 hu
  exact hf x u hx
end Go.Proofs.Ytcdchojdkdimbaa
