/- index: All of a span; its iterator. -/
import Derived.Test.YtfggllhflibfcaaIxV
namespace Go.Proofs.Ytfggllhflibfcaa
open Go.RowKit Go.Maps Go.Shelf
attribute [local go_sem] Oper.semAt_some
/-- the blocks of a span that All goes through, as they are then -/
def cutI (L : List Pl) (a n : Nat) : List Pl := (L.drop a).take n
/-- how many there are of them -/
def widthI (L : List Pl) (a n : Int) : Nat := (min n (L.length - a)).toNat
theorem flatP_drop (L : List Pl) (i : Nat) : (L.flatMap plV).drop (i * 2) = (L.drop i).flatMap plV := by
  induction L generalizing i with
  | nil => simp
  | cons s L ih =>
    cases i with
    | zero => simp
    | succ i => rw [List.drop_succ_cons, List.flatMap_cons, show (i + 1) * 2 = (plV s).length + i * 2 by rw [plV_len]; omega, List.drop_length_add_append, ih]
theorem flatP_take (L : List Pl) (i : Nat) : (L.flatMap plV).take (i * 2) = (L.take i).flatMap plV := by
  induction L generalizing i with
  | nil => simp
  | cons s L ih =>
    cases i with
    | zero => simp
    | succ i => rw [List.take_succ_cons, List.flatMap_cons, List.flatMap_cons, show (i + 1) * 2 = (plV s).length + i * 2 by rw [plV_len]; omega, List.take_length_add_append, ih]
theorem pl_clone_cut (w : World) (g cp c : Nat) (L : List Pl) (h : w.ownsRow 0 44 2 (.slice (some ⟨g, 0, none⟩) L.length cp) L.length (L.flatMap plV)) (hn : L.length ≤ 4096) (a k : Nat) (hk : a + k ≤ L.length) (o : Nat) (ho : o = a * 2 ∨ k = 0) :
    Calls Try.prog 34 #[.slice (some ⟨g, o, none⟩) k c] w fun e w' => ∃ v, e = .returned v ∧ w'.ownsRow w.heap.size 44 2 v k ((cutI L a k).flatMap plV) ∧ Fr No w w' := by
  have hc := own_cells h
  have hl : (cutI L a k).length = k := by unfold cutI; rw [List.length_take, List.length_drop]; omega
  refine pl_clone w g o k c ((cutI L a k).flatMap plV) (by rw [flatP_l, hl]) (fun j u hu => ?_) (flat_one plV_one _) (by omega)
  rcases ho with rfl | rfl
  · refine hc.1 _ u ?_
    unfold cutI at hu
    rw [← flatP_take, List.getElem?_take] at hu
    split at hu
    · rw [← flatP_drop, List.getElem?_drop] at hu; exact hu
    · cases hu
  · rw [show cutI L a 0 = [] from by unfold cutI; rfl] at hu
    simp at hu
/-- the iterator over a span, as All hands it out: the places' cell, the span's; all of it made between b and b' -/
def IterAt (w : World) (Bp Bs : Nat) (a n : Int) (E : List Pl) (b b' : Nat) : Prop :=
  w.heap[Bs]? = some (.cells #[.int .i64 a, .int .i64 n] 25 (0, 0)) ∧ (b ≤ Bs ∧ Bs < b') ∧ (b ≤ Bp ∧ Bp < b') ∧ ∃ v, w.heap[Bp]? = some (.cells #[v] 58 (0, 0)) ∧ w.ownsRow 0 44 2 v E.length (E.flatMap plV) ∧ ∀ k, v.ownBlock = some k → b ≤ k ∧ k < b'
theorem IterAt.fr {w w' : World} {Bp Bs b b' : Nat} {a n : Int} {E : List Pl} {S : Nat → Prop} (h : IterAt w Bp Bs a n E b b') (f : Fr S w w') (hS : ∀ k, b ≤ k → k < b' → ¬ S k) : IterAt w' Bp Bs a n E b b' := by
  obtain ⟨h1, h2, h3, v, h4, h5, h6⟩ := h
  exact ⟨(f.block Bs (lt_of_block h1) (hS _ h2.1 h2.2)).trans h1, h2, h3, v, (f.block Bp (lt_of_block h4) (hS _ h3.1 h3.2)).trans h4, own_frk h5 f (fun k hk => hS k (h6 k hk).1 (h6 k hk).2), h6⟩
set_option maxRecDepth 100000 in
set_option maxHeartbeats 1000000 in
theorem ix_All (w : World) (p m c : Nat) (S : Nat → Prop) (L : List Pl) (h : Ix w p S L m c) (a n : Int) (hk : allOk L a n = true) (hn63 : n ≤ 9223372036854775807) : Calls Try.prog 14 #[.pointer (some ⟨p, 0, none⟩), .agg #[.int .i64 a, .int .i64 n]] w fun e w' => ∃ Bp Bs, e = .returned (.func (.func 35) #[] #[.pointer (some ⟨Bp, 0, none⟩), .pointer (some ⟨Bs, 0, none⟩)]) ∧ IterAt w' Bp Bs a n (cutI L a.toNat (widthI L a n)) w.heap.size w'.heap.size ∧ Fr No w w' := by
  have hk' : 0 ≤ a ∧ 0 ≤ n ∧ a ≤ L.length := by simpa [allOk] using hk
  obtain ⟨a, rfl⟩ : ∃ x : Nat, a = x := ⟨a.toNat, by omega⟩
  have HA := hid ((Fr.refl No w).alloc (.cells #[.int .i64 a, .int .i64 n] 25))
  have HB := hid (heap_new w (.cells #[.int .i64 a, .int .i64 n] 25))
  obtain ⟨g, b, cp, D, hV, _⟩ := h
  have hlen := hV.len.2
  have hpl := lt_of_block hV.blk
  obtain ⟨c0, _, _⟩ := hV.cells
  obtain ⟨k, hkk⟩ : ∃ k : Nat, widthI L a n = k := ⟨_, rfl⟩
  have hk1 : min n ((L.length : Int) - a) = (k : Int) := by
    rw [← hkk]; unfold widthI; rw [Int.toNat_of_nonneg]; simp only [Int.min_def]; split <;> omega
  have hk2 : a + k ≤ L.length := by simp only [Int.min_def] at hk1; split at hk1 <;> omega
  have hcl : (cutI L a k).length = k := by unfold cutI; rw [List.length_take, List.length_drop]; omega
  have HLC := hid hcl
  clear hcl
  have HCL := hid (fun W (f : Fr No w W) c o ho => pl_clone_cut W g cp c L (own_frk hV.row f (fun _ _ => id)) hlen a k hk2 o ho)
  have hcp : L.length ≤ cp := by
    obtain ⟨gg, cc, hgv, hcc, _⟩ := own_at hV.row (fun x _ => plV_len x) 0 (by have := hV.len.1; omega)
    injection hgv with _ _ e; omega
  obtain ⟨l, hl⟩ : ∃ l, L.length = l := ⟨_, rfl⟩
  rw [hl] at c0 hlen hk1 hk2 hk' hcp
  rw [Int.toNat_natCast, hkk]
  clear hV hk hkk
  obtain ⟨s0, s1, _, _⟩ := blk2 HB.out
  have d0 := (HA.out.cell (p := ⟨p, 0, none⟩) hpl id).trans c0
  have hs0 : decide ((a : Int) < 0) = false := by simp
  have hs1 : decide (n < 0) = false := by simp; omega
  have hs2 : decide ((a : Int) > (l : Int)) = false := by simp; omega
  go_enter Try.func14, Try.ntmps14
  go_wp2_with fail
  refine wp_region_held_drew (S := fun W => W.cell? ⟨w.heap.size, 0, none⟩ = some (.int .i64 (a : Int)) ∧ W.cell? ⟨w.heap.size, 1, none⟩ = some (.int .i64 n) ∧ W.cell? ⟨p, 0, none⟩ = some (.slice (some ⟨g, 0, none⟩) l cp)) (by kernel_rfl) ⟨s0, s1, d0⟩ (fun hHeld => ?_)
  refine wpAnyH_take (i := 0) (v := ?_) rfl (by kernel_rfl) (by kernel_rfl) (by kernel_rfl) (fun _ _ _ h => h) (Or.inl ⟨by rfl, ?_⟩) hHeld ?_
  rotate_left
  · intro w hSw
    go_simp
    with_reducible rfl
  try simp only [Act.put, List.getElem_toArray, List.getElem_cons_zero, List.getElem_cons_succ, List.setIfInBounds_toArray, List.set_cons_zero, List.set_cons_succ]
  refine wpAnyH_take (i := 1) (v := ?_) rfl (by kernel_rfl) (by kernel_rfl) (by kernel_rfl) (fun _ _ _ h => h) (Or.inl ⟨by rfl, ?_⟩) hHeld ?_
  rotate_left
  · intro w hSw
    go_simp
    with_reducible rfl
  try simp only [Act.put, List.getElem_toArray, List.getElem_cons_zero, List.getElem_cons_succ, List.setIfInBounds_toArray, List.set_cons_zero, List.set_cons_succ]
  refine wpAnyH_take (i := 2) (v := ?_) rfl (by kernel_rfl) (by kernel_rfl) (by kernel_rfl) (fun _ _ _ h => h) (Or.inl ⟨by rfl, ?_⟩) hHeld ?_
  rotate_left
  · intro w hSw
    go_simp
    with_reducible rfl
  try simp only [Act.put, List.getElem_toArray, List.getElem_cons_zero, List.getElem_cons_succ, List.setIfInBounds_toArray, List.set_cons_zero, List.set_cons_succ]
  refine wpAnyH_take (i := 3) (v := ?_) rfl (by kernel_rfl) (by kernel_rfl) (by kernel_rfl) (fun _ _ _ h => h) (Or.inl ⟨by rfl, ?_⟩) hHeld ?_
  rotate_left
  · intro w hSw
    go_simp
    with_reducible rfl
  try simp only [Act.put, List.getElem_toArray, List.getElem_cons_zero, List.getElem_cons_succ, List.setIfInBounds_toArray, List.set_cons_zero, List.set_cons_succ]
  refine wpAnyH_take (i := 4) (v := ?_) rfl (by kernel_rfl) (by kernel_rfl) (by kernel_rfl) (fun _ _ _ h => h) (Or.inl ⟨by rfl, ?_⟩) hHeld ?_
  rotate_left
  · intro w hSw; obtain ⟨u0, u1, u2⟩ := hSw
    go_simp
    with_reducible rfl
  try simp only [Act.put, List.getElem_toArray, List.getElem_cons_zero, List.getElem_cons_succ, List.setIfInBounds_toArray, List.set_cons_zero, List.set_cons_succ]
  refine wpAnyH_take (i := 5) (v := ?_) rfl (by kernel_rfl) (by kernel_rfl) (by kernel_rfl) (fun _ _ _ h => h) (Or.inl ⟨by rfl, ?_⟩) hHeld ?_
  rotate_left
  · intro w hSw
    go_simp
    with_reducible rfl
  try simp only [Act.put, List.getElem_toArray, List.getElem_cons_zero, List.getElem_cons_succ, List.setIfInBounds_toArray, List.set_cons_zero, List.set_cons_succ]
  refine wpAnyH_take (i := 6) (v := ?_) rfl (by kernel_rfl) (by kernel_rfl) (by kernel_rfl) (fun _ _ _ h => h) (Or.inl ⟨by rfl, ?_⟩) hHeld ?_
  rotate_left
  · intro w hSw
    go_simp
    with_reducible rfl
  try simp only [Act.put, List.getElem_toArray, List.getElem_cons_zero, List.getElem_cons_succ, List.setIfInBounds_toArray, List.set_cons_zero, List.set_cons_succ]
  refine wpAnyH_take (i := 7) (v := ?_) rfl (by kernel_rfl) (by kernel_rfl) (by kernel_rfl) (fun _ _ _ h => h) (Or.inl ⟨by rfl, ?_⟩) hHeld ?_
  rotate_left
  · intro w hSw
    go_simp
    with_reducible rfl
  try simp only [Act.put, List.getElem_toArray, List.getElem_cons_zero, List.getElem_cons_succ, List.setIfInBounds_toArray, List.set_cons_zero, List.set_cons_succ]
  refine wpAnyH_take (i := 8) (v := ?_) rfl (by kernel_rfl) (by kernel_rfl) (by kernel_rfl) (fun _ _ _ h => h) (Or.inl ⟨by rfl, ?_⟩) hHeld ?_
  rotate_left
  · intro w hSw
    go_simp
    with_reducible rfl
  try simp only [Act.put, List.getElem_toArray, List.getElem_cons_zero, List.getElem_cons_succ, List.setIfInBounds_toArray, List.set_cons_zero, List.set_cons_succ]
  refine wpAnyH_take (i := 9) (v := ?_) rfl (by kernel_rfl) (by kernel_rfl) (by kernel_rfl) (fun _ _ _ h => h) (Or.inl ⟨by rfl, ?_⟩) hHeld ?_
  rotate_left
  · intro w hSw; obtain ⟨u0, u1, u2⟩ := hSw
    go_simp
    with_reducible rfl
  try simp only [Act.put, List.getElem_toArray, List.getElem_cons_zero, List.getElem_cons_succ, List.setIfInBounds_toArray, List.set_cons_zero, List.set_cons_succ]
  refine wpAnyH_take (i := 10) (v := ?_) rfl (by kernel_rfl) (by kernel_rfl) (by kernel_rfl) (fun _ _ _ h => h) (Or.inl ⟨by rfl, ?_⟩) hHeld ?_
  rotate_left
  · intro w hSw
    go_simp
    with_reducible rfl
  try simp only [Act.put, List.getElem_toArray, List.getElem_cons_zero, List.getElem_cons_succ, List.setIfInBounds_toArray, List.set_cons_zero, List.set_cons_succ]
  refine wpAnyH_take (i := 11) (v := ?_) rfl (by kernel_rfl) (by kernel_rfl) (by kernel_rfl) (fun _ _ _ h => h) (Or.inl ⟨by rfl, ?_⟩) hHeld ?_
  rotate_left
  · intro w hSw
    go_simp
    with_reducible rfl
  try simp only [Act.put, List.getElem_toArray, List.getElem_cons_zero, List.getElem_cons_succ, List.setIfInBounds_toArray, List.set_cons_zero, List.set_cons_succ]
  refine wpAnyH_take (i := 12) (v := ?_) rfl (by kernel_rfl) (by kernel_rfl) (by kernel_rfl) (fun _ _ _ h => h) (Or.inl ⟨by rfl, ?_⟩) hHeld ?_
  rotate_left
  · intro w hSw
    go_simp
    with_reducible rfl
  try simp only [Act.put, List.getElem_toArray, List.getElem_cons_zero, List.getElem_cons_succ, List.setIfInBounds_toArray, List.set_cons_zero, List.set_cons_succ]
  refine wpAnyH_take (i := 13) (v := ?_) rfl (by kernel_rfl) (by kernel_rfl) (by kernel_rfl) (fun _ _ _ h => h) (Or.inl ⟨by rfl, ?_⟩) hHeld ?_
  rotate_left
  · intro w hSw
    go_simp
    with_reducible rfl
  try simp only [Act.put, List.getElem_toArray, List.getElem_cons_zero, List.getElem_cons_succ, List.setIfInBounds_toArray, List.set_cons_zero, List.set_cons_succ]
  refine wpAnyH_take (i := 14) (v := ?_) rfl (by kernel_rfl) (by kernel_rfl) (by kernel_rfl) (fun _ _ _ h => h) (Or.inl ⟨by rfl, ?_⟩) hHeld ?_
  rotate_left
  · intro w hSw; obtain ⟨u0, u1, u2⟩ := hSw
    go_simp
    with_reducible rfl
  try simp only [Act.put, List.getElem_toArray, List.getElem_cons_zero, List.getElem_cons_succ, List.setIfInBounds_toArray, List.set_cons_zero, List.set_cons_succ]
  refine wpAnyH_take (i := 15) (v := ?_) rfl (by kernel_rfl) (by kernel_rfl) (by kernel_rfl) (fun _ _ _ h => h) (Or.inl ⟨by rfl, ?_⟩) hHeld ?_
  rotate_left
  · intro w hSw
    go_simp
    with_reducible rfl
  try simp only [Act.put, List.getElem_toArray, List.getElem_cons_zero, List.getElem_cons_succ, List.setIfInBounds_toArray, List.set_cons_zero, List.set_cons_succ]
  refine wpAnyH_take (i := 16) (v := ?_) rfl (by kernel_rfl) (by kernel_rfl) (by kernel_rfl) (fun _ _ _ h => h) (Or.inl ⟨by rfl, ?_⟩) hHeld ?_
  rotate_left
  · intro w hSw
    go_simp
    with_reducible rfl
  try simp only [Act.put, List.getElem_toArray, List.getElem_cons_zero, List.getElem_cons_succ, List.setIfInBounds_toArray, List.set_cons_zero, List.set_cons_succ]
  refine wpAnyH_take (i := 17) (v := ?_) rfl (by kernel_rfl) (by kernel_rfl) (by kernel_rfl) (fun _ _ _ h => h) (Or.inl ⟨by rfl, ?_⟩) hHeld ?_
  rotate_left
  · intro w hSw
    go_simp
    with_reducible rfl
  try simp only [Act.put, List.getElem_toArray, List.getElem_cons_zero, List.getElem_cons_succ, List.setIfInBounds_toArray, List.set_cons_zero, List.set_cons_succ]
  refine wpAnyH_take (i := 18) (v := ?_) rfl (by kernel_rfl) (by kernel_rfl) (by kernel_rfl) (fun _ _ _ h => h) (Or.inl ⟨by rfl, ?_⟩) hHeld ?_
  rotate_left
  · intro w hSw; obtain ⟨u0, u1, u2⟩ := hSw
    go_simp
    with_reducible rfl
  try simp only [Act.put, List.getElem_toArray, List.getElem_cons_zero, List.getElem_cons_succ, List.setIfInBounds_toArray, List.set_cons_zero, List.set_cons_succ]
  refine wpAnyH_take (i := 19) (v := ?_) rfl (by kernel_rfl) (by kernel_rfl) (by kernel_rfl) (fun _ _ _ h => h) (Or.inl ⟨by rfl, ?_⟩) hHeld ?_
  rotate_left
  · intro w hSw
    go_simp
    with_reducible rfl
  try simp only [Act.put, List.getElem_toArray, List.getElem_cons_zero, List.getElem_cons_succ, List.setIfInBounds_toArray, List.set_cons_zero, List.set_cons_succ]
  refine wpAnyH_take (i := 20) (v := ?_) rfl (by kernel_rfl) (by kernel_rfl) (by kernel_rfl) (fun _ _ _ h => h) (Or.inl ⟨by rfl, ?_⟩) hHeld ?_
  rotate_left
  · intro w hSw
    go_simp
    with_reducible rfl
  try simp only [Act.put, List.getElem_toArray, List.getElem_cons_zero, List.getElem_cons_succ, List.setIfInBounds_toArray, List.set_cons_zero, List.set_cons_succ]
  refine wpAnyH_take (i := 21) (v := ?_) rfl (by kernel_rfl) (by kernel_rfl) (by kernel_rfl) (fun _ _ _ h => h) (Or.inl ⟨by rfl, ?_⟩) hHeld ?_
  rotate_left
  · intro w hSw
    go_simp
    with_reducible rfl
  try simp only [Act.put, List.getElem_toArray, List.getElem_cons_zero, List.getElem_cons_succ, List.setIfInBounds_toArray, List.set_cons_zero, List.set_cons_succ]
  refine wpAnyH_done (by kernel_rfl) ?_ _
  clear hs0 hs1 hs2
  go_wp2_with fail
  have hk3 : (if (l : Int) - (a : Int) < n then (l : Int) - a else n) = (k : Int) := by rw [← hk1]; simp only [Int.min_def]; split <;> split <;> omega
  have hw1 : IntKind.i64.wrap ((l : Int) - (a : Int)) = (l : Int) - a := by rw [IntKind.wrap_i64]; omega
  have hw2 : IntKind.i64.wrap ((a : Int) + (k : Int)) = ((a + k : Nat) : Int) := by rw [IntKind.wrap_i64]; omega
  refine wp_region_held_drew (S := fun W => W.cell? ⟨w.heap.size, 0, none⟩ = some (.int .i64 (a : Int)) ∧ W.cell? ⟨w.heap.size, 1, none⟩ = some (.int .i64 n) ∧ W.cell? ⟨p, 0, none⟩ = some (.slice (some ⟨g, 0, none⟩) l cp)) (by kernel_rfl) ⟨s0, s1, d0⟩ (fun hHeld => ?_)
  refine wpAnyH_take (i := 0) (v := ?_) rfl (by kernel_rfl) (by kernel_rfl) (by kernel_rfl) (fun _ _ _ h => h) (Or.inl ⟨by rfl, ?_⟩) hHeld ?_
  rotate_left
  · intro w hSw
    go_simp
    with_reducible rfl
  try simp only [Act.put, List.getElem_toArray, List.getElem_cons_zero, List.getElem_cons_succ, List.setIfInBounds_toArray, List.set_cons_zero, List.set_cons_succ]
  refine wpAnyH_take (i := 1) (v := ?_) rfl (by kernel_rfl) (by kernel_rfl) (by kernel_rfl) (fun _ _ _ h => h) (Or.inl ⟨by rfl, ?_⟩) hHeld ?_
  rotate_left
  · intro w hSw; obtain ⟨u0, u1, u2⟩ := hSw
    go_simp
    with_reducible rfl
  try simp only [Act.put, List.getElem_toArray, List.getElem_cons_zero, List.getElem_cons_succ, List.setIfInBounds_toArray, List.set_cons_zero, List.set_cons_succ]
  refine wpAnyH_take (i := 2) (v := ?_) rfl (by kernel_rfl) (by kernel_rfl) (by kernel_rfl) (fun _ _ _ h => h) (Or.inl ⟨by rfl, ?_⟩) hHeld ?_
  rotate_left
  · intro w hSw
    go_simp
    with_reducible rfl
  try simp only [Act.put, List.getElem_toArray, List.getElem_cons_zero, List.getElem_cons_succ, List.setIfInBounds_toArray, List.set_cons_zero, List.set_cons_succ]
  refine wpAnyH_take (i := 3) (v := ?_) rfl (by kernel_rfl) (by kernel_rfl) (by kernel_rfl) (fun _ _ _ h => h) (Or.inl ⟨by rfl, ?_⟩) hHeld ?_
  rotate_left
  · intro w hSw; obtain ⟨u0, u1, u2⟩ := hSw
    go_simp
    with_reducible rfl
  try simp only [Act.put, List.getElem_toArray, List.getElem_cons_zero, List.getElem_cons_succ, List.setIfInBounds_toArray, List.set_cons_zero, List.set_cons_succ]
  refine wpAnyH_take (i := 4) (v := ?_) rfl (by kernel_rfl) (by kernel_rfl) (by kernel_rfl) (fun _ _ _ h => h) (Or.inl ⟨by rfl, ?_⟩) hHeld ?_
  rotate_left
  · intro w hSw
    go_simp
    with_reducible rfl
  try simp only [Act.put, List.getElem_toArray, List.getElem_cons_zero, List.getElem_cons_succ, List.setIfInBounds_toArray, List.set_cons_zero, List.set_cons_succ]
  refine wpAnyH_take (i := 5) (v := ?_) rfl (by kernel_rfl) (by kernel_rfl) (by kernel_rfl) (fun _ _ _ h => h) (Or.inl ⟨by rfl, ?_⟩) hHeld ?_
  rotate_left
  · intro w hSw
    go_simp
    with_reducible rfl
  try simp only [Act.put, List.getElem_toArray, List.getElem_cons_zero, List.getElem_cons_succ, List.setIfInBounds_toArray, List.set_cons_zero, List.set_cons_succ]
  refine wpAnyH_take (i := 6) (v := ?_) rfl (by kernel_rfl) (by kernel_rfl) (by kernel_rfl) (fun _ _ _ h => h) (Or.inl ⟨by rfl, ?_⟩) hHeld ?_
  rotate_left
  · intro w hSw
    go_simp
    with_reducible rfl
  try simp only [Act.put, List.getElem_toArray, List.getElem_cons_zero, List.getElem_cons_succ, List.setIfInBounds_toArray, List.set_cons_zero, List.set_cons_succ]
  refine wpAnyH_take (i := 7) (v := ?_) rfl (by kernel_rfl) (by kernel_rfl) (by kernel_rfl) (fun _ _ _ h => h) (Or.inl ⟨by rfl, ?_⟩) hHeld ?_
  rotate_left
  · intro w hSw; obtain ⟨u0, u1, u2⟩ := hSw
    go_simp
    with_reducible rfl
  try simp only [Act.put, List.getElem_toArray, List.getElem_cons_zero, List.getElem_cons_succ, List.setIfInBounds_toArray, List.set_cons_zero, List.set_cons_succ]
  refine wpAnyH_take (i := 8) (v := ?_) rfl (by kernel_rfl) (by kernel_rfl) (by kernel_rfl) (fun _ _ _ h => h) (Or.inl ⟨by rfl, ?_⟩) hHeld ?_
  rotate_left
  · intro w hSw
    go_simp
    with_reducible rfl
  try simp only [Act.put, List.getElem_toArray, List.getElem_cons_zero, List.getElem_cons_succ, List.setIfInBounds_toArray, List.set_cons_zero, List.set_cons_succ]
  refine wpAnyH_take (i := 9) (v := ?_) rfl (by kernel_rfl) (by kernel_rfl) (by kernel_rfl) (fun _ _ _ h => h) (Or.inl ⟨by rfl, ?_⟩) hHeld ?_
  rotate_left
  · intro w hSw
    go_simp
    with_reducible rfl
  try simp only [Act.put, List.getElem_toArray, List.getElem_cons_zero, List.getElem_cons_succ, List.setIfInBounds_toArray, List.set_cons_zero, List.set_cons_succ]
  refine wpAnyH_take (i := 10) (v := ?_) rfl (by kernel_rfl) (by kernel_rfl) (by kernel_rfl) (fun _ _ _ h => h) (Or.inl ⟨by rfl, ?_⟩) hHeld ?_
  rotate_left
  · intro w hSw; obtain ⟨u0, u1, u2⟩ := hSw
    go_simp
    with_reducible rfl
  try simp only [Act.put, List.getElem_toArray, List.getElem_cons_zero, List.getElem_cons_succ, List.setIfInBounds_toArray, List.set_cons_zero, List.set_cons_succ]
  refine wpAnyH_take (i := 11) (v := ?_) rfl (by kernel_rfl) (by kernel_rfl) (by kernel_rfl) (fun _ _ _ h => h) (Or.inl ⟨by rfl, ?_⟩) hHeld ?_
  rotate_left
  · intro w hSw
    go_simp
    with_reducible rfl
  try simp only [Act.put, List.getElem_toArray, List.getElem_cons_zero, List.getElem_cons_succ, List.setIfInBounds_toArray, List.set_cons_zero, List.set_cons_succ]
  refine wpAnyH_take (i := 12) (v := ?_) rfl (by kernel_rfl) (by kernel_rfl) (by kernel_rfl) (fun _ _ _ h => h) (Or.inl ⟨by rfl, ?_⟩) hHeld ?_
  rotate_left
  · intro w hSw
    go_simp
    with_reducible rfl
  try simp only [Act.put, List.getElem_toArray, List.getElem_cons_zero, List.getElem_cons_succ, List.setIfInBounds_toArray, List.set_cons_zero, List.set_cons_succ]
  refine wpAnyH_take (i := 13) (v := ?_) rfl (by kernel_rfl) (by kernel_rfl) (by kernel_rfl) (fun _ _ _ h => h) (Or.inl ⟨by rfl, ?_⟩) hHeld ?_
  rotate_left
  · intro w hSw
    go_simp
    with_reducible rfl
  try simp only [Act.put, List.getElem_toArray, List.getElem_cons_zero, List.getElem_cons_succ, List.setIfInBounds_toArray, List.set_cons_zero, List.set_cons_succ]
  refine wpAnyH_take (i := 14) (v := ?_) rfl (by kernel_rfl) (by kernel_rfl) (by kernel_rfl) (fun _ _ _ h => h) (Or.inl ⟨by rfl, ?_⟩) hHeld ?_
  rotate_left
  · intro w hSw
    go_simp
    with_reducible rfl
  try simp only [Act.put, List.getElem_toArray, List.getElem_cons_zero, List.getElem_cons_succ, List.setIfInBounds_toArray, List.set_cons_zero, List.set_cons_succ]
  refine wpAnyH_done (by kernel_rfl) ?_ _
  have e1 : a + k ≤ cp := by omega
  have e2 : ((a : Int) + (k : Int)) ≤ (cp : Int) := by omega
  have e3 : (0 : Int) ≤ (a : Int) + (k : Int) := by omega
  have e4 : ((a : Int) + (k : Int)).toNat = a + k := by omega
  obtain ⟨o, ho, hoo⟩ : ∃ o, (if cp = a then (some ⟨g, 0, none⟩ : Option Addr) else some ⟨g, a * 2, none⟩) = some ⟨g, o, none⟩ ∧ (o = a * 2 ∨ k = 0) := by
    by_cases h : cp = a
    · exact ⟨0, by rw [if_pos h], .inr (by omega)⟩
    · exact ⟨a * 2, by rw [if_neg h], .inl rfl⟩
  go_wp2_with fail
  refine wp_region_held_drew (S := fun W => W.cell? ⟨w.heap.size, 0, none⟩ = some (.int .i64 (a : Int)) ∧ W.cell? ⟨w.heap.size, 1, none⟩ = some (.int .i64 n) ∧ W.cell? ⟨p, 0, none⟩ = some (.slice (some ⟨g, 0, none⟩) l cp)) (by kernel_rfl) ⟨s0, s1, d0⟩ (fun hHeld => ?_)
  refine wpAnyH_take (i := 0) (v := ?_) rfl (by kernel_rfl) (by kernel_rfl) (by kernel_rfl) (fun _ _ _ h => h) (Or.inl ⟨by rfl, ?_⟩) hHeld ?_
  rotate_left
  · intro w hSw
    go_simp
    with_reducible rfl
  try simp only [Act.put, List.getElem_toArray, List.getElem_cons_zero, List.getElem_cons_succ, List.setIfInBounds_toArray, List.set_cons_zero, List.set_cons_succ]
  refine wpAnyH_take (i := 1) (v := ?_) rfl (by kernel_rfl) (by kernel_rfl) (by kernel_rfl) (fun _ _ _ h => h) (Or.inl ⟨by rfl, ?_⟩) hHeld ?_
  rotate_left
  · intro w hSw
    go_simp
    with_reducible rfl
  try simp only [Act.put, List.getElem_toArray, List.getElem_cons_zero, List.getElem_cons_succ, List.setIfInBounds_toArray, List.set_cons_zero, List.set_cons_succ]
  refine wpAnyH_take (i := 2) (v := ?_) rfl (by kernel_rfl) (by kernel_rfl) (by kernel_rfl) (fun _ _ _ h => h) (Or.inl ⟨by rfl, ?_⟩) hHeld ?_
  rotate_left
  · intro w hSw
    go_simp
    with_reducible rfl
  try simp only [Act.put, List.getElem_toArray, List.getElem_cons_zero, List.getElem_cons_succ, List.setIfInBounds_toArray, List.set_cons_zero, List.set_cons_succ]
  refine wpAnyH_take (i := 3) (v := ?_) rfl (by kernel_rfl) (by kernel_rfl) (by kernel_rfl) (fun _ _ _ h => h) (Or.inl ⟨by rfl, ?_⟩) hHeld ?_
  rotate_left
  · intro w hSw; obtain ⟨u0, u1, u2⟩ := hSw
    go_simp
    with_reducible rfl
  try simp only [Act.put, List.getElem_toArray, List.getElem_cons_zero, List.getElem_cons_succ, List.setIfInBounds_toArray, List.set_cons_zero, List.set_cons_succ]
  refine wpAnyH_take (i := 4) (v := ?_) rfl (by kernel_rfl) (by kernel_rfl) (by kernel_rfl) (fun _ _ _ h => h) (Or.inl ⟨by rfl, ?_⟩) hHeld ?_
  rotate_left
  · intro w hSw
    go_simp
    with_reducible rfl
  try simp only [Act.put, List.getElem_toArray, List.getElem_cons_zero, List.getElem_cons_succ, List.setIfInBounds_toArray, List.set_cons_zero, List.set_cons_succ]
  refine wpAnyH_take (i := 5) (v := ?_) rfl (by kernel_rfl) (by kernel_rfl) (by kernel_rfl) (fun _ _ _ h => h) (Or.inl ⟨by rfl, ?_⟩) hHeld ?_
  rotate_left
  · intro w hSw; obtain ⟨u0, u1, u2⟩ := hSw
    go_simp
    with_reducible rfl
  try simp only [Act.put, List.getElem_toArray, List.getElem_cons_zero, List.getElem_cons_succ, List.setIfInBounds_toArray, List.set_cons_zero, List.set_cons_succ]
  refine wpAnyH_take (i := 6) (v := ?_) rfl (by kernel_rfl) (by kernel_rfl) (by kernel_rfl) (fun _ _ _ h => h) (Or.inl ⟨by rfl, ?_⟩) hHeld ?_
  rotate_left
  · intro w hSw
    go_simp
    with_reducible rfl
  try simp only [Act.put, List.getElem_toArray, List.getElem_cons_zero, List.getElem_cons_succ, List.setIfInBounds_toArray, List.set_cons_zero, List.set_cons_succ]
  refine wpAnyH_take (i := 7) (v := ?_) rfl (by kernel_rfl) (by kernel_rfl) (by kernel_rfl) (fun _ _ _ h => h) (Or.inl ⟨by rfl, ?_⟩) hHeld ?_
  rotate_left
  · intro w hSw
    go_simp
    with_reducible rfl
  try simp only [Act.put, List.getElem_toArray, List.getElem_cons_zero, List.getElem_cons_succ, List.setIfInBounds_toArray, List.set_cons_zero, List.set_cons_succ]
  refine wpAnyH_ready (rs := [8, 9]) (by kernel_rfl) (by simp) ?_
  refine AllReadyH.cons rfl (fun K hK => ?_) (AllReadyH.cons rfl (fun K hK => ?_) AllReadyH.nil)
  · rw [if_pos (by rfl)]
    go_simp
    refine (HCL.out _ HA.out.drew.drew.drew (cp - a) o hoo).mono ?_
    rintro e w1 ⟨v, rfl, hO, hF⟩
    obtain ⟨va, vc, rfl⟩ := own_form hO
    have HO := hid hO
    have HF := hid (HA.out.drew.drew.drew.trans hF)
    have HB1 := hid (blk_no hF HB.out)
    have HA1 := hid ((Fr.refl No w1).alloc (.cells #[.slice none 0 0] 58))
    have HN1 := hid (heap_new w1 (.cells #[.slice none 0 0] 58))
    refine hK.out _ _ ⟨(hF.cell (p := ⟨w.heap.size, 0, none⟩) (lt_of_block HB.out) id).trans s0, (hF.cell (p := ⟨w.heap.size, 1, none⟩) (lt_of_block HB.out) id).trans s1, (hF.cell (p := ⟨p, 0, none⟩) (HA.out.lt hpl) id).trans d0⟩ (fun hHeld => ?_)
    clear hK K hO hF
    try simp only [Act.put, List.getElem_toArray, List.getElem_cons_zero, List.getElem_cons_succ, List.setIfInBounds_toArray, List.set_cons_zero, List.set_cons_succ]
    refine wpAnyH_ready (rs := [9]) (by kernel_rfl) (by simp) ?_
    refine AllReadyH.cons rfl (fun K hK => ?_) AllReadyH.nil
    rw [if_pos (by rfl)]
    go_simp
    refine hK.out _ _ ⟨(HA1.out.cell (p := ⟨w.heap.size, 0, none⟩) (lt_of_block HB1.out) id).trans hHeld.1, (HA1.out.cell (p := ⟨w.heap.size, 1, none⟩) (lt_of_block HB1.out) id).trans hHeld.2.1, (HA1.out.cell (p := ⟨p, 0, none⟩) (HF.out.lt hpl) id).trans hHeld.2.2⟩ (fun hHeld => ?_)
    clear hK K
    try simp only [Act.put, List.getElem_toArray, List.getElem_cons_zero, List.getElem_cons_succ, List.setIfInBounds_toArray, List.set_cons_zero, List.set_cons_succ]
    have n0 := (cell_blk HN1.out 0).trans (show _ = some (Value.slice none 0 0) from rfl)
    have nf := free_blk HN1.out 0
    refine wpAnyH_ready (rs := [10]) (by kernel_rfl) (by simp) ?_
    refine AllReadyH.cons rfl (fun K hK => ?_) AllReadyH.nil
    rw [if_pos (by rfl)]
    go_simp
    have hfs := (Fr.refl No w1).alloc (.cells #[.slice va k vc] 58)
    have hbw := lt_of_block HB1.out
    have hpw := HF.out.lt hpl
    have hold := hHeld
    refine hK.out _ _ ⟨(cell_blk (blk_no hfs HB1.out) 0).trans rfl, (cell_blk (blk_no hfs HB1.out) 1).trans rfl, (hfs.cell (p := ⟨p, 0, none⟩) hpw id).trans ((HA1.out.cell (p := ⟨p, 0, none⟩) hpw id).symm.trans hHeld.2.2)⟩ (fun hHeld => ?_)
    clear hK K
    try simp only [Act.put, List.getElem_toArray, List.getElem_cons_zero, List.getElem_cons_succ, List.setIfInBounds_toArray, List.set_cons_zero, List.set_cons_succ]
    refine wpAnyH_done (by kernel_rfl) ?_ _
    go_wp2_with fail
    go_ret
    have hlb : ∀ j, (Value.slice va k vc).ownBlock = some j → w.heap.size ≤ j := fun j hj => Nat.le_trans HA.out.size (own_ge2 HO.out hj)
    exact ⟨w1.heap.size, w.heap.size, rfl, ⟨blk_no hfs HB1.out, ⟨Nat.le_refl _, hfs.lt hbw⟩, ⟨HF.out.size, by simp⟩, _, heap_new w1 (.cells #[.slice va k vc] 58), by rw [HLC.out]; exact own_frk (own_mono HO.out) hfs (fun _ _ => id), fun j hj => ⟨hlb j hj, by obtain ⟨cs, hc⟩ := own_ty HO.out hj; exact hfs.lt (lt_of_block hc)⟩⟩, HF.out.trans hfs⟩
  · rw [if_pos (by rfl)]
    go_simp
    have hz0 : (w.alloc (.cells #[.int .i64 (a : Int), .int .i64 n] 25)).heap.size = w.heap.size + 1 := by simp
    have HA1 := hid ((Fr.refl No (w.alloc (.cells #[.int .i64 (a : Int), .int .i64 n] 25))).alloc (.cells #[.slice none 0 0] 58))
    have HN1 := hid (heap_new (w.alloc (.cells #[.int .i64 (a : Int), .int .i64 n] 25)) (.cells #[.slice none 0 0] 58))
    rw [hz0] at HN1
    have HB1 := hid (blk_no HA1.out HB.out)
    refine hK.out _ _ ⟨(HA1.out.cell (p := ⟨w.heap.size, 0, none⟩) (lt_of_block HB.out) id).trans s0, (HA1.out.cell (p := ⟨w.heap.size, 1, none⟩) (lt_of_block HB.out) id).trans s1, (HA1.out.cell (p := ⟨p, 0, none⟩) (HA.out.lt hpl) id).trans d0⟩ (fun hHeld => ?_)
    clear hK K
    try simp only [Act.put, List.getElem_toArray, List.getElem_cons_zero, List.getElem_cons_succ, List.setIfInBounds_toArray, List.set_cons_zero, List.set_cons_succ]
    refine wpAnyH_ready (rs := [8]) (by kernel_rfl) (by simp) ?_
    refine AllReadyH.cons rfl (fun K hK => ?_) AllReadyH.nil
    rw [if_pos (by rfl)]
    go_simp
    refine (HCL.out _ (HA.out.trans HA1.out).drew.drew.drew (cp - a) o hoo).mono ?_
    rintro e w1 ⟨v, rfl, hO, hF⟩
    obtain ⟨va, vc, rfl⟩ := own_form hO
    have HO := hid hO
    have HF := hid ((HA.out.trans HA1.out).drew.drew.drew.trans hF)
    have HB2 := hid (blk_no hF HB1.out)
    have HN2 := hid (blk_no hF HN1.out)
    refine hK.out _ _ ⟨(hF.cell (p := ⟨w.heap.size, 0, none⟩) (lt_of_block HB1.out) id).trans hHeld.1, (hF.cell (p := ⟨w.heap.size, 1, none⟩) (lt_of_block HB1.out) id).trans hHeld.2.1, (hF.cell (p := ⟨p, 0, none⟩) (HA1.out.lt (HA.out.lt hpl)) id).trans hHeld.2.2⟩ (fun hHeld => ?_)
    clear hK K hO hF
    try simp only [Act.put, List.getElem_toArray, List.getElem_cons_zero, List.getElem_cons_succ, List.setIfInBounds_toArray, List.set_cons_zero, List.set_cons_succ]
    have n0 := (cell_blk HN2.out 0).trans (show _ = some (Value.slice none 0 0) from rfl)
    have nf := free_blk HN2.out 0
    refine wpAnyH_ready (rs := [10]) (by kernel_rfl) (by simp) ?_
    refine AllReadyH.cons rfl (fun K hK => ?_) AllReadyH.nil
    rw [if_pos (by rfl)]
    go_simp
    have hfs := Fr.set1 w1 (w.heap.size + 1) 0 (.slice va k vc)
    have hbw := lt_of_block HB2.out
    have hpw := HF.out.lt hpl
    refine hK.out _ _ ⟨(hfs.cell (p := ⟨w.heap.size, 0, none⟩) hbw (fun h => by have h' : w.heap.size = w.heap.size + 1 := h; omega)).trans hHeld.1, (hfs.cell (p := ⟨w.heap.size, 1, none⟩) hbw (fun h => by have h' : w.heap.size = w.heap.size + 1 := h; omega)).trans hHeld.2.1, (hfs.cell (p := ⟨p, 0, none⟩) hpw (fun h => by have h' : p = w.heap.size + 1 := h; omega)).trans hHeld.2.2⟩ (fun hHeld => ?_)
    clear hK K
    try simp only [Act.put, List.getElem_toArray, List.getElem_cons_zero, List.getElem_cons_succ, List.setIfInBounds_toArray, List.set_cons_zero, List.set_cons_succ]
    refine wpAnyH_done (by kernel_rfl) ?_ _
    go_wp2_with fail
    go_ret
    have hlb : ∀ j, (Value.slice va k vc).ownBlock = some j → w.heap.size + 2 ≤ j := fun j hj => by have := own_ge2 HO.out hj; simpa using this
    refine ⟨w.heap.size + 1, w.heap.size, rfl, ⟨?_, ⟨Nat.le_refl _, hfs.lt hbw⟩, ⟨Nat.le_succ _, hfs.lt (lt_of_block HN2.out)⟩, _, set_blk HN2.out 0 _, ?_, fun j hj => ⟨by have := hlb j hj; omega, by obtain ⟨cs, hc⟩ := own_ty HO.out hj; exact hfs.lt (lt_of_block hc)⟩⟩, HF.out.then hfs (fun i hi h => absurd hi (by have h' : i = w.heap.size + 1 := h; omega))⟩
    · exact (hfs.block w.heap.size hbw (fun h => by have h' : w.heap.size = w.heap.size + 1 := h; omega)).trans HB2.out
    · rw [HLC.out]
      refine own_frk (own_mono HO.out) hfs (fun j hj h => ?_)
      have h' : j = w.heap.size + 1 := h
      have := hlb j hj
      omega
end Go.Proofs.Ytfggllhflibfcaa
