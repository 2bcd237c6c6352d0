/- index: IndexSpans: what the loops gather; a span's two parts. -/
import Derived.Test.YtfggllhflibfcaaIxK
namespace Go.Proofs.Ytfggllhflibfcaa
open Go.RowKit Go.Maps Go.Shelf
def iv9 (z : Int) : Value := .int .i64 z
structure Got2 (W : World) (Z1 Z2 n0 : Nat) (l1 : List Int) (l2 : List Pl) (vb vp : Value) : Prop where
  z1 : W.heap[Z1]? = some (.cells #[vb] 57 (0, 0))
  z2 : W.heap[Z2]? = some (.cells #[vp] 58 (0, 0))
  r1 : W.ownsRow n0 3 1 vb l1.length (l1.map iv9)
  r2 : W.ownsRow n0 44 2 vp l2.length (l2.flatMap plV)
  h1 : n0 ≤ Z1
  h2 : n0 ≤ Z2
theorem Got2.fr {S : Nat → Prop} {W W' : World} {Z1 Z2 n0 : Nat} {l1 : List Int} {l2 : List Pl} {vb vp : Value} (h : Got2 W Z1 Z2 n0 l1 l2 vb vp) (f : Fr S W W') (h1 : ¬ S Z1) (h2 : ¬ S Z2) (h3 : ∀ k, vb.ownBlock = some k → ¬ S k) (h4 : ∀ k, vp.ownBlock = some k → ¬ S k) : Got2 W' Z1 Z2 n0 l1 l2 vb vp :=
  ⟨(f.block Z1 (lt_of_block h.z1) h1).trans h.z1, (f.block Z2 (lt_of_block h.z2) h2).trans h.z2, own_frk h.r1 f h3, own_frk h.r2 f h4, h.h1, h.h2⟩
theorem Got2.no {W W' : World} {Z1 Z2 n0 : Nat} {l1 : List Int} {l2 : List Pl} {vb vp : Value} (h : Got2 W Z1 Z2 n0 l1 l2 vb vp) (f : Fr No W W') : Got2 W' Z1 Z2 n0 l1 l2 vb vp := h.fr f id id (fun _ _ => id) (fun _ _ => id)
/-- what turns a block that is no cells -/
theorem Got2.other {W W' : World} {Z1 Z2 n0 : Nat} {l1 : List Int} {l2 : List Pl} {vb vp : Value} {row : Option Nat} (h : Got2 W Z1 Z2 n0 l1 l2 vb vp) (hg : W.grownBy W' row) (hr : ∀ r, row = some r → ∃ o : Obj, W.heap[r]? = some o ∧ o.isCells = false) : Got2 W' Z1 Z2 n0 l1 l2 vb vp := by
  have f : Fr (fun k => row = some k) W W' := (Fr.refl _ W).grown hg (fun k e _ => e)
  have hc : ∀ k o, W.heap[k]? = some o → o.isCells = true → ¬ row = some k := fun k o h1 h2 e => by
    obtain ⟨o', h3, h4⟩ := hr k e
    rw [h1] at h3; cases h3; rw [h2] at h4; cases h4
  exact h.fr f (hc _ _ h.z1 rfl) (hc _ _ h.z2 rfl) (fun k hk => by obtain ⟨cs, h5⟩ := own_ty h.r1 hk; exact hc _ _ h5 rfl) (fun k hk => by obtain ⟨cs, h5⟩ := own_ty h.r2 hk; exact hc _ _ h5 rfl)
theorem Got2.ne {W : World} {Z1 Z2 n0 : Nat} {l1 : List Int} {l2 : List Pl} {vb vp : Value} (h : Got2 W Z1 Z2 n0 l1 l2 vb vp) : Z1 ≠ Z2 ∧ (∀ k, vb.ownBlock = some k → k ≠ Z1 ∧ k ≠ Z2 ∧ ¬ vp.ownBlock = some k) ∧ (∀ k, vp.ownBlock = some k → k ≠ Z1 ∧ k ≠ Z2 ∧ ¬ vb.ownBlock = some k) := by
  refine ⟨ne_ty h.z1 h.z2 (by decide), fun k hk => ?_, fun k hk => ?_⟩
  · obtain ⟨cs, h1⟩ := own_ty h.r1 hk
    exact ⟨ne_ty h1 h.z1 (by decide), ne_ty h1 h.z2 (by decide), fun e => by obtain ⟨ds, h2⟩ := own_ty h.r2 e; exact ne_ty h1 h2 (by decide) rfl⟩
  · obtain ⟨cs, h1⟩ := own_ty h.r2 hk
    exact ⟨ne_ty h1 h.z1 (by decide), ne_ty h1 h.z2 (by decide), fun e => by obtain ⟨ds, h2⟩ := own_ty h.r1 e; exact ne_ty h1 h2 (by decide) rfl⟩
/-- blocks that are no cells are as they were -/
def Oth (W W' : World) : Prop := ∀ (k : Nat) (o : Obj), W.heap[k]? = some o → o.isCells = false → W'.heap[k]? = some o
theorem Oth.trans {A B C : World} (h : Oth A B) (h' : Oth B C) : Oth A C := fun k o a b => h' k o (h k o a b) b
theorem Oth.keeps {B : Nat} {A C : World} (h : Oth A C) (hs : A.heap.size ≤ C.heap.size) : KeepsFrom B A C := ⟨hs, fun k o _ h1 h2 => h k o h1 h2⟩
theorem Oth.of {S : Nat → Prop} {A C : World} (f : Fr S A C) (hS : ∀ k, S k → ∃ o : Obj, A.heap[k]? = some o ∧ o.isCells = true) : Oth A C := fun k o h1 h2 => (f.block k (lt_of_block h1) (fun hs => by obtain ⟨o', h3, h4⟩ := hS k hs; rw [h1] at h3; cases h3; rw [h2] at h4; cases h4)).trans h1
theorem Got2.step1 {W w4 : World} {Z1 Z2 n0 g cap : Nat} {l1 : List Int} {l2 : List Pl} {vb vp : Value} {o : Obj} {z : Int} (h : Got2 W Z1 Z2 n0 l1 l2 vb vp) (hown : w4.ownsRow n0 3 1 (.slice (some ⟨g, 0, none⟩) (l1.length + 1) cap) (l1.length + 1) (l1.map iv9 ++ [iv9 z])) (hgrow : (W.alloc o).grownBy w4 vb.ownBlock) :
    w4.cell? ⟨Z1, 0, none⟩ = some vb ∧ w4.frozen? ⟨Z1, 0, none⟩ = false ∧ Got2 (w4.setCell ⟨Z1, 0, none⟩ (.slice (some ⟨g, 0, none⟩) (l1.length + 1) cap)) Z1 Z2 n0 (l1 ++ [z]) l2 (.slice (some ⟨g, 0, none⟩) (l1.length + 1) cap) vp ∧
    Fr (fun k => n0 ≤ k) W (w4.setCell ⟨Z1, 0, none⟩ (.slice (some ⟨g, 0, none⟩) (l1.length + 1) cap)) ∧ Oth W (w4.setCell ⟨Z1, 0, none⟩ (.slice (some ⟨g, 0, none⟩) (l1.length + 1) cap)) ∧
    ∀ (k : Nat) (cs : Array Value), W.heap[k]? = some (.cells cs 44 (0, 0)) → (w4.setCell ⟨Z1, 0, none⟩ (.slice (some ⟨g, 0, none⟩) (l1.length + 1) cap)).heap[k]? = some (.cells cs 44 (0, 0)) := by
  have fa := (Fr.refl No W).alloc o
  have hA := h.no fa
  have f1 : Fr (fun k => vb.ownBlock = some k) (W.alloc o) w4 := (Fr.refl _ _).grown hgrow (fun k e _ => e)
  have hne := hA.ne
  have hz1 := (f1.block Z1 (lt_of_block hA.z1) (fun e => (hne.2.1 _ e).1 rfl)).trans hA.z1
  have f2 := Fr.set1 w4 Z1 0 (.slice (some ⟨g, 0, none⟩) (l1.length + 1) cap)
  have hown' : w4.ownsRow n0 3 1 (.slice (some ⟨g, 0, none⟩) (l1.length + 1) cap) (l1 ++ [z]).length ((l1 ++ [z]).map iv9) := by
    rw [List.length_append, List.map_append, List.length_singleton]; exact hown
  have hz2 := (f1.block Z2 (lt_of_block hA.z2) (fun e => (hne.2.1 _ e).2.1 rfl)).trans hA.z2
  have hr2 := own_frk hA.r2 f1 (fun k hk e => (hne.2.2 k hk).2.2 e)
  refine ⟨by rw [cell_blk hz1]; rfl, free_blk hz1 0, ⟨set_blk hz1 0 _, (f2.block Z2 (lt_of_block hz2) (fun e => hne.1 e.symm)).trans hz2, own_frk hown' f2 (fun k hk e => ?_), own_frk hr2 f2 (fun k hk e => (hne.2.2 k hk).1 e), h.h1, h.h2⟩, ?_, ?_, fun k cs hk => ?_⟩
  · obtain ⟨cs, hc⟩ := own_ty hown' hk
    exact ne_ty hc hz1 (by decide) e
  · exact ((fa.mono (T := fun k => n0 ≤ k) (fun _ _ e => e.elim)).then f1 (fun i hi e => (hA.r1.lt i e).1)).then f2 (fun i hi e => by rw [show i = Z1 from e]; exact h.h1)
  · refine (Oth.of fa (fun k e => e.elim)).trans ((Oth.of f1 (fun k e => ?_)).trans (Oth.of f2 (fun k e => ⟨.cells #[vb] 57 (0, 0), by rw [show k = Z1 from e]; exact hz1, rfl⟩)))
    obtain ⟨cs, hc⟩ := own_ty hA.r1 e
    exact ⟨_, hc, rfl⟩
  · have hk0 := (fa.block k (lt_of_block hk) id).trans hk
    have hk1 := (f1.block k (lt_of_block hk0) (fun e => by obtain ⟨ds, hc⟩ := own_ty hA.r1 e; exact ne_ty hc hk0 (by decide) rfl)).trans hk0
    exact (f2.block k (lt_of_block hk1) (fun e => ne_ty hk1 hz1 (by decide) e)).trans hk1
theorem Got2.step2 {W w4 : World} {Z1 Z2 n0 g cap : Nat} {l1 : List Int} {l2 : List Pl} {vb vp : Value} {o : Obj} {q : Pl} (h : Got2 W Z1 Z2 n0 l1 l2 vb vp) (hown : w4.ownsRow n0 44 2 (.slice (some ⟨g, 0, none⟩) (l2.length + 1) cap) (l2.length + 1) (l2.flatMap plV ++ plV q)) (hgrow : (W.alloc o).grownBy w4 vp.ownBlock) :
    w4.cell? ⟨Z2, 0, none⟩ = some vp ∧ w4.frozen? ⟨Z2, 0, none⟩ = false ∧ Got2 (w4.setCell ⟨Z2, 0, none⟩ (.slice (some ⟨g, 0, none⟩) (l2.length + 1) cap)) Z1 Z2 n0 l1 (l2 ++ [q]) vb (.slice (some ⟨g, 0, none⟩) (l2.length + 1) cap) ∧
    Fr (fun k => n0 ≤ k) W (w4.setCell ⟨Z2, 0, none⟩ (.slice (some ⟨g, 0, none⟩) (l2.length + 1) cap)) ∧ Oth W (w4.setCell ⟨Z2, 0, none⟩ (.slice (some ⟨g, 0, none⟩) (l2.length + 1) cap)) := by
  have fa := (Fr.refl No W).alloc o
  have hA := h.no fa
  have f1 : Fr (fun k => vp.ownBlock = some k) (W.alloc o) w4 := (Fr.refl _ _).grown hgrow (fun k e _ => e)
  have hne := hA.ne
  have hz2 := (f1.block Z2 (lt_of_block hA.z2) (fun e => (hne.2.2 _ e).2.1 rfl)).trans hA.z2
  have f2 := Fr.set1 w4 Z2 0 (.slice (some ⟨g, 0, none⟩) (l2.length + 1) cap)
  have hown' : w4.ownsRow n0 44 2 (.slice (some ⟨g, 0, none⟩) (l2.length + 1) cap) (l2 ++ [q]).length ((l2 ++ [q]).flatMap plV) := by
    rw [List.length_append, List.flatMap_append, List.length_singleton, List.flatMap_singleton]; exact hown
  have hz1 := (f1.block Z1 (lt_of_block hA.z1) (fun e => (hne.2.2 _ e).1 rfl)).trans hA.z1
  have hr1 := own_frk hA.r1 f1 (fun k hk e => (hne.2.1 k hk).2.2 e)
  refine ⟨by rw [cell_blk hz2]; rfl, free_blk hz2 0, ⟨(f2.block Z1 (lt_of_block hz1) (fun e => hne.1 e)).trans hz1, set_blk hz2 0 _, own_frk hr1 f2 (fun k hk e => (hne.2.1 k hk).2.1 e), own_frk hown' f2 (fun k hk e => ?_), h.h1, h.h2⟩, ?_, ?_⟩
  · obtain ⟨cs, hc⟩ := own_ty hown' hk
    exact ne_ty hc hz2 (by decide) e
  · exact ((fa.mono (T := fun k => n0 ≤ k) (fun _ _ e => e.elim)).then f1 (fun i hi e => (hA.r2.lt i e).1)).then f2 (fun i hi e => by rw [show i = Z2 from e]; exact h.h2)
  · refine (Oth.of fa (fun k e => e.elim)).trans ((Oth.of f1 (fun k e => ?_)).trans (Oth.of f2 (fun k e => ⟨.cells #[vp] 58 (0, 0), by rw [show k = Z2 from e]; exact hz2, rfl⟩)))
    obtain ⟨cs, hc⟩ := own_ty hA.r2 e
    exact ⟨_, hc, rfl⟩
/-- the loops' state: what is gathered; all else as it was; the loops' marks -/
def Gat (w6 : World) (Z1 Z2 : Nat) (Ds : List Nat) (ys : List (Int × Pl)) (W : World) : Prop := (∃ vb vp, Got2 W Z1 Z2 w6.heap.size (ys.map (·.1)) (ys.map (·.2)) vb vp) ∧ Fr (fun k => No k ∨ w6.heap.size ≤ k) w6 W ∧ ∀ D ∈ Ds, W.heap[D]? = some (.deferred (some []))
theorem gat_own (w6 : World) (Z1 Z2 : Nat) (Ds : List Nat) (ys : List (Int × Pl)) (B : Nat) (hB : w6.heap.size ≤ B) (hD : ∀ D ∈ Ds, D < B) : OwnFrom B (fun (pre : List (Int × Pl)) W => Gat w6 Z1 Z2 Ds (ys ++ pre) W) := fun s A C row hs hg hr => by
  obtain ⟨⟨vb, vp, h1⟩, h2, h3⟩ := hs
  refine ⟨⟨vb, vp, h1.other hg (fun r e => (hr r e).2)⟩, own_fr (β := Unit) w6.heap.size B hB w6 No () A C row h2 hg hr, fun D hD' => ?_⟩
  exact (hg.block D (lt_of_block (h3 D hD')) (fun e => by have := (hr D e.symm).1; have := hD D hD'; omega)).trans (h3 D hD')
/-- the same, the rows named -/
def GatV (w6 : World) (Z1 Z2 : Nat) (Ds : List Nat) (ys : List (Int × Pl)) (vb vp : Value) (W : World) : Prop := Got2 W Z1 Z2 w6.heap.size (ys.map (·.1)) (ys.map (·.2)) vb vp ∧ Fr (fun k => No k ∨ w6.heap.size ≤ k) w6 W ∧ ∀ D ∈ Ds, W.heap[D]? = some (.deferred (some []))
theorem gatV_own (w6 : World) (Z1 Z2 : Nat) (Ds : List Nat) (ys : List (Int × Pl)) (vb vp : Value) (B : Nat) (hB : w6.heap.size ≤ B) (hD : ∀ D ∈ Ds, D < B) : OwnFrom B (fun (_ : List (Int × Pl)) W => GatV w6 Z1 Z2 Ds ys vb vp W) := fun s A C row hs hg hr => by
  obtain ⟨h1, h2, h3⟩ := hs
  refine ⟨h1.other hg (fun r e => (hr r e).2), own_fr (β := Unit) w6.heap.size B hB w6 No () A C row h2 hg hr, fun D hD' => ?_⟩
  exact (hg.block D (lt_of_block (h3 D hD')) (fun e => by have := (hr D e.symm).1; have := hD D hD'; omega)).trans (h3 D hD')
theorem cutI_add (L : List Pl) (a i j : Nat) : cutI L a (i + j) = cutI L a i ++ cutI L (a + i) j := by
  unfold cutI
  rw [List.take_add, List.drop_drop]
theorem allX_parts (L : List Pl) (hL : L.length = 12) (a at_ n : Int) (h0 : 0 ≤ a) (h1 : 0 ≤ at_) (h2 : at_ ≤ n) : allX L a at_ ++ allX L (a + at_) (n - at_) = allX L a n := by
  unfold allX allOk
  rw [hL]
  by_cases ha : a ≤ 12
  · rw [decide_eq_true (p := 0 ≤ a ∧ 0 ≤ at_ ∧ a ≤ ((12 : Nat) : Int)) ⟨h0, h1, by omega⟩, decide_eq_true (p := 0 ≤ a ∧ 0 ≤ n ∧ a ≤ ((12 : Nat) : Int)) ⟨h0, by omega, by omega⟩]
    simp only [if_true]
    by_cases hb : a + at_ ≤ 12
    · rw [decide_eq_true (p := 0 ≤ a + at_ ∧ 0 ≤ n - at_ ∧ a + at_ ≤ ((12 : Nat) : Int)) ⟨by omega, by omega, by omega⟩]
      simp only [if_true]
      have e1 : widthI L a at_ = at_.toNat := by unfold widthI; rw [hL]; simp only [Int.min_def]; split <;> omega
      have e2 : widthI L a n = at_.toNat + widthI L (a + at_) (n - at_) := by unfold widthI; rw [hL]; simp only [Int.min_def]; split <;> split <;> omega
      have e3 : (a + at_).toNat = a.toNat + at_.toNat := by omega
      have e4 : ((cutI L a.toNat at_.toNat).length : Int) = at_ := by unfold cutI; rw [List.length_take, List.length_drop, hL]; omega
      rw [e1, e2, e3, cutI_add, gv_append, e4]
    · rw [decide_eq_false (p := 0 ≤ a + at_ ∧ 0 ≤ n - at_ ∧ a + at_ ≤ ((12 : Nat) : Int)) (by omega)]
      have e1 : widthI L a at_ = widthI L a n := by unfold widthI; rw [hL]; simp only [Int.min_def]; split <;> split <;> omega
      rw [e1]; simp
  · rw [decide_eq_false (p := 0 ≤ a ∧ 0 ≤ at_ ∧ a ≤ ((12 : Nat) : Int)) (by omega), decide_eq_false (p := 0 ≤ a ∧ 0 ≤ n ∧ a ≤ ((12 : Nat) : Int)) (by omega), decide_eq_false (p := 0 ≤ a + at_ ∧ 0 ≤ n - at_ ∧ a + at_ ≤ ((12 : Nat) : Int)) (by omega)]
    rfl
theorem gv_len (E : List Pl) : ∀ a, (gv E a).length ≤ E.length := by
  induction E with
  | nil => intro a; simp [gv]
  | cons q E ih =>
    intro a
    cases q with
    | none => simp only [gv, List.length_cons]; have := ih (a + 1); omega
    | some q => simp only [gv, List.length_cons]; have := ih (a + 1); omega
theorem allX_len (L : List Pl) (a n : Int) : (allX L a n).length ≤ L.length := by
  unfold allX
  split
  · exact Nat.le_trans (gv_len _ _) (cutI_len _ _ _)
  · simp
end Go.Proofs.Ytfggllhflibfcaa
