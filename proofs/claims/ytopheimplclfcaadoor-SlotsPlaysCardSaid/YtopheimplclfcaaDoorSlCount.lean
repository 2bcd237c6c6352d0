/- slots.Count. -/
import Derived.Test.YtopheimplclfcaaDoorSlEach
namespace Go.Proofs.YtopheimplclfcaaDoor
open Go.RowKit Go.Shelf
attribute [local go_sem] Oper.semAt_some

set_option maxRecDepth 100000 in
set_option maxHeartbeats 2000000 in
theorem count_in (n : Nat) (hn : 3 ≤ n) (a : Option Addr) (st : Int) (xs : List Nat) (hlen : xs.length ≤ 1024) (w : World) (h : SlR w No a xs) :
    CallsIn Fence.wide n Tryd.prog 35 #[.pointer a, .int .i64 st] w fun e W' => e = .returned (i64v (which xs st).length) ∧ Fr No w W' := by
  have h1 : 1 ≤ n := by omega
  refine callsIn_of_wp_marks Tryd.func35 rfl trivial ?_ rfl
  simp only [Tryd.ntmps35, List.size_toArray, List.length_cons, List.length_nil, Nat.reduceAdd, Nat.reduceSub, Array.replicate_succ, Array.replicate_zero, List.push_toArray, List.append_toArray, List.nil_append, List.cons_append]
  gi_wp2_with (refine ⟨trivial, ?_⟩; gi_at_call 50; refine (each_in Fence.wide (n - 1) trivial rfl _ _ _).mono ?_; rintro e w' ⟨rfl, rfl⟩)
  have hs := cell_new1 w (.int .i64 0) 3
  obtain ⟨w1, hw1⟩ : ∃ w1, w.alloc (.cells #[.int .i64 0] 3) = w1 := ⟨_, rfl⟩
  have hz1 : w1.heap.size = w.heap.size + 1 := by rw [← hw1]; simp
  have hp := cell_new1 w1 (.pointer a) 52
  obtain ⟨w2, hw2⟩ : ∃ w2, w1.alloc (.cells #[.pointer a] 52) = w2 := ⟨_, rfl⟩
  have hz2 : w2.heap.size = w.heap.size + 2 := by rw [← hw2]; simp [hz1]
  have hb := cell_new1 w2 (.int .i64 st) 3
  have hB0 : Below w.heap.size w ((w1.alloc (.cells #[.pointer a] 52)).alloc (.cells #[.int .i64 st] 3)) := by
    rw [← hw1]; exact (((Below.refl _ w).alloc (Nat.le_refl _) _).alloc (by simp) _).alloc (by simp; omega) _
  rw [hw1] at hs ⊢
  rw [hw2] at hp hB0 ⊢
  rw [hz1] at hp
  rw [hz2] at hb
  have hz3 : (w2.alloc (.cells #[.int .i64 st] 3)).heap.size = w.heap.size + 3 := by simp [hz2]
  have hR : SlR (w2.alloc (.cells #[.int .i64 st] 3)) (fun k => k = w.heap.size ∨ w.heap.size + 3 ≤ k) a xs :=
    h.fr (Fr.of_below hB0) (fun _ _ => id) (fun k hk hu => by rcases hu with hu | hu <;> omega)
  refine wpIn_rangeFunc_ownF rfl h1 (gf := 56) (lb := #[.pointer (some ⟨w.heap.size + 1, 0, none⟩), .pointer (some ⟨w.heap.size + 1 + 1, 0, none⟩)]) rfl trivial (enters_of Tryd.func56 (by kernel_rfl) rfl)
    (each_stops Fence.wide (n - 1) trivial rfl (by omega) (w.heap.size + 1) (w.heap.size + 1 + 1) (fun k => k = w.heap.size ∨ w.heap.size + 3 ≤ k) a xs st _ hR (cell_allocd _ hp.1) hb.1 (by omega) (by omega) (by omega)) frK_t (frK_b (fun k hk => .inr (by omega))) (Below.refl _ _) (fun _ => rfl)
    (fun pre W => (W.cell? ⟨w.heap.size, 0, none⟩ = some (.int .i64 (pre.length : Int)) ∧ W.frozen? ⟨w.heap.size, 0, none⟩ = false) ∧ Below w.heap.size w W)
    (fun _ _ _ => False)
    (OwnFrom.and (Own.from (fun s A B row hs hg hr => ⟨cell_kept hs.1 hg hr, (frozen_kept hs.1 hg hr).trans hs.2⟩) _) (ownFrom_below (Nat.le_refl _) (by omega)))
    (fun _ _ _ _ _ hs _ _ => hs)
    ⟨by rw [← hw2]; exact ⟨cell_allocd _ (cell_allocd _ hs.1), frozen_allocd _ (cell_allocd _ hs.1) (frozen_allocd _ hs.1 hs.2)⟩, hB0⟩
    (fun x => { tmps := #[.pointer a, .int .i64 st, undef, undef, .int .i64 0, .pointer (some ⟨w.heap.size, 0, none⟩), .pointer a, .int .i64 st, .func (.func 56) #[] #[.pointer (some ⟨w.heap.size + 1, 0, none⟩), .pointer (some ⟨w.heap.size + 1 + 1, 0, none⟩)], i64v x, undef, undef, undef], defers := [] }) ?assign ?body ?done ?stop
  case assign =>
    intro l x W K hK
    gi_wp2
    simpa using hK
  case body =>
    rintro l pre x W ⟨⟨hc, hf⟩, hB⟩ hpl
    gi_wp2
    refine ⟨KeepsOthers.setCell _ _ _, (Fr.refl _ W).setCell (p := ⟨w.heap.size, 0, none⟩) (fun _ => .inl rfl) _, ⟨?_, by rw [World.frozen?_setCell]; exact hf⟩, hB.setCell (p := ⟨w.heap.size, 0, none⟩) (Nat.le_refl _) _⟩
    refine (World.cell?_setCell_same' _ _ _ (by rw [hc]; rfl)).trans ?_
    simp
  case done =>
    rintro D ys W hD rfl ⟨⟨hc, _⟩, hB⟩ hK
    gi_wp2
    refine ⟨by simp, .inl ⟨_, _, rfl, run_takeDeferred hK, ?_⟩⟩
    exact ⟨_, results_tmp rfl _ _ _, rfl, Fr.of_below (hB.trans (belowK_b (w := w) (Nat.le_refl _) W D _ _ (by omega) hK rfl rfl))⟩
  case stop =>
    rintro D c pre W _ _ h _
    exact h.elim

theorem count_c (a : Option Addr) (st : Int) (xs : List Nat) (hlen : xs.length ≤ 1024) (w : World) (h : SlR w No a xs) :
    Calls Tryd.prog 35 #[.pointer a, .int .i64 st] w fun e W' => e = .returned (i64v (which xs st).length) ∧ Fr No w W' :=
  (callsIn_wide (n := 3)).1 (count_in 3 (by omega) a st xs hlen w h)
end Go.Proofs.YtopheimplclfcaaDoor
