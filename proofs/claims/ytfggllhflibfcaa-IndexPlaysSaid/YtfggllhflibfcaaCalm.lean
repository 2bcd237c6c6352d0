/- A range over a function whose iterator itself holds loops over functions: the rounds go on, all of them. No program's numbers. -/
import Derived.Test.YtfggllhflibfcaaSeq
import Derived.RangeFuncNested
import Derived.RangeFuncBound
import Derived.RangeFuncCalls
import Derived.RangeFuncLeaves
import Derived.Shelf.Abstract
import Derived.Shelf.RegionOpen
import Derived.WalkKit
import Derived.OwnWalkIn
import Derived.TacticsInMore
import Derived.LoopNIn
import Derived.LoopIn
namespace Go.Proofs.Ytfggllhflibfcaa
open Go.RowKit Go.Shelf

/-- an iterator that hands out xs, one behind the other, as long as each round says true; the caller's word J abides whatever the iterator turns that is no cells and newer than the call -/
def Calm {α : Type} (n : Nat) (P : Program) (gf : Nat) (lb : Array Value) (encs : α → Array Value) (T : Nat → Prop) (xs : List α) (w : World) : Prop :=
  ∀ (l : Nat) (J : List α → World → Prop) (W : World), Below w.heap.size w W → (∀ k, W.heap.size ≤ k → ¬ T k) → OwnFrom W.heap.size J →
    (∀ pre x W1, J pre W1 → pre ++ [x] <+: xs → YieldAt Fence.wide (n - 1) P l (encs x) W1 fun e W' => e = .returned (.bool true) ∧ J (pre ++ [x]) W' ∧ Fr T W1 W') →
    J [] W → CallsIn Fence.wide n P gf (#[.func (.yield l) #[] #[]] ++ lb) W fun e W' => (∃ v, e = .returned v) ∧ J xs W'
theorem rangeFunc_calm {α : Type} {n : Nat} {P : Program} {g : Operand} {ps : Array Tmp} {assign body : Code} {Q : Exit → Act → World → Prop} {a : Act} {w : World}
    {gf : Nat} {lb : Array Value} (hg : a.eval g = .func (.func gf) #[] lb) (eg : ∀ args w, (callFunc gf args).run P w = .ok (.enter gf args) w)
    {encs : α → Array Value} {T : Nat → Prop} {xs : List α} (hseq : Calm (n - 1) P gf lb encs T xs w) (hT : T (w.heap.size + 1)) (hT2 : ∀ k, w.heap.size + 2 ≤ k → ¬ T k) (hps : ∀ x, (encs x).size = ps.size)
    (I : List α → World → Prop) (hI : OwnFrom w.heap.size I) (h0 : I [] w) (Ax : α → Act → World → Prop) (hAx : ∀ x a', OwnFrom w.heap.size (fun (_ : Unit) W => Ax x a' W))
    (hassign : ∀ (l : Nat) (pre : List α) (x : α) (W : World) (K : Act → World → Prop), I pre W → (∀ a' W', KeepsFrom w.heap.size W W' → Fr T W W' → I pre W' → Ax x a' W' → K a' W') →
      assign.wpIn (Fence.wide.inRound l) (n - 1 - 1) P (Exit.then K (fun _ _ _ => False)) { tmps := (ps.zip (encs x)).foldl (fun t (p, v) => t.setIfInBounds p v) a.tmps, defers := [] } W)
    (hbody : ∀ (l : Nat) (pre : List α) (x : α) (a' : Act) (W : World), I pre W → Ax x a' W → pre ++ [x] <+: xs → body.wpIn (Fence.wide.inRound l) (n - 1 - 1) P (fun e _ W' => e = .normal ∧ KeepsFrom w.heap.size W W' ∧ Fr T W W' ∧ I (pre ++ [x]) W') a' W)
    (hdone : ∀ (D : Nat) (W : World), w.heap.size ≤ D → I xs W → W.heap[D]? = some (.deferred (some [])) → Q .normal { a with defers := { target := .collected D, args := #[] } :: a.defers } W) :
    (Code.rangeFunc g ps assign body).wpIn Fence.wide n P Q a w := by
  refine wpIn_rangeFunc (fun fn _ => ?_)
  have hz1 : (w.alloc (.deferred (some []))).heap.size = w.heap.size + 1 := by simp
  -- the record, by its state
  let rec_ : LoopState → Loop := fun st => { state := st, pending := none, fn, tmps := a.tmps, params := ps, assign, body, defers := w.heap.size }
  have nL := heap_new (w.alloc (.deferred (some []))) (.loop (rec_ .ready))
  have nD := ((Fr.refl No (w.alloc (.deferred (some [])))).alloc (.loop (rec_ .ready))).block w.heap.size (by omega) id |>.trans (heap_new w _)
  rw [hz1] at nL
  have fW : Fr No w ((w.alloc (.deferred (some []))).alloc (.loop (rec_ .ready))) := ((Fr.refl No w).alloc _).alloc _
  have iW : I [] ((w.alloc (.deferred (some []))).alloc (.loop (rec_ .ready))) := hI.alloc _ (hI.alloc _ h0)
  have hzW : ((w.alloc (.deferred (some []))).alloc (.loop (rec_ .ready))).heap.size = w.heap.size + 2 := by simp
  have hen := run_enterLoop_outer (P := P) (w := w) fn a.tmps ps assign body
  obtain ⟨W1, hW1⟩ : ∃ W1, (w.alloc (.deferred (some []))).alloc (.loop (rec_ .ready)) = W1 := ⟨_, rfl⟩
  rw [hW1] at nL nD fW iW hzW
  have hen2 : (Instr.enterLoop fn a.tmps ps assign body Fence.wide.round).run P w = .ok (w.heap.size + 1, [{ target := .collected w.heap.size, args := #[] }]) W1 := by rw [← hW1]; exact hen
  refine ⟨_, _, W1, { target := .fn (.func gf) lb, args := #[.func (.yield (w.heap.size + 1)) #[] #[]] }, W1, gf, #[.func (.yield (w.heap.size + 1)) #[] #[]] ++ lb, W1, hen2, ?_, fun _ _ => trivial, ?_, (fun h => by cases h), ?_⟩
  · simp only [resolve, hg]; simp [go_sem]
  · simp [invoke, go_sem, eg]
  clear hen hen2 hW1
  refine (hseq (w.heap.size + 1) (fun pre W => I pre W ∧ W.heap[w.heap.size + 1]? = some (.loop (rec_ .ready)) ∧ W.heap[w.heap.size]? = some (.deferred (some []))) W1 fW.below (fun k hk => hT2 k (by omega)) ?_ ?_ ⟨iW, nL, nD⟩).mono ?_
  · intro s A B row hs hgr hr
    have hne : ∀ k, k < w.heap.size + 2 → row ≠ some k := fun k hk e => by have := (hr k e).1; omega
    exact ⟨hI s A B row hs.1 hgr (fun r e => ⟨by have := (hr r e).1; omega, (hr r e).2⟩),
      (hgr.block _ (lt_of_block hs.2.1) (fun e => hne _ (by omega) e.symm)).trans hs.2.1, (hgr.block _ (lt_of_block hs.2.2) (fun e => hne _ (by omega) e.symm)).trans hs.2.2⟩
  · rintro pre x W ⟨hi, hl, hd⟩ hpre
    have hy := run_yield (P := P) (args := encs x) hl (hps x)
    refine ⟨_, _, _, _, hy, roundIn_of_wpIn trivial (hassign _ pre x W _ hi ?_)⟩
    clear hy hi
    intro a' Wa hka hfa hi hax
    replace hl := hka.same _ _ (by omega) hl rfl
    replace hd := hka.same _ _ (Nat.le_refl _) hd rfl
    refine ⟨_, run_beginRound hl rfl, ?_⟩
    have hlt := lt_of_block hl
    have hl2 : (Wa.putObj (w.heap.size + 1) (.loop { rec_ .ready with state := .busy })).heap[w.heap.size + 1]? = some (.loop { rec_ .ready with state := .busy }) := World.putObj_heap_same hlt
    have hd2 : (Wa.putObj (w.heap.size + 1) (.loop { rec_ .ready with state := .busy })).heap[w.heap.size]? = some (.deferred (some [])) := (World.putObj_heap_other (by omega)).trans hd
    have f2 : Fr T Wa (Wa.putObj (w.heap.size + 1) (.loop { rec_ .ready with state := .busy })) := (Fr.refl T Wa).put _ _ (fun _ => hT)
    have i2 : I pre (Wa.putObj (w.heap.size + 1) (.loop { rec_ .ready with state := .busy })) := hI.putObj _ hi (by omega) hl rfl
    refine wpIn_mono (hbody _ pre x a' _ i2 ((hAx x a').putObj (s := ()) _ hax (by omega) hl rfl) hpre) ?_
    rintro e a3 W3 ⟨rfl, hk3, f3, i3⟩
    have hl3 := hk3.same _ _ (by omega) hl2 rfl
    have hd3 := hk3.same _ _ (Nat.le_refl _) hd2 rfl
    have he := run_endRound (P := P) none hl3
    refine ⟨_, _, he, rfl, ⟨hI.putObj _ i3 (by omega) hl3 rfl, World.putObj_heap_same (lt_of_block hl3), (World.putObj_heap_other (by omega)).trans hd3⟩, ((hfa.trans f2).trans f3).put _ _ (fun _ => hT)⟩
  · rintro e W2 ⟨⟨v, rfl⟩, hi, hl, hd⟩
    have he := run_endLoop (P := P) hl (by show LoopState.ready ≠ .busy; decide)
    exact ⟨none, _, he, hdone _ _ (Nat.le_refl _) (hI.putObj _ hi (by omega) hl rfl) ((World.putObj_heap_other (by omega)).trans hd)⟩
/-- the same, of an iterator that keeps nothing of its own across a round: an iterator that hands out xs, one behind the other, as long as each round says true; the caller's word J abides whatever the iterator turns that is no cells and newer than the call -/
def CalmN {α : Type} (n : Nat) (P : Program) (gf : Nat) (lb : Array Value) (encs : α → Array Value) (T : Nat → Prop) (xs : List α) (w : World) : Prop :=
  ∀ (l : Nat) (J : List α → World → Prop) (W : World), Below w.heap.size w W → OwnFrom W.heap.size J →
    (∀ pre x W1, J pre W1 → pre ++ [x] <+: xs → YieldAt Fence.wide (n - 1) P l (encs x) W1 fun e W' => e = .returned (.bool true) ∧ J (pre ++ [x]) W' ∧ Fr T W1 W') →
    J [] W → CallsIn Fence.wide n P gf (#[.func (.yield l) #[] #[]] ++ lb) W fun e W' => (∃ v, e = .returned v) ∧ J xs W'
theorem rangeFunc_calmN {α : Type} {n : Nat} {P : Program} {g : Operand} {ps : Array Tmp} {assign body : Code} {Q : Exit → Act → World → Prop} {a : Act} {w : World}
    {gf : Nat} {lb : Array Value} (hg : a.eval g = .func (.func gf) #[] lb) (eg : ∀ args w, (callFunc gf args).run P w = .ok (.enter gf args) w)
    {encs : α → Array Value} {T : Nat → Prop} {xs : List α} (hseq : CalmN (n - 1) P gf lb encs T xs w) (hT : T (w.heap.size + 1)) (hps : ∀ x, (encs x).size = ps.size)
    (I : List α → World → Prop) (hI : OwnFrom w.heap.size I) (h0 : I [] w) (Ax : α → Act → World → Prop) (hAx : ∀ x a', OwnFrom w.heap.size (fun (_ : Unit) W => Ax x a' W))
    (hassign : ∀ (l : Nat) (pre : List α) (x : α) (W : World) (K : Act → World → Prop), I pre W → (∀ a' W', KeepsFrom w.heap.size W W' → Fr T W W' → I pre W' → Ax x a' W' → K a' W') →
      assign.wpIn (Fence.wide.inRound l) (n - 1 - 1) P (Exit.then K (fun _ _ _ => False)) { tmps := (ps.zip (encs x)).foldl (fun t (p, v) => t.setIfInBounds p v) a.tmps, defers := [] } W)
    (hbody : ∀ (l : Nat) (pre : List α) (x : α) (a' : Act) (W : World), I pre W → Ax x a' W → pre ++ [x] <+: xs → body.wpIn (Fence.wide.inRound l) (n - 1 - 1) P (fun e _ W' => e = .normal ∧ KeepsFrom w.heap.size W W' ∧ Fr T W W' ∧ I (pre ++ [x]) W') a' W)
    (hdone : ∀ (D : Nat) (W : World), w.heap.size ≤ D → I xs W → W.heap[D]? = some (.deferred (some [])) → Q .normal { a with defers := { target := .collected D, args := #[] } :: a.defers } W) :
    (Code.rangeFunc g ps assign body).wpIn Fence.wide n P Q a w := by
  refine wpIn_rangeFunc (fun fn _ => ?_)
  have hz1 : (w.alloc (.deferred (some []))).heap.size = w.heap.size + 1 := by simp
  -- the record, by its state
  let rec_ : LoopState → Loop := fun st => { state := st, pending := none, fn, tmps := a.tmps, params := ps, assign, body, defers := w.heap.size }
  have nL := heap_new (w.alloc (.deferred (some []))) (.loop (rec_ .ready))
  have nD := ((Fr.refl No (w.alloc (.deferred (some [])))).alloc (.loop (rec_ .ready))).block w.heap.size (by omega) id |>.trans (heap_new w _)
  rw [hz1] at nL
  have fW : Fr No w ((w.alloc (.deferred (some []))).alloc (.loop (rec_ .ready))) := ((Fr.refl No w).alloc _).alloc _
  have iW : I [] ((w.alloc (.deferred (some []))).alloc (.loop (rec_ .ready))) := hI.alloc _ (hI.alloc _ h0)
  have hzW : ((w.alloc (.deferred (some []))).alloc (.loop (rec_ .ready))).heap.size = w.heap.size + 2 := by simp
  have hen := run_enterLoop_outer (P := P) (w := w) fn a.tmps ps assign body
  obtain ⟨W1, hW1⟩ : ∃ W1, (w.alloc (.deferred (some []))).alloc (.loop (rec_ .ready)) = W1 := ⟨_, rfl⟩
  rw [hW1] at nL nD fW iW hzW
  have hen2 : (Instr.enterLoop fn a.tmps ps assign body Fence.wide.round).run P w = .ok (w.heap.size + 1, [{ target := .collected w.heap.size, args := #[] }]) W1 := by rw [← hW1]; exact hen
  refine ⟨_, _, W1, { target := .fn (.func gf) lb, args := #[.func (.yield (w.heap.size + 1)) #[] #[]] }, W1, gf, #[.func (.yield (w.heap.size + 1)) #[] #[]] ++ lb, W1, hen2, ?_, fun _ _ => trivial, ?_, (fun h => by cases h), ?_⟩
  · simp only [resolve, hg]; simp [go_sem]
  · simp [invoke, go_sem, eg]
  clear hen hen2 hW1
  refine (hseq (w.heap.size + 1) (fun pre W => I pre W ∧ W.heap[w.heap.size + 1]? = some (.loop (rec_ .ready)) ∧ W.heap[w.heap.size]? = some (.deferred (some []))) W1 fW.below ?_ ?_ ⟨iW, nL, nD⟩).mono ?_
  · intro s A B row hs hgr hr
    have hne : ∀ k, k < w.heap.size + 2 → row ≠ some k := fun k hk e => by have := (hr k e).1; omega
    exact ⟨hI s A B row hs.1 hgr (fun r e => ⟨by have := (hr r e).1; omega, (hr r e).2⟩),
      (hgr.block _ (lt_of_block hs.2.1) (fun e => hne _ (by omega) e.symm)).trans hs.2.1, (hgr.block _ (lt_of_block hs.2.2) (fun e => hne _ (by omega) e.symm)).trans hs.2.2⟩
  · rintro pre x W ⟨hi, hl, hd⟩ hpre
    have hy := run_yield (P := P) (args := encs x) hl (hps x)
    refine ⟨_, _, _, _, hy, roundIn_of_wpIn trivial (hassign _ pre x W _ hi ?_)⟩
    clear hy hi
    intro a' Wa hka hfa hi hax
    replace hl := hka.same _ _ (by omega) hl rfl
    replace hd := hka.same _ _ (Nat.le_refl _) hd rfl
    refine ⟨_, run_beginRound hl rfl, ?_⟩
    have hlt := lt_of_block hl
    have hl2 : (Wa.putObj (w.heap.size + 1) (.loop { rec_ .ready with state := .busy })).heap[w.heap.size + 1]? = some (.loop { rec_ .ready with state := .busy }) := World.putObj_heap_same hlt
    have hd2 : (Wa.putObj (w.heap.size + 1) (.loop { rec_ .ready with state := .busy })).heap[w.heap.size]? = some (.deferred (some [])) := (World.putObj_heap_other (by omega)).trans hd
    have f2 : Fr T Wa (Wa.putObj (w.heap.size + 1) (.loop { rec_ .ready with state := .busy })) := (Fr.refl T Wa).put _ _ (fun _ => hT)
    have i2 : I pre (Wa.putObj (w.heap.size + 1) (.loop { rec_ .ready with state := .busy })) := hI.putObj _ hi (by omega) hl rfl
    refine wpIn_mono (hbody _ pre x a' _ i2 ((hAx x a').putObj (s := ()) _ hax (by omega) hl rfl) hpre) ?_
    rintro e a3 W3 ⟨rfl, hk3, f3, i3⟩
    have hl3 := hk3.same _ _ (by omega) hl2 rfl
    have hd3 := hk3.same _ _ (Nat.le_refl _) hd2 rfl
    have he := run_endRound (P := P) none hl3
    refine ⟨_, _, he, rfl, ⟨hI.putObj _ i3 (by omega) hl3 rfl, World.putObj_heap_same (lt_of_block hl3), (World.putObj_heap_other (by omega)).trans hd3⟩, ((hfa.trans f2).trans f3).put _ _ (fun _ => hT)⟩
  · rintro e W2 ⟨⟨v, rfl⟩, hi, hl, hd⟩
    have he := run_endLoop (P := P) hl (by show LoopState.ready ≠ .busy; decide)
    exact ⟨none, _, he, hdone _ _ (Nat.le_refl _) (hI.putObj _ hi (by omega) hl rfl) ((World.putObj_heap_other (by omega)).trans hd)⟩
theorem roundIn_any {n m l l' : Nat} {P : Program} {f : FuncId} {tmps : Array Value} {assign body : Code} {w : World} {R : Ending → World → Prop} (h : RoundIn Fence.wide n P l f tmps assign body w R) : RoundIn (Fence.wide.inRound l') m P l f tmps assign body w R :=
  ⟨trivial, fun c cs _ => h.2 c cs (room_wide _)⟩
theorem Fr.from_below {n : Nat} {a w : World} (h : Below n a w) : Fr (fun k => n ≤ k) a w := ⟨h.os, h.tape, h.output, h.size, fun k _ hs => h.block k (by omega)⟩
theorem block_own {β : Type} (B : Nat) (o : β → Obj) (ho : ∀ s, (o s).isCells = true) : Own (fun s W => W.heap[B]? = some (o s)) := fun s X Y row hs hg hrow => by
  refine (hg.block B (lt_of_block hs) (fun e => ?_)).trans hs
  obtain ⟨o', h1, h2⟩ := hrow B e.symm
  rw [hs] at h1; cases h1; rw [ho] at h2; cases h2
def OnlyOn (R : Act → World → Prop) : Exit → Act → World → Prop
  | .normal, a, w => R a w
  | _, _, _ => False
theorem onlyOn_use {P : Program} {code : Code} {Q : Exit → Act → World → Prop} {a : Act} {w : World} (h : Code.wp P code (OnlyOn (fun a w => Q .normal a w)) a w) : Code.wp P code Q a w :=
  wp_mono h (fun e a w h => by cases e <;> first | exact h.elim | exact h)
theorem own_fr {β : Type} (n b : Nat) (hb : n ≤ b) (w : World) (Z : Nat → Prop) : OwnFrom b (fun (_ : β) W => Fr (fun k => Z k ∨ n ≤ k) w W) := fun s A B row hs hg hr => by
  refine hs.then (T := fun k => n ≤ k) ⟨hg.os, hg.tape, hg.output, hg.size, fun k hk hn => hg.block k hk (fun e => ?_)⟩ (fun i _ h => .inr h)
  exact hn (Nat.le_trans hb (hr k e.symm).1)
end Go.Proofs.Ytfggllhflibfcaa
