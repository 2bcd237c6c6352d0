/- The chapter's example of layer 8: lavabolaw08.awake; and the law SlotsMay. -/
import Derived.Test.YtopheimplclfcaaDoorSlOps
import Derived.Test.YtopheimplclfcaaDoorSlRefMay
import Derived.Test.YtopheimplclfcaaDoorFrame
namespace Go.Proofs.YtopheimplclfcaaDoor
open Go.RowKit

theorem AllocPost.get {w w' : World} {p q i : Nat} {l : List Nat} {e : Ending} (h : AllocPost w p q l e w') (hi : l.findIdx? (· == 0) = Option.some i) : e = .returned (.tuple #[i64v i, .int .i64 0]) ∧ SlAt w' p q (l.set i 1) ∧ Fr (fun k => k = q) w w' ∧ w'.heap.size = w.heap.size := by
  unfold AllocPost at h; rw [hi] at h; exact h
theorem AllocPost.full {w w' : World} {p q : Nat} {l : List Nat} {e : Ending} (h : AllocPost w p q l e w') (hi : l.findIdx? (· == 0) = Option.none) : e = .returned (.tuple #[.int .i64 0, .int .i64 17]) ∧ w' = w := by
  unfold AllocPost at h; rw [hi] at h; exact h
theorem slalloc_at (w : World) (p q i : Nat) (l : List Nat) (h : SlAt w p q l) (hi : l.findIdx? (· == 0) = some i) : Calls Tryd.prog 28 #[slv p] w fun e w' => e = .returned (.tuple #[i64v i, .int .i64 0]) ∧ SlAt w' p q (l.set i 1) ∧ Fr (fun k => k = q) w w' ∧ w'.heap.size = w.heap.size :=
  (slalloc_any w p q l h).mono fun _ _ hp => hp.get hi
theorem slturn_yes (w : World) (p q : Nat) (l : List Nat) (x y : Nat) (hT : TurnsAt w) (h : SlAt w p q l) (hx : x < l.length) (hy : y ≤ 4) (hm : mayN l[x] y = true) : Calls Tryd.prog 30 #[slv p, .int .i64 x, .int .i64 y] w fun e w' =>
    e = .returned (.int .i64 0) ∧ SlAt w' p q (l.set x y) ∧ Fr (fun k => k = q) w w' ∧ w'.heap.size = w.heap.size :=
  (slturn_in w p q l x y hT h hx hy).mono fun _ _ hp => by
    rcases hp with ⟨h1, _⟩ | ⟨_, h2⟩
    · rw [hm] at h1; cases h1
    · exact h2
theorem slturn_no (w : World) (p q : Nat) (l : List Nat) (x y : Nat) (hT : TurnsAt w) (h : SlAt w p q l) (hx : x < l.length) (hy : y ≤ 4) (hm : mayN l[x] y = false) : Calls Tryd.prog 30 #[slv p, .int .i64 x, .int .i64 y] w fun e w' =>
    e = .returned (.int .i64 16) ∧ w' = w :=
  (slturn_in w p q l x y hT h hx hy).mono fun _ _ hp => by
    rcases hp with ⟨_, h1⟩ | ⟨h1, _⟩
    · exact h1
    · rw [hm] at h1; cases h1

set_option maxHeartbeats 1000000 in
theorem sl_awake (w : World) (hL : SLaid w) : Calls Tryd.prog 25 #[] w fun e w' => e = .returned (.bool true) ∧ Fr No w w' := by
  have HL := hid hL
  have hg := hL.2
  clear hL
  go_enter Tryd.func25, Tryd.ntmps25
  go_wp2_with fail
  refine (slnew_ok 3 w (by omega) (by omega)).mono ?_; rintro e w1 ⟨rfl, hS1, hF1⟩
  have HF1 := hid hF1
  have HS1 := hid hS1
  clear hF1 hS1
  generalize hp : w.heap.size + 1 = p at *
  generalize hq : w.heap.size = q at *
  have hpq : q < p := by omega
  unfold slv
  go_wp2_with fail
  refine (slalloc_at w1 p q 0 _ HS1.out (by decide)).mono ?_; rintro e w2 ⟨rfl, hS2, hF2, hz2⟩
  have HF2 := hid (HF1.out.then hF2 (fun i hi e => by omega))
  have HS2 := hid hS2
  clear hF2 hS2 hz2
  go_wp2_with fail
  refine (slturn_yes w2 p q _ 0 2 (HL.out.no HF2.out).1 HS2.out (by decide) (by decide) (by decide)).mono ?_; rintro e w3 ⟨rfl, hS3, hF3, hz3⟩
  have HF3 := hid (HF2.out.then hF3 (fun i hi e => by omega))
  have HS3 := hid hS3
  clear hF3 hS3 hz3
  go_wp2_with fail
  refine (slturn_no w3 p q _ 0 0 (HL.out.no HF3.out).1 HS3.out (by decide) (by decide) (by decide)).mono ?_; rintro e w4 ⟨rfl, rfl⟩
  go_wp2_with fail
  refine (slalloc_at _ p q 1 _ HS3.out (by decide)).mono ?_; rintro e w5 ⟨rfl, hS5, hF5, hz5⟩
  have HF5 := hid (HF3.out.then hF5 (fun i hi e => by omega))
  clear hF5 hS5 hz5
  go_wp2_with fail
  go_ret
  exact ⟨rfl, HF5.out⟩

set_option linter.unusedVariables false in
theorem law_SlotsMay (w : World) (f : Int) (wf : (Lit.int .i64 f).wf = true) (t : Int) (wt : (Lit.int .i64 t).wf = true) (hL : SLaid w) :
    Calls Tryd.prog 9 #[.int .i64 f, .int .i64 t] w fun e w' => e = .returned (.bool true) ∧ Fr No w w' := by
  have H1 := hid (may_any f t w hL.1)
  have H2 := hid (rmay_any f t w)
  have H3 := hid (sl_awake w hL)
  clear hL
  generalize mayI f t = b at *
  go_enter Tryd.func9, Tryd.ntmps9
  go_wp2_with fail
  refine H1.out.mono ?_; rintro e w' ⟨rfl, rfl⟩
  go_wp2_with fail
  refine H2.out.mono ?_; rintro e w' ⟨rfl, rfl⟩
  go_wp2_with fail
  refine H3.out.mono ?_; rintro e w' ⟨rfl, hF⟩
  go_wp2_with fail
  go_ret
  exact ⟨rfl, hF⟩

theorem is_turns : Is Tryd.prog 89 (.arr 5 (.arr 5 .bool)) := .arr Tryd.underlying89 (by kernel_rfl) (.arr Tryd.underlying88 (by kernel_rfl) (.bool Tryd.underlying4 (by kernel_rfl)))
theorem gTurns : Tryd.prog.globalNamed "lavabo/slots.turns" = some 0 := by kernel_rfl
theorem gTurnsT : (Tryd.prog.globals[0]?).map (·.type) = some 89 := by kernel_rfl
theorem five {i : Nat} (h : i < 5) : i = 0 ∨ i = 1 ∨ i = 2 ∨ i = 3 ∨ i = 4 := by omega
theorem turns_ok : (Sh.arr 5 (.arr 5 .bool)).Ok turnCells := by
  refine ⟨rfl, fun i hi => ?_⟩
  rcases five hi with rfl | rfl | rfl | rfl | rfl
  all_goals
    refine ⟨rfl, fun j hj => ?_⟩
    rcases five hj with rfl | rfl | rfl | rfl | rfl <;> exact ⟨_, rfl⟩
theorem slaid_of {W : World} (h : laidMetH Tryd.prog [("lavabo/slots.turns", Rows.laid_lavabo_slots_turns)] W) : SLaid W := by
  have hc := cells_of_laid (rest := []) is_turns rfl turns_ok gTurns gTurnsT h
  have hT : TurnsAt W := fun f t hf ht => by
    rw [hc (f * 5 + t) (by show f * 5 + t < 25; omega)]
    rcases five hf with rfl | rfl | rfl | rfl | rfl <;> rcases five ht with rfl | rfl | rfl | rfl | rfl <;> rfl
  exact ⟨hT, lt_of_cell (hT 0 0 (by decide) (by decide))⟩
end Go.Proofs.YtopheimplclfcaaDoor
