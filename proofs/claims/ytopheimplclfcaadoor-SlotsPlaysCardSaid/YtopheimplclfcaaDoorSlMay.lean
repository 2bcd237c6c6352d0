/- Which turns of slots may be: the table, slots.May, lavaboref08.May. -/
import Derived.Test.YtopheimplclfcaaDoorDat
import Derived.Test.YtopheimplclfcaaDoorBlk
import Derived.Test.YtopheimplclfcaaDoorRows
import Derived.Outline
namespace Go.Proofs.YtopheimplclfcaaDoor
open Go.RowKit

def mayN (f t : Nat) : Bool := match f with
  | 0 => t == 1
  | 1 => t == 2 || t == 3 || t == 4
  | 2 => t == 3 || t == 4
  | 3 => t == 0 || t == 4
  | _ => false
def mayI (f t : Int) : Bool := decide (0 ≤ f ∧ f ≤ 4 ∧ 0 ≤ t ∧ t ≤ 4) && mayN f.toNat t.toNat
def turnCells : List Value := [.bool false, .bool true, .bool false, .bool false, .bool false, .bool false, .bool false, .bool true, .bool true, .bool true, .bool false, .bool false, .bool false, .bool true, .bool true, .bool true, .bool false, .bool false, .bool false, .bool true, .bool false, .bool false, .bool false, .bool false, .bool false]
def TurnsAt (w : World) : Prop := ∀ f t, f < 5 → t < 5 → w.cell? ⟨0, f * 5 + t, none⟩ = some (.bool (mayN f t))
theorem TurnsAt.fr {S : Nat → Prop} {w w' : World} (h : TurnsAt w) (f : Fr S w w') (h0 : 0 < w.heap.size) (hS : ¬ S 0) : TurnsAt w' := fun i j hi hj => (f.cell (p := ⟨0, i * 5 + j, none⟩) h0 hS).trans (h i j hi hj)
def SLaid (w : World) : Prop := TurnsAt w ∧ 0 < w.heap.size
theorem SLaid.no {w w' : World} (h : SLaid w) (f : Fr No w w') : SLaid w' := ⟨h.1.fr f h.2 id, f.lt h.2⟩
theorem SLaid.fr {w w' : World} {S : Nat → Prop} (h : SLaid w) (f : Fr S w w') (hS : ¬ S 0) : SLaid w' := ⟨h.1.fr f h.2 hS, f.lt h.2⟩

theorem isState_yes (n : Int) (w : World) (h0 : 0 ≤ n) (h1 : n ≤ 4) : Calls Tryd.prog 48 #[.int .i64 n] w fun e w' => e = .returned (.bool true) ∧ w' = w := by
  go_enter Tryd.func48, Tryd.ntmps48
  go_wp2
  all_goals go_ret
  all_goals exact ⟨rfl, rfl⟩
theorem isState_no (n : Int) (w : World) (h : n < 0 ∨ 4 < n) : Calls Tryd.prog 48 #[.int .i64 n] w fun e w' => e = .returned (.bool false) ∧ w' = w := by
  rcases h with h | h
  all_goals
    try (have hd : decide (n ≤ 4) = false := by simp; omega)
    go_enter Tryd.func48, Tryd.ntmps48
    go_wp2
    all_goals go_ret
    all_goals exact ⟨rfl, rfl⟩

set_option maxHeartbeats 1000000 in
theorem may_in (f t : Nat) (w : World) (hf : f < 5) (ht : t < 5) (hT : TurnsAt w) : Calls Tryd.prog 37 #[.int .i64 f, .int .i64 t] w fun e w' => e = .returned (.bool (mayN f t)) ∧ w' = w := by
  have hc := hT f t hf ht
  generalize mayN f t = b at *
  clear hT
  go_enter Tryd.func37, Tryd.ntmps37
  go_wp2_with fail
  refine (isState_yes f w (by omega) (by omega)).mono ?_; rintro e w' ⟨rfl, rfl⟩
  go_wp2_with fail
  refine (isState_yes t _ (by omega) (by omega)).mono ?_; rintro e w' ⟨rfl, rfl⟩
  go_wp2_with fail
  all_goals go_ret
  all_goals exact ⟨by simp, rfl⟩
set_option maxHeartbeats 1000000 in
theorem may_out (f t : Int) (w : World) (h : (f < 0 ∨ 4 < f) ∨ (t < 0 ∨ 4 < t)) : Calls Tryd.prog 37 #[.int .i64 f, .int .i64 t] w fun e w' => e = .returned (.bool false) ∧ w' = w := by
  by_cases hf : f < 0 ∨ 4 < f
  · have Hf := hid hf
    clear hf h
    go_enter Tryd.func37, Tryd.ntmps37
    go_wp2_with fail
    refine (isState_no f w Hf.out).mono ?_; rintro e w' ⟨rfl, rfl⟩
    go_wp2_with fail
    go_ret
    exact ⟨rfl, rfl⟩
  · have Ht : Hid (t < 0 ∨ 4 < t) := by rcases h with h | h; exact absurd h hf; exact h
    have Hf := hid hf
    clear hf h
    go_enter Tryd.func37, Tryd.ntmps37
    go_wp2_with fail
    refine (isState_yes f w (by have := Hf.out; omega) (by have := Hf.out; omega)).mono ?_; rintro e w' ⟨rfl, rfl⟩
    go_wp2_with fail
    refine (isState_no t w' Ht.out).mono ?_; rintro e w' ⟨rfl, rfl⟩
    go_wp2_with fail
    go_ret
    exact ⟨rfl, rfl⟩
theorem may_any (f t : Int) (w : World) (hT : TurnsAt w) : Calls Tryd.prog 37 #[.int .i64 f, .int .i64 t] w fun e w' => e = .returned (.bool (mayI f t)) ∧ w' = w := by
  by_cases h : (f < 0 ∨ 4 < f) ∨ (t < 0 ∨ 4 < t)
  · have e : mayI f t = false := by unfold mayI; rw [decide_eq_false (by omega)]; rfl
    rw [e]; exact may_out f t w h
  · obtain ⟨f, rfl⟩ := Int.eq_ofNat_of_zero_le (show 0 ≤ f by omega)
    obtain ⟨t, rfl⟩ := Int.eq_ofNat_of_zero_le (show 0 ≤ t by omega)
    have e : mayI f t = mayN f t := by unfold mayI; rw [decide_eq_true (by omega)]; rfl
    rw [e]; exact may_in f t w (by omega) (by omega) hT
end Go.Proofs.YtopheimplclfcaaDoor
