/- lavaboref03: the set of numbers below 200: Turn, Len, Spans. -/
import Derived.Test.YtdehojhipiklmaaSpMo
namespace Go.Proofs.Ytdehojhipiklmaa
open Go.RowKit

/-- its cells -/
def rb (R : List Bool) : Array Value := (R.map Value.bool).toArray
theorem rb_get {R : List Bool} {i : Nat} (h : i < R.length) : (rb R)[i]? = some (.bool R[i]) := by
  unfold rb; rw [List.getElem?_toArray, List.getElem?_map, List.getElem?_eq_getElem h]; rfl
theorem rb_set (R : List Bool) (i : Nat) (v : Bool) : (rb R).setIfInBounds i (.bool v) = rb (R.set i v) := by
  unfold rb; rw [List.setIfInBounds_toArray, List.map_set]
abbrev RefAt (w : World) (q : Nat) (R : List Bool) : Prop := w.heap[q]? = some (.cells (rb R) 33 (0, 0)) ∧ R.length = 200
def onB (R : List Bool) (y : Nat) : Prop := R[y]? = some true
/-- a span's numbers are in, or not -/
def turnTo (R : List Bool) (a n : Nat) (v : Bool) : Nat → List Bool
  | 0 => R
  | k + 1 => if a ≤ k ∧ k < a + n then (turnTo R a n v k).set k v else turnTo R a n v k
theorem turnTo_len (R : List Bool) (a n : Nat) (v : Bool) : ∀ k, (turnTo R a n v k).length = R.length
  | 0 => rfl
  | k + 1 => by unfold turnTo; split <;> simp [turnTo_len R a n v k]
theorem turnTo_get (R : List Bool) (a n : Nat) (v : Bool) : ∀ k, k ≤ R.length → ∀ y, (turnTo R a n v k)[y]? = if y < k ∧ a ≤ y ∧ y < a + n then some v else R[y]?
  | 0, _, y => by rw [if_neg (by omega)]; rfl
  | k + 1, hk, y => by
    have ih := turnTo_get R a n v k (by omega) y
    unfold turnTo
    split
    · rename_i hc
      by_cases hy : y = k
      · subst hy
        rw [List.getElem?_set_self (by rw [turnTo_len]; omega), if_pos ⟨by omega, hc⟩]
      · rw [List.getElem?_set_ne (by omega), ih]
        by_cases h1 : y < k ∧ a ≤ y ∧ y < a + n
        · rw [if_pos h1, if_pos ⟨by omega, h1.2⟩]
        · rw [if_neg h1, if_neg (fun e => h1 ⟨by omega, e.2⟩)]
    · rename_i hc
      rw [ih]
      by_cases h1 : y < k ∧ a ≤ y ∧ y < a + n
      · rw [if_pos h1, if_pos ⟨by omega, h1.2⟩]
      · rw [if_neg h1, if_neg (fun e => by
          have : y = k := by
            rcases Nat.lt_or_ge y k with g | g
            · exact absurd ⟨g, e.2⟩ h1
            · omega
          subst this; exact hc e.2)]
set_option maxRecDepth 100000 in
set_option maxHeartbeats 1000000 in
theorem rf_Turn (w : World) (q : Nat) (R : List Bool) (hR : RefAt w q R) (a n : Nat) (han : a + n ≤ 1048576) (v : Bool) :
    Calls Try.prog 13 #[.pointer (some ⟨q, 0, none⟩), .agg #[.int .i64 a, .int .i64 n], .bool v] w fun e w' => (∃ u, e = .returned u) ∧ RefAt w' q (turnTo R a n v 200) ∧ Fr (fun k => k = q) w w' := by
  have hb0 := heap_new w (.cells #[.int .i64 a, .int .i64 n] 24)
  have hq0 := lt_of_block hR.1
  have hf0 : Fr No w (w.alloc (.cells #[.int .i64 a, .int .i64 n] 24)) := (Fr.refl No w).alloc _
  have HQ0 := hid ((hf0.block q hq0 id).trans hR.1)
  have HF0 : Hid (Fr (fun k => k = q) w (w.alloc (.cells #[.int .i64 a, .int .i64 n] 24))) := hf0.mono (fun _ _ e => e.elim)
  have hl := hR.2
  have HL := hid hl
  have han' : (a : Int) + (n : Int) ≤ 1048576 := by omega
  have ha' : (a : Int) ≤ 1048576 := by omega
  have hne : w.heap.size ≠ q := by omega
  have HB0 := hid hb0
  clear hf0 hR hb0
  go_enter Try.func13, Try.ntmps13
  go_wp2_with fail
  obtain ⟨w1, hw1⟩ : ∃ w1, w.alloc (.cells #[.int .i64 a, .int .i64 n] 24) = w1 := ⟨_, rfl⟩
  rw [hw1] at HQ0 HF0 HB0 ⊢
  clear hw1
  go_loopg [6] 200 (fun g i wr => ∃ k : Nat, k + g = 200 ∧ i = .int .i64 k ∧ Hid (wr.heap[q]? = some (.cells (rb (turnTo R a n v k)) 33 (0, 0))) ∧ Hid (wr.heap[w.heap.size]? = some (.cells #[.int .i64 a, .int .i64 n] 24 (0, 0))) ∧ Hid (Fr (fun k => k = q) w wr))
  case atStart => exact ⟨0, by omega, rfl, HQ0.out, HB0.out, HF0.out⟩
  case round =>
    obtain ⟨k, hk, rfl, HQ, HB, HF⟩ := hrel
    cases gk with
    | zero =>
      obtain rfl : k = 200 := by omega
      go_wp2_with fail
      go_end0
      exact ⟨⟨_, rfl⟩, ⟨HQ.out, by rw [turnTo_len, HL.out]⟩, HF.out⟩
    | succ g =>
      have hki : (k : Int) < 200 := by omega
      have hkR : k < (turnTo R a n v k).length := by rw [turnTo_len, HL.out]; omega
      have c0 := (cell_blk HQ.out k).trans (rb_get hkR)
      have f0 := free_blk HQ.out k
      have b0 := cell_blk HB.out 0
      have b1 := cell_blk HB.out 1
      simp only [List.getElem?_toArray, List.getElem?_cons_zero, List.getElem?_cons_succ] at b0 b1
      have HS : Hid (turnTo R a n v (k + 1) = if a ≤ k ∧ k < a + n then (turnTo R a n v k).set k v else turnTo R a n v k) := rfl
      obtain ⟨X, hX⟩ : ∃ X, turnTo R a n v k = X := ⟨_, rfl⟩
      have HX := hid hX
      simp only [hX] at c0
      rw [hX] at HS HQ
      obtain ⟨xk, hxk⟩ : ∃ xk, X[k]'(by rw [← hX]; exact hkR) = xk := ⟨_, rfl⟩
      rw [hxk] at c0
      clear hkR hxk hX
      rcases (show (k : Int) < (a : Int) ∨ ((a : Int) ≤ (k : Int) ∧ (k : Int) < (a : Int) + (n : Int)) ∨ ((a : Int) ≤ (k : Int) ∧ (a : Int) + (n : Int) ≤ (k : Int)) by omega) with h1 | ⟨h1, h2⟩ | ⟨h1, h2⟩
      · have HS2 : Hid (turnTo R a n v (k + 1) = X) := by unfold Hid; rw [HS.out, if_neg (by omega)]
        go_wp2_with fail
        go_roundg g
        case measure => omega
        case rel => exact ⟨k + 1, by omega, by go_num, by unfold Hid; rw [HS2.out]; exact HQ.out, HB.out, HF.out⟩
      · have HS2 : Hid (turnTo R a n v (k + 1) = X.set k v) := by unfold Hid; rw [HS.out, if_pos (by omega)]
        go_wp2_with fail
        go_roundg g
        case measure => omega
        case rel =>
          refine ⟨k + 1, by omega, by go_num, ?_, ?_, HF.out.setCell (p := ⟨q, k, none⟩) (fun _ => rfl) _⟩
          · unfold Hid; rw [HS2.out, set_blk HQ.out, rb_set]
          · exact ((Fr.set1 wr q k (.bool v)).block w.heap.size (lt_of_block HB.out) hne).trans HB.out
      · have HS2 : Hid (turnTo R a n v (k + 1) = X) := by unfold Hid; rw [HS.out, if_neg (by omega)]
        go_wp2_with fail
        go_roundg g
        case measure => omega
        case rel => exact ⟨k + 1, by omega, by go_num, by unfold Hid; rw [HS2.out]; exact HQ.out, HB.out, HF.out⟩
/-- how many -/
noncomputable def cntB (R : List Bool) (k : Nat) : Nat := sumF (fun y => ind (onB R y)) k
set_option maxRecDepth 100000 in
set_option maxHeartbeats 1000000 in
theorem rf_Len (w : World) (q : Nat) (R : List Bool) (hR : RefAt w q R) :
    Calls Try.prog 19 #[.pointer (some ⟨q, 0, none⟩)] w fun e w' => e = .returned (.int .i64 (cntB R 200 : Nat)) ∧ w' = w := by
  have HQ := hid hR.1
  have HL := hid hR.2
  clear hR
  go_enter Try.func19, Try.ntmps19
  go_wp2_with fail
  go_loopg [3, 4] 200 (fun g c i wr => ∃ k : Nat, k + g = 200 ∧ c = .int .i64 (cntB R k : Nat) ∧ i = .int .i64 k ∧ wr = w)
  case atStart => exact ⟨0, by omega, rfl, rfl, rfl⟩
  case round =>
    obtain ⟨k, hk, rfl, rfl, rfl⟩ := hrel
    have hck : cntB R k ≤ k := sumF_le k
    cases gk with
    | zero =>
      obtain rfl : k = 200 := by omega
      go_wp2_with fail
      try rw [Exit.noGoto_ret]
      go_ret
      exact ⟨rfl, rfl⟩
    | succ g =>
      have hki : (k : Int) < 200 := by omega
      have hkR : k < R.length := by rw [HL.out]; omega
      have c0 := (cell_blk HQ.out k).trans (rb_get hkR)
      have HS : Hid (cntB R (k + 1) = cntB R k + ind (onB R k)) := rfl
      have HO : Hid (R[k]? = some R[k]) := List.getElem?_eq_getElem hkR
      obtain ⟨xk, hxk⟩ : ∃ xk, R[k] = xk := ⟨_, rfl⟩
      rw [hxk] at c0 HO
      obtain ⟨cn, hcn⟩ : ∃ cn, cntB R k = cn := ⟨_, rfl⟩
      rw [hcn] at HS hck ⊢
      clear hkR hxk hcn
      cases xk with
      | true =>
        have HS2 : Hid (cntB R (k + 1) = cn + 1) := by unfold Hid; rw [HS.out, ind_yes (show onB R k from HO.out)]
        go_wp2_with fail
        go_roundg g
        case measure => omega
        case rel => exact ⟨k + 1, by omega, by rw [HS2.out]; go_num, by go_num, rfl⟩
      | false =>
        have HS2 : Hid (cntB R (k + 1) = cn) := by unfold Hid; rw [HS.out, ind_no (fun e => by unfold onB at e; rw [HO.out] at e; cases e)]; rfl
        go_wp2_with fail
        go_roundg g
        case measure => omega
        case rel => exact ⟨k + 1, by omega, by rw [HS2.out], by go_num, rfl⟩
end Go.Proofs.Ytdehojhipiklmaa
