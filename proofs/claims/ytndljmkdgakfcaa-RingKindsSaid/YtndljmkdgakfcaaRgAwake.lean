/- The ring's laws' awake; the law RingNil. -/
import Derived.Test.YtndljmkdgakfcaaRgDrain
import Derived.Deep.DeepCutAuto
namespace Go.Proofs.Ytndljmkdgakfcaa
open Go.RowKit

theorem rg_PutOk (w : World) (p c most : Nat) (l : List Value) (x : Value) (h : Rg w p c most l false) (hl : l.length < most) : Calls Try.prog 16 #[.pointer (some ⟨p, 0, none⟩), x] w fun e w' => e = .returned (.int .i64 0) ∧ Rg w' p c most (l ++ [x]) false ∧ Fr (fun k => k = c) w w' := by
  have := rg_Put w p c most l false x h
  unfold putR at this
  rw [if_neg (by simp), if_pos hl] at this
  exact this
theorem rg_PutFull (w : World) (p c most : Nat) (l : List Value) (x : Value) (h : Rg w p c most l false) (hl : most ≤ l.length) : Calls Try.prog 16 #[.pointer (some ⟨p, 0, none⟩), x] w fun e w' => e = .returned (.int .i64 17) ∧ Rg w' p c most l false ∧ Fr (fun k => k = c) w w' := by
  have := rg_Put w p c most l false x h
  unfold putR at this
  rw [if_neg (by simp), if_neg (by omega)] at this
  exact this
theorem rg_PutShut (w : World) (p c most : Nat) (l : List Value) (x : Value) (h : Rg w p c most l true) : Calls Try.prog 16 #[.pointer (some ⟨p, 0, none⟩), x] w fun e w' => e = .returned (.int .i64 16) ∧ Rg w' p c most l true ∧ Fr (fun k => k = c) w w' := by
  have := rg_Put w p c most l true x h
  unfold putR at this
  rw [if_pos rfl] at this
  exact this
theorem new_row2 (w : World) (a b : Int) : Row (w.alloc (.cells #[.int .i64 a, .int .i64 b] 3)) (some ⟨w.heap.size, 0, none⟩) ([a, b].map iv) :=
  Row.of_blk (n := 2) (heap_new w _) rfl (Nat.le_refl 2)

set_option maxRecDepth 100000 in
set_option maxHeartbeats 1000000 in
theorem rg_awake (w : World) : Calls Try.prog 10 #[] w fun e w' => e = .returned (.bool true) ∧ Fr No w w' := by
  go_enter Try.func10, Try.ntmps10
  go_wp2_with fail
  refine (rg_New_ok w 2 (by omega) (by omega)).mono ?_; rintro e w1 ⟨p, c, rfl, hR, hF1, hp, hc⟩
  go_wp2_with fail
  refine (rg_PutOk w1 p c 2 [] (iv 1) hR (by simp)).mono ?_; rintro e w2 ⟨rfl, hR2, hF2⟩
  go_wp2_with fail
  refine (rg_PutOk w2 p c 2 [iv 1] (iv 2) hR2 (by simp)).mono ?_; rintro e w3 ⟨rfl, hR3, hF3⟩
  go_wp2_with fail
  refine (rg_PutFull w3 p c 2 [iv 1, iv 2] (iv 3) hR3 (by simp)).mono ?_; rintro e w4 ⟨rfl, hR4, hF4⟩
  go_wp2_with fail
  refine (rg_Take1 w4 p c 2 (.int .i64 1) [iv 2] false hR4).mono ?_; rintro e w5 ⟨rfl, hR5, hF5⟩
  go_wp2_with fail
  refine (rg_PutOk w5 p c 2 [iv 2] (iv 3) hR5 (by simp)).mono ?_; rintro e w6 ⟨rfl, hR6, hF6⟩
  go_wp2_with fail
  refine (rg_Drain w6 p c 2 [2, 3] false hR6 (by simp)).mono ?_; rintro e w7 ⟨v, rfl, hO, _, hF7⟩
  obtain ⟨a, cap, rfl, hrow⟩ := own_row hO
  have HF := hid (hF1.then ((((((hF2.trans hF3).trans hF4).trans hF5).trans hF6).trans hF7)) (fun i hi e => absurd hi (by subst e; omega)))
  have HI := hid (ints_same (w7.alloc (.cells #[.int .i64 2, .int .i64 3] 3)) a (some ⟨w7.heap.size, 0, none⟩) cap 2 [2, 3] (by simp) (hrow.no ((Fr.refl No w7).alloc _)) (new_row2 w7 2 3))
  clear hF1 hF2 hF3 hF4 hF5 hF6 hF7 hR hR2 hR3 hR4 hR5 hR6 hO hrow
  go_wp2_with (refine HI.out.mono ?_; rintro e w8 ⟨rfl, hF8⟩)
  go_ret
  exact ⟨rfl, (HF.out.alloc _).trans hF8⟩

theorem rg_nil_Drain (w : World) : Calls Try.prog 27 #[.pointer none] w fun e w' => e = .returned (.slice none 0 0) ∧ w' = w := by
  go_enter Try.func27, Try.ntmps27
  go_wp2_with fail
  go_step3
  go_wp2_with fail
  go_step3
  go_wp2_with fail
  go_loopg [3] 0 (fun g v wr => g = 0 ∧ v = .slice none 0 0 ∧ wr = w)
  case atStart => exact ⟨rfl, rfl, rfl⟩
  case round =>
    obtain ⟨rfl, rfl, rfl⟩ := hrel
    go_wp2_with (refine (rg_nil_Take _).mono ?_; rintro e w2 ⟨rfl, rfl⟩)
    rw [Exit.noGoto_ret]
    go_ret
    exact ⟨rfl, rfl⟩

set_option maxRecDepth 100000 in
set_option maxHeartbeats 1000000 in
theorem law_RingNil (w : World) (x : Int) (_wx : (Lit.int .i64 x).wf = true) : Calls Try.prog 7 #[.int .i64 x] w fun e w' => e = .returned (.bool true) ∧ Fr No w w' := by
  go_enter Try.func7, Try.ntmps7
  go_wp2_with (first
    | (refine (rg_nil_Put _ _).mono ?_; rintro e w2 ⟨rfl, rfl⟩)
    | (refine (rg_nil_Take _).mono ?_; rintro e w2 ⟨rfl, rfl⟩)
    | (refine (rg_nil_Close _).mono ?_; rintro e w2 ⟨rfl, rfl⟩)
    | (refine (rg_nil_Closed _).mono ?_; rintro e w2 ⟨rfl, rfl⟩)
    | (refine (rg_nil_Len _).mono ?_; rintro e w2 ⟨rfl, rfl⟩)
    | (refine (rg_nil_Room _).mono ?_; rintro e w2 ⟨rfl, rfl⟩)
    | (refine (rg_nil_Drain _).mono ?_; rintro e w2 ⟨rfl, rfl⟩)
    | (refine (rg_awake _).mono ?_; rintro e w2 ⟨rfl, hF⟩))
  go_ret
  exact ⟨rfl, hF⟩
end Go.Proofs.Ytndljmkdgakfcaa
