/- The law FieldBack: every input. -/
import Derived.Test.YtopheimplclfcaaDoorFdBack
namespace Go.Proofs.YtopheimplclfcaaDoor
open Go.RowKit

set_option maxRecDepth 100000 in
set_option maxHeartbeats 2000000 in
theorem back_awake (w : World) (a : Option Addr) (nx cap : Nat) (A : Array Value) (bs : List Nat) (ay : Option Addr) (ny cy : Nat) (hA : A = (bs.map byte ++ [Value.slice ay ny cy]).toArray) (hl : bs.length = 64) (hL : Laid w) (h : 30 < nx ∨ 30 < ny) :
    Calls Tryd.prog 5 #[.slice a nx cap, .agg A] w fun e w' => e = .returned (.bool true) ∧ Fr No w w' := by
  have HL := hid hL
  have HT0 : Hid (Th (w.alloc (.cells A 43)) w.heap.size A bs ay ny cy) := ⟨heap_new w _, hA, hl⟩
  have HF0 := hid ((Fr.refl No w).alloc (.cells A 43))
  clear hL hA hl
  by_cases h1 : 30 < nx
  all_goals
    have h2 : 30 < nx ∨ (nx ≤ 30 ∧ 30 < ny) := by omega
    clear h
    go_enter Tryd.func5, Tryd.ntmps5
    go_wp2_with fail
    obtain ⟨w0, hw0⟩ : ∃ w0, w.alloc (.cells A 43) = w0 := ⟨_, rfl⟩
    rw [hw0] at HT0 HF0 ⊢
    clear hw0
    refine (fd_Write' w0).mono ?_; rintro e w1 ⟨rfl, hW1, hF1⟩
    have hc := (HT0.out.fr hF1 id).cell
    have HF1 := hid (HF0.out.trans hF1)
    have HA := hid (fd_awake w1 (laid_no HL.out HF1.out))
    clear hF1 hW1 HT0 HF0
    rcases h2 with h2 | ⟨h2, h3⟩
    all_goals first | (exfalso; omega) | skip
    all_goals
      go_wp2_with (refine HA.out.mono ?_; rintro e W7 ⟨rfl, hF7⟩)
      go_ret
      exact ⟨rfl, HF1.out.trans hF7⟩
theorem law_FieldBack (w : World) (r : SRow) (hr : r.Ok w (.arr 2 (.int .i64))) (x : Three) (hx : x.Ok w) (hL : Laid w) :
    Calls Tryd.prog 5 #[r.v, x.v] w fun e w' => e = .returned (.bool true) ∧ Fr No w w' := by
  obtain ⟨xs, hv, hP, _⟩ := pairs_of hr
  obtain ⟨ys, hv2, hR, _⟩ := introw_of hx.row
  unfold Three.v
  rw [hv, hv2]
  by_cases h : 30 < xs.length ∨ 30 < ys.length
  · exact back_awake w r.a xs.length r.cap _ x.bs x.r.a ys.length x.r.cap rfl hx.len hL h
  · exact back_in w r.a r.cap xs (by omega) hP _ x.bs x.r.a ys x.r.cap (by omega) hR rfl hx.len hx.lt hL
end Go.Proofs.YtopheimplclfcaaDoor
