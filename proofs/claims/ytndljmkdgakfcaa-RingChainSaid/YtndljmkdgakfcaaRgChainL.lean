/- The law RingChain: every input. -/
import Derived.Test.YtndljmkdgakfcaaRgChain
import Derived.Test.YtndljmkdgakfcaaAggs
namespace Go.Proofs.Ytndljmkdgakfcaa
open Go.RowKit

theorem is_i2 : Is Try.prog 63 (.arr 2 (.int .i64)) := .arr Try.underlying63 (by kernel_rfl) (.int Try.underlying3 (by kernel_rfl))
def i2v (x : Int × Int) : Value := .agg #[.int .i64 x.1, .int .i64 x.2]
theorem open_i2 {H : Type} {enc : TypeId × Value → H} {W : World} {base : Nat} {v : Value} {d : DataW H} {ps : List MemPlace}
    (hval : Value.okWide Try.prog W .any base 63 v) (h : DataW.Trod enc Try.prog W 0 (fun _ => true) true 63 v d ps) : ∃ x : Int × Int, v = i2v x ∧ (Lit.int .i64 x.1).wf = true ∧ (Lit.int .i64 x.2).wf = true := by
  obtain ⟨cs, rfl, hok⟩ := open_sh is_i2 (by rw [Try.underlying63]) hval h
  obtain ⟨a, b, rfl, wa, wb⟩ := ok_pair hok
  exact ⟨(a, b), rfl, wa, wb⟩
set_option maxRecDepth 100000 in
set_option maxHeartbeats 2000000 in
theorem chain_bad (w : World) (a : Option Addr) (len cap : Nat) (n t0 t1 : Int) (h : (t0 < 1 ∨ 1024 < t0) ∨ (t1 < 1 ∨ 1024 < t1) ∨ 200 < len ∨ n < 1) :
    Calls Try.prog 8 #[.slice a len cap, .int .i64 n, .agg #[.int .i64 t0, .int .i64 t1]] w fun e w' => e = .returned (.bool true) ∧ Fr No w w' := by
  have hbx := heap_new w (.cells #[.int .i64 t0, .int .i64 t1] 63)
  have hb0 := cell_blk hbx 0
  have hb1 := cell_blk hbx 1
  simp only [List.getElem?_toArray, List.getElem?_cons_zero, List.getElem?_cons_succ] at hb0 hb1
  have hbz := lt_of_block hbx
  have HB1 := hid hb1
  have HH := hid h
  have HR : Hid (∀ w', Calls Try.prog 9 #[.int .i64 t0] w' fun e w'' => (∃ p, e = .returned (.tuple #[.pointer (some ⟨p, 0, none⟩), .int .i64 0]) ∧ ¬ (t0 < 1 ∨ 1024 < t0) ∧ Fr No w' w'') ∨ (e = .returned (.tuple #[.pointer none, .int .i64 24]) ∧ Fr No w' w'')) := fun w' => by
    by_cases h : t0 < 1 ∨ 1024 < t0
    · refine (rg_New_bad w' t0 h).mono ?_
      rintro e w'' ⟨rfl, rfl⟩
      exact .inr ⟨rfl, Fr.refl No _⟩
    · obtain ⟨m, rfl⟩ := Int.eq_ofNat_of_zero_le (show 0 ≤ t0 by omega)
      refine (rg_New_ok w' m (by omega) (by omega)).mono ?_
      rintro e w'' ⟨p, c, rfl, _, hF, _, _⟩
      exact .inl ⟨p, rfl, h, hF⟩
  have HS : Hid (∀ w', Calls Try.prog 9 #[.int .i64 t1] w' fun e w'' => (∃ p, e = .returned (.tuple #[.pointer (some ⟨p, 0, none⟩), .int .i64 0]) ∧ ¬ (t1 < 1 ∨ 1024 < t1) ∧ Fr No w' w'') ∨ (e = .returned (.tuple #[.pointer none, .int .i64 24]) ∧ Fr No w' w'')) := fun w' => by
    by_cases h : t1 < 1 ∨ 1024 < t1
    · refine (rg_New_bad w' t1 h).mono ?_
      rintro e w'' ⟨rfl, rfl⟩
      exact .inr ⟨rfl, Fr.refl No _⟩
    · obtain ⟨m, rfl⟩ := Int.eq_ofNat_of_zero_le (show 0 ≤ t1 by omega)
      refine (rg_New_ok w' m (by omega) (by omega)).mono ?_
      rintro e w'' ⟨p, c, rfl, _, hF, _, _⟩
      exact .inl ⟨p, rfl, h, hF⟩
  clear hb1 h
  go_enter Try.func8, Try.ntmps8
  go_wp2_with fail
  refine (HR.out _).mono ?_
  rintro e w1 (⟨p0, rfl, hg0, hF1⟩ | ⟨rfl, hF1⟩)
  all_goals
    have hb1' := (hF1.cell (p := ⟨w.heap.size, 1, none⟩) hbz id).trans HB1.out
    have HF1 := hid (((Fr.refl No w).alloc (.cells #[.int .i64 t0, .int .i64 t1] 63)).trans hF1)
    clear hF1
    go_wp2_with fail
    refine (HS.out _).mono ?_
    rintro e w2 (⟨p1, rfl, hg1, hF2⟩ | ⟨rfl, hF2⟩)
    all_goals
      have HF2 := hid (HF1.out.trans hF2)
      have HA := hid (rg_awake w2)
      clear hF2 HF1
      first
        | (have hlen : 200 < len ∨ (len ≤ 200 ∧ n < 1) := by (have := HH.out; omega)
           rcases hlen with hlen | ⟨hlen, hn⟩
           all_goals
             go_wp2_with (refine HA.out.mono ?_; rintro e w6 ⟨rfl, hF6⟩)
             go_ret
             exact ⟨rfl, HF2.out.trans hF6⟩)
        | (go_wp2_with (refine HA.out.mono ?_; rintro e w6 ⟨rfl, hF6⟩)
           go_ret
           exact ⟨rfl, HF2.out.trans hF6⟩)
theorem law_RingChain (w : World) (r : SRow) (hr : r.Ok w (.int .i64)) (n : Int) (_wn : (Lit.int .i64 n).wf = true) (x : Int × Int) (_wx : (Lit.int .i64 x.1).wf = true ∧ (Lit.int .i64 x.2).wf = true) :
    Calls Try.prog 8 #[r.v, .int .i64 n, i2v x] w fun e w' => e = .returned (.bool true) ∧ Fr No w w' := by
  obtain ⟨xs, hv, hrow, _⟩ := introw_of hr
  rw [hv]
  obtain ⟨t0, t1⟩ := x
  show Calls Try.prog 8 #[.slice r.a xs.length r.cap, .int .i64 n, .agg #[.int .i64 t0, .int .i64 t1]] w _
  by_cases h : (t0 < 1 ∨ 1024 < t0) ∨ (t1 < 1 ∨ 1024 < t1) ∨ 200 < xs.length ∨ n < 1
  · exact chain_bad w r.a xs.length r.cap n t0 t1 h
  · obtain ⟨ma, rfl⟩ := Int.eq_ofNat_of_zero_le (show 0 ≤ t0 by omega)
    obtain ⟨mb, rfl⟩ := Int.eq_ofNat_of_zero_le (show 0 ≤ t1 by omega)
    exact chain_in w r.a r.cap xs (by omega) hrow n (by omega) ma mb (by omega) (by omega) (by omega) (by omega)
end Go.Proofs.Ytndljmkdgakfcaa
