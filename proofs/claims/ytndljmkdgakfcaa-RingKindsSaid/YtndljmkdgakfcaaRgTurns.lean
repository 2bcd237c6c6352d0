/- The law RingTurns. -/
import Derived.Test.YtndljmkdgakfcaaRgArgs
namespace Go.Proofs.Ytndljmkdgakfcaa
open Go.RowKit

/-- what waits behind i turns: the next thing, the others -/
def gAt (xs : List Int) (k : Nat) : Int := xs.getD (k % xs.length) 0
def tailR (xs : List Int) (i : Nat) : List Int := (List.range (xs.length - 1)).map fun j => gAt xs (i + 1 + j)
theorem tailR_step (xs : List Int) (h : 1 ≤ xs.length) (i : Nat) : tailR xs i ++ [gAt xs i] = gAt xs (i + 1) :: tailR xs (i + 1) := by
  obtain ⟨m, hm⟩ : ∃ m, xs.length = m + 1 := ⟨xs.length - 1, by omega⟩
  have e1 : gAt xs i = gAt xs (i + 1 + m) := by
    unfold gAt; rw [show i + 1 + m = i + xs.length by omega, Nat.add_mod_right]
  have e2 : tailR xs i ++ [gAt xs i] = (List.range (m + 1)).map fun j => gAt xs (i + 1 + j) := by
    unfold tailR; rw [hm, Nat.add_sub_cancel, List.range_succ, List.map_append, e1]; rfl
  rw [e2, List.range_succ_eq_map]
  unfold tailR
  rw [hm, Nat.add_sub_cancel, List.map_cons, List.map_map]
  congr 1
  apply List.map_congr_left
  intro j _
  show gAt xs (i + 1 + (j + 1)) = gAt xs (i + 1 + 1 + j)
  rw [show i + 1 + (j + 1) = i + 1 + 1 + j by omega]
theorem tailR_zero (xs : List Int) (h : 1 ≤ xs.length) : gAt xs 0 :: tailR xs 0 = xs := by
  obtain ⟨m, hm⟩ : ∃ m, xs.length = m + 1 := ⟨xs.length - 1, by omega⟩
  apply List.ext_getElem
  · unfold tailR; simp; omega
  · intro k h1 h2
    cases k with
    | zero => simp [gAt, List.getD_eq_getElem?_getD]; rw [List.getElem?_eq_getElem (by omega)]; rfl
    | succ k =>
      simp only [List.getElem_cons_succ, tailR, List.getElem_map, List.getElem_range, gAt]
      rw [show 0 + 1 + k = k + 1 by omega, Nat.mod_eq_of_lt h2, List.getD_eq_getElem?_getD, List.getElem?_eq_getElem h2]; rfl
theorem tailR_len (xs : List Int) (h : 1 ≤ xs.length) (i : Nat) : (tailR xs i).length = xs.length - 1 := by unfold tailR; simp
theorem gAt_get (xs : List Int) (h : 1 ≤ xs.length) (k : Nat) : ∃ hk : k % xs.length < xs.length, xs[k % xs.length] = gAt xs k :=
  ⟨Nat.mod_lt _ h, by unfold gAt; rw [List.getD_eq_getElem?_getD, List.getElem?_eq_getElem (Nat.mod_lt _ h)]; rfl⟩

theorem rg_RoomFull (w : World) (p c most : Nat) (l : List Value) (h : Rg w p c most l false) (hl : l.length = most) (hm : most ≤ 1024) : Calls Try.prog 13 #[.pointer (some ⟨p, 0, none⟩)] w fun e w' => e = .returned (.int .i64 0) ∧ Rg w' p c most l false ∧ Fr No w w' := by
  refine (rg_Room w p c most l false h (by omega) hm).mono ?_
  rintro e w' ⟨rfl, hF⟩
  refine ⟨?_, h.fr hF id id, hF⟩
  rw [show roomR most l false = 0 from by unfold roomR; simp; omega]; rfl

set_option maxRecDepth 100000 in
set_option maxHeartbeats 2000000 in
theorem turns_in (w : World) (a : Option Addr) (cap : Nat) (xs : List Int) (h1 : 1 ≤ xs.length) (h2 : xs.length ≤ 60) (hrow : Row w a (xs.map iv)) (t : Nat) (ht : t ≤ 200) :
    Calls Try.prog 5 #[.slice a xs.length cap, .int .i64 t] w fun e w' => e = .returned (.bool true) ∧ Fr No w w' := by
  have HR := hid hrow
  clear hrow
  go_enter Try.func5, Try.ntmps5
  go_wp2_with fail
  refine (rg_New_ok w xs.length h1 (by omega)).mono ?_; rintro e w1 ⟨p, c, rfl, hG, hF1, hp, hc⟩
  have HG := hid hG
  have HF1 := hid hF1
  clear hG hF1
  go_wp2_with fail
  go_loopg [8] xs.length (fun g i wr => ∃ k : Nat, k + g = xs.length ∧ i = .int .i64 k ∧ Hid (Rg wr p c xs.length ((xs.take k).map iv) false) ∧ Hid (Fr No w wr))
  case atStart => exact ⟨0, by omega, rfl, HG, HF1⟩
  case round =>
    obtain ⟨k, hk, rfl, HG, HF⟩ := hrel
    cases gk with
    | succ g =>
      have hkl : k < xs.length := by omega
      obtain ⟨b, o, rfl, hb, hcell⟩ := (HR.out.no HF.out).intAt k hkl
      have HX : Hid ((xs.take k).map iv ++ [iv xs[k]] = (xs.take (k + 1)).map iv) := by unfold Hid; rw [List.take_succ_eq_append_getElem hkl, List.map_append]; rfl
      obtain ⟨x, hx⟩ : ∃ x, xs[k] = x := ⟨_, rfl⟩
      rw [hx] at hcell HX
      clear hx
      go_wp2_with (refine (rg_PutOk wr p c xs.length _ (.int .i64 x) HG.out (by simp; omega)).mono ?_; rintro e w2 ⟨rfl, hG2, hF2⟩; rw [show Value.int .i64 x = iv x from rfl, HX.out] at hG2)
      have HG2 := hid hG2
      have HF2 := hid (HF.out.then hF2 (fun i hi e => absurd hi (by subst e; omega)))
      clear hG2 hF2
      go_roundg g
      case measure => omega
      case rel => exact ⟨k + 1, by omega, by go_num, HG2, HF2⟩
    | zero =>
      obtain rfl : k = xs.length := by omega
      rw [List.take_length] at HG
      have HG0 : Hid (Rg wr p c xs.length ((gAt xs 0 :: tailR xs 0).map iv) false) := by unfold Hid; rw [tailR_zero xs h1]; exact HG.out
      go_wp2_with fail
      go_loopg [9] t (fun g i wr => ∃ k : Nat, k + g = t ∧ i = .int .i64 k ∧ Hid (Rg wr p c xs.length ((gAt xs k :: tailR xs k).map iv) false) ∧ Hid (Fr No w wr))
      case atStart => exact ⟨0, by omega, rfl, HG0, HF⟩
      case round =>
        obtain ⟨k, hk, rfl, HG, HF⟩ := hrel
        obtain ⟨hkm, hget⟩ := gAt_get xs h1 k
        obtain ⟨b, o, rfl, hb, hcell⟩ := (HR.out).intAt (k % xs.length) hkm
        rw [hget] at hcell
        have HC := hid hcell
        cases gk with
        | succ g =>
          have HST : Hid ((tailR xs k).map iv ++ [iv (gAt xs k)] = (gAt xs (k + 1) :: tailR xs (k + 1)).map iv) := by
            unfold Hid; rw [← tailR_step xs h1 k, List.map_append]; rfl
          have HLT := hid (tailR_len xs h1 k)
          obtain ⟨x, hx⟩ : ∃ x, gAt xs k = x := ⟨_, rfl⟩
          rw [hx] at HG HC HST
          rw [List.map_cons] at HG
          obtain ⟨T, hT⟩ : ∃ T, (tailR xs k).map iv = T := ⟨_, rfl⟩
          have HTL : Hid (T.length + 1 = xs.length) := by unfold Hid; rw [← hT, List.length_map, HLT.out]; omega
          rw [hT] at HG HST
          clear hx hT hget hcell HLT
          go_wp2_with fail
          refine (rg_RoomFull wr p c xs.length _ HG.out (by simp; exact HTL.out) (by omega)).mono ?_; rintro e w2 ⟨rfl, hG2, hF2⟩
          go_wp2_with fail
          refine (rg_PutFull w2 p c xs.length _ (.int .i64 7) hG2 (by simp; have := HTL.out; omega)).mono ?_; rintro e w3 ⟨rfl, hG3, hF3⟩
          go_wp2_with fail
          refine (rg_Take1 w3 p c xs.length (.int .i64 x) T false hG3).mono ?_; rintro e w4 ⟨rfl, hG4, hF4⟩
          have HF4 := hid (HF.out.then ((hF2.mono (fun _ _ h => h.elim)).trans (hF3.trans hF4)) (fun i hi e => absurd hi (by subst e; omega)))
          have HG4 := hid hG4
          have hcc := (HF4.out.cell (p := ⟨b, o + k % xs.length, none⟩) hb id).trans HC.out
          have hm0 : (0 : Int) ≤ ((k % xs.length : Nat) : Int) := by omega
          have hm1 : ((k % xs.length : Nat) : Int) < (xs.length : Int) := by omega
          clear hG2 hF2 hG3 hF3 hG4 hF4 HG HF
          go_wp2_with fail
          refine (rg_PutOk w4 p c xs.length T (.int .i64 x) HG4.out (by have := HTL.out; omega)).mono ?_; rintro e w5 ⟨rfl, hG5, hF5⟩
          rw [show Value.int .i64 x = iv x from rfl, HST.out] at hG5
          have HG5 := hid hG5
          have HF5 := hid (HF4.out.then hF5 (fun i hi e => absurd hi (by subst e; omega)))
          clear hG5 hF5
          go_wp2_with fail
          go_roundg g
          case measure => omega
          case rel => exact ⟨k + 1, by omega, by go_num, HG5, HF5⟩
        | zero =>
          obtain rfl : k = t := by omega
          have HLT := hid (tailR_len xs h1 k)
          rw [List.map_cons] at HG
          obtain ⟨x, hx⟩ : ∃ x, gAt xs k = x := ⟨_, rfl⟩
          rw [hx] at HG HC
          obtain ⟨T, hT⟩ : ∃ T, (tailR xs k).map iv = T := ⟨_, rfl⟩
          have HTL : Hid (T.length + 1 = xs.length) := by unfold Hid; rw [← hT, List.length_map, HLT.out]; omega
          rw [hT] at HG
          clear hx hT hget hcell HLT
          go_wp2_with fail
          refine (rg_Take1 wr p c xs.length (.int .i64 x) T false HG.out).mono ?_; rintro e w4 ⟨rfl, hG4, hF4⟩
          have HF4 := hid (HF.out.then hF4 (fun i hi e => absurd hi (by subst e; omega)))
          have hcc := (HF4.out.cell (p := ⟨b, o + k % xs.length, none⟩) hb id).trans HC.out
          have hm0 : (0 : Int) ≤ ((k % xs.length : Nat) : Int) := by omega
          have hm1 : ((k % xs.length : Nat) : Int) < (xs.length : Int) := by omega
          have HL := hid (rg_Len w4 p c xs.length T false hG4)
          have HTI : Hid (((T.length : Nat) : Int) = (xs.length : Int) - 1) := by have := HTL.out; unfold Hid; omega
          rw [HTI.out] at HL
          have HAw := hid (rg_awake w4)
          clear hG4 hF4 HG HF
          go_wp2_with (first
            | (refine HL.out.mono ?_; rintro e w5 ⟨rfl, rfl⟩)
            | (refine HAw.out.mono ?_; rintro e w6 ⟨rfl, hF6⟩))
          go_ret
          exact ⟨rfl, HF4.out.trans hF6⟩
theorem turns_awake (w : World) (a : Option Addr) (n cap : Nat) (t : Int) (h : n < 1 ∨ 60 < n ∨ t < 0 ∨ 200 < t) :
    Calls Try.prog 5 #[.slice a n cap, .int .i64 t] w fun e w' => e = .returned (.bool true) ∧ Fr No w w' := by
  have HAw := hid (rg_awake w)
  have h4 : n < 1 ∨ (1 ≤ n ∧ 60 < n) ∨ (1 ≤ n ∧ n ≤ 60 ∧ t < 0) ∨ (1 ≤ n ∧ n ≤ 60 ∧ 0 ≤ t ∧ 200 < t) := by omega
  clear h
  rcases h4 with h | ⟨h, h2⟩ | ⟨h, h2, h3⟩ | ⟨h, h2, h3, h4⟩
  all_goals
    go_enter Try.func5, Try.ntmps5
    go_wp2_with (refine HAw.out.mono ?_; rintro e w6 ⟨rfl, hF6⟩)
    go_ret
    exact ⟨rfl, hF6⟩
theorem law_RingTurns (w : World) (r : SRow) (hr : r.Ok w (.int .i64)) (t : Int) (_wt : (Lit.int .i64 t).wf = true) :
    Calls Try.prog 5 #[r.v, .int .i64 t] w fun e w' => e = .returned (.bool true) ∧ Fr No w w' := by
  obtain ⟨xs, hv, hrow, _⟩ := introw_of hr
  rw [hv]
  by_cases h : xs.length < 1 ∨ 60 < xs.length ∨ t < 0 ∨ 200 < t
  · exact turns_awake w r.a xs.length r.cap t h
  · obtain ⟨t, rfl⟩ := Int.eq_ofNat_of_zero_le (show 0 ≤ t by omega)
    exact turns_in w r.a r.cap xs (by omega) (by omega) hrow t (by omega)
end Go.Proofs.Ytndljmkdgakfcaa
