/- The law SlotsRound. -/
import Derived.Test.YtopheimplclfcaaDoorSlAwake
import Derived.Test.YtopheimplclfcaaDoorSlCount
namespace Go.Proofs.YtopheimplclfcaaDoor
open Go.RowKit

/-- n slots, of which those below k have x, the others y -/
def parted (n k x y : Nat) : List Nat := (List.range n).map fun i => if i < k then x else y
theorem parted_len (n k x y : Nat) : (parted n k x y).length = n := by simp [parted]
theorem parted_at (n k x y i : Nat) (h : i < (parted n k x y).length) : (parted n k x y)[i] = if i < k then x else y := by simp [parted]
theorem parted_set (n k x y : Nat) : (parted n k x y).set k x = parted n (k + 1) x y := by
  apply List.ext_getElem
  · simp [parted]
  · intro i h1 h2
    rw [List.getElem_set, parted_at]
    by_cases e : k = i
    · subst e; rw [if_pos rfl, parted_at, if_pos (by omega)]
    · rw [if_neg e, parted_at]
      by_cases g : i < k
      · rw [if_pos g, if_pos (by omega)]
      · rw [if_neg g, if_neg (by omega)]
theorem parted_zero (n x y : Nat) : parted n 0 x y = List.replicate n y := by
  apply List.ext_getElem
  · simp [parted]
  · intro i h1 h2
    rw [parted_at]; simp
theorem parted_all (n x y : Nat) : parted n n x y = List.replicate n x := by
  apply List.ext_getElem
  · simp [parted]
  · intro i h1 h2
    have : i < n := by simpa [parted] using h1
    rw [parted_at, if_pos this]; simp
theorem parted_find (n k : Nat) (h : k < n) : (parted n k 1 0).findIdx? (· == 0) = some k :=
  find_at _ k (by rw [parted_len]; exact h) (by rw [parted_at, if_neg (by omega)]) (fun j hj => by rw [parted_at, if_pos hj]; decide)
theorem parted_full (n : Nat) : (parted n n 1 0).findIdx? (· == 0) = none := by
  rw [parted_all, List.findIdx?_eq_none_iff]
  intro x hx
  rw [List.eq_of_mem_replicate hx]; rfl
theorem set_set (l : List Nat) (k a b : Nat) : (l.set k a).set k b = l.set k b := by simp
theorem which_all (n x : Nat) : (which (List.replicate n x) (x : Int)).length = n := by
  unfold which upTo
  rw [List.filter_eq_self.2]
  · simp
  · intro i hi
    have : i < n := by simpa using hi
    simp [this]

set_option maxHeartbeats 2000000 in
theorem law_SlotsRound (w : World) (n : Int) (wn : (Lit.int .i64 n).wf = true) (hL : SLaid w) :
    Calls Tryd.prog 11 #[.int .i64 n] w fun e w' => e = .returned (.bool true) ∧ Fr No w w' := by
  have H3 := hid (sl_awake w hL)
  have HL := hid hL
  have hg0 := hL.2
  clear hL wn
  by_cases h1 : n < 1
  · go_enter Tryd.func11, Tryd.ntmps11
    go_wp2_with fail
    refine H3.out.mono ?_; rintro e w' ⟨rfl, hF⟩
    have HF := hid hF
    clear hF
    go_wp2_with fail
    go_ret
    exact ⟨rfl, HF.out⟩
  by_cases h2 : 200 < n
  · go_enter Tryd.func11, Tryd.ntmps11
    go_wp2_with fail
    refine H3.out.mono ?_; rintro e w' ⟨rfl, hF⟩
    have HF := hid hF
    clear hF
    go_wp2_with fail
    go_ret
    exact ⟨rfl, HF.out⟩
  obtain ⟨m, rfl⟩ : ∃ m : Nat, n = m := ⟨n.toNat, by omega⟩
  have hm1 : 1 ≤ m := by omega
  have hm2 : m ≤ 200 := by omega
  clear h1 h2
  go_enter Tryd.func11, Tryd.ntmps11
  go_wp2_with fail
  refine (slnew_ok m w (by omega) (by omega)).mono ?_; rintro e w1 ⟨rfl, hS1, hF1⟩
  have HF1 := hid hF1
  rw [← parted_zero m 1 0] at hS1
  have HS1 := hid hS1
  clear hF1 hS1
  generalize hp : w.heap.size + 1 = p at *
  generalize hq : w.heap.size = q at *
  have hpq : q < p := by omega
  unfold slv
  go_wp2_with fail
  go_loopg [5] m (fun g i wr => ∃ k : Nat, k + g = m ∧ i = .int .i64 k ∧ Hid (SlAt wr p q (parted m k 1 0)) ∧ Hid (Fr No w wr))
  case atStart => exact ⟨0, by omega, rfl, HS1, HF1⟩
  case round =>
    obtain ⟨k, hk, rfl, HS2, HF2⟩ := hrel
    cases gk with
    | succ g =>
      go_wp2_with fail
      refine (slalloc_at wr p q k _ HS2.out (parted_find m k (by omega))).mono ?_; rintro e w3 ⟨rfl, hS3, hF3, hz3⟩
      have HF3 := hid (HF2.out.then hF3 (fun i hi e => by omega))
      rw [parted_set] at hS3
      have HS3 := hid hS3
      clear hF3 hS3 hz3
      go_wp2_with fail
      go_roundg g
      case measure => omega
      case rel => exact ⟨k + 1, by omega, by go_num, HS3, HF3⟩
    | zero =>
      obtain rfl : k = m := by omega
      go_wp2_with fail
      refine ((slalloc_any wr p q _ HS2.out).mono fun _ _ hp => hp.full (parted_full k)).mono ?_; rintro e w3 ⟨rfl, rfl⟩
      have HS3 : Hid (SlAt w3 p q (parted k 0 0 1)) := by
        have := HS2.out
        rw [parted_all] at this
        rw [parted_zero]; exact this
      clear HS2
      go_wp2_with fail
      go_loopg [10] k (fun g i wr => ∃ j : Nat, j + g = k ∧ i = .int .i64 j ∧ Hid (SlAt wr p q (parted k j 0 1)) ∧ Hid (Fr No w wr))
      case atStart => exact ⟨0, by omega, rfl, HS3, HF2⟩
      case round =>
        obtain ⟨j, hj, rfl, HS4, HF4⟩ := hrel
        clear HF2 HS3
        cases gk with
        | succ g =>
          obtain ⟨l, hl⟩ : ∃ l, parted k j 0 1 = l := ⟨_, rfl⟩
          have hjl : j < l.length := by rw [← hl, parted_len]; omega
          have hat : l[j] = 1 := by
            simp only [← hl]; rw [parted_at, if_neg (by omega)]
          have HN : Hid (l.set j 0 = parted k (j + 1) 0 1) := by rw [← hl]; exact parted_set k j 0 1
          rw [hl] at HS4
          clear hl
          have HM1 : Hid (mayN (l[j]) 2 = true) := by rw [hat]; exact (by decide : mayN 1 2 = true)
          have HM2 : Hid (mayN ((l.set j 2)[j]'(by simpa using hjl)) 3 = true) := by rw [List.getElem_set_self]; exact (by decide : mayN 2 3 = true)
          have HM3 : Hid (mayN (((l.set j 2).set j 3)[j]'(by simpa using hjl)) 0 = true) := by rw [List.getElem_set_self]; exact (by decide : mayN 3 0 = true)
          have HL4 := hid (HL.out.no HF4.out).1
          clear hat
          go_wp2_with fail
          refine (slturn_yes wr p q l j 2 HL4.out HS4.out hjl (by decide) HM1.out).mono ?_; rintro e w5 ⟨rfl, hS5, hF5, hz5⟩
          have HF5 := hid (HF4.out.then hF5 (fun i hi e => by omega))
          have HS5 := hid hS5
          have HL5 := hid (HL.out.no HF5.out).1
          clear hF5 hS5 hz5
          go_wp2_with fail
          refine (slturn_yes w5 p q _ j 3 HL5.out HS5.out (by simpa using hjl) (by decide) HM2.out).mono ?_; rintro e w6 ⟨rfl, hS6, hF6, hz6⟩
          have HF6 := hid (HF5.out.then hF6 (fun i hi e => by omega))
          have HS6 := hid hS6
          have HL6 := hid (HL.out.no HF6.out).1
          clear hF6 hS6 hz6
          go_wp2_with fail
          refine (slturn_yes w6 p q _ j 0 HL6.out HS6.out (by simpa using hjl) (by decide) HM3.out).mono ?_; rintro e w7 ⟨rfl, hS7, hF7, hz7⟩
          have HF7 := hid (HF6.out.then hF7 (fun i hi e => by omega))
          rw [set_set, set_set, HN.out] at hS7
          have HS7 := hid hS7
          clear hF7 hS7 hz7
          go_wp2_with fail
          go_roundg g
          case measure => omega
          case rel => exact ⟨j + 1, by omega, by go_num, HS7, HF7⟩
        | zero =>
          obtain rfl : j = k := by omega
          have HC := hid (count_c (some ⟨p, 0, none⟩) 0 (parted j j 0 1) (by rw [parted_len]; omega) wr (.at HS4.out id id))
          have hw := which_all j 0
          rw [← parted_all j 0 1] at hw
          have HW := hid hw
          clear hw
          go_wp2_with fail
          refine HC.out.mono ?_; rintro e w5 ⟨rfl, hF5⟩
          rw [show ((0 : Nat) : Int) = 0 from rfl] at HW
          rw [HW.out]
          have HF5 := hid (HF4.out.trans hF5)
          have HA := hid (sl_awake w5 (HL.out.no HF5.out))
          clear hF5
          go_wp2_with fail
          refine HA.out.mono ?_; rintro e w6 ⟨rfl, hF6⟩
          have HF6 := hid (HF5.out.trans hF6)
          clear hF6
          go_wp2_with fail
          go_ret
          exact ⟨rfl, HF6.out⟩
end Go.Proofs.YtopheimplclfcaaDoor
