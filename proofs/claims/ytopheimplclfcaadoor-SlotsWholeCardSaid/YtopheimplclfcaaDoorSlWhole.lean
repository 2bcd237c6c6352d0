/- The law SlotsWhole: the stage's theorem. -/
import Derived.Test.YtopheimplclfcaaDoorSlDo
import Derived.StillTailTactics
namespace Go.Proofs.YtopheimplclfcaaDoor
open Go.RowKit

def cnt (l : List Nat) : Nat → Nat
  | 0 => 0
  | k + 1 => cnt l k + (which l (k : Nat)).length
theorem upTo_count {l : List Nat} {st k : Nat} (hk : k < l.length) : (upTo l (st : Int) (k + 1)).length = (upTo l (st : Int) k).length + if l[k] = st then 1 else 0 := by
  by_cases h : l[k] = st
  · rw [if_pos h, upTo_yes (by simp [hk, h])]; simp
  · rw [if_neg h, upTo_no (by simp [hk]; omega)]; rfl
theorem five_sum {l : List Nat} (hle : ∀ x ∈ l, x ≤ 4) : ∀ n, n ≤ l.length → (upTo l ((0 : Nat) : Int) n).length + (upTo l ((1 : Nat) : Int) n).length + (upTo l ((2 : Nat) : Int) n).length + (upTo l ((3 : Nat) : Int) n).length + (upTo l ((4 : Nat) : Int) n).length = n
  | 0, _ => rfl
  | n + 1, h => by
    have ih := five_sum hle n (by omega)
    have hx := hle l[n] (List.getElem_mem (by omega))
    simp only [upTo_count (show n < l.length by omega)]
    repeat' split
    all_goals omega
theorem cnt_all {l : List Nat} (hle : ∀ x ∈ l, x ≤ 4) : cnt l 5 = l.length := by
  have := five_sum hle l.length (Nat.le_refl _)
  simp only [cnt, which] at *
  omega
theorem Step.at_one {l l' : List Nat} (h : Step l l') : ∃ i, ∀ k (hk : k < l.length) (hk' : k < l'.length), (k ≠ i → l'[k] = l[k]) ∧ (l'[k] = l[k] ∨ mayN l[k] l'[k] = true) := by
  rcases h with rfl | ⟨i, b, h, hb, hm, rfl⟩
  · exact ⟨0, fun k hk hk' => ⟨fun _ => rfl, .inl rfl⟩⟩
  · refine ⟨i, fun k hk hk' => ?_⟩
    by_cases e : i = k
    · subst e
      rw [List.getElem_set_self]
      exact ⟨fun h => absurd rfl h, .inr hm⟩
    · rw [List.getElem_set_ne e]
      exact ⟨fun _ => rfl, .inl rfl⟩
theorem may_facts {a b : Nat} (h : mayN a b = true) (ha : a ≤ 4) : a ≠ 4 ∧ (b = 0 → a = 3) := by
  have : a = 0 ∨ a = 1 ∨ a = 2 ∨ a = 3 ∨ a = 4 := by omega
  rcases this with rfl | rfl | rfl | rfl | rfl <;> simp [mayN] at h <;> omega

set_option maxRecDepth 100000 in
set_option maxHeartbeats 8000000 in
theorem whole_in (w : World) (m : Nat) (hm1 : 1 ≤ m) (hm2 : m ≤ 40) (a : Option Addr) (cap : Nat) (xs : List Op8) (hl : xs.length ≤ 100) (hE : Ops8 w a xs) (hL : SLaid w) :
    Calls Tryd.prog 10 #[.int .i64 m, .slice a xs.length cap] w fun e w' => e = .returned (.bool true) ∧ Fr No w w' := by
  have HL := hid hL
  have HE := hid hE
  have hg0 := hL.2
  clear hL hE
  go_enter Tryd.func10, Tryd.ntmps10
  go_wp2_with fail
  refine (slnew_ok m w (by omega) (by omega)).mono ?_; rintro e w1 ⟨rfl, hS1, hF1⟩
  have HF1 := hid hF1
  have HS1 := hid hS1
  clear hF1 hS1
  generalize hp : w.heap.size + 1 = p at *
  generalize hq : w.heap.size = q at *
  have hpq : q < p := by omega
  unfold slv
  go_wp2_with fail
  go_loopg [7] xs.length (fun g i wr => ∃ (k : Nat) (l : List Nat), k + g = xs.length ∧ i = .int .i64 k ∧ l.length = m ∧ Hid (SlAt wr p q l) ∧ Hid (Fr No w wr))
  case atStart => exact ⟨0, _, by omega, rfl, by simp, HS1, HF1⟩
  case round =>
    obtain ⟨k, l, hk, rfl, hlm, HS2, HF2⟩ := hrel
    clear HS1 HF1
    cases gk with
    | zero =>
      obtain rfl : k = xs.length := by omega
      go_wp2_with fail
      refine (sl_awake _ (HL.out.no HF2.out)).mono ?_; rintro e w6 ⟨rfl, hF6⟩
      have HF6 := hid (HF2.out.trans hF6)
      clear hF6
      go_wp2_with fail
      go_ret
      exact ⟨rfl, HF6.out⟩
    | succ g =>
      have hkl : k < xs.length := by omega
      go_wp2_with fail
      refine (slcopy_at wr p q l HS2.out (by omega)).mono ?_; rintro e w3 ⟨p4, q4, rfl, hp4, hq4, hS4, hF4⟩
      have hzr := HF2.out.size
      have hpr := HS2.out.ltp
      have hqr := HS2.out.ltq
      have HF3 := hid (HF2.out.trans hF4)
      have HC3 := hid hS4
      have HS3 := hid (HS2.out.no hF4)
      clear hF4 hS4 HF2 HS2
      obtain ⟨b, o, rfl, c0, c1, c2⟩ := (HE.out.no HF3.out).op8 k hkl
      generalize xs[k] = op at *
      obtain ⟨al, sl, st⟩ := op
      simp only at c0 c1 c2
      unfold slv
      cases al
      case' true =>
        go_wp2_with fail
        refine (slalloc_F w3 p q l HS3.out).mono ?_; rintro e w5 ⟨rfl, hS5, hF5, hz5⟩
        have HF5 := hid (HF3.out.then hF5 (fun i hi e => by omega))
        have HC5 := hid (HC3.out.fr hF5 (by omega) (by omega))
        have HS5 := hid hS5
        have HST := hid (allocF_step l)
        clear hF5 hS5 hz5 HF3 HC3 HS3 c0 c1 c2
        generalize (allocF l).2.2 = l5 at *
        go_wp2_with fail
      case' false =>
        go_wp2_with fail
        go_still_tail 11, (by kernel_rfl)
        change wpList _ _ _ _ _ w3.drew
        have HFd := hid HF3.out.drew
        have HSd := hid (HS3.out.no ((Fr.refl No w3).drew))
        have HCd := hid (HC3.out.no ((Fr.refl No w3).drew))
        have HLd := hid (HL.out.no HFd.out).1
        clear HF3 HS3 HC3 c0 c1 c2
        generalize w3.drew = wd at *
        go_wp2_with fail
        refine (slturn_any wd p q l sl st HLd.out HSd.out).mono ?_; rintro e w5 ⟨rfl, hS5, hF5, hz5⟩
        have HF5 := hid (HFd.out.then hF5 (fun i hi e => by omega))
        have HC5 := hid (HCd.out.fr hF5 (by omega) (by omega))
        have HS5 := hid hS5
        have HST := hid (turnF_step l sl st)
        clear hF5 hS5 hz5 HFd HCd HSd HLd
        generalize (turnF l sl st) = tf at *
        obtain ⟨tr, l5⟩ := tf
        simp only at HS5 HST
        go_wp2_with fail
      all_goals
        have hml : l5.length = m := by have := HST.out.len; omega
        obtain ⟨wo, hwo⟩ : ∃ wo : World, wo = wr := ⟨_, rfl⟩
        clear hwo
        go_loopg [9, 10] 5 (fun g2 s i wr => ∃ (j : Nat), j + g2 = 5 ∧ s = .int .i64 (cnt l5 j) ∧ i = .int .i64 j ∧ cnt l5 j ≤ j * 1024 ∧ Hid (SlAt wr p q l5) ∧ Hid (SlAt wr p4 q4 l) ∧ Hid (Fr No w wr))
        case atStart => exact ⟨0, by omega, rfl, rfl, by simp [cnt], HS5, HC5, HF5⟩
        case round =>
          obtain ⟨j, hj, rfl, rfl, hcj, HS6, HC6, HF6⟩ := hrel
          clear HS5 HC5 HF5
          cases gk with
          | succ g2 =>
            have HC := hid (count_c (some ⟨p, 0, none⟩) (j : Int) l5 HS6.out.len wr (.at HS6.out id id))
            have hcl : (which l5 (j : Int)).length ≤ 1024 := Nat.le_trans (upTo_len _ _ _) HS6.out.len
            have HCS : Hid (cnt l5 (j + 1) = cnt l5 j + (which l5 (j : Int)).length) := hid rfl
            generalize (which l5 (j : Int)).length = c at *
            generalize cnt l5 j = cj at *
            go_wp2_with fail
            refine HC.out.mono ?_; rintro e w7 ⟨rfl, hF7⟩
            have HF7 := hid (HF6.out.trans hF7)
            have HS7 := hid (HS6.out.no hF7)
            have HC7 := hid (HC6.out.no hF7)
            clear hF7 HF6 HS6 HC6
            go_wp2_with fail
            go_roundg g2
            case measure => omega
            case rel => exact ⟨j + 1, by omega, by rw [HCS.out]; go_num, by go_num, by rw [HCS.out]; omega, HS7, HC7, HF7⟩
          | zero =>
            obtain rfl : j = 5 := by omega
            rw [cnt_all HS6.out.le]
            obtain ⟨i5, h5⟩ := HST.out.at_one
            have H5 := hid h5
            have hll := HST.out.len
            clear h5 HST hcj
            go_wp2_with fail
            obtain ⟨wp, hwp⟩ : ∃ wp : World, wp = wr := ⟨_, rfl⟩
            clear hwp
            go_loopg [11, 12] m (fun g3 t i wr2 => ∃ (j t2 : Nat), j + g3 = m ∧ t = .int .i64 t2 ∧ i = .int .i64 j ∧ t2 ≤ 1 ∧ (t2 = 0 ∨ i5 < j) ∧ Hid (SlAt wr2 p q l5) ∧ Hid (SlAt wr2 p4 q4 l) ∧ Hid (Fr No w wr2))
            case atStart => exact ⟨0, 0, by omega, rfl, rfl, by omega, .inl rfl, HS6, HC6, HF6⟩
            case round =>
              obtain ⟨j, t2, hj, rfl, rfl, ht1, ht2, HS8, HC8, HF8⟩ := hrel
              clear HS6 HC6 HF6
              cases gk with
              | zero =>
                obtain rfl : j = m := by omega
                go_wp2_with fail
                go_roundg g
                case measure => omega
                case rel => exact ⟨k + 1, l5, by omega, by go_num, by omega, HS8, HF8⟩
              | succ g3 =>
                have hjl : j < l.length := by omega
                have hjl5 : j < l5.length := by omega
                obtain ⟨h1, h2⟩ := H5.out j hjl hjl5
                have hx := HC8.out.le _ (List.getElem_mem hjl)
                have hy := HS8.out.le _ (List.getElem_mem hjl5)
                have HA := hid (slstate_in _ p4 q4 l j HC8.out hjl)
                have HB := hid (slstate_in _ p q l5 j HS8.out hjl5)
                have HLT := hid (HL.out.no HF8.out).1
                generalize l[j] = x at *
                generalize l5[j] = y at *
                by_cases hxy : x = y
                · subst hxy
                  clear h2 h1
                  rcases Nat.lt_or_ge 3 x with h4 | h4
                  · obtain rfl : x = 4 := by omega
                    go_wp2_with fail
                    refine HA.out.mono ?_; rintro e w9 ⟨rfl, rfl⟩
                    go_wp2_with fail
                    refine HB.out.mono ?_; rintro e w9 ⟨rfl, rfl⟩
                    go_wp2_with fail
                    go_roundg g3
                    case measure => omega
                    case rel => exact ⟨j + 1, t2, by omega, rfl, by go_num, by omega, by omega, HS8, HC8, HF8⟩
                  · rcases Nat.eq_zero_or_pos x with h0 | h0
                    · subst h0
                      go_wp2_with fail
                      refine HA.out.mono ?_; rintro e w9 ⟨rfl, rfl⟩
                      go_wp2_with fail
                      refine HB.out.mono ?_; rintro e w9 ⟨rfl, rfl⟩
                      go_wp2_with fail
                      go_roundg g3
                      case measure => omega
                      case rel => exact ⟨j + 1, t2, by omega, rfl, by go_num, by omega, by omega, HS8, HC8, HF8⟩
                    · have b0 : (((x : Nat) : Int) == 0) = false := by simp; omega
                      have b4 : (((x : Nat) : Int) == 4) = false := by simp; omega
                      go_wp2_with fail
                      refine HA.out.mono ?_; rintro e w9 ⟨rfl, rfl⟩
                      go_wp2_with fail
                      refine HB.out.mono ?_; rintro e w9 ⟨rfl, rfl⟩
                      go_wp2_with fail
                      go_roundg g3
                      case measure => omega
                      case rel => exact ⟨j + 1, t2, by omega, rfl, by go_num, by omega, by omega, HS8, HC8, HF8⟩
                · have hji : j = i5 := by
                    by_cases h : j = i5
                    · exact h
                    · exact absurd (h1 h).symm hxy
                  have ht0 : t2 = 0 := by omega
                  subst ht0
                  have hi5 : i5 < j + 1 := by omega
                  clear hji
                  have hm : mayN x y = true := by
                    rcases h2 with h | h
                    · exact absurd h.symm hxy
                    · exact h
                  obtain ⟨n4, n3⟩ := may_facts hm hx
                  have HM := hid (may_in x y wr (by omega) (by omega) HLT.out)
                  rw [hm] at HM
                  have bn : (((x : Nat) : Int) != ((y : Nat) : Int)) = true := by simp; omega
                  have b4 : (((x : Nat) : Int) == 4) = false := by simp; omega
                  clear h1 h2 hm ht2
                  rcases Nat.eq_zero_or_pos y with h0 | h0
                  · subst h0
                    obtain rfl : x = 3 := n3 rfl
                    clear n3 n4 bn b4
                    go_wp2_with fail
                    refine HA.out.mono ?_; rintro e w9 ⟨rfl, rfl⟩
                    go_wp2_with fail
                    refine HB.out.mono ?_; rintro e w9 ⟨rfl, rfl⟩
                    go_wp2_with fail
                    refine HM.out.mono ?_; rintro e w9 ⟨rfl, rfl⟩
                    go_wp2_with fail
                    go_roundg g3
                    case measure => omega
                    case rel => exact ⟨j + 1, 1, by omega, by go_num, by go_num, by omega, by omega, HS8, HC8, HF8⟩
                  · have b0 : (((y : Nat) : Int) == 0) = false := by simp; omega
                    clear n3 n4
                    go_wp2_with fail
                    refine HA.out.mono ?_; rintro e w9 ⟨rfl, rfl⟩
                    go_wp2_with fail
                    refine HB.out.mono ?_; rintro e w9 ⟨rfl, rfl⟩
                    go_wp2_with fail
                    refine HM.out.mono ?_; rintro e w9 ⟨rfl, rfl⟩
                    go_wp2_with fail
                    go_roundg g3
                    case measure => omega
                    case rel => exact ⟨j + 1, 1, by omega, by go_num, by go_num, by omega, by omega, HS8, HC8, HF8⟩

theorem whole_awake (w : World) (n : Int) (a : Option Addr) (len cap : Nat) (hL : SLaid w) (h : (n < 1 ∨ 40 < n) ∨ 100 < len) :
    Calls Tryd.prog 10 #[.int .i64 n, .slice a len cap] w fun e w' => e = .returned (.bool true) ∧ Fr No w w' := by
  have H3 := hid (sl_awake w hL)
  clear hL
  by_cases h1 : n < 1
  · clear h
    go_enter Tryd.func10, Tryd.ntmps10
    go_wp2_with fail
    refine H3.out.mono ?_; rintro e w' ⟨rfl, hF⟩
    have HF := hid hF
    clear hF
    go_wp2_with fail
    go_ret
    exact ⟨rfl, HF.out⟩
  by_cases h2 : 40 < n
  · clear h
    go_enter Tryd.func10, Tryd.ntmps10
    go_wp2_with fail
    refine H3.out.mono ?_; rintro e w' ⟨rfl, hF⟩
    have HF := hid hF
    clear hF
    go_wp2_with fail
    go_ret
    exact ⟨rfl, HF.out⟩
  have h3 : 100 < len := by omega
  clear h
  go_enter Tryd.func10, Tryd.ntmps10
  go_wp2_with fail
  refine H3.out.mono ?_; rintro e w' ⟨rfl, hF⟩
  have HF := hid hF
  clear hF
  go_wp2_with fail
  go_ret
  exact ⟨rfl, HF.out⟩

set_option linter.unusedVariables false in
theorem law_SlotsWhole (w : World) (n : Int) (wn : (Lit.int .i64 n).wf = true) (r : SRow) (hr : r.Ok w op8Sh) (hL : SLaid w) :
    Calls Tryd.prog 10 #[.int .i64 n, r.v] w fun e w' => e = .returned (.bool true) ∧ Fr No w w' := by
  obtain ⟨xs, hv, hE⟩ := ops8_of hr
  rw [hv]
  by_cases h : (n < 1 ∨ 40 < n) ∨ 100 < xs.length
  · exact whole_awake w n r.a xs.length r.cap hL h
  · obtain ⟨m, rfl⟩ : ∃ m : Nat, n = m := ⟨n.toNat, by omega⟩
    exact whole_in w m (by omega) (by omega) r.a r.cap xs (by omega) hE hL
end Go.Proofs.YtopheimplclfcaaDoor
