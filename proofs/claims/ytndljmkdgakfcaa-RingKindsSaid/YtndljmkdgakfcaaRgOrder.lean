/- The law RingOrder. -/
import Derived.Test.YtndljmkdgakfcaaRgTurns
namespace Go.Proofs.Ytndljmkdgakfcaa
open Go.RowKit

theorem own_row' {w : World} {base n : Nat} {e : TypeId} {v : Value} {xs : List Value} (h : w.ownsRow base e 1 v n xs) : ∃ a cap, v = .slice a n cap ∧ Row w a xs ∧ ∀ b o, a = some ⟨b, o, none⟩ → base ≤ b := by
  obtain ⟨a, cap, rfl, hr⟩ := own_row h
  exact ⟨a, cap, rfl, hr, fun b o e => own_ge h (by subst e; rfl)⟩
theorem take_snoc (xs : List Int) (k : Nat) (hk : k < xs.length) : (xs.take k).map iv ++ [iv xs[k]] = (xs.take (k + 1)).map iv := by
  rw [List.take_succ_eq_append_getElem hk, List.map_append]; rfl

set_option maxRecDepth 100000 in
set_option maxHeartbeats 4000000 in
theorem order_in (w : World) (a : Option Addr) (cap : Nat) (xs : List Int) (hx : xs.length ≤ 200) (hrow : Row w a (xs.map iv)) (m : Nat) (h1 : 1 ≤ m) (h2 : m ≤ 1024) (shut : Bool) :
    Calls Try.prog 4 #[.slice a xs.length cap, .int .i64 m, .bool shut] w fun e w' => e = .returned (.bool true) ∧ Fr No w w' := by
  obtain ⟨i0, hi, hz0, hz1, hz2⟩ := info_parts int_info
  have HR := hid hrow
  clear hrow
  go_enter Try.func4, Try.ntmps4
  go_wp2_with fail
  refine (rg_New_ok w m h1 h2).mono ?_; rintro e w1 ⟨p, c, rfl, hG, hF1, hp, hc⟩
  have hcz := hG.ltc
  have hpz := hG.ltp
  have HG := hid hG
  have HF1 := hid hF1
  have HR1 := hid (HR.out.no hF1)
  clear hG hF1
  go_wp2_with fail
  go_loopg [9, 10] xs.length (fun g v i wr => ∃ (k n : Nat) (vv : Value), k + g = xs.length ∧ Hid (n = min k m) ∧ i = .int .i64 k ∧ vv = v ∧ Hid (wr.ownsRow w1.heap.size 3 1 vv n ((xs.take n).map iv)) ∧ Hid (Rg wr p c m ((xs.take n).map iv) false) ∧ Hid (Fr (fun k => k = c) w1 wr))
  case atStart => exact ⟨0, 0, _, by omega, by unfold Hid; omega, rfl, rfl, own_nil w1 _ _, HG, Fr.refl _ w1⟩
  case round =>
    obtain ⟨k, n, v, hk, HN, rfl, rfl, HO, HG, HF⟩ := hrel
    cases gk with
    | succ g =>
      have hkl : k < xs.length := by omega
      have hnk : n ≤ k := by have := HN.out; omega
      obtain ⟨b, o, rfl, hb, hcell⟩ := HR.out.intAt k hkl
      have hcc := ((HF1.out.then HF.out (fun i hi e => absurd hi (by subst e; omega)) : Fr No w wr).cell (p := ⟨b, o + k, none⟩) hb id).trans hcell
      have HX := hid (take_snoc xs k hkl)
      obtain ⟨x, hxx⟩ : ∃ x, xs[k] = x := ⟨_, rfl⟩
      rw [hxx] at hcc HX
      clear hxx hcell
      obtain ⟨av, cv, rfl, hrv⟩ := own_row HO.out
      clear hrv
      by_cases hkm : k < m
      · obtain rfl : n = k := by have := HN.out; omega
        have hk1 : (n : Int) < (m : Int) := by omega
        go_wp2_with (first
          | (refine (rg_PutOk wr p c m _ (.int .i64 x) HG.out (by simp; omega)).mono ?_; rintro e w2 ⟨rfl, hG2, hF2⟩; have HO2 := hid (own_fr HO.out hF2 (fun k hk e => by omega)); have HG2 := hid hG2; have HF2 := hid (HF.out.trans hF2); have hsz := HF2.out.size; have hcc2 := (hF2.cell (p := ⟨b, o + n, none⟩) (lt_of_cell hcc) (by show ¬ b = c; omega)).trans hcc; clear hF2 hG2)
          | (at_builtin; (refine wpList_append_own _ rfl (.tmp 72) (.tmp 77) 29 rfl w1.heap.size 3 i0 (.int .i64 0) 1 8 Try.underlying29 hi hz0 hz1 hz2 rfl (by decide) (.slice av n cv) n _ rfl (HO2.out.alloc _) ⟨w2.heap.size, 0, none⟩ 1 1 [.int .i64 x] rfl rfl (cell_one_new _ _ _) (by simp [Value.oneCell']) (by unfold maxLen; omega) (by omega) (by simp; omega) ?_); intro v' w3 hown' hgrow _))
        rw [show Value.int .i64 x = iv x from rfl, HX.out] at hown'
        have hG3 := HG2.out
        rw [show Value.int .i64 x = iv x from rfl, HX.out] at hG3
        have HO' := hid hown'
        have HGr := hid (grown_fr hgrow)
        have HG3 := hid (hG3.fr HGr.out (fun h => by have := own_ge HO2.out h; omega) (fun h => by have := own_ge HO2.out h; omega))
        have HF3 := hid (HF2.out.then HGr.out (fun i hi h => absurd hi (by have := own_ge HO2.out h; omega)))
        clear hown' hgrow HGr hG3
        go_roundg g
        case measure => omega
        case rel => exact ⟨n + 1, n + 1, _, by omega, by unfold Hid; omega, by go_num, rfl, HO', HG3, HF3⟩
      · obtain rfl : n = m := by have := HN.out; omega
        have hk1 : ¬ (n : Int) < (n : Int) := by omega
        go_wp2_with (refine (rg_PutFull wr p c n _ (.int .i64 x) HG.out (by simp; omega)).mono ?_; rintro e w2 ⟨rfl, hG2, hF2⟩; have HO2 := hid (own_fr HO.out hF2 (fun k hk e => by omega)); have HG2 := hid hG2; have HF2 := hid (HF.out.trans hF2); clear hF2 hG2)
        go_roundg g
        case measure => omega
        case rel => exact ⟨k + 1, n, _, by omega, by unfold Hid; omega, by go_num, rfl, HO2, HG2, HF2⟩
    | zero =>
      obtain rfl : k = xs.length := by omega
      have hnx : n ≤ xs.length := by have := HN.out; omega
      obtain ⟨ws, hws⟩ : ∃ ws, xs.take n = ws := ⟨_, rfl⟩
      obtain rfl : n = ws.length := by rw [← hws, List.length_take]; omega
      have hwl : ws.length ≤ 200 := by omega
      rw [hws] at HO HG
      clear hws hnx HN
      obtain ⟨av, cv, rfl, hrv, hbv⟩ := own_row' HO.out
      have HV := hid hrv
      have HBV := hid hbv
      clear hrv hbv HO
      have hm0 : 0 < m := by omega
      cases shut
      case true =>
        go_wp2_with fail
        refine (rg_Close wr p c m _ false HG.out).mono ?_; rintro e wS ⟨rfl, hGS, hFS⟩
        rw [if_neg (by simp)]
        have HVS := hid (HV.out.fr hFS (fun b o e => by have := HBV.out b o e; omega))
        have HFS := hid ((HF.out.mono (fun i _ h => Or.inr h)).trans hFS)
        have HGS := hid hGS
        clear hGS hFS HV HG HF
        go_wp2_with fail
        have hszS := HFS.out.size
        have hcS := HGS.out.ltc
        have hpS := HGS.out.ltp
        have HO0 := hid (own_nil wS wS.heap.size 3)
        go_loopg [12, 13] ws.length (fun g v i wr => ∃ (k : Nat) (vv : Value), k + g = ws.length ∧ i = .int .i64 k ∧ vv = v ∧ Hid (wr.ownsRow wS.heap.size 3 1 vv k ((ws.take k).map iv)) ∧ Hid (Rg wr p c m ((ws.drop k).map iv) true) ∧ Hid (Fr (fun k => k = c) wS wr))
        case atStart => exact ⟨0, _, by omega, rfl, rfl, HO0, HGS, Fr.refl _ wS⟩
        case round =>
          obtain ⟨k, v, hk, rfl, rfl, HO, HG, HF⟩ := hrel
          cases gk with
          | succ g =>
            have hkl : k < ws.length := by omega
            have HX := hid (take_snoc ws k hkl)
            rw [List.drop_eq_getElem_cons hkl, List.map_cons] at HG
            obtain ⟨x, hxx⟩ : ∃ x, ws[k] = x := ⟨_, rfl⟩
            rw [hxx] at HG HX
            clear hxx
            have hkn : (k : Int) ≤ (ws.length : Int) := by omega
            have HT := hid (rg_Take1 wr p c m _ _ true HG.out)
            rw [show iv x = Value.int .i64 x from rfl] at HT
            go_wp2_with (first
              | (refine HT.out.mono ?_; rintro e w2 ⟨rfl, hR2, hF2⟩; have HO2 := hid (own_fr HO.out hF2 (fun k hk e => by omega)); have HF2 := hid (HF.out.trans hF2); have HR2 := hid hR2; have hsz := HF2.out.size; clear hF2 hR2 HT HO HF HG)
              | (at_builtin; (refine wpList_append_own _ rfl (.tmp 98) (.tmp 100) 29 rfl wS.heap.size 3 i0 (.int .i64 0) 1 8 Try.underlying29 hi hz0 hz1 hz2 rfl (by decide) v k _ rfl (HO2.out.alloc _) ⟨w2.heap.size, 0, none⟩ 1 1 [.int .i64 x] rfl rfl (cell_one_new _ _ _) (by simp [Value.oneCell']) (by unfold maxLen; omega) (by omega) (by simp; omega) ?_); intro v' w3 hown' hgrow _))
            rw [show Value.int .i64 x = iv x from rfl, HX.out] at hown'
            have HO' := hid hown'
            have HGr := hid (grown_fr hgrow)
            have HR3 := hid (HR2.out.fr HGr.out (fun h => by have := own_ge HO2.out h; omega) (fun h => by have := own_ge HO2.out h; omega))
            have HF3 := hid (HF2.out.then HGr.out (fun i hi h => absurd hi (by have := own_ge HO2.out h; omega)))
            clear hown' hgrow HGr
            go_roundg g
            case measure => omega
            case rel => exact ⟨k + 1, _, by omega, by go_num, rfl, HO', HR3, HF3⟩
          | zero =>
            obtain rfl : k = ws.length := by omega
            rw [List.drop_length, List.map_nil] at HG
            rw [List.take_length] at HO
            obtain ⟨ag, cg, rfl, hrg, hbg⟩ := own_row' HO.out
            have HRG := hid hrg
            have HBG := hid hbg
            clear hrg hbg HO
            go_wp2_with fail
            refine (rg_Take0 wr p c m true HG.out).mono ?_; rintro e w2 ⟨rfl, hG2, hF2⟩
            go_wp2_with fail
            refine (rg_Take0 w2 p c m true hG2).mono ?_; rintro e w3 ⟨rfl, hG3, hF3⟩
            go_wp2_with fail
            refine (rg_PutShut w3 p c m [] (.int .i64 1) hG3).mono ?_; rintro e w4 ⟨rfl, hG4, hF4⟩
            have HF4 := hid (hF2.trans (hF3.trans hF4))
            have HRG4 := hid (HRG.out.fr HF4.out (fun b o e => by have := HBG.out b o e; omega))
            have HV4 := hid ((HVS.out.fr HF.out (fun b o e => by have := HBV.out b o e; omega)).fr HF4.out (fun b o e => by have := HBV.out b o e; omega))
            have HZ4 := hid (HF1.out.then (HFS.out.trans ((HF.out.trans HF4.out).mono (T := fun k => k = p ∨ k = c) (fun i _ h => Or.inr h))) (fun i hi e => absurd hi (by omega)))
            have HI := hid (ints_same w4 ag av cg cv ws (by omega) HRG4.out HV4.out)
            clear hF2 hF3 hF4 hG2 hG3 hG4 HF4 HRG4 HV4 HF HG HGS HFS
            go_wp2_with (first
              | (refine HI.out.mono ?_; rintro e w5 ⟨rfl, hF5⟩; have HA := hid (rg_awake w5))
              | (refine HA.out.mono ?_; rintro e w6 ⟨rfl, hF6⟩))
            go_ret
            exact ⟨rfl, HZ4.out.trans (hF5.trans hF6)⟩
      case false =>
        have HVS := HV
        have HFS := hid (HF.out.mono (T := fun k => k = p ∨ k = c) (fun i _ h => Or.inr h))
        have HGS := HG
        clear HV HG HF
        obtain ⟨wS, hwS⟩ : ∃ wS, wr = wS := ⟨_, rfl⟩
        rw [hwS] at HVS HFS HGS ⊢
        clear hwS
        go_wp2_with fail
        have hszS := HFS.out.size
        have hcS := HGS.out.ltc
        have hpS := HGS.out.ltp
        have HO0 := hid (own_nil wS wS.heap.size 3)
        go_loopg [12, 13] ws.length (fun g v i wr => ∃ (k : Nat) (vv : Value), k + g = ws.length ∧ i = .int .i64 k ∧ vv = v ∧ Hid (wr.ownsRow wS.heap.size 3 1 vv k ((ws.take k).map iv)) ∧ Hid (Rg wr p c m ((ws.drop k).map iv) false) ∧ Hid (Fr (fun k => k = c) wS wr))
        case atStart => exact ⟨0, _, by omega, rfl, rfl, HO0, HGS, Fr.refl _ wS⟩
        case round =>
          obtain ⟨k, v, hk, rfl, rfl, HO, HG, HF⟩ := hrel
          cases gk with
          | succ g =>
            have hkl : k < ws.length := by omega
            have HX := hid (take_snoc ws k hkl)
            rw [List.drop_eq_getElem_cons hkl, List.map_cons] at HG
            obtain ⟨x, hxx⟩ : ∃ x, ws[k] = x := ⟨_, rfl⟩
            rw [hxx] at HG HX
            clear hxx
            have hkn : (k : Int) ≤ (ws.length : Int) := by omega
            have HT := hid (rg_Take1 wr p c m _ _ false HG.out)
            rw [show iv x = Value.int .i64 x from rfl] at HT
            go_wp2_with (first
              | (refine HT.out.mono ?_; rintro e w2 ⟨rfl, hR2, hF2⟩; have HO2 := hid (own_fr HO.out hF2 (fun k hk e => by omega)); have HF2 := hid (HF.out.trans hF2); have HR2 := hid hR2; have hsz := HF2.out.size; clear hF2 hR2 HT HO HF HG)
              | (at_builtin; (refine wpList_append_own _ rfl (.tmp 98) (.tmp 100) 29 rfl wS.heap.size 3 i0 (.int .i64 0) 1 8 Try.underlying29 hi hz0 hz1 hz2 rfl (by decide) v k _ rfl (HO2.out.alloc _) ⟨w2.heap.size, 0, none⟩ 1 1 [.int .i64 x] rfl rfl (cell_one_new _ _ _) (by simp [Value.oneCell']) (by unfold maxLen; omega) (by omega) (by simp; omega) ?_); intro v' w3 hown' hgrow _))
            rw [show Value.int .i64 x = iv x from rfl, HX.out] at hown'
            have HO' := hid hown'
            have HGr := hid (grown_fr hgrow)
            have HR3 := hid (HR2.out.fr HGr.out (fun h => by have := own_ge HO2.out h; omega) (fun h => by have := own_ge HO2.out h; omega))
            have HF3 := hid (HF2.out.then HGr.out (fun i hi h => absurd hi (by have := own_ge HO2.out h; omega)))
            clear hown' hgrow HGr
            go_roundg g
            case measure => omega
            case rel => exact ⟨k + 1, _, by omega, by go_num, rfl, HO', HR3, HF3⟩
          | zero =>
            obtain rfl : k = ws.length := by omega
            rw [List.drop_length, List.map_nil] at HG
            rw [List.take_length] at HO
            obtain ⟨ag, cg, rfl, hrg, hbg⟩ := own_row' HO.out
            have HRG := hid hrg
            have HBG := hid hbg
            clear hrg hbg HO
            go_wp2_with fail
            refine (rg_Take0 wr p c m false HG.out).mono ?_; rintro e w2 ⟨rfl, hG2, hF2⟩
            go_wp2_with fail
            refine (rg_Take0 w2 p c m false hG2).mono ?_; rintro e w3 ⟨rfl, hG3, hF3⟩
            go_wp2_with fail
            refine (rg_PutOk w3 p c m [] (.int .i64 1) hG3 hm0).mono ?_; rintro e w4 ⟨rfl, hG4, hF4⟩
            have HF4 := hid (hF2.trans (hF3.trans hF4))
            have HRG4 := hid (HRG.out.fr HF4.out (fun b o e => by have := HBG.out b o e; omega))
            have HV4 := hid ((HVS.out.fr HF.out (fun b o e => by have := HBV.out b o e; omega)).fr HF4.out (fun b o e => by have := HBV.out b o e; omega))
            have HZ4 := hid (HF1.out.then (HFS.out.trans ((HF.out.trans HF4.out).mono (T := fun k => k = p ∨ k = c) (fun i _ h => Or.inr h))) (fun i hi e => absurd hi (by omega)))
            have HI := hid (ints_same w4 ag av cg cv ws (by omega) HRG4.out HV4.out)
            clear hF2 hF3 hF4 hG2 hG3 hG4 HF4 HRG4 HV4 HF HG HGS HFS
            go_wp2_with (first
              | (refine HI.out.mono ?_; rintro e w5 ⟨rfl, hF5⟩; have HA := hid (rg_awake w5))
              | (refine HA.out.mono ?_; rintro e w6 ⟨rfl, hF6⟩))
            go_ret
            exact ⟨rfl, HZ4.out.trans (hF5.trans hF6)⟩
end Go.Proofs.Ytndljmkdgakfcaa
