/- The law RingKinds. -/
import Derived.Test.YtndljmkdgakfcaaRkArgs
import Derived.Laws.StructEq
namespace Go.Proofs.Ytndljmkdgakfcaa
open Go.RowKit

theorem pair_neq (n : Int) (s : ByteArray) (w : World) : (binOp .neq 49 (.agg #[.int .i64 n, .string s]) (.agg #[.int .i64 n, .string s])).run Try.prog w = .ok (.bool false) w := by
  have u3 := Try.underlying3
  have u9 := Try.underlying9
  have hS : Try.prog.underlying 49 = some (.struct (Try.prog.fieldsOf 49)) := by kernel_rfl
  have hp : Try.prog.stoodInHeld 49 = false := by kernel_rfl
  rw [run_neq_struct, show (10000 : Nat) = 9999 + 1 from rfl, run_equalIn_agg w 9999 49 _ _ hS hp]
  simp only [Program.fieldsOf, Try.underlying49]
  go_simp
theorem pair_guard : Try.prog.eqGuardType Try.prog.depth 49 = false := by kernel_rfl

set_option maxRecDepth 100000 in
set_option maxHeartbeats 2000000 in
theorem kinds_in (w : World) (a : Option Addr) (cap : Nat) (ss : List ByteArray) (h2 : ss.length ≤ 60) (hrow : Row w a (ss.map fun s => Value.string s)) :
    Calls Try.prog 6 #[.slice a ss.length cap] w fun e w' => e = .returned (.bool true) ∧ Fr No w w' := by
  have HR := hid hrow
  clear hrow
  go_enter Try.func6, Try.ntmps6
  go_wp2_with fail
  refine (kp_New_ok w 64 (by omega) (by omega)).mono ?_; rintro e w1 ⟨p, c, rfl, hP, hF1, hp, hc⟩
  go_wp2_with fail
  refine (kq_New_ok w1 64 (by omega) (by omega)).mono ?_; rintro e w2 ⟨p2, c2, rfl, hQ, hF2, hp2, hc2⟩
  have hpz := hP.ltp
  have hcz := hP.ltc
  have hp2z := hQ.ltp
  have hc2z := hQ.ltc
  have hsz1 := hF1.size
  have hsz2 := hF2.size
  have HP := hid (hP.fr hF2 id id)
  have HQ := hid hQ
  have HF := hid (hF1.trans hF2)
  clear hP hQ hF1 hF2
  go_wp2_with fail
  go_loopg [7] ss.length (fun g i wr => ∃ (k : Nat) (bs : List Nat), k + g = ss.length ∧ i = .int .i64 k ∧ bs.length = k ∧ Hid (RP wr p c 64 ((prs ss k).map pv) false) ∧ Hid (RQ wr p2 c2 64 (bs.map ptr) false) ∧ Hid (Held wr w2.heap.size ss bs) ∧ Hid (Fr (fun k => k = c ∨ k = c2) w2 wr))
  case atStart => exact ⟨0, [], by omega, rfl, rfl, HP, HQ, (fun i hi => absurd hi (by simp)), Fr.refl _ w2⟩
  case round =>
    obtain ⟨k, bs, hk, rfl, hbl, HP, HQ, HH, HF2⟩ := hrel
    cases gk with
    | succ g =>
      have hkl : k < ss.length := by omega
      have HF0 := hid (HF.out.then HF2.out (fun i hi e => absurd hi (by rcases e with e | e <;> (subst e; omega))))
      obtain ⟨b, o, rfl, hb, hcell⟩ := HR.out.textAt k hkl
      have HX : Hid (prs ss (k + 1) = prs ss k ++ [((k : Int), ss[k])]) := by unfold Hid; rw [prs_succ]; simp [nth, List.getD_eq_getElem?_getD, hkl]
      have HY : Hid (ss.getD k default = ss[k]) := by unfold Hid; simp [List.getD_eq_getElem?_getD, hkl]
      obtain ⟨s, hs⟩ : ∃ s, ss[k] = s := ⟨_, rfl⟩
      rw [hs] at hcell HX HY
      clear hs
      have HCe := hid hcell
      clear hcell
      have cr := (HF0.out.cell (p := ⟨b, o + k, none⟩) hb id).trans HCe.out
      go_wp2_with fail
      refine (kp_PutOk wr p c 64 _ ((k : Int), s) HP.out (by rw [List.length_map, prs_len]; omega)).mono ?_; rintro e w3 ⟨rfl, hP3, hF3⟩
      have HP3 : Hid (RP w3 p c 64 ((prs ss (k + 1)).map pv) false) := by unfold Hid; rw [HX.out, List.map_append]; exact hP3
      have HF3 := hid (HF2.out.trans (hF3.mono (fun _ _ e => .inl e)))
      have HH3 := hid (HH.out.fr hF3 (fun k hk e => by omega))
      have HF03 := hid (HF0.out.then hF3 (fun i hi e => absurd hi (by subst e; omega)))
      have c3 := (HF03.out.cell (p := ⟨b, o + k, none⟩) hb id).trans HCe.out
      have HQ3 := hid (HQ.out.fr hF3 (by omega) (by omega))
      clear cr hP3 HP HQ
      go_wp2_with fail
      have hA := heap_new w3 (.cells #[.int .i64 (k : Int), .string s] 49)
      have hFA := (Fr.refl No w3).alloc (.cells #[.int .i64 (k : Int), .string s] 49)
      have hsz3 := HF3.out.size
      refine (kq_PutOk (w3.alloc (.cells #[.int .i64 (k : Int), .string s] 49)) p2 c2 64 _ (ptr w3.heap.size) (HQ3.out.fr hFA id id) (by rw [List.length_map]; omega)).mono ?_; rintro e w4 ⟨rfl, hQ4, hF4⟩
      have HF34 := hid ((hFA.mono (T := fun k => k = c2) (fun _ _ h => h.elim)).trans hF4)
      have HP4 := hid (HP3.out.fr HF34.out (by omega) (by omega))
      have HQ4 : Hid (RQ w4 p2 c2 64 ((bs ++ [w3.heap.size]).map ptr) false) := by unfold Hid; rw [List.map_append]; exact hQ4
      have HH4 : Hid (Held w4 w2.heap.size ss (bs ++ [w3.heap.size])) := by
        refine (HH3.out.fr HF34.out (fun k hk e => by omega)).push _ (by omega) ?_
        rw [hbl, HY.out]
        exact (hF4.block _ (by simp) (by omega)).trans hA
      have HF4 := hid (HF3.out.trans (HF34.out.mono (fun _ _ e => .inr e)))
      clear hQ4 hF4 hA hFA HF34 HH3 HQ3 HP3 c3
      go_wp2_with fail
      go_roundg g
      case measure => omega
      case rel => exact ⟨k + 1, bs ++ [w3.heap.size], by omega, by go_num, by simp [hbl], HP4, HQ4, HH4, HF4⟩
    | zero =>
      obtain rfl : k = ss.length := by omega
      have HPn : Hid (RP wr p c 64 ((prs ss ss.length).map pv) false) := HP
      have hlen := prs_len ss ss.length
      obtain ⟨xs, hxs⟩ : ∃ xs, prs ss ss.length = xs := ⟨_, rfl⟩
      have HXS := hid hxs
      rw [hxs] at HPn hlen
      clear hxs HP
      go_wp2_with fail
      refine (kp_Drain wr p c 64 xs HPn.out (by omega)).mono ?_; rintro e w5 ⟨v, rfl, hO5, hP5, hF5⟩
      rw [← HXS.out, prs_len] at hO5
      obtain ⟨av, cv, rfl, hcell5⟩ := own_pairs2 hO5
      have hszr := HF2.out.size
      have HC5 : Hid (∀ i, i < ss.length → ∃ g, av = some ⟨g, 0, none⟩ ∧ w2.heap.size ≤ g ∧ g < w5.heap.size ∧ w5.cell? ⟨g, i * 2, none⟩ = some (.int .i64 (i : Int)) ∧ w5.cell? ⟨g, i * 2 + 1, none⟩ = some (.string (ss.getD i default))) := fun i hi => let ⟨g, h1, h2, h3⟩ := hcell5 i hi; ⟨g, h1, by omega, h3⟩
      have HQ5 := hid (HQ.out.fr hF5 (by omega) (by omega))
      have HH5 := hid (HH.out.fr hF5 (fun k hk e => by omega))
      have HF05 := hid ((HF.out.then HF2.out (fun i hi e => absurd hi (by rcases e with e | e <;> (subst e; omega)))).then hF5 (fun i hi e => absurd hi (by subst e; omega)))
      have HL5 := hid (kq_Len w5 p2 c2 64 _ false HQ5.out)
      rw [List.length_map, hbl] at HL5
      clear hO5 hP5 hcell5 hF5 HPn HXS HH HQ HF HF2
      go_wp2_with fail
      refine HL5.out.mono ?_; rintro e w6 ⟨rfl, rfl⟩
      go_wp2_with fail
      have hsz6 := HF05.out.size
      clear hlen xs HP HQ HL5
      go_loopg [9] ss.length (fun g i wr => ∃ (k : Nat), k + g = ss.length ∧ i = .int .i64 k ∧ Hid (RQ wr p2 c2 64 ((bs.drop k).map ptr) false) ∧ Hid (Fr (fun k => k = c2) w6 wr))
      case atStart => exact ⟨0, by omega, rfl, HQ5, Fr.refl _ w6⟩
      case round =>
        obtain ⟨k, hk, rfl, HQ, HF⟩ := hrel
        have HF0 := hid (HF05.out.then HF.out (fun i hi e => absurd hi (by subst e; omega)))
        cases gk with
        | succ g =>
          have hkl : k < ss.length := by omega
          obtain ⟨bk, hbk⟩ : ∃ y, bs[k]'(by omega) = y := ⟨_, rfl⟩
          have HQD : Hid (RQ wr p2 c2 64 (ptr bk :: (bs.drop (k + 1)).map ptr) false) := by unfold Hid; rw [← hbk, ← List.map_cons, ← List.drop_eq_getElem_cons (by omega)]; exact HQ.out
          have hH := HH5.out k (by omega)
          rw [hbk] at hH
          clear hbk HQ
          obtain ⟨b, o, rfl, hb, hcell⟩ := HR.out.textAt k hkl
          obtain ⟨ga, rfl, hga, hgaz, ca0, ca1⟩ := HC5.out k hkl
          have hY : ss.getD k default = ss[k] := by simp [List.getD_eq_getElem?_getD, hkl]
          rw [hY] at hH ca1
          obtain ⟨s, hs⟩ : ∃ s, ss[k] = s := ⟨_, rfl⟩
          rw [hs] at hcell hH ca1
          clear hs hY
          have HCe := hid hcell
          have HHe := hid hH
          have HA0 := hid ca0
          have HA1 := hid ca1
          clear hcell hH ca0 ca1
          go_wp2_with fail
          refine (kq_Take1 wr p2 c2 64 (ptr bk) _ false HQD.out).mono ?_; rintro e w7 ⟨rfl, hQ7, hF7⟩
          have HQ7 := hid hQ7
          have HF7 := hid (HF.out.trans hF7)
          have HF07 := hid (HF0.out.then hF7 (fun i hi e => absurd hi (by subst e; omega)))
          have cl := (HF07.out.cell (p := ⟨b, o + k, none⟩) hb id).trans HCe.out
          have cp := (HF7.out.block bk (lt_of_block HHe.out.2) (fun e => by have h1 := HHe.out.1; have e : bk = c2 := e; omega)).trans HHe.out.2
          have cp0 := cell_blk cp 0
          have cp1 := cell_blk cp 1
          have ca0 := (HF7.out.cell (p := ⟨ga, k * 2, none⟩) hgaz (fun e => by have e : ga = c2 := e; omega)).trans HA0.out
          have ca1 := (HF7.out.cell (p := ⟨ga, k * 2 + 1, none⟩) hgaz (fun e => by have e : ga = c2 := e; omega)).trans HA1.out
          simp only [List.getElem?_toArray, List.getElem?_cons_zero, List.getElem?_cons_succ] at cp0 cp1
          have hne := pair_neq (k : Int) s
          have hgu := pair_guard
          clear hQ7 hF7 HQD
          unfold ptr
          go_wp2_with fail
          go_region
          go_wp2_with fail
          go_roundg g
          case measure => omega
          case rel => exact ⟨k + 1, by omega, by go_num, HQ7.out.fr (Fr.refl No w7).drew id id, HF7.out.drew⟩
        | zero =>
          obtain rfl : k = ss.length := by omega
          rw [List.drop_eq_nil_of_le (by omega), List.map_nil] at HQ
          have hT := hid (kq_Take0 wr p2 c2 64 false HQ.out)
          have HAw := hid (fun W => rg_awake W)
          go_wp2_with fail
          refine hT.out.mono ?_; rintro e w7 ⟨rfl, hQ7, hF7⟩
          have HF07 := hid (HF0.out.then hF7 (fun i hi e => absurd hi (by subst e; omega)))
          clear hQ7 hF7
          go_wp2_with fail
          refine (HAw.out w7).mono ?_; rintro e w8 ⟨rfl, hF8⟩
          go_wp2_with fail
          go_ret
          exact ⟨rfl, HF07.out.trans hF8⟩
set_option maxRecDepth 100000 in
theorem kinds_long (w : World) (a : Option Addr) (n cap : Nat) (h : 60 < n) :
    Calls Try.prog 6 #[.slice a n cap] w fun e w' => e = .returned (.bool true) ∧ Fr No w w' := by
  have HAw := hid (rg_awake w)
  go_enter Try.func6, Try.ntmps6
  go_wp2_with (refine HAw.out.mono ?_; rintro e w6 ⟨rfl, hF6⟩)
  go_ret
  exact ⟨rfl, hF6⟩
theorem law_RingKinds (w : World) (r : TRow) (hr : r.Ok w) :
    Calls Try.prog 6 #[r.v] w fun e w' => e = .returned (.bool true) ∧ Fr No w w' := by
  by_cases h : 60 < r.ss.length
  · exact kinds_long w r.a r.ss.length r.cap h
  · exact kinds_in w r.a r.cap r.ss (by omega) hr
end Go.Proofs.Ytndljmkdgakfcaa
