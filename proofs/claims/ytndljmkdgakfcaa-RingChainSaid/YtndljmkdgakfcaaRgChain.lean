/- The law RingChain. -/
import Derived.Test.YtndljmkdgakfcaaRgSep
namespace Go.Proofs.Ytndljmkdgakfcaa
open Go.RowKit

def Lg (ma mb k : Nat) (la lb P G : List Int) : Prop := P = G ++ lb ++ la ∧ la.length ≤ ma ∧ lb.length ≤ mb ∧ P.length ≤ k
theorem map_snoc (l : List Int) (x : Int) : l.map iv ++ [iv x] = (l ++ [x]).map iv := by rw [List.map_append]; rfl
theorem chain_ph (w1 w2 : World) (pa ca ma pb cb mb : Nat) (w0 : World) (ha : Rg w1 pa ca ma [] false) (hb : Rg w2 pb cb mb [] false) (f : Fr No w1 w2) (h1 : w1.heap.size ≤ pb) (h2 : w1.heap.size ≤ cb) : Ph w2 w2.heap.size pa ca ma pb cb mb [] [] (.slice none 0 0) (.slice none 0 0) [] [] ∧ Ds w2.heap.size pa ca pb cb :=
  ⟨⟨ha.fr f id id, hb, own_nil _ _ _, own_nil _ _ _, Sep.nil _, Nat.le_refl _⟩, ⟨(ha.fr f id id).ltp, (ha.fr f id id).ltc, hb.ltp, hb.ltc, by have := ha.ltc; omega, by have := ha.ltc; omega, by have := ha.ltp; omega⟩⟩

set_option maxRecDepth 100000 in
set_option maxHeartbeats 8000000 in
theorem chain_in (w : World) (a : Option Addr) (cap : Nat) (xs : List Int) (hx : xs.length ≤ 200) (hrow : Row w a (xs.map iv)) (n : Int) (hn : 1 ≤ n) (ma mb : Nat) (hma1 : 1 ≤ ma) (hma : ma ≤ 1024) (hmb1 : 1 ≤ mb) (hmb : mb ≤ 1024) :
    Calls Try.prog 8 #[.slice a xs.length cap, .int .i64 n, .agg #[.int .i64 ma, .int .i64 mb]] w fun e w' => e = .returned (.bool true) ∧ Fr No w w' := by
  obtain ⟨i0, hi, hz0, hz1, hz2⟩ := info_parts int_info
  have HR := hid hrow
  clear hrow
  have hbx := heap_new w (.cells #[.int .i64 ma, .int .i64 mb] 63)
  have hb0 := cell_blk hbx 0
  have hb1 := cell_blk hbx 1
  simp only [List.getElem?_toArray, List.getElem?_cons_zero, List.getElem?_cons_succ] at hb0 hb1
  have hbz := lt_of_block hbx
  have HB1 := hid hb1
  go_enter Try.func8, Try.ntmps8
  go_wp2_with fail
  refine (rg_New_ok _ ma hma1 hma).mono ?_; rintro e w1 ⟨pa, ca, rfl, hA, hF1, hpa, hca⟩
  have hb1' := (hF1.cell (p := ⟨w.heap.size, 1, none⟩) hbz id).trans HB1.out
  have HF1 := hid (((Fr.refl No w).alloc (.cells #[.int .i64 ma, .int .i64 mb] 63)).trans hF1)
  clear hb0 hb1 hbx HB1 hbz
  go_wp2_with fail
  refine (rg_New_ok _ mb hmb1 hmb).mono ?_; rintro e w2 ⟨pb, cb, rfl, hB, hF2, hpb, hcb⟩
  obtain ⟨hPh, hD⟩ := chain_ph w1 w2 pa ca ma pb cb mb w hA hB hF2 hpb hcb
  have HPh := hid hPh
  have HD := hid hD
  have HF2 := hid (HF1.out.trans hF2)
  have HR2 := hid (HR.out.no HF2.out)
  have hB0 : w.heap.size ≤ w2.heap.size := HF2.out.size
  have hca' : w.heap.size ≤ ca := by have h1 := hca; simp at h1; omega
  have hcb' : w.heap.size ≤ cb := by have h1 := HF1.out.size; omega
  obtain ⟨B, hBe⟩ : ∃ B, w2.heap.size = B := ⟨_, rfl⟩
  rw [hBe] at HPh HD hB0
  clear hPh hD hF1 hF2 hA hB hBe hb1' hpa hca hpb hcb HF1
  have HL0 : Hid (Lg ma mb 0 [] [] [] []) := ⟨rfl, by simp, by simp, by simp⟩
  go_wp2_with fail
  go_loopg [11, 12, 13] xs.length (fun g vp vg i wr => ∃ (k : Nat) (vp' vg' : Value) (P G la lb : List Int), k + g = xs.length ∧ i = .int .i64 k ∧ vp' = vp ∧ vg' = vg ∧ Hid (Ph wr B pa ca ma pb cb mb la lb vp' vg' P G) ∧ Hid (Lg ma mb k la lb P G) ∧ Hid (Fr No w wr))
  case atStart => exact ⟨0, _, _, [], [], [], [], by omega, rfl, rfl, rfl, HPh, HL0, HF2⟩
  case round =>
    obtain ⟨k, vp, vg, P, G, la, lb, hk, rfl, rfl, rfl, HP, HL, HF⟩ := hrel
    clear HPh HL0 HF2
    cases gk with
    | succ g =>
      have hkl : k < xs.length := by omega
      obtain ⟨b, o, rfl, hb, hcell⟩ := HR.out.intAt k hkl
      have hcc := (HF.out.cell (p := ⟨b, o + k, none⟩) hb id).trans hcell
      obtain ⟨x, hxx⟩ : ∃ x, xs[k] = x := ⟨_, rfl⟩
      rw [hxx] at hcc hcell
      have HC := hid hcell
      clear hxx hcell
      by_cases hr : la.length < ma
      · have hPl : P.length ≤ 200 := by have := HL.out.2.2.2; omega
        go_wp2_with (first
          | (refine (rg_PutOk wr pa ca ma _ (.int .i64 x) HP.out.a (by rw [List.length_map]; exact hr)).mono ?_; rintro e w3 ⟨rfl, hG3, hF3⟩; rw [show Value.int .i64 x = iv x from rfl, map_snoc] at hG3; have HP3 := hid (HP.out.setA HD.out hF3 hG3); have HF3 := hid (HF.out.then hF3 (fun i hi e => absurd hi (by subst e; omega))); have hcc2 := (HF3.out.cell (p := ⟨b, o + k, none⟩) hb id).trans HC.out; have hsz := HP3.out.z; clear hG3 hF3)
          | (at_builtin; (refine wpList_append_own_at _ rfl (.tmp 84) (.tmp 89) 29 rfl B 3 i0 (.int .i64 0) 1 8 Try.underlying29 hi hz0 hz1 hz2 rfl (by decide) vp P.length _ rfl (HP3.out.p.alloc _) ⟨w3.heap.size, 0, none⟩ 1 1 [.int .i64 x] rfl rfl (cell_one_new _ _ _) (by simp [Value.oneCell']) (by unfold maxLen; omega) (by omega) (by simp; omega) ?_); intro v' w4 hown' hgrow _ hat))
        rw [show Value.int .i64 x = iv x from rfl, map_snoc] at hown'
        have hgf := grown_fr hgrow
        have HP' := hid (HP3.out.appP HD.out hgf (z := (w3.alloc (.cells #[.int .i64 x] 3)).heap.size) (by simp) (P' := P ++ [x]) (by rw [List.length_append]; exact hown') hat)
        have HF' := hid (HP3.out.frP HF3.out hB0 hgf)
        have HL' : Hid (Lg ma mb (k + 1) (la ++ [x]) lb (P ++ [x]) G) := by
          obtain ⟨h1, h2, h3, h4⟩ := HL.out
          exact ⟨by rw [h1]; simp, by simp; omega, h3, by simp; omega⟩
        clear hown' hgrow hat hgf HP3 HF3 HP HL HF hcc hcc2
        go_loopg [12, 14] 10 (fun g vg2 j wr2 => ∃ (jn : Nat) (vg' : Value) (G' la' lb' : List Int), jn + g = 10 ∧ j = .int .i64 jn ∧ vg' = vg2 ∧ Hid (Ph wr2 B pa ca ma pb cb mb la' lb' v' vg' (P ++ [x]) G') ∧ Hid (Lg ma mb (k + 1) la' lb' (P ++ [x]) G') ∧ Hid (Fr No w wr2))
        case atStart => exact ⟨0, _, G, la ++ [x], lb, by omega, rfl, rfl, HP', HL', HF'⟩
        case round =>
          obtain ⟨jn, vg2, G2, la2, lb2, hj, rfl, rfl, HP2, HL2, HF2⟩ := hrel
          clear HP' HL' HF'
          have hGl : G2.length ≤ 201 := by
            obtain ⟨h1, _, _, h4⟩ := HL2.out
            rw [h1] at h4; simp at h4; omega
          cases gk with
          | zero =>
            obtain rfl : jn = 10 := by omega
            by_cases hjn : ((10 : Nat) : Int) < n
            all_goals
              go_wp2_with fail
              go_roundg g
              case measure => omega
              case rel => exact ⟨k + 1, _, _, P ++ [x], G2, la2, lb2, by omega, by go_num, rfl, rfl, HP2, HL2, HF2⟩
          | succ g2 =>
            by_cases hjn : (jn : Int) < n
            · have hj10 : (jn : Int) < 10 := by omega
              by_cases hfull : lb2.length = mb
              · cases lb2 with
                | nil => exact absurd hfull (by simp; omega)
                | cons y lb3 =>
                  go_wp2_with fail
                  refine (rg_RoomFull wr pb cb mb _ HP2.out.b (by rw [List.length_map]; exact hfull) hmb).mono ?_; rintro e w5 ⟨rfl, _, hF5⟩
                  have HP5 := hid (HP2.out.no hF5)
                  have HF5 := hid (HF2.out.trans hF5)
                  have hTb := HP5.out.b
                  rw [List.map_cons] at hTb
                  have HT := hid (rg_Take1 w5 pb cb mb _ _ false hTb)
                  rw [show iv y = Value.int .i64 y from rfl] at HT
                  clear hTb hF5
                  go_wp2_with fail
                  refine HT.out.mono ?_; rintro e w6 ⟨rfl, hG6, hF6⟩
                  have HP6 := hid (HP5.out.setB HD.out hF6 hG6)
                  have HF6 := hid (HF5.out.then hF6 (fun i hi e => absurd hi (by subst e; omega)))
                  have hsz6 := HP6.out.z
                  clear hG6 hF6 HT
                  go_wp2_with (at_builtin; (refine wpList_append_own_at _ rfl (.tmp 110) (.tmp 112) 29 rfl B 3 i0 (.int .i64 0) 1 8 Try.underlying29 hi hz0 hz1 hz2 rfl (by decide) vg2 G2.length _ rfl (HP6.out.g.alloc _) ⟨w6.heap.size, 0, none⟩ 1 1 [.int .i64 y] rfl rfl (cell_one_new _ _ _) (by simp [Value.oneCell']) (by unfold maxLen; omega) (by omega) (by simp; omega) ?_); intro v7 w7 hown7 hgrow7 _ hat7)
                  rw [show Value.int .i64 y = iv y from rfl, map_snoc] at hown7
                  have hgf7 := grown_fr hgrow7
                  have HP7 := hid (HP6.out.appG HD.out hgf7 (z := (w6.alloc (.cells #[.int .i64 y] 3)).heap.size) (by simp) (G' := G2 ++ [y]) (by rw [List.length_append]; exact hown7) hat7)
                  have HF7 := hid (HP6.out.frG HF6.out hB0 hgf7)
                  have HLB : lb3.length < mb := by simp at hfull; omega
                  have HL7 : Hid (Lg ma mb (k + 1) la2 lb3 (P ++ [x]) (G2 ++ [y])) := by
                    obtain ⟨h1, h2, h3, h4⟩ := HL2.out
                    exact ⟨by rw [h1]; simp, h2, by omega, h4⟩
                  clear hown7 hgrow7 hat7 hgf7 HP6 HF6 HP5 HF5 HP2 HF2 HL2 hfull
                  cases la2 with
                  | nil =>
                    have HT0 := hid (rg_Take0 w7 pa ca ma false HP7.out.a)
                    go_wp2_with fail
                    refine HT0.out.mono ?_; rintro e w8 ⟨rfl, hG8, hF8⟩
                    go_wp2_with fail
                    (have HP8 := hid (HP7.out.setA (la' := []) HD.out hF8 hG8); have HF8 := hid (HF7.out.then hF8 (fun i hi e => absurd hi (by subst e; omega))); clear hG8 hF8 HT0)
                    go_roundg g
                    case measure => omega
                    case rel => exact ⟨k + 1, _, _, P ++ [x], G2 ++ [y], [], lb3, by omega, by go_num, rfl, rfl, HP8, HL7, HF8⟩
                  | cons z la3 =>
                    have hTa := HP7.out.a
                    rw [List.map_cons] at hTa
                    have HT1 := hid (rg_Take1 w7 pa ca ma _ _ false hTa)
                    rw [show iv z = Value.int .i64 z from rfl] at HT1
                    clear hTa
                    go_wp2_with fail
                    refine HT1.out.mono ?_; rintro e w8 ⟨rfl, hG8, hF8⟩
                    go_wp2_with fail
                    (have HP8 := hid (HP7.out.setA HD.out hF8 hG8); have HF8 := hid (HF7.out.then hF8 (fun i hi e => absurd hi (by subst e; omega))); clear hG8 hF8 HT1)
                    refine (rg_PutOk w8 pb cb mb _ (.int .i64 z) HP8.out.b (by rw [List.length_map]; exact HLB)).mono ?_; rintro e w9 ⟨rfl, hG9, hF9⟩
                    rw [show Value.int .i64 z = iv z from rfl, map_snoc] at hG9
                    have HP9 := hid (HP8.out.setB HD.out hF9 hG9)
                    have HF9 := hid (HF8.out.then hF9 (fun i hi e => absurd hi (by subst e; omega)))
                    have HL9 : Hid (Lg ma mb (k + 1) la3 (lb3 ++ [z]) (P ++ [x]) (G2 ++ [y])) := by
                      obtain ⟨h1, h2, h3, h4⟩ := HL7.out
                      exact ⟨by rw [h1]; simp, by simp at h2; omega, by have := HLB; simp; omega, h4⟩
                    clear hG9 hF9 HP8 HF8
                    go_wp2_with fail
                    go_roundg g2
                    case measure => omega
                    case rel => exact ⟨jn + 1, _, G2 ++ [y], la3, lb3 ++ [z], by omega, by go_num, rfl, HP9, HL9, HF9⟩
              · have HLB : lb2.length < mb := by have := HL2.out.2.2.1; omega
                go_wp2_with fail
                refine (rg_RoomSome wr pb cb mb _ HP2.out.b (by rw [List.length_map]; exact HLB) hmb).mono ?_; rintro e w5 ⟨r, rfl, hF5⟩
                have hr0 : ¬ ((r : Int) + 1 = 0) := by omega
                have HP5 := hid (HP2.out.no hF5)
                have HF5 := hid (HF2.out.trans hF5)
                clear hF5 HP2 HF2 hfull
                cases la2 with
                | nil =>
                  have HT0 := hid (rg_Take0 w5 pa ca ma false HP5.out.a)
                  go_wp2_with fail
                  refine HT0.out.mono ?_; rintro e w8 ⟨rfl, hG8, hF8⟩
                  go_wp2_with fail
                  (have HP8 := hid (HP5.out.setA (la' := []) HD.out hF8 hG8); have HF8 := hid (HF5.out.then hF8 (fun i hi e => absurd hi (by subst e; omega))); clear hG8 hF8 HT0)
                  go_roundg g
                  case measure => omega
                  case rel => exact ⟨k + 1, _, _, P ++ [x], G2, [], lb2, by omega, by go_num, rfl, rfl, HP8, HL2, HF8⟩
                | cons z la3 =>
                  have hTa := HP5.out.a
                  rw [List.map_cons] at hTa
                  have HT1 := hid (rg_Take1 w5 pa ca ma _ _ false hTa)
                  rw [show iv z = Value.int .i64 z from rfl] at HT1
                  clear hTa
                  go_wp2_with fail
                  refine HT1.out.mono ?_; rintro e w8 ⟨rfl, hG8, hF8⟩
                  go_wp2_with fail
                  (have HP8 := hid (HP5.out.setA HD.out hF8 hG8); have HF8 := hid (HF5.out.then hF8 (fun i hi e => absurd hi (by subst e; omega))); clear hG8 hF8 HT1)
                  refine (rg_PutOk w8 pb cb mb _ (.int .i64 z) HP8.out.b (by rw [List.length_map]; exact HLB)).mono ?_; rintro e w9 ⟨rfl, hG9, hF9⟩
                  rw [show Value.int .i64 z = iv z from rfl, map_snoc] at hG9
                  have HP9 := hid (HP8.out.setB HD.out hF9 hG9)
                  have HF9 := hid (HF8.out.then hF9 (fun i hi e => absurd hi (by subst e; omega)))
                  have HL9 : Hid (Lg ma mb (k + 1) la3 (lb2 ++ [z]) (P ++ [x]) (G2)) := by
                    obtain ⟨h1, h2, h3, h4⟩ := HL2.out
                    exact ⟨by rw [h1]; simp, by simp at h2; omega, by have := HLB; simp; omega, h4⟩
                  clear hG9 hF9 HP8 HF8
                  go_wp2_with fail
                  go_roundg g2
                  case measure => omega
                  case rel => exact ⟨jn + 1, _, G2, la3, lb2 ++ [z], by omega, by go_num, rfl, HP9, HL9, HF9⟩
            · go_wp2_with fail
              go_roundg g
              case measure => omega
              case rel => exact ⟨k + 1, _, _, P ++ [x], G2, la2, lb2, by omega, by go_num, rfl, rfl, HP2, HL2, HF2⟩
      · go_wp2_with (refine (rg_PutFull wr pa ca ma _ (.int .i64 x) HP.out.a (by rw [List.length_map]; omega)).mono ?_; rintro e w3 ⟨rfl, hG3, hF3⟩; have HP' := hid (HP.out.setA HD.out hF3 hG3); have HF' := hid (HF.out.then hF3 (fun i hi e => absurd hi (by subst e; omega))); clear hG3 hF3)
        have HL' : Hid (Lg ma mb (k + 1) la lb P G) := by
          obtain ⟨h1, h2, h3, h4⟩ := HL.out
          exact ⟨h1, h2, h3, by omega⟩
        clear HP HL HF hcc
        go_loopg [12, 14] 10 (fun g vg2 j wr2 => ∃ (jn : Nat) (vg' : Value) (G' la' lb' : List Int), jn + g = 10 ∧ j = .int .i64 jn ∧ vg' = vg2 ∧ Hid (Ph wr2 B pa ca ma pb cb mb la' lb' vp vg' (P) G') ∧ Hid (Lg ma mb (k + 1) la' lb' (P) G') ∧ Hid (Fr No w wr2))
        case atStart => exact ⟨0, _, G, la, lb, by omega, rfl, rfl, HP', HL', HF'⟩
        case round =>
          obtain ⟨jn, vg2, G2, la2, lb2, hj, rfl, rfl, HP2, HL2, HF2⟩ := hrel
          clear HP' HL' HF'
          have hGl : G2.length ≤ 201 := by
            obtain ⟨h1, _, _, h4⟩ := HL2.out
            rw [h1] at h4; simp at h4; omega
          cases gk with
          | zero =>
            obtain rfl : jn = 10 := by omega
            by_cases hjn : ((10 : Nat) : Int) < n
            all_goals
              go_wp2_with fail
              go_roundg g
              case measure => omega
              case rel => exact ⟨k + 1, _, _, P, G2, la2, lb2, by omega, by go_num, rfl, rfl, HP2, HL2, HF2⟩
          | succ g2 =>
            by_cases hjn : (jn : Int) < n
            · have hj10 : (jn : Int) < 10 := by omega
              by_cases hfull : lb2.length = mb
              · cases lb2 with
                | nil => exact absurd hfull (by simp; omega)
                | cons y lb3 =>
                  go_wp2_with fail
                  refine (rg_RoomFull wr pb cb mb _ HP2.out.b (by rw [List.length_map]; exact hfull) hmb).mono ?_; rintro e w5 ⟨rfl, _, hF5⟩
                  have HP5 := hid (HP2.out.no hF5)
                  have HF5 := hid (HF2.out.trans hF5)
                  have hTb := HP5.out.b
                  rw [List.map_cons] at hTb
                  have HT := hid (rg_Take1 w5 pb cb mb _ _ false hTb)
                  rw [show iv y = Value.int .i64 y from rfl] at HT
                  clear hTb hF5
                  go_wp2_with fail
                  refine HT.out.mono ?_; rintro e w6 ⟨rfl, hG6, hF6⟩
                  have HP6 := hid (HP5.out.setB HD.out hF6 hG6)
                  have HF6 := hid (HF5.out.then hF6 (fun i hi e => absurd hi (by subst e; omega)))
                  have hsz6 := HP6.out.z
                  clear hG6 hF6 HT
                  go_wp2_with (at_builtin; (refine wpList_append_own_at _ rfl (.tmp 110) (.tmp 112) 29 rfl B 3 i0 (.int .i64 0) 1 8 Try.underlying29 hi hz0 hz1 hz2 rfl (by decide) vg2 G2.length _ rfl (HP6.out.g.alloc _) ⟨w6.heap.size, 0, none⟩ 1 1 [.int .i64 y] rfl rfl (cell_one_new _ _ _) (by simp [Value.oneCell']) (by unfold maxLen; omega) (by omega) (by simp; omega) ?_); intro v7 w7 hown7 hgrow7 _ hat7)
                  rw [show Value.int .i64 y = iv y from rfl, map_snoc] at hown7
                  have hgf7 := grown_fr hgrow7
                  have HP7 := hid (HP6.out.appG HD.out hgf7 (z := (w6.alloc (.cells #[.int .i64 y] 3)).heap.size) (by simp) (G' := G2 ++ [y]) (by rw [List.length_append]; exact hown7) hat7)
                  have HF7 := hid (HP6.out.frG HF6.out hB0 hgf7)
                  have HLB : lb3.length < mb := by simp at hfull; omega
                  have HL7 : Hid (Lg ma mb (k + 1) la2 lb3 (P) (G2 ++ [y])) := by
                    obtain ⟨h1, h2, h3, h4⟩ := HL2.out
                    exact ⟨by rw [h1]; simp, h2, by omega, h4⟩
                  clear hown7 hgrow7 hat7 hgf7 HP6 HF6 HP5 HF5 HP2 HF2 HL2 hfull
                  cases la2 with
                  | nil =>
                    have HT0 := hid (rg_Take0 w7 pa ca ma false HP7.out.a)
                    go_wp2_with fail
                    refine HT0.out.mono ?_; rintro e w8 ⟨rfl, hG8, hF8⟩
                    go_wp2_with fail
                    (have HP8 := hid (HP7.out.setA (la' := []) HD.out hF8 hG8); have HF8 := hid (HF7.out.then hF8 (fun i hi e => absurd hi (by subst e; omega))); clear hG8 hF8 HT0)
                    go_roundg g
                    case measure => omega
                    case rel => exact ⟨k + 1, _, _, P, G2 ++ [y], [], lb3, by omega, by go_num, rfl, rfl, HP8, HL7, HF8⟩
                  | cons z la3 =>
                    have hTa := HP7.out.a
                    rw [List.map_cons] at hTa
                    have HT1 := hid (rg_Take1 w7 pa ca ma _ _ false hTa)
                    rw [show iv z = Value.int .i64 z from rfl] at HT1
                    clear hTa
                    go_wp2_with fail
                    refine HT1.out.mono ?_; rintro e w8 ⟨rfl, hG8, hF8⟩
                    go_wp2_with fail
                    (have HP8 := hid (HP7.out.setA HD.out hF8 hG8); have HF8 := hid (HF7.out.then hF8 (fun i hi e => absurd hi (by subst e; omega))); clear hG8 hF8 HT1)
                    refine (rg_PutOk w8 pb cb mb _ (.int .i64 z) HP8.out.b (by rw [List.length_map]; exact HLB)).mono ?_; rintro e w9 ⟨rfl, hG9, hF9⟩
                    rw [show Value.int .i64 z = iv z from rfl, map_snoc] at hG9
                    have HP9 := hid (HP8.out.setB HD.out hF9 hG9)
                    have HF9 := hid (HF8.out.then hF9 (fun i hi e => absurd hi (by subst e; omega)))
                    have HL9 : Hid (Lg ma mb (k + 1) la3 (lb3 ++ [z]) (P) (G2 ++ [y])) := by
                      obtain ⟨h1, h2, h3, h4⟩ := HL7.out
                      exact ⟨by rw [h1]; simp, by simp at h2; omega, by have := HLB; simp; omega, h4⟩
                    clear hG9 hF9 HP8 HF8
                    go_wp2_with fail
                    go_roundg g2
                    case measure => omega
                    case rel => exact ⟨jn + 1, _, G2 ++ [y], la3, lb3 ++ [z], by omega, by go_num, rfl, HP9, HL9, HF9⟩
              · have HLB : lb2.length < mb := by have := HL2.out.2.2.1; omega
                go_wp2_with fail
                refine (rg_RoomSome wr pb cb mb _ HP2.out.b (by rw [List.length_map]; exact HLB) hmb).mono ?_; rintro e w5 ⟨r, rfl, hF5⟩
                have hr0 : ¬ ((r : Int) + 1 = 0) := by omega
                have HP5 := hid (HP2.out.no hF5)
                have HF5 := hid (HF2.out.trans hF5)
                clear hF5 HP2 HF2 hfull
                cases la2 with
                | nil =>
                  have HT0 := hid (rg_Take0 w5 pa ca ma false HP5.out.a)
                  go_wp2_with fail
                  refine HT0.out.mono ?_; rintro e w8 ⟨rfl, hG8, hF8⟩
                  go_wp2_with fail
                  (have HP8 := hid (HP5.out.setA (la' := []) HD.out hF8 hG8); have HF8 := hid (HF5.out.then hF8 (fun i hi e => absurd hi (by subst e; omega))); clear hG8 hF8 HT0)
                  go_roundg g
                  case measure => omega
                  case rel => exact ⟨k + 1, _, _, P, G2, [], lb2, by omega, by go_num, rfl, rfl, HP8, HL2, HF8⟩
                | cons z la3 =>
                  have hTa := HP5.out.a
                  rw [List.map_cons] at hTa
                  have HT1 := hid (rg_Take1 w5 pa ca ma _ _ false hTa)
                  rw [show iv z = Value.int .i64 z from rfl] at HT1
                  clear hTa
                  go_wp2_with fail
                  refine HT1.out.mono ?_; rintro e w8 ⟨rfl, hG8, hF8⟩
                  go_wp2_with fail
                  (have HP8 := hid (HP5.out.setA HD.out hF8 hG8); have HF8 := hid (HF5.out.then hF8 (fun i hi e => absurd hi (by subst e; omega))); clear hG8 hF8 HT1)
                  refine (rg_PutOk w8 pb cb mb _ (.int .i64 z) HP8.out.b (by rw [List.length_map]; exact HLB)).mono ?_; rintro e w9 ⟨rfl, hG9, hF9⟩
                  rw [show Value.int .i64 z = iv z from rfl, map_snoc] at hG9
                  have HP9 := hid (HP8.out.setB HD.out hF9 hG9)
                  have HF9 := hid (HF8.out.then hF9 (fun i hi e => absurd hi (by subst e; omega)))
                  have HL9 : Hid (Lg ma mb (k + 1) la3 (lb2 ++ [z]) (P) (G2)) := by
                    obtain ⟨h1, h2, h3, h4⟩ := HL2.out
                    exact ⟨by rw [h1]; simp, by simp at h2; omega, by have := HLB; simp; omega, h4⟩
                  clear hG9 hF9 HP8 HF8
                  go_wp2_with fail
                  go_roundg g2
                  case measure => omega
                  case rel => exact ⟨jn + 1, _, G2, la3, lb2 ++ [z], by omega, by go_num, rfl, HP9, HL9, HF9⟩
            · go_wp2_with fail
              go_roundg g
              case measure => omega
              case rel => exact ⟨k + 1, _, _, P, G2, la2, lb2, by omega, by go_num, rfl, rfl, HP2, HL2, HF2⟩
    | zero =>
      obtain rfl : k = xs.length := by omega
      obtain ⟨rfl, hla, hlb, hPl⟩ := HL.out
      simp only [List.length_append] at hPl
      clear HL
      go_wp2_with fail
      refine (rg_Drain wr pb cb mb lb false HP.out.b (by omega)).mono ?_; rintro e w3 ⟨v1, rfl, hO1, hG3, hF3⟩
      have HP3 := hid (HP.out.setB (lb' := []) HD.out hF3 hG3)
      have HF3 := hid (HF.out.then hF3 (fun i hi e => absurd hi (by subst e; omega)))
      have HO1 := hid hO1
      have HP3g := hid HP3.out.g
      clear hO1 hG3 hF3
      go_wp2_with (at_builtin; refine wpList_append_drained rfl (.tmp 125) (.tmp 127) 29 rfl B 3 i0 (.int .i64 0) 8 Try.underlying29 hi hz0 hz1 hz2 rfl vg G.length _ rfl HP3.out.g wr.heap.size v1 lb.length _ rfl HO1.out (fun u hu => by obtain ⟨z, _, rfl⟩ := List.mem_map.1 hu; rfl) (by unfold maxLen; omega) (by omega) HP3.out.z ?_; intro v4 w4 hown4 hf4 hat4)
      rw [← List.map_append] at hown4
      have HP4 := hid (HP3.out.appG HD.out hf4 (Nat.le_refl _) (G' := G ++ lb) (by rw [List.length_append]; exact hown4) hat4)
      have HF4 := hid (HP3.out.frG HF3.out hB0 hf4)
      clear hown4 hf4 hat4
      refine (rg_Drain w4 pa ca ma la false HP4.out.a (by omega)).mono ?_; rintro e w5 ⟨v5, rfl, hO5, hG5, hF5⟩
      have HP5 := hid (HP4.out.setA (la' := []) HD.out hF5 hG5)
      have HF5 := hid (HF4.out.then hF5 (fun i hi e => absurd hi (by subst e; omega)))
      have HO5 := hid hO5
      clear hO5 hG5 hF5
      go_wp2_with (at_builtin; refine wpList_append_drained rfl (.tmp 129) (.tmp 131) 29 rfl B 3 i0 (.int .i64 0) 8 Try.underlying29 hi hz0 hz1 hz2 rfl v4 (G ++ lb).length _ rfl HP5.out.g w4.heap.size v5 la.length _ rfl HO5.out (fun u hu => by obtain ⟨z, _, rfl⟩ := List.mem_map.1 hu; rfl) (by unfold maxLen; simp; omega) (by simp; omega) HP5.out.z ?_; intro v6 w6 hown6 hf6 hat6)
      rw [← List.map_append] at hown6
      have HP6 := hid (HP5.out.appG HD.out hf6 (Nat.le_refl _) (G' := G ++ lb ++ la) (by rw [List.length_append]; exact hown6) hat6)
      have HF6 := hid (HP5.out.frG HF5.out hB0 hf6)
      clear hown6 hf6 hat6 HP3 HP4 HP5 HF3 HF4 HF5 HO1 HO5 HP HF HP3g
      obtain ⟨ag, cg, rfl, hrg⟩ := own_row HP6.out.g
      obtain ⟨ap, cp, rfl, hrp⟩ := own_row HP6.out.p
      have HI := hid (ints_same w6 ag ap cg cp (G ++ lb ++ la) (by simp; omega) hrg hrp)
      clear hrg hrp
      go_wp2_with fail
      refine HI.out.mono ?_; rintro e w7 ⟨rfl, hF7⟩
      have HA7 := hid (HP6.out.no hF7).a
      have HB7 := hid (HP6.out.no hF7).b
      go_wp2_with fail
      refine (rg_Len w7 pa ca ma [] false HA7.out).mono ?_; rintro e w8 ⟨rfl, rfl⟩
      go_wp2_with fail
      refine (rg_Len _ pb cb mb [] false HB7.out).mono ?_; rintro e w8 ⟨rfl, rfl⟩
      go_wp2_with fail
      refine (rg_awake _).mono ?_; rintro e w9 ⟨rfl, hF9⟩
      go_wp2_with fail
      go_ret
      exact ⟨rfl, HF6.out.trans (hF7.trans hF9)⟩
end Go.Proofs.Ytndljmkdgakfcaa
