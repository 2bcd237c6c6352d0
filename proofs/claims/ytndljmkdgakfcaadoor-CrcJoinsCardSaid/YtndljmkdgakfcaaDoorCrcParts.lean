/- The walk of lavabolaw01.CrcParts. -/
import Derived.Test.YtndljmkdgakfcaaDoorCrcAwake
import Derived.Test.YtndljmkdgakfcaaDoorLaid
namespace Go.Proofs.YtndljmkdgakfcaaDoor
open Go.RowKit

theorem Laid.no {w w' : World} (h : Laid w) (f : Fr No w w') : Laid w' := ⟨h.1.fr f h.2 id, f.lt h.2⟩

set_option maxHeartbeats 1000000 in
theorem parts_in (a b : BRow) (w : World) (ha : a.Ok w) (hb : b.Ok w) (hL : Laid w) (h1 : a.l.length ≤ 300) (h2 : b.l.length ≤ 300) :
    Calls Tryd.prog 5 #[a.v, b.v] w fun e w' => e = .returned (.bool true) ∧ Fr No w w' := by
  have HL := hid hL
  have HA := hid ha
  have HB := hid hb
  have la := Crc.sumOf_lt a.l ha.2.1
  have lb := Crc.sumOf_lt b.l hb.2.1
  have HJ : Hid (Crc.sumOf (a.l ++ b.l) = Crc.past (Crc.sumOf a.l) b.l.length ^^^ Crc.sumOf b.l) := Crc.sum_append a.l b.l
  have va : a.v = .slice a.a a.l.length a.cap := rfl
  have vb : b.v = .slice b.a b.l.length b.cap := rfl
  have Va := hid va
  have Vb := hid vb
  clear hL ha hb
  rw [va, vb]
  clear va vb
  go_enter Tryd.func5, Tryd.ntmps5
  go_wp2_with fail
  refine (sum_one a w HL.out.1 HL.out.2 HA.out).mono ?_; rintro e w1 ⟨rfl, hF⟩
  have HF1 := hid hF; clear hF
  go_wp2_with fail
  refine (sum_one b w1 (HL.out.no HF1.out).1 (HL.out.no HF1.out).2 (HB.out.no HF1.out)).mono ?_; rintro e w2 ⟨rfl, hF⟩
  have HF2 := hid (HF1.out.trans hF); clear hF
  go_wp2_with fail
  refine (join_ok _ _ b.l.length w2 la lb (by omega) (HL.out.no HF2.out).1 (HL.out.no HF2.out).2).mono ?_; rintro e w3 ⟨rfl, hF⟩
  have HF3 := hid (HF2.out.trans hF); clear hF
  go_wp2_with fail
  refine (sum_two a b w3 (HL.out.no HF3.out).1 (HL.out.no HF3.out).2 (HA.out.no HF3.out) (HB.out.no HF3.out)).mono ?_; rintro e w4 ⟨rfl, hF⟩
  have HF4 := hid (HF3.out.trans hF); clear hF
  rw [HJ.out]
  go_wp2_with fail
  refine (crc_awake w4 (HL.out.no HF4.out).1 (HL.out.no HF4.out).2).mono ?_; rintro e w5 ⟨rfl, hF⟩
  have HF5 := hid (HF4.out.trans hF); clear hF
  go_wp2_with fail
  go_ret
  exact ⟨rfl, HF5.out⟩

theorem parts_out (a b : BRow) (w : World) (hL : Laid w) (h : 300 < a.l.length ∨ (a.l.length ≤ 300 ∧ 300 < b.l.length)) :
    Calls Tryd.prog 5 #[a.v, b.v] w fun e w' => e = .returned (.bool true) ∧ Fr No w w' := by
  have HN := hid (crc_awake w hL.1 hL.2)
  clear hL
  rw [show a.v = .slice a.a a.l.length a.cap from rfl, show b.v = .slice b.a b.l.length b.cap from rfl]
  rcases h with h | ⟨h1, h2⟩
  all_goals
    go_enter Tryd.func5, Tryd.ntmps5
    go_wp2_with (go_at_call 9; refine HN.out.mono ?_; rintro e w5 ⟨rfl, hF5⟩)
    go_ret
    exact ⟨rfl, by assumption⟩

theorem law_CrcParts (w : World) (a : BRow) (ha : a.Ok w ∧ a.Cap) (b : BRow) (hb : b.Ok w ∧ b.Cap) (hL : Laid w) :
    Calls Tryd.prog 5 #[a.v, b.v] w fun e w' => e = .returned (.bool true) ∧ Fr No w w' := by
  by_cases h : 300 < a.l.length ∨ (a.l.length ≤ 300 ∧ 300 < b.l.length)
  · exact parts_out a b w hL h
  · exact parts_in a b w ha.1 hb.1 hL (by omega) (by omega)
end Go.Proofs.YtndljmkdgakfcaaDoor
