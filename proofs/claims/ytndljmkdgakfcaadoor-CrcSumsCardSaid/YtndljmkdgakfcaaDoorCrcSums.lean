/- The walk of lavabolaw01.CrcSums. -/
import Derived.Test.YtndljmkdgakfcaaDoorCrcParts
import Derived.Test.YtndljmkdgakfcaaDoorCrcRef
import Derived.Deep.RegionHeld3
namespace Go.Proofs.YtndljmkdgakfcaaDoor
open Go.RowKit

set_option maxHeartbeats 1000000 in
theorem sums_mid (b o cap : Nat) (l : List Nat) (k : Nat) (w : World) (hr : BRow.Ok w ⟨some ⟨b, o, none⟩, cap, l⟩) (hL : Laid w) (h1 : l.length ≤ 600) (hk : k ≤ l.length) (hcap : l.length ≤ cap) (hkc : k < cap) :
    Calls Tryd.prog 3 #[.slice (some ⟨b, o, none⟩) l.length cap, .int .i64 k] w fun e w' => e = .returned (.bool true) ∧ Fr No w w' := by
  have HL := hid hL
  have HR := hid hr
  have P0 := rsum_any ⟨some ⟨b, o, none⟩, cap, l⟩ w hr
  have HS0 : Hid (Crc.sumOf l = Crc.sumOf l) := hid rfl
  generalize hs : Crc.sumOf l = s at P0 HS0
  replace HS0 : Hid (Crc.sumOf l = s) := hid hs
  have HP0 := hid P0
  have HS3 : Hid (Crc.sumOf (l.take k ++ [] ++ l.drop k) = s) := by rw [List.append_nil, List.take_append_drop]; exact HS0
  clear hs P0 hL hr
  have i1 : (0 : Int) ≤ (k : Int) := by omega
  have i2 : (k : Int) ≤ (cap : Int) := by omega
  have i3 : (k : Int) ≤ (l.length : Int) := by omega
  have i4 : ¬ cap = 0 := by omega
  have i5 : ¬ cap = k := by omega
  go_enter Tryd.func3, Tryd.ntmps3
  go_wp2_with fail
  refine HP0.out.mono ?_; rintro e w1 ⟨rfl, rfl⟩
  go_wp2_with fail
  go_region_held3 (fun _ => True) (first | exact trivial)
    (first
    | (go_at_call_of 11 (3 : Nat); (with_reducible refine (sum3 s ?v1 ?v2 ?v3 (l.take k) [] (l.drop k) _ _ HS3 ?hL3 ?hb3 ?hr1 ?hr2 ?hr3).mono ?hm3)
       case hb3 => exact heap_new _ _
       case hL3 => exact HL.out.no (HF2.out.alloc _)
       case hr1 => exact IsB.take (HR.out.no (HF2.out.alloc _)) k hk _
       case hr2 => exact IsB.none _ _ _
       case hr3 => exact IsB.drop (HR.out.no (HF2.out.alloc _)) k _ hk
       rintro e w3 ⟨rfl, hF⟩; have HF3 := hid ((HF2.out.alloc _).trans hF); clear hF)
    | (go_at_call_of 11 (1 : Nat); (with_reducible refine (sum1 s ?v0 l _ _ HS0 ?hL0 ?hb0 ?hr0).mono ?hm0)
       case hb0 => exact heap_new _ _
       case hL0 => exact HL.out.no (((Fr.refl No w1).alloc _).drew)
       case hr0 => exact (HR.out.no (((Fr.refl No w1).alloc _).drew)).is
       rintro e w2 ⟨rfl, hF⟩; have HF2 := hid ((((Fr.refl No w1).alloc _).drew).trans hF); clear hF)
    | (go_at_call 9; refine (crc_awake _ (HL.out.no HF3.out).1 (HL.out.no HF3.out).2).mono ?_; rintro e w4 ⟨rfl, hF⟩; have HF4 := hid (HF3.out.trans hF); clear hF))
  all_goals go_wp2_with fail
  all_goals go_ret
  all_goals exact ⟨rfl, HF4.out⟩
set_option maxHeartbeats 1000000 in
theorem sums_full (b o : Nat) (l : List Nat) (w : World) (hr : BRow.Ok w ⟨some ⟨b, o, none⟩, l.length, l⟩) (hL : Laid w) (h1 : l.length ≤ 600) (h2 : 0 < l.length) :
    Calls Tryd.prog 3 #[.slice (some ⟨b, o, none⟩) l.length l.length, .int .i64 l.length] w fun e w' => e = .returned (.bool true) ∧ Fr No w w' := by
  have HL := hid hL
  have HR := hid hr
  have P0 := rsum_any ⟨some ⟨b, o, none⟩, l.length, l⟩ w hr
  have HS0 : Hid (Crc.sumOf l = Crc.sumOf l) := hid rfl
  generalize hs : Crc.sumOf l = s at P0 HS0
  replace HS0 : Hid (Crc.sumOf l = s) := hid hs
  have HP0 := hid P0
  have HS3 : Hid (Crc.sumOf (l.take l.length ++ [] ++ []) = s) := by rw [List.append_nil, List.append_nil, List.take_length]; exact HS0
  clear hs P0 hL hr
  have i4 : ¬ l.length = 0 := by omega
  go_enter Tryd.func3, Tryd.ntmps3
  go_wp2_with fail
  refine HP0.out.mono ?_; rintro e w1 ⟨rfl, rfl⟩
  go_wp2_with fail
  go_region_held3 (fun _ => True) (first | exact trivial)
    (first
    | (go_at_call_of 11 (3 : Nat); (with_reducible refine (sum3 s ?v1 ?v2 ?v3 (l.take l.length) [] [] _ _ HS3 ?hL3 ?hb3 ?hr1 ?hr2 ?hr3).mono ?hm3)
       case hb3 => exact heap_new _ _
       case hL3 => exact HL.out.no (HF2.out.alloc _)
       case hr1 => exact IsB.take (HR.out.no (HF2.out.alloc _)) l.length (Nat.le_refl _) _
       case hr2 => exact IsB.none _ _ _
       case hr3 => exact IsB.none _ _ _
       rintro e w3 ⟨rfl, hF⟩; have HF3 := hid ((HF2.out.alloc _).trans hF); clear hF)
    | (go_at_call_of 11 (1 : Nat); (with_reducible refine (sum1 s ?v0 l _ _ HS0 ?hL0 ?hb0 ?hr0).mono ?hm0)
       case hb0 => exact heap_new _ _
       case hL0 => exact HL.out.no (((Fr.refl No w1).alloc _).drew)
       case hr0 => exact (HR.out.no (((Fr.refl No w1).alloc _).drew)).is
       rintro e w2 ⟨rfl, hF⟩; have HF2 := hid ((((Fr.refl No w1).alloc _).drew).trans hF); clear hF)
    | (go_at_call 9; refine (crc_awake _ (HL.out.no HF3.out).1 (HL.out.no HF3.out).2).mono ?_; rintro e w4 ⟨rfl, hF⟩; have HF4 := hid (HF3.out.trans hF); clear hF))
  all_goals go_wp2_with fail
  all_goals go_ret
  all_goals exact ⟨rfl, HF4.out⟩
set_option maxHeartbeats 1000000 in
theorem sums_zero (a : Option Addr) (w : World) (hL : Laid w) :
    Calls Tryd.prog 3 #[.slice a 0 0, .int .i64 0] w fun e w' => e = .returned (.bool true) ∧ Fr No w w' := by
  have HL := hid hL
  have P0 : Calls Tryd.prog 10 #[.slice a 0 0] w fun e w' => e = .returned (.int .i64 ((Crc.sumOf [] : Nat) : Int)) ∧ w' = w := rsum_any ⟨a, 0, []⟩ w ⟨.nil _ _, fun x hx => by simp at hx, by unfold maxLen; simp⟩
  have HS0 : Hid (Crc.sumOf [] = Crc.sumOf []) := hid rfl
  generalize hs : Crc.sumOf [] = s at P0 HS0
  replace HS0 : Hid (Crc.sumOf [] = s) := hid hs
  have HP0 := hid P0
  clear hs P0 hL
  have HS3 : Hid (Crc.sumOf ([] ++ [] ++ []) = s) := HS0
  go_enter Tryd.func3, Tryd.ntmps3
  go_wp2_with fail
  refine HP0.out.mono ?_; rintro e w1 ⟨rfl, rfl⟩
  go_wp2_with fail
  go_region_held3 (fun _ => True) (first | exact trivial)
    (first
    | (go_at_call_of 11 (3 : Nat); (with_reducible refine (sum3 s ?v1 ?v2 ?v3 [] [] [] _ _ HS3 ?hL3 ?hb3 ?hr1 ?hr2 ?hr3).mono ?hm3)
       case hb3 => exact heap_new _ _
       case hL3 => exact HL.out.no (HF2.out.alloc _)
       case hr1 => exact IsB.none _ _ _
       case hr2 => exact IsB.none _ _ _
       case hr3 => exact IsB.none _ _ _
       rintro e w3 ⟨rfl, hF⟩; have HF3 := hid ((HF2.out.alloc _).trans hF); clear hF)
    | (go_at_call_of 11 (1 : Nat); (with_reducible refine (sum1 s ?v0 [] _ _ HS0 ?hL0 ?hb0 ?hr0).mono ?hm0)
       case hb0 => exact heap_new _ _
       case hL0 => exact HL.out.no (((Fr.refl No w1).alloc _).drew)
       case hr0 => exact IsB.none _ _ _
       rintro e w2 ⟨rfl, hF⟩; have HF2 := hid ((((Fr.refl No w1).alloc _).drew).trans hF); clear hF)
    | (go_at_call 9; refine (crc_awake _ (HL.out.no HF3.out).1 (HL.out.no HF3.out).2).mono ?_; rintro e w4 ⟨rfl, hF⟩; have HF4 := hid (HF3.out.trans hF); clear hF))
  all_goals go_wp2_with fail
  all_goals go_ret
  all_goals exact ⟨rfl, HF4.out⟩

set_option maxHeartbeats 1000000 in
theorem sums_out (a : Option Addr) (n cap : Nat) (k : Int) (w : World) (hL : Laid w) (h : 600 < n ∨ (n ≤ 600 ∧ k < 0) ∨ (n ≤ 600 ∧ 0 ≤ k ∧ (n : Int) < k)) :
    Calls Tryd.prog 3 #[.slice a n cap, .int .i64 k] w fun e w' => e = .returned (.bool true) ∧ Fr No w w' := by
  have HN := hid (crc_awake w hL.1 hL.2)
  clear hL
  rcases h with h | ⟨h1, h2⟩ | ⟨h1, h2, h3⟩
  all_goals
    go_enter Tryd.func3, Tryd.ntmps3
    go_wp2_with (go_at_call 9; refine HN.out.mono ?_; rintro e w5 ⟨rfl, hF5⟩)
    go_ret
    exact ⟨rfl, by assumption⟩

set_option linter.unusedVariables false in
theorem law_CrcSums (w : World) (r : BRow) (hr : r.Ok w ∧ r.Cap) (x : Int) (hx : (Lit.int .i64 x).wf = true) (hL : Laid w) :
    Calls Tryd.prog 3 #[r.v, .int .i64 x] w fun e w' => e = .returned (.bool true) ∧ Fr No w w' := by
  obtain ⟨a, cap, l⟩ := r
  obtain ⟨hr, hc, ha⟩ := hr
  replace hc : l.length ≤ cap := hc
  replace ha : cap = 0 ∨ ∃ b o, a = some ⟨b, o, none⟩ := ha
  show Calls Tryd.prog 3 #[.slice a l.length cap, .int .i64 x] w fun e w' => e = .returned (.bool true) ∧ Fr No w w'
  by_cases h : 600 < l.length ∨ (l.length ≤ 600 ∧ x < 0) ∨ (l.length ≤ 600 ∧ 0 ≤ x ∧ (l.length : Int) < x)
  · exact sums_out a l.length cap x w hL h
  · obtain ⟨k, rfl⟩ := Int.eq_ofNat_of_zero_le (show 0 ≤ x by omega)
    rcases ha with rfl | ⟨b, o, rfl⟩
    · obtain rfl : l = [] := List.eq_nil_of_length_eq_zero (by omega)
      obtain rfl : k = 0 := by simp at h; omega
      exact sums_zero a w hL
    · by_cases hk : k < cap
      · exact sums_mid b o cap l k w hr hL (by omega) (by omega) hc hk
      · obtain rfl : cap = l.length := by omega
        obtain rfl : k = l.length := by omega
        by_cases h0 : l.length = 0
        · obtain rfl : l = [] := List.eq_nil_of_length_eq_zero h0
          exact sums_zero _ w hL
        · exact sums_full b o l w hr hL (by omega) (by omega)
end Go.Proofs.YtndljmkdgakfcaaDoor
