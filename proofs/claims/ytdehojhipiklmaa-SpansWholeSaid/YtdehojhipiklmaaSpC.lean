/- spans: slices.BinarySearchFunc at a set's spans; around. -/
import Derived.Test.YtdehojhipiklmaaSpB
namespace Go.Proofs.Ytdehojhipiklmaa
open Go.RowKit

/-- the spans that end ahead of low are the first ones -/
theorem firstOf_iff {l : List Sp} (hg : Good l) (low : Int) (k : Nat) (hk : k < l.length) : k < firstOf l low ↔ (l[k].1 : Int) + l[k].2 - 1 < low := by
  constructor
  · intro h
    have hm : l[k] ∈ l.take (firstOf l low) := by
      rw [List.mem_iff_getElem]
      exact ⟨k, by rw [List.length_take]; omega, by rw [List.getElem_take]⟩
    exact left_of hm
  · intro h
    rcases Nat.lt_or_ge k (firstOf l low) with h1 | h1
    · exact h1
    · have hm : l[k] ∈ l.drop (firstOf l low) := by
        rw [List.mem_iff_getElem]
        refine ⟨k - firstOf l low, by rw [List.length_drop]; omega, ?_⟩
        rw [List.getElem_drop]
        congr 1; omega
      have := drop_end hg hm
      omega
set_option maxRecDepth 100000 in
theorem sp_search (w : World) (a : Option Addr) (c : Nat) (L : List Sp) (hL : GoodB L) (he : Elems spV 2 w a L) (low : Int) (h2 : -1 ≤ low) (h3 : low ≤ 1048576) :
    Calls Try.prog 36 #[.slice a L.length c, .int .i64 low, .func (.func 37) #[] #[]] w fun e w' => ∃ b, e = .returned (.tuple #[.int .i64 (firstOf L low), .bool b]) ∧ Fr No w w' := by
  have HG := hid hL
  have HE := hid he
  have hlen := hL.len
  have HFO := hid (firstOf_iff hL.1 low)
  have hfl := firstOf_le L low
  obtain ⟨fo, hfo⟩ : ∃ fo, firstOf L low = fo := ⟨_, rfl⟩
  rw [hfo] at HFO hfl ⊢
  clear hL he hfo
  go_enter Try.func36, Try.ntmps36
  go_wp2_with fail
  go_loopg [9, 10] L.length (fun g x y wr => ∃ (i j : Nat), x = .int .i64 i ∧ y = .int .i64 j ∧ i ≤ fo ∧ fo ≤ j ∧ j ≤ L.length ∧ j - i ≤ g ∧ Hid (Fr No w wr))
  case atStart => exact ⟨0, L.length, rfl, rfl, Nat.zero_le _, hfl, Nat.le_refl _, by omega, Fr.refl _ _⟩
  case round =>
    obtain ⟨i, j, rfl, rfl, hi, hj, hjl, hgk, HF⟩ := hrel
    by_cases hij : i < j
    · have hij' : (i : Int) < (j : Int) := by omega
      obtain ⟨h, hh, h5, h6⟩ : ∃ h : Nat, ((i : Int) + (j : Int)) / 2 = (h : Int) ∧ i ≤ h ∧ h < j := ⟨(i + j) / 2, by omega, by omega, by omega⟩
      have hhL : h < L.length := by omega
      have hhi : (h : Int) < (L.length : Int) := by omega
      have hFO := HFO.out h hhL
      have hB := HG.out.2 _ (List.getElem_mem hhL)
      obtain ⟨b, o, rfl, hb, c0, c1⟩ := HE.out.sp2 h hhL
      obtain ⟨s, hs⟩ : ∃ s, L[h] = s := ⟨_, rfl⟩
      rw [hs] at hFO hB c0 c1
      have d0 := (HF.out.cell (p := ⟨b, o + h * 2, none⟩) hb id).trans c0
      have d1 := (HF.out.cell (p := ⟨b, o + h * 2 + 1, none⟩) hb id).trans c1
      have HFO2 := hid hFO
      clear hs c0 c1 hFO
      go_wp2_with fail
      refine (sp_cmp wr s low hB h2 h3).mono ?_
      rintro e w1 ⟨rfl, hF⟩
      have HF1 := hid (HF.out.trans hF)
      clear hF
      by_cases hlt : (s.1 : Int) + s.2 - 1 < low
      · have hk := HFO2.out.2 hlt
        have hlt2 : (s.1 : Int) + s.2 - 1 - low < 0 := by omega
        clear hlt
        go_wp2_with fail
        go_roundg (j - (h + 1))
        case measure => omega
        case rel => exact ⟨h + 1, j, by go_num, rfl, by omega, hj, hjl, by omega, HF1⟩
      · have hk : ¬ h < fo := fun e => hlt (HFO2.out.1 e)
        have hlt2 : 0 ≤ (s.1 : Int) + s.2 - 1 - low := by omega
        clear hlt
        go_wp2_with fail
        go_roundg (h - i)
        case measure => omega
        case rel => exact ⟨i, h, rfl, rfl, hi, by omega, by omega, by omega, HF1⟩
    · obtain rfl : i = fo := by omega
      obtain rfl : j = i := by omega
      rcases Nat.lt_or_ge j L.length with hjn | hjn
      · have hjn' : (j : Int) < (L.length : Int) := by omega
        obtain ⟨b, o, rfl, hb, c0, c1⟩ := HE.out.sp2 j hjn
        have hB := HG.out.2 _ (List.getElem_mem hjn)
        obtain ⟨s, hs⟩ : ∃ s, L[j] = s := ⟨_, rfl⟩
        rw [hs] at hB c0 c1
        have d0 := (HF.out.cell (p := ⟨b, o + j * 2, none⟩) hb id).trans c0
        have d1 := (HF.out.cell (p := ⟨b, o + j * 2 + 1, none⟩) hb id).trans c1
        clear hs c0 c1
        go_wp2_with fail
        refine (sp_cmp wr s low hB h2 h3).mono ?_
        rintro e w1 ⟨rfl, hF⟩
        go_wp2_with fail
        go_ret2
        exact ⟨_, rfl, HF.out.trans hF⟩
      · have hjn' : (L.length : Int) ≤ (j : Int) := by omega
        go_wp2_with fail
        go_ret2
        exact ⟨_, rfl, HF.out⟩
end Go.Proofs.Ytdehojhipiklmaa
