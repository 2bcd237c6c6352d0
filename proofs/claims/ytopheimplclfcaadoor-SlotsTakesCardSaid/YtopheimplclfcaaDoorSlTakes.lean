/- The law SlotsTakes. -/
import Derived.Test.YtopheimplclfcaaDoorSlDo
import Derived.StillTailTactics
import Derived.Deep.RegionHeld3
namespace Go.Proofs.YtopheimplclfcaaDoor
open Go.RowKit

theorem upTo_empty {l : List Nat} {k : Nat} (hk : k ≤ l.length) (h : ∀ j (hj : j < l.length), j < k → l[j] ≠ 0) : upTo l 0 k = [] := by
  unfold upTo
  rw [List.filter_eq_nil_iff]
  intro j hj
  have hj := List.mem_range.1 hj
  have := h j (by omega) hj
  simp [show j < l.length by omega]; omega
theorem which_nil {l : List Nat} (h : l.findIdx? (· == 0) = none) : which l 0 = [] := by
  refine upTo_empty (Nat.le_refl _) (fun j hj _ => ?_)
  rw [List.findIdx?_eq_none_iff] at h
  have := h l[j] (List.getElem_mem hj)
  simpa using this
theorem which_cons {l : List Nat} {i : Nat} (h : l.findIdx? (· == 0) = some i) : ∃ rest, which l 0 = i :: rest := by
  rw [List.findIdx?_eq_some_iff_getElem] at h
  obtain ⟨hi, h0, hb⟩ := h
  have h0 : l[i] = 0 := by simpa using h0
  have e1 : upTo l 0 (i + 1) = [i] := by
    rw [upTo_yes (by simp [hi, h0]), upTo_empty (by omega) (fun j hj hji => by simpa using hb j hji)]; rfl
  obtain ⟨t, ht⟩ := upTo_pre l 0 (show i + 1 ≤ l.length by omega)
  exact ⟨t, by unfold which; rw [← ht, e1]; rfl⟩

set_option maxRecDepth 100000 in
set_option maxHeartbeats 4000000 in
theorem takes_in (w : World) (m : Nat) (hm1 : 1 ≤ m) (hm2 : m ≤ 40) (a : Option Addr) (cap : Nat) (xs : List Op8) (hl : xs.length ≤ 100) (hE : Ops8 w a xs) (hL : SLaid w) :
    Calls Tryd.prog 13 #[.int .i64 m, .slice a xs.length cap] w fun e w' => e = .returned (.bool true) ∧ Fr No w w' := by
  have HL := hid hL
  have HE := hid hE
  have hg0 := hL.2
  clear hL hE
  go_enter Tryd.func13, Tryd.ntmps13
  go_wp2_with fail
  refine (slnew_ok m w (by omega) (by omega)).mono ?_; rintro e w1 ⟨rfl, hS1, hF1⟩
  have HF1 := hid hF1
  have HS1 := hid hS1
  clear hF1 hS1
  generalize hp : w.heap.size + 1 = p at *
  generalize hq : w.heap.size = q at *
  have hpq : q < p := by omega
  unfold slv
  go_wp2_with fail
  go_loopg [7] xs.length (fun g i wr => ∃ (k : Nat) (l : List Nat), k + g = xs.length ∧ i = .int .i64 k ∧ l.length = m ∧ Hid (SlAt wr p q l) ∧ Hid (Fr No w wr))
  case atStart => exact ⟨0, _, by omega, rfl, by simp, HS1, HF1⟩
  case round =>
    obtain ⟨k, l, hk, rfl, hlm, HS2, HF2⟩ := hrel
    clear HS1
    cases gk with
    | succ g =>
      have hkl : k < xs.length := by omega
      obtain ⟨b, o, rfl, c0, c1, c2⟩ := (HE.out.no HF2.out).op8 k hkl
      generalize xs[k] = op at *
      obtain ⟨al, sl, st⟩ := op
      simp only at c0 c1 c2
      have HLT := hid (HL.out.no HF2.out).1
      cases al with
      | true =>
        go_wp2_with fail
        refine (slalloc_F wr p q l HS2.out).mono ?_; rintro e w3 ⟨rfl, hS3, hF3, hz3⟩
        have HF3 := hid (HF2.out.then hF3 (fun i hi e => by omega))
        have HS3 := hid hS3
        have hlm3 := (allocF_step l).len
        clear hF3 hS3 hz3
        generalize (allocF l).2.2 = l3 at *
        go_wp2_with fail
        go_roundg g
        case measure => omega
        case rel => exact ⟨k + 1, l3, by omega, by go_num, by omega, HS3, HF3⟩
      | false =>
        go_wp2_with fail
        go_still_tail 11, (by kernel_rfl)
        change wpList _ _ _ _ _ wr.drew
        have HFd := hid HF2.out.drew
        have HSd := hid (HS2.out.no ((Fr.refl No wr).drew))
        have HLd := hid (HL.out.no HFd.out).1
        clear HF2 HS2 HLT c0 c1 c2
        generalize wr.drew = wd at *
        go_wp2_with fail
        refine (slturn_any wd p q l sl st HLd.out HSd.out).mono ?_; rintro e w3 ⟨rfl, hS3, hF3, hz3⟩
        have HF3 := hid (HFd.out.then hF3 (fun i hi e => by omega))
        have HS3 := hid hS3
        have hlm3 := (turnF_step l sl st).len
        clear hF3 hS3 hz3
        generalize turnF l sl st = tf at *
        go_wp2_with fail
        go_roundg g
        case measure => omega
        case rel => exact ⟨k + 1, tf.2, by omega, by go_num, by omega, HS3, HF3⟩
    | zero =>
      obtain rfl : k = xs.length := by omega
      go_wp2_with fail
      have hlen := HS2.out.len
      cases hfi : l.findIdx? (· == 0) with
      | none =>
        refine (lawAll_c (some ⟨p, 0, none⟩) 0 l hlen wr (.at HS2.out id id)).mono ?_; rintro e w3 ⟨ra, cp, rfl, -, hF3⟩
        rw [which_nil hfi]
        have HFI := hid hfi
        have HF3 := hid (HF2.out.trans hF3)
        have HS3 := hid (HS2.out.no hF3)
        clear hF3 HF2 HS2 hfi
        go_wp2_with fail
        refine (slcopy_at w3 p q l HS3.out (by omega)).mono ?_; rintro e w4 ⟨p4, q4, rfl, hp4, hq4, hS4, hF4⟩
        have HF4 := hid (HF3.out.trans hF4)
        have HS4 := hid (HS3.out.no hF4)
        clear hF4 hS4 HF3 HS3
        unfold slv
        go_wp2_with fail
        refine ((slalloc_any w4 p q l HS4.out).mono fun _ _ hp => hp.full HFI.out).mono ?_; rintro e w4 ⟨rfl, rfl⟩
        go_wp2_with fail
        refine (sl_awake w4 (HL.out.no HF4.out)).mono ?_; rintro e w5 ⟨rfl, hF5⟩
        have HF5 := hid (HF4.out.trans hF5)
        clear hF5
        go_wp2_with fail
        go_ret
        exact ⟨rfl, HF5.out⟩
      | some i =>
        obtain ⟨rest, hw⟩ := which_cons hfi
        have hil : i < l.length := by rw [List.findIdx?_eq_some_iff_getElem] at hfi; exact hfi.1
        refine (lawAll_c (some ⟨p, 0, none⟩) 0 l hlen wr (.at HS2.out id id)).mono ?_; rintro e w3 ⟨ra, cp, rfl, hN, hF3⟩
        rw [hw] at hN ⊢
        obtain ⟨g, rfl, hgb, hgl, hgc⟩ := hN 0 (by simp)
        simp only [List.getElem_cons_zero] at hgc
        have hrl : (i :: rest).length = rest.length + 1 := rfl
        rw [hrl]
        have HFI := hid hfi
        have HF3 := hid (HF2.out.trans hF3)
        have HS3 := hid (HS2.out.no hF3)
        have hwp := HF2.out.size
        have hpw := HS2.out.ltp
        have hqw := HS2.out.ltq
        clear hF3 HF2 HS2 hfi hw hN
        go_wp2_with fail
        refine (slcopy_at w3 p q l HS3.out (by omega)).mono ?_; rintro e w4 ⟨p4, q4, rfl, hp4, hq4, hS4, hF4⟩
        have hz3 := HF3.out.size
        have hgc4 := (hF4.cell (p := ⟨g, 0, none⟩) hgl id).trans hgc
        have hgl4 := hF4.lt hgl
        have HF4 := hid (HF3.out.trans hF4)
        have HC4 := hid hS4
        have hp3 := HS3.out.ltp
        have hq3 := HS3.out.ltq
        have HS4 := hid (HS3.out.no hF4)
        clear hF4 hS4 HF3 HS3 hgc
        unfold slv
        go_wp2_with fail
        refine (slalloc_at w4 p q i l HS4.out HFI.out).mono ?_; rintro e w5 ⟨rfl, hS5, hF5, hz5⟩
        have hgc5 := (hF5.cell (p := ⟨g, 0, none⟩) hgl4 (show ¬ g = q by omega)).trans hgc4
        have HF5 := hid (HF4.out.then hF5 (fun i hi e => by omega))
        have HC5 := hid (HC4.out.fr hF5 (by omega) (by omega))
        have HS5 := hid hS5
        clear hgc4 hS5 hF5 hz5 HF4 HC4 HS4 HFI
        go_wp2_with fail
        go_loopg [13] m (fun g2 i wr2 => ∃ (k : Nat), k + g2 = m ∧ i = .int .i64 k ∧ wr2 = w5)
        case atStart => exact ⟨0, by omega, rfl, rfl⟩
        case round =>
          obtain ⟨k, hk, rfl, rfl⟩ := hrel
          cases gk with
          | zero =>
            obtain rfl : k = m := by omega
            go_wp2_with fail
            refine (sl_awake _ (HL.out.no HF5.out)).mono ?_; rintro e w6 ⟨rfl, hF6⟩
            have HF6 := hid (HF5.out.trans hF6)
            clear hF6
            go_wp2_with fail
            go_ret
            exact ⟨rfl, HF6.out⟩
          | succ g2 =>
            have hkl : k < l.length := by omega
            have HA := hid (slstate_in _ p4 q4 l k HC5.out hkl)
            have HB := hid (slstate_in _ p q (l.set i 1) k HS5.out (by simpa using hkl))
            by_cases hik : i = k
            · subst hik
              simp only [List.getElem_set_self] at HB
              generalize l[i] = x at *
              go_wp2_with fail
              refine HA.out.mono ?_; rintro e w6 ⟨rfl, rfl⟩
              go_wp2_with fail
              refine HB.out.mono ?_; rintro e w6 ⟨rfl, rfl⟩
              go_wp2_with fail
              go_roundg g2
              case measure => omega
              case rel => exact ⟨i + 1, by omega, by go_num, rfl⟩
            · simp only [List.getElem_set_ne hik] at HB
              have hne : (((k : Nat) : Int) == ((i : Nat) : Int)) = false := by simp; omega
              have hne2 : (((k : Nat) : Int) != ((i : Nat) : Int)) = true := by simp; omega
              generalize l[k] = x at *
              go_wp2_with fail
              refine HA.out.mono ?_; rintro e w6 ⟨rfl, rfl⟩
              go_wp2_with fail
              refine HB.out.mono ?_; rintro e w6 ⟨rfl, rfl⟩
              go_wp2_with fail
              go_roundg g2
              case measure => omega
              case rel => exact ⟨k + 1, by omega, by go_num, rfl⟩

theorem takes_awake (w : World) (n : Int) (a : Option Addr) (len cap : Nat) (hL : SLaid w) (h : (n < 1 ∨ 40 < n) ∨ 100 < len) :
    Calls Tryd.prog 13 #[.int .i64 n, .slice a len cap] w fun e w' => e = .returned (.bool true) ∧ Fr No w w' := by
  have H3 := hid (sl_awake w hL)
  clear hL
  by_cases h1 : n < 1
  · clear h
    go_enter Tryd.func13, Tryd.ntmps13
    go_wp2_with fail
    refine H3.out.mono ?_; rintro e w' ⟨rfl, hF⟩
    have HF := hid hF
    clear hF
    go_wp2_with fail
    go_ret
    exact ⟨rfl, HF.out⟩
  by_cases h2 : 40 < n
  · clear h
    go_enter Tryd.func13, Tryd.ntmps13
    go_wp2_with fail
    refine H3.out.mono ?_; rintro e w' ⟨rfl, hF⟩
    have HF := hid hF
    clear hF
    go_wp2_with fail
    go_ret
    exact ⟨rfl, HF.out⟩
  have h3 : 100 < len := by omega
  clear h
  go_enter Tryd.func13, Tryd.ntmps13
  go_wp2_with fail
  refine H3.out.mono ?_; rintro e w' ⟨rfl, hF⟩
  have HF := hid hF
  clear hF
  go_wp2_with fail
  go_ret
  exact ⟨rfl, HF.out⟩

set_option linter.unusedVariables false in
theorem law_SlotsTakes (w : World) (n : Int) (wn : (Lit.int .i64 n).wf = true) (r : SRow) (hr : r.Ok w op8Sh) (hL : SLaid w) :
    Calls Tryd.prog 13 #[.int .i64 n, r.v] w fun e w' => e = .returned (.bool true) ∧ Fr No w w' := by
  obtain ⟨xs, hv, hE⟩ := ops8_of hr
  rw [hv]
  by_cases h : (n < 1 ∨ 40 < n) ∨ 100 < xs.length
  · exact takes_awake w n r.a xs.length r.cap hL h
  · obtain ⟨m, rfl⟩ : ∃ m : Nat, n = m := ⟨n.toNat, by omega⟩
    exact takes_in w m (by omega) (by omega) r.a r.cap xs (by omega) hE hL
end Go.Proofs.YtopheimplclfcaaDoor
