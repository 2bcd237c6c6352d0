/- The law SlotsPlays. -/
import Derived.Test.YtopheimplclfcaaDoorSlRefAll
import Derived.Deep.RegionHeld3
namespace Go.Proofs.YtopheimplclfcaaDoor
open Go.RowKit

theorem plays_short (w : World) (n : Int) (a : Option Addr) (len cap : Nat) (hL : SLaid w) (h : n < 1 ∨ 40 < n ∨ 100 < len) :
    Calls Tryd.prog 8 #[.int .i64 n, .slice a len cap] w fun e w' => e = .returned (.bool true) ∧ Fr No w w' := by
  have HL := hid hL
  clear hL
  by_cases h1 : n < 1
  · clear h
    have HN := hid (slnew_bad n w (.inl h1))
    have H3 := hid (sl_awake w HL.out)
    go_enter Tryd.func8, Tryd.ntmps8
    go_wp2_with fail
    refine HN.out.mono ?_; rintro e w ⟨rfl, rfl⟩
    go_wp2_with fail
    refine H3.out.mono ?_; rintro e w' ⟨rfl, hF⟩
    have HF := hid hF
    clear hF
    go_wp2_with fail
    go_ret
    exact ⟨rfl, HF.out⟩
  by_cases h2 : 1024 < n
  · clear h
    have HN := hid (slnew_bad n w (.inr h2))
    have H3 := hid (sl_awake w HL.out)
    go_enter Tryd.func8, Tryd.ntmps8
    go_wp2_with fail
    refine HN.out.mono ?_; rintro e w ⟨rfl, rfl⟩
    go_wp2_with fail
    refine H3.out.mono ?_; rintro e w' ⟨rfl, hF⟩
    have HF := hid hF
    clear hF
    go_wp2_with fail
    go_ret
    exact ⟨rfl, HF.out⟩
  by_cases h3 : 40 < n
  · clear h
    have H3 := hid (sl_awake w HL.out)
    go_enter Tryd.func8, Tryd.ntmps8
    go_wp2_with fail
    refine H3.out.mono ?_; rintro e w' ⟨rfl, hF⟩
    have HF := hid hF
    clear hF
    go_wp2_with fail
    go_ret
    exact ⟨rfl, HF.out⟩
  have h4 : 100 < len := by omega
  clear h
  obtain ⟨m, rfl⟩ : ∃ m : Nat, n = m := ⟨n.toNat, by omega⟩
  have HN := hid (slnew_ok m w (by omega) (by omega))
  go_enter Tryd.func8, Tryd.ntmps8
  go_wp2_with fail
  refine HN.out.mono ?_; rintro e w1 ⟨rfl, -, hF1⟩
  have HF1 := hid hF1
  clear hF1
  unfold slv
  go_wp2_with fail
  refine (sl_awake w1 (HL.out.no HF1.out)).mono ?_; rintro e w' ⟨rfl, hF⟩
  have HF := hid (HF1.out.trans hF)
  clear hF
  go_wp2_with fail
  go_ret
  exact ⟨rfl, HF.out⟩

set_option maxRecDepth 100000 in
set_option maxHeartbeats 8000000 in
theorem plays_in (w : World) (m : Nat) (hm1 : 1 ≤ m) (hm2 : m ≤ 40) (a : Option Addr) (cap : Nat) (xs : List Op8) (hl : xs.length ≤ 100) (hE : Ops8 w a xs) (hL : SLaid w) :
    Calls Tryd.prog 8 #[.int .i64 m, .slice a xs.length cap] w fun e w' => e = .returned (.bool true) ∧ Fr No w w' := by
  have HL := hid hL
  have HE := hid hE
  have hg0 := hL.2
  clear hL hE
  go_enter Tryd.func8, Tryd.ntmps8
  go_wp2_with fail
  refine (slnew_ok m w (by omega) (by omega)).mono ?_; rintro e w1 ⟨rfl, hS1, hF1⟩
  have HF1 := hid hF1
  have HS1 := hid hS1
  clear hF1 hS1
  generalize hp : w.heap.size + 1 = p at *
  generalize hq : w.heap.size = q at *
  have hpq : q < p := by omega
  unfold slv
  go_wp2_with fail
  refine (rfnew m hm1 (by omega) w1).mono ?_; rintro e w2 ⟨rp, rfl, hR2, hF2⟩
  have hpb := HS1.out.ltp
  have hqb := HS1.out.ltq
  have HS2 := hid (HS1.out.no hF2)
  have HF2 := hid (HF1.out.trans hF2)
  have HR2 := hid hR2
  clear hF2 hR2 HS1 HF1
  obtain ⟨bs, hbs⟩ : ∃ bs, w1.heap.size = bs := ⟨_, rfl⟩
  rw [hbs] at HR2 hpb hqb
  clear hbs
  go_wp2_with fail
  go_loopg [8] xs.length (fun g i wr => ∃ (k : Nat) (l : List Nat), k + g = xs.length ∧ i = .int .i64 k ∧ l.length = m ∧ Hid (SlAt wr p q l) ∧ Hid (RfAt wr bs rp l) ∧ Hid (Fr No w wr))
  case atStart => exact ⟨0, _, by omega, rfl, by simp, HS2, HR2, HF2⟩
  case round =>
    obtain ⟨k, l, hk, rfl, hlm, HS3, HR3, HF3⟩ := hrel
    clear HS2 HR2 HF2
    cases gk with
    | zero =>
      obtain rfl : k = xs.length := by omega
      have HN := hid (sllen_at wr p q l HS3.out)
      rw [hlm] at HN
      go_wp2_with fail
      refine HN.out.mono ?_; rintro e wr ⟨rfl, rfl⟩
      go_wp2_with fail
      refine (sl_awake _ (HL.out.no HF3.out)).mono ?_; rintro e w6 ⟨rfl, hF6⟩
      have HF6 := hid (HF3.out.trans hF6)
      clear hF6
      go_wp2_with fail
      go_ret
      exact ⟨rfl, HF6.out⟩
    | succ g =>
      have hkl : k < xs.length := by omega
      obtain ⟨b, o, rfl, d0, d1, d2⟩ := HE.out.op8 k hkl
      have hbq : b < q := by have := lt_of_cell d0; simpa [hq] using this
      have c0 := (HF3.out.cell (p := ⟨b, o + k * 3, none⟩) (lt_of_cell d0) id).trans d0
      have c1 := (HF3.out.cell (p := ⟨b, o + k * 3 + 1, none⟩) (lt_of_cell d1) id).trans d1
      have c2 := (HF3.out.cell (p := ⟨b, o + k * 3 + 2, none⟩) (lt_of_cell d2) id).trans d2
      clear d0 d1 d2
      generalize xs[k] = op at *
      obtain ⟨al, sl, st⟩ := op
      simp only at c0 c1 c2
      cases al
      case' true =>
        go_wp2_with fail
        refine (slalloc_F wr p q l HS3.out).mono ?_; rintro e w4 ⟨rfl, hS4, hF4, hz4⟩
        have HF4 := hid (HF3.out.then hF4 (fun i hi e => by omega))
        have HR4 := hid (HR3.out.fr hF4 (fun k hk e => by omega))
        have HS4 := hid hS4
        clear hF4 hS4 hz4 HF3 HR3 HS3 c0 c1 c2
        have HA := hid (rfalloc w4 bs rp l HR4.out)
        have hml5 := (allocF_step l).len
        generalize allocF l = af at *
        obtain ⟨r0, r1, l5⟩ := af
        simp only at HA HS4 hml5
        go_wp2_with fail
        refine HA.out.mono ?_; rintro e w5 ⟨rfl, hR5, hF5⟩
        have HF5 := hid (HF4.out.then hF5 (fun i hi e => by omega))
        have HS5 := hid (HS4.out.fr hF5 (by omega) (by omega))
        have HR5 := hid hR5
        clear hF5 hR5 HF4 HS4 HA HR4
        go_wp2_with fail
      case' false =>
        go_wp2_with fail
        have HFd := hid HF3.out.drew
        have HSd := hid (HS3.out.no ((Fr.refl No wr).drew))
        have HRd := hid (HR3.out.no ((Fr.refl No wr).drew))
        have HLd := hid (HL.out.no HFd.out).1
        have hml5 := (turnF_step l sl st).len
        have ht := fun w' (hT : TurnsAt w') (h : SlAt w' p q l) => slturn_any w' p q l sl st hT h
        simp only [slv] at ht
        have HT := hid ht
        clear ht
        have hu := fun w' (h : RfAt w' bs rp l) => rfturn w' bs rp l sl st h
        have HU := hid hu
        clear hu
        generalize turnF l sl st = tf at *
        obtain ⟨r0, l5⟩ := tf
        simp only at HT HU hml5
        go_region_held3 (fun w' => w'.cell? ⟨b, o + k * 3 + 1, none⟩ = some (.int .i64 sl) ∧ w'.cell? ⟨b, o + k * 3 + 2, none⟩ = some (.int .i64 st))
          (first | go_keep | exact ⟨HC1.out, HC2.out⟩)
          (first
          | (go_at_call 30; (with_reducible refine (HT.out _ ?hT ?hS).mono ?hm)
             case hT => exact HLd.out
             case hS => exact HSd.out
             rintro e w4 ⟨rfl, hS4, hF4, hz4⟩; have HF4 := hid (HFd.out.then hF4 (fun i hi e => by omega)); have HR4 := hid (HRd.out.fr hF4 (fun k hk e => by omega)); have HS4 := hid hS4
             have HC1 := hid ((hF4.cell (p := ⟨b, o + k * 3 + 1, none⟩) (lt_of_cell c1) (show ¬ b = q by omega)).trans c1); have HC2 := hid ((hF4.cell (p := ⟨b, o + k * 3 + 2, none⟩) (lt_of_cell c2) (show ¬ b = q by omega)).trans c2); clear hF4 hS4 hz4)
          | (go_at_call 31; (with_reducible refine (HU.out _ ?hR).mono ?hm2)
             case hR => exact HR4.out
             rintro e w5 ⟨rfl, hR5, hF5⟩; have HF5 := hid (HF4.out.then hF5 (fun i hi e => by omega)); have HS5 := hid (HS4.out.fr hF5 (by omega) (by omega)); have HR5 := hid hR5
             have HC1 := hid ((hF5.cell (p := ⟨b, o + k * 3 + 1, none⟩) (lt_of_cell HC1.out) (show ¬ bs ≤ b by omega)).trans HC1.out); have HC2 := hid ((hF5.cell (p := ⟨b, o + k * 3 + 2, none⟩) (lt_of_cell HC2.out) (show ¬ bs ≤ b by omega)).trans HC2.out); clear hF5 hR5))
        go_wp2_with fail
      all_goals
        have hml : l5.length = m := by omega
        have hln := HS5.out.len
        obtain ⟨wo, hwo⟩ : ∃ wo : World, wo = wr := ⟨_, rfl⟩
        clear hwo
        go_loopg [13] 7 (fun g2 i wr => ∃ (j : Nat), j + g2 = 7 ∧ i = .int .i64 ((j : Int) - 1) ∧ Hid (SlAt wr p q l5) ∧ Hid (RfAt wr bs rp l5) ∧ Hid (Fr No w wr))
        case atStart => exact ⟨0, by omega, rfl, HS5, HR5, HF5⟩
        case round =>
          obtain ⟨j, hj, rfl, HS6, HR6, HF6⟩ := hrel
          clear HS5 HR5 HF5
          cases gk with
          | zero =>
            obtain rfl : j = 7 := by omega
            go_wp2_with fail
            go_roundg g
            case measure => omega
            case rel => exact ⟨k + 1, l5, by omega, by go_num, by omega, HS6, HR6, HF6⟩
          | succ g2 =>
            go_wp2_with fail
            refine (lawAll_c (some ⟨p, 0, none⟩) ((j : Int) - 1) l5 hln wr (.at HS6.out id id)).mono ?_; rintro e w7 ⟨ra, ca, rfl, hN7, hF7⟩
            have HN7 := hid hN7
            have HS7 := hid (HS6.out.no hF7)
            have HR7 := hid (HR6.out.no hF7)
            have HF7 := hid (HF6.out.trans hF7)
            clear hN7 hF7 HS6 HR6 HF6
            have hul : (which l5 ((j : Int) - 1)).length ≤ 1024 := Nat.le_trans (upTo_len _ _ _) hln
            have HA := hid (rfall w7 bs rp l5 ((j : Int) - 1) HR7.out)
            have HCn := hid (fun w' (h : SlAt w' p q l5) => count_c (some ⟨p, 0, none⟩) ((j : Int) - 1) l5 hln w' (.at h id id))
            generalize which l5 ((j : Int) - 1) = u at *
            go_wp2_with fail
            refine HA.out.mono ?_; rintro e w8 ⟨rb, cb, rfl, hN8, hF8⟩
            have HI := hid (ints_same w8 ra rb ca cb u hul (fun i hi => by obtain ⟨g, h1, _, h3, h4⟩ := HN7.out i hi; exact ⟨g, h1, (hF8.cell (p := ⟨g, i, none⟩) h3 id).trans h4⟩) (fun i hi => by obtain ⟨g, h1, _, h3, h4⟩ := hN8 i hi; exact ⟨g, h1, h4⟩))
            have HS8 := hid (HS7.out.no hF8)
            have HR8 := hid (HR7.out.no hF8)
            have HF8 := hid (HF7.out.trans hF8)
            clear hN8 hF8 HS7 HR7 HF7 HN7 HA
            go_wp2_with fail
            refine HI.out.mono ?_; rintro e w9 ⟨rfl, hF9⟩
            have HS9 := hid (HS8.out.no hF9)
            have HR9 := hid (HR8.out.no hF9)
            have HF9 := hid (HF8.out.trans hF9)
            clear hF9 HS8 HR8 HF8 HI
            go_wp2_with fail
            refine (HCn.out w9 HS9.out).mono ?_; rintro e w10 ⟨rfl, hF10⟩
            have HS10 := hid (HS9.out.no hF10)
            have HR10 := hid (HR9.out.no hF10)
            have HF10 := hid (HF9.out.trans hF10)
            clear hF10 HS9 HR9 HF9 HCn
            go_wp2_with fail
            go_roundg g2
            case measure => omega
            case rel => exact ⟨j + 1, by omega, by go_num, HS10, HR10, HF10⟩

set_option linter.unusedVariables false in
theorem law_SlotsPlays (w : World) (n : Int) (wn : (Lit.int .i64 n).wf = true) (r : SRow) (hr : r.Ok w op8Sh) (hL : SLaid w) :
    Calls Tryd.prog 8 #[.int .i64 n, r.v] w fun e w' => e = .returned (.bool true) ∧ Fr No w w' := by
  obtain ⟨xs, hv, hE⟩ := ops8_of hr
  rw [hv]
  by_cases h : n < 1 ∨ 40 < n ∨ 100 < xs.length
  · exact plays_short w n r.a xs.length r.cap hL h
  · obtain ⟨m, rfl⟩ : ∃ m : Nat, n = m := ⟨n.toNat, by omega⟩
    exact plays_in w m (by omega) (by omega) r.a r.cap xs (by omega) hE hL
end Go.Proofs.YtopheimplclfcaaDoor
