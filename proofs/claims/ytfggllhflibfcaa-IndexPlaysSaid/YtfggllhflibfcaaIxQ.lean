/- index: the reference: Put, Drop, Clean, Count. -/
import Derived.Test.YtfggllhflibfcaaIxP
namespace Go.Proofs.Ytfggllhflibfcaa
open Go.RowKit Go.Maps
/-- one block's place is another -/
theorem RfV.setq {S : Nat → Prop} {w : World} {p m i gs cs gd cd : Nat} {L : List Pl} (h : RfV w p S L L m (.slice (some ⟨gs, 0, none⟩) L.length cs) (.slice (some ⟨gd, 0, none⟩) L.length cd)) (hi : i < L.length) (q : Pl) :
    Rf ((w.setCell ⟨gs, i, none⟩ (.int .i64 (plS q))).setCell ⟨gd, i, none⟩ (.bool (plD q))) p S (L.set i q) m ∧ Fr S w ((w.setCell ⟨gs, i, none⟩ (.int .i64 (plS q))).setCell ⟨gd, i, none⟩ (.bool (plD q))) := by
  have hss := h.ss gs rfl
  have hsd := h.sd gd rfl
  have hne := h.ne
  have h1 := hne.1 gs rfl
  have h2 := hne.2.1 gd rfl
  have h3 : gs ≠ gd := fun e => hne.2.2 gs rfl (by rw [e]; rfl)
  have f1 := Fr.set1 w gs i (.int .i64 (plS q))
  have f2 := Fr.set1 (w.setCell ⟨gs, i, none⟩ (.int .i64 (plS q))) gd i (.bool (plD q))
  obtain ⟨o1, _⟩ := own_set h.row (fun x _ => sV_len x) q (sV_len q) i hi
  have hd1 := own_frk h.dir f1 (fun k hk e => h3 (e.symm.trans (by simpa [Value.ownBlock] using hk.symm)))
  obtain ⟨o2, _⟩ := own_set hd1 (fun x _ => dV_len x) q (dV_len q) i hi
  have hll : (L.set i q).length = L.length := List.length_set
  have e1 : (w.setCells gs (i * 1) (sV q)) = w.setCell ⟨gs, i, none⟩ (.int .i64 (plS q)) := by rw [Nat.mul_one]; rfl
  have e2 : ((w.setCell ⟨gs, i, none⟩ (.int .i64 (plS q))).setCells gd (i * 1) (dV q)) = (w.setCell ⟨gs, i, none⟩ (.int .i64 (plS q))).setCell ⟨gd, i, none⟩ (.bool (plD q)) := by rw [Nat.mul_one]; rfl
  rw [e1] at o1
  rw [e2] at o2
  rw [hll] at o1 o2
  have F : Fr S w ((w.setCell ⟨gs, i, none⟩ (.int .i64 (plS q))).setCell ⟨gd, i, none⟩ (.bool (plD q))) := (f1.mono (fun k _ e => by rw [e]; exact hss)).trans (f2.mono (fun k _ e => by rw [e]; exact hsd))
  refine ⟨⟨_, _, (f2.block p (f1.lt (lt_of_block h.blk)) (fun e => h2 e.symm)).trans ((f1.block p (lt_of_block h.blk) (fun e => h1 e.symm)).trans h.blk), ?_, ?_, h.sp, h.ss, h.sd, fun k hk => F.lt (h.lt k hk)⟩, F⟩
  · rw [hll]
    exact own_frk o1 f2 (fun k hk e => h3 ((by simpa [Value.ownBlock] using hk : gs = k).trans e))
  · rw [hll]
    exact o2
set_option maxRecDepth 100000 in
set_option maxHeartbeats 1000000 in
theorem rf_Put (w : World) (p m : Nat) (S : Nat → Prop) (L : List Pl) (h : Rf w p S L m) (hl : L.length ≤ 4096) (x s : Int) (d : Bool) : Calls Try.prog 26 #[.pointer (some ⟨p, 0, none⟩), .int .i64 x, .int .i64 s, .bool d] w fun e w' => e = .returned (.tuple #[.int .i64 (plS (putI L m x s d).1), .bool (plD (putI L m x s d).1), .int .i64 (putI L m x s d).2.1]) ∧ Rf w' p S (putI L m x s d).2.2 m ∧ Fr S w w' := by
  have HH := hid h
  obtain ⟨vs, vd, h⟩ := h
  have HV := hid h
  obtain ⟨c0, c1, c2, _⟩ := h.cells
  have hlen := hl
  clear h
  have hT : putI L m x s d = if (0 ≤ x ∧ x < L.length) ∧ (0 ≤ s ∧ s < m) then if takenI L s x then (some (0, false), 15, L) else (L.getD x.toNat none, 0, L.set x.toNat (some (s.toNat, d))) else (some (0, false), 10, L) := rfl
  have hRR : rightI L x = decide (0 ≤ x ∧ x < L.length) := rfl
  by_cases hx : 0 ≤ x ∧ x < L.length
  · rw [decide_eq_true hx] at hRR
    have HRR := hid hRR
    clear hRR
    obtain ⟨i, rfl⟩ : ∃ i : Nat, x = i := ⟨x.toNat, by omega⟩
    have hi : i < L.length := by omega
    by_cases h0 : 0 ≤ s
    · by_cases h1 : s < m
      · obtain ⟨k, rfl⟩ : ∃ k : Nat, s = k := ⟨s.toNat, by omega⟩
        rw [if_pos ⟨hx, h0, h1⟩] at hT
        obtain ⟨gs, cs, hvs, hgs, a0, a1⟩ := HV.out.at i hi
        obtain ⟨gd, cd, hvd, hgd, b0, b1⟩ := HV.out.dat i hi
        subst hvs
        subst hvd
        have hne : gs ≠ gd := fun e => HV.out.ne.2.2 gs rfl (by rw [e]; rfl)
        have hnp : gs ≠ p := HV.out.ne.1 gs rfl
        have hR : ratI L k = match atS L k with | some i => (i : Int) | none => -1 := rfl
        obtain ⟨q0, hq0⟩ : ∃ q0, L[i] = q0 := ⟨_, rfl⟩
        have hg0 : L.getD i none = q0 := by rw [List.getD_eq_getElem?_getD, List.getElem?_eq_getElem hi, hq0]; rfl
        rw [hq0] at a0 b0
        clear hq0
        cases e : atS L k with
        | none =>
          have HP := hid (show putI L m (i : Int) k d = (q0, 0, L.set i (some (k, d))) by rw [hT, if_neg (by simp [takenI, e]), Int.toNat_natCast, Int.toNat_natCast, hg0])
          rw [e] at hR
          have HR := hid hR
          clear hT hR hx e hg0
          have HIL := hid hi
          have hii : (i : Int) < (L.length : Int) := by omega
          go_enter Try.func26, Try.ntmps26
          go_wp2_with (first | (go_at_call 31; refine (rf_Right _ p m S L HH.out i).mono ?_; rw [HRR.out]; rintro e w1 ⟨rfl, e1⟩; subst w1) | (go_at_call 32; refine (rf_At _ p m S L HH.out hlen k).mono ?_; rw [HR.out]; rintro e w1 ⟨rfl, e1⟩; subst w1))
          rw [HP.out]
          go_ret3
          obtain ⟨r1, r2⟩ := HV.out.setq HIL.out (some (k, d))
          exact ⟨rfl, r1, r2⟩
        | some j =>
          rw [e] at hR
          have HR := hid hR
          by_cases hji : j = i
          · subst hji
            have HP := hid (show putI L m (j : Int) k d = (q0, 0, L.set j (some (k, d))) by rw [hT, if_neg (by simp [takenI, e]), Int.toNat_natCast, Int.toNat_natCast, hg0])
            clear hT hR hx e hg0
            have HIL := hid hi
            have hii : (j : Int) < (L.length : Int) := by omega
            go_enter Try.func26, Try.ntmps26
            go_wp2_with (first | (go_at_call 31; refine (rf_Right _ p m S L HH.out j).mono ?_; rw [HRR.out]; rintro e w1 ⟨rfl, e1⟩; subst w1) | (go_at_call 32; refine (rf_At _ p m S L HH.out hlen k).mono ?_; rw [HR.out]; rintro e w1 ⟨rfl, e1⟩; subst w1))
            rw [HP.out]
            go_ret3
            obtain ⟨r1, r2⟩ := HV.out.setq HIL.out (some (k, d))
            exact ⟨rfl, r1, r2⟩
          · have HP := hid (show putI L m (i : Int) k d = (some (0, false), 15, L) by rw [hT, if_pos (by simp [takenI, e]; omega)])
            have hne2 : ((j : Int) != (i : Int)) = true := by simp; omega
            have hne3 : ((j : Int) == (i : Int)) = false := by simp; omega
            clear hT hR hx e hg0
            go_enter Try.func26, Try.ntmps26
            go_wp2_with (first | (go_at_call 31; refine (rf_Right _ p m S L HH.out i).mono ?_; rw [HRR.out]; rintro e w1 ⟨rfl, e1⟩; subst w1) | (go_at_call 32; refine (rf_At _ p m S L HH.out hlen k).mono ?_; rw [HR.out]; rintro e w1 ⟨rfl, e1⟩; subst w1))
            rw [HP.out]
            go_ret3
            exact ⟨rfl, HH.out, Fr.refl _ _⟩
      · rw [if_neg (fun h => h1 h.2.2)] at hT
        rw [hT]
        clear hT hx
        go_enter Try.func26, Try.ntmps26
        go_wp2_with (first | (go_at_call 31; refine (rf_Right _ p m S L HH.out i).mono ?_; rw [HRR.out]; rintro e w1 ⟨rfl, e1⟩; subst w1) | (go_at_call 32; refine (rf_At _ p m S L HH.out hlen s).mono ?_; rw [HRR.out]; rintro e w1 ⟨rfl, e1⟩; subst w1))
        go_ret3
        exact ⟨rfl, HH.out, Fr.refl _ _⟩
    · rw [if_neg (fun h => h0 h.2.1)] at hT
      rw [hT]
      clear hT hx
      go_enter Try.func26, Try.ntmps26
      go_wp2_with (first | (go_at_call 31; refine (rf_Right _ p m S L HH.out i).mono ?_; rw [HRR.out]; rintro e w1 ⟨rfl, e1⟩; subst w1) | (go_at_call 32; refine (rf_At _ p m S L HH.out hlen s).mono ?_; rw [HRR.out]; rintro e w1 ⟨rfl, e1⟩; subst w1))
      go_ret3
      exact ⟨rfl, HH.out, Fr.refl _ _⟩
  · rw [decide_eq_false hx] at hRR
    have HRR := hid hRR
    rw [if_neg (fun h => hx h.1)] at hT
    rw [hT]
    clear hT hx hRR
    go_enter Try.func26, Try.ntmps26
    go_wp2_with (first | (go_at_call 31; refine (rf_Right _ p m S L HH.out x).mono ?_; rw [HRR.out]; rintro e w1 ⟨rfl, e1⟩; subst w1) | (go_at_call 32; refine (rf_At _ p m S L HH.out hlen s).mono ?_; rw [HRR.out]; rintro e w1 ⟨rfl, e1⟩; subst w1))
    go_ret3
    exact ⟨rfl, HH.out, Fr.refl _ _⟩
end Go.Proofs.Ytfggllhflibfcaa
