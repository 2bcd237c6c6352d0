/- index: the reference: Drop, Clean, Count. -/
import Derived.Test.YtfggllhflibfcaaIxQ
namespace Go.Proofs.Ytfggllhflibfcaa
open Go.RowKit Go.Maps
theorem plS_neg (q : Pl) : decide (plS q < 0) = !q.isSome := by cases q with | none => rfl | some q => obtain ⟨x, d⟩ := q; show decide ((x : Int) < 0) = false; simp
theorem getI_n {L : List Pl} {i : Nat} (hi : i < L.length) (h : L[i] = none) : getI L (i : Int) = (some (0, false), 14) := by
  unfold getI; rw [if_pos (by omega), Int.toNat_natCast, List.getElem?_eq_getElem hi, h]
theorem getI_s {L : List Pl} {i : Nat} {q : Nat × Bool} (hi : i < L.length) (h : L[i] = some q) : getI L (i : Int) = (some q, 0) := by
  unfold getI; rw [if_pos (by omega), Int.toNat_natCast, List.getElem?_eq_getElem hi, h]
theorem RfV.setd {S : Nat → Prop} {w : World} {p m i gs cs gd cd k : Nat} {d : Bool} {L : List Pl} (h : RfV w p S L L m (.slice (some ⟨gs, 0, none⟩) L.length cs) (.slice (some ⟨gd, 0, none⟩) L.length cd)) (hi : i < L.length) (hq : L[i] = some (k, d)) :
    Rf (w.setCell ⟨gd, i, none⟩ (.bool false)) p S (L.set i (some (k, false))) m ∧ Fr S w (w.setCell ⟨gd, i, none⟩ (.bool false)) := by
  have hsd := h.sd gd rfl
  have hne := h.ne
  have h2 := hne.2.1 gd rfl
  have f2 := Fr.set1 w gd i (.bool false)
  obtain ⟨o2, _⟩ := own_set h.dir (fun x _ => dV_len x) (some (k, false)) (dV_len _) i hi
  have hll : (L.set i (some (k, false))).length = L.length := List.length_set
  have e2 : (w.setCells gd (i * 1) (dV (some (k, false)))) = w.setCell ⟨gd, i, none⟩ (.bool false) := by rw [Nat.mul_one]; rfl
  rw [e2, hll] at o2
  have hS : (L.set i (some (k, false))).flatMap sV = L.flatMap sV := by
    have e1 : (L.set i (some (k, false))).map plS = L.map plS := by
      rw [List.map_set]
      apply List.ext_getElem?
      intro j
      rw [List.getElem?_set]
      split
      · rename_i e
        subst e
        rw [List.length_map, if_pos hi, List.getElem?_map, List.getElem?_eq_getElem hi, hq]; rfl
      · rfl
    have e3 : ∀ l : List Pl, l.flatMap sV = (l.map plS).flatMap (fun z => [Value.int .i64 z]) := fun l => by rw [List.flatMap_map]; rfl
    rw [e3, e3, e1]
  have F : Fr S w (w.setCell ⟨gd, i, none⟩ (.bool false)) := f2.mono (fun k _ e => by rw [e]; exact hsd)
  refine ⟨⟨_, _, (f2.block p (lt_of_block h.blk) (fun e => h2 e.symm)).trans h.blk, ?_, ?_, h.sp, h.ss, h.sd, fun k hk => F.lt (h.lt k hk)⟩, F⟩
  · rw [hll, hS]
    exact own_frk h.row f2 (fun k hk e => hne.2.2 k hk (by rw [e]; rfl))
  · rw [hll]
    exact o2
set_option maxRecDepth 100000 in
set_option maxHeartbeats 1000000 in
theorem rf_Drop (w : World) (p m : Nat) (S : Nat → Prop) (L : List Pl) (h : Rf w p S L m) (hl : L.length ≤ 4096) (x : Int) : Calls Try.prog 28 #[.pointer (some ⟨p, 0, none⟩), .int .i64 x] w fun e w' => e = .returned (.tuple #[.int .i64 (plS (dropI L x).1), .bool (plD (dropI L x).1), .int .i64 (dropI L x).2.1]) ∧ Rf w' p S (dropI L x).2.2 m ∧ Fr S w w' := by
  have HH := hid h
  obtain ⟨vs, vd, h⟩ := h
  have HV := hid h
  obtain ⟨c0, c1, c2, _⟩ := h.cells
  have hlen := hl
  clear h
  have hRR : rightI L x = decide (0 ≤ x ∧ x < L.length) := rfl
  by_cases hx : 0 ≤ x ∧ x < L.length
  · rw [decide_eq_true hx] at hRR
    have HRR := hid hRR
    clear hRR
    obtain ⟨i, rfl⟩ : ∃ i : Nat, x = i := ⟨x.toNat, by omega⟩
    have hi : i < L.length := by omega
    have HIL := hid hi
    have hii : (i : Int) < (L.length : Int) := by omega
    obtain ⟨gs, cs, hvs, hgs, a0, a1⟩ := HV.out.at i hi
    obtain ⟨gd, cd, hvd, hgd, b0, b1⟩ := HV.out.dat i hi
    subst hvs
    subst hvd
    have hne : gs ≠ gd := fun e => HV.out.ne.2.2 gs rfl (by rw [e]; rfl)
    have hnp : gs ≠ p := HV.out.ne.1 gs rfl
    obtain ⟨q0, hq0⟩ : ∃ q0 : Pl, L[i]'hi = q0 := ⟨_, rfl⟩
    rw [hq0] at a0 b0
    have hn := plS_neg q0
    cases q0 with
    | none =>
      have HP := hid (show dropI L (i : Int) = (some (0, false), 14, L) by unfold dropI; rw [getI_n hi hq0]; rfl)
      clear hq0 hi hx
      simp only [plS, plD] at a0 b0
      go_enter Try.func28, Try.ntmps28
      go_wp2_with (go_at_call 31; refine (rf_Right _ p m S L HH.out i).mono ?_; rw [HRR.out]; rintro e w1 ⟨rfl, e1⟩; subst w1)
      rw [HP.out]
      go_ret3
      exact ⟨rfl, HH.out, Fr.refl _ _⟩
    | some q =>
      obtain ⟨k, d⟩ := q
      have HP := hid (show dropI L (i : Int) = (some (k, d), 0, L.set i none) by unfold dropI; rw [getI_s hi hq0]; simp)
      clear hq0 hi hx
      simp only [plS, plD] at a0 b0
      go_enter Try.func28, Try.ntmps28
      go_wp2_with (go_at_call 31; refine (rf_Right _ p m S L HH.out i).mono ?_; rw [HRR.out]; rintro e w1 ⟨rfl, e1⟩; subst w1)
      rw [HP.out]
      go_ret3
      obtain ⟨r1, r2⟩ := HV.out.setq HIL.out none
      exact ⟨rfl, r1, r2⟩
  · rw [decide_eq_false hx] at hRR
    have HRR := hid hRR
    have HP := hid (show dropI L x = (some (0, false), 10, L) by unfold dropI getI; rw [if_neg hx]; rfl)
    clear hx hRR
    go_enter Try.func28, Try.ntmps28
    go_wp2_with (go_at_call 31; refine (rf_Right _ p m S L HH.out x).mono ?_; rw [HRR.out]; rintro e w1 ⟨rfl, e1⟩; subst w1)
    rw [HP.out]
    go_ret3
    exact ⟨rfl, HH.out, Fr.refl _ _⟩
set_option maxRecDepth 100000 in
set_option maxHeartbeats 1000000 in
theorem rf_Clean (w : World) (p m : Nat) (S : Nat → Prop) (L : List Pl) (h : Rf w p S L m) (hl : L.length ≤ 4096) (x : Int) : Calls Try.prog 29 #[.pointer (some ⟨p, 0, none⟩), .int .i64 x] w fun e w' => e = .returned (.int .i64 (cleanI L x).1) ∧ Rf w' p S (cleanI L x).2 m ∧ Fr S w w' := by
  have HH := hid h
  obtain ⟨vs, vd, h⟩ := h
  have HV := hid h
  obtain ⟨c0, c1, c2, _⟩ := h.cells
  have hlen := hl
  clear h
  have hRR : rightI L x = decide (0 ≤ x ∧ x < L.length) := rfl
  by_cases hx : 0 ≤ x ∧ x < L.length
  · rw [decide_eq_true hx] at hRR
    have HRR := hid hRR
    clear hRR
    obtain ⟨i, rfl⟩ : ∃ i : Nat, x = i := ⟨x.toNat, by omega⟩
    have hi : i < L.length := by omega
    have HIL := hid hi
    have hii : (i : Int) < (L.length : Int) := by omega
    obtain ⟨gs, cs, hvs, hgs, a0, a1⟩ := HV.out.at i hi
    obtain ⟨gd, cd, hvd, hgd, b0, b1⟩ := HV.out.dat i hi
    subst hvs
    subst hvd
    have hne : gs ≠ gd := fun e => HV.out.ne.2.2 gs rfl (by rw [e]; rfl)
    have hnp : gs ≠ p := HV.out.ne.1 gs rfl
    obtain ⟨q0, hq0⟩ : ∃ q0 : Pl, L[i]'hi = q0 := ⟨_, rfl⟩
    rw [hq0] at a0 b0
    cases q0 with
    | none =>
      have HP := hid (show cleanI L (i : Int) = (14, L) by unfold cleanI; rw [getI_n hi hq0]; rfl)
      clear hq0 hi hx
      simp only [plS, plD] at a0 b0
      go_enter Try.func29, Try.ntmps29
      go_wp2_with (go_at_call 31; refine (rf_Right _ p m S L HH.out i).mono ?_; rw [HRR.out]; rintro e w1 ⟨rfl, e1⟩; subst w1)
      rw [HP.out]
      go_ret
      exact ⟨rfl, HH.out, Fr.refl _ _⟩
    | some q =>
      obtain ⟨k, d⟩ := q
      have HP := hid (show cleanI L (i : Int) = (0, L.set i (some (k, false))) by unfold cleanI; rw [getI_s hi hq0]; simp)
      have HQ := hid (HV.out.setd hi hq0)
      clear hq0 hi hx
      simp only [plS, plD] at a0 b0
      go_enter Try.func29, Try.ntmps29
      go_wp2_with (go_at_call 31; refine (rf_Right _ p m S L HH.out i).mono ?_; rw [HRR.out]; rintro e w1 ⟨rfl, e1⟩; subst w1)
      rw [HP.out]
      go_ret
      exact ⟨rfl, HQ.out.1, HQ.out.2⟩
  · rw [decide_eq_false hx] at hRR
    have HRR := hid hRR
    have HP := hid (show cleanI L x = (10, L) by unfold cleanI getI; rw [if_neg hx]; rfl)
    clear hx hRR
    go_enter Try.func29, Try.ntmps29
    go_wp2_with (go_at_call 31; refine (rf_Right _ p m S L HH.out x).mono ?_; rw [HRR.out]; rintro e w1 ⟨rfl, e1⟩; subst w1)
    rw [HP.out]
    go_ret
    exact ⟨rfl, HH.out, Fr.refl _ _⟩
end Go.Proofs.Ytfggllhflibfcaa
