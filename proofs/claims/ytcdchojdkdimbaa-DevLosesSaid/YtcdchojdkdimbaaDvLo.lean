/- The law DevLoses. (tools/dev_lo.py) -/
import Derived.Test.YtcdchojdkdimbaaDvL
namespace Go.Proofs.Ytcdchojdkdimbaa
open Go.RowKit

/-- the open writes, as calls -/
structure OpnOf (D : DM) (L : List OpM) : Prop where
  eq : D.opn = L.map fun o => (o.sec.toNat, markB o.n)
  at_ : ∀ o ∈ L, thereB D o.sec = true
theorem OpnOf.nil {D : DM} (h : D.opn = []) : OpnOf D [] := ⟨h, fun o ho => by simp at ho⟩
theorem OpnOf.len {D : DM} {L : List OpM} (h : OpnOf D L) : D.opn.length = L.length := by rw [h.eq, List.length_map]
theorem OpnOf.add {D : DM} {L : List OpM} (h : OpnOf D L) (o : OpM) (ht : thereB D o.sec = true) : OpnOf (addO D o.sec.toNat (markB o.n)) (L ++ [o]) :=
  ⟨by show D.opn ++ _ = _; rw [h.eq, List.map_append]; rfl, fun x hx => by
    rcases List.mem_append.1 hx with hx | hx
    · exact h.at_ x hx
    · rw [List.mem_singleton] at hx; subst hx; exact ht⟩
theorem crash_is {D : DM} {L : List OpM} (h : OpnOf D L) (keep : List Bool) (s : Nat) (hs : s < D.firm.length) : ∀ k, k ≤ L.length → (crashK D keep k).getD s zeros = firmAt D s ∨ ∃ o ∈ L, o.sec = s ∧ markB o.n = (crashK D keep k).getD s zeros
  | 0, _ => .inl rfl
  | k + 1, hk => by
    have ih := crash_is h keep s hs k (by omega)
    unfold crashK
    split
    · have hl : (crashK D keep k).length = D.firm.length := crashK_len D keep k
      have hop : opAt D k = ((L[k]'(by omega)).sec.toNat, markB (L[k]'(by omega)).n) := by
        rw [opAt_eq (by rw [h.len]; omega)]
        simp only [h.eq, List.getElem_map]
      have hm := List.getElem_mem (show k < L.length by omega)
      obtain ⟨i, hi, hlt⟩ := there_nat (h.at_ _ hm)
      rw [hop, List.getD_eq_getElem?_getD, List.getElem?_set]
      by_cases e : (L[k]'(by omega)).sec.toNat = s
      · right
        refine ⟨_, hm, by omega, ?_⟩
        rw [if_pos e, if_pos (by omega)]; rfl
      · rw [if_neg e, ← List.getD_eq_getElem?_getD]; exact ih
    · exact ih
theorem crash_all {D : DM} (n : Nat) : ∀ k, k ≤ n → crashK D (List.replicate n true) k = firmK D k
  | 0, _ => rfl
  | k + 1, hk => by
    unfold crashK firmK
    rw [if_pos (by simp [List.getD_eq_getElem?_getD, List.getElem?_replicate, show k < n by omega]), crash_all n k (by omega)]
theorem crash_flush {D : DM} {m n : Nat} (h : Plain D m n) : crashD D (List.replicate D.opn.length true) = flushD D := by
  unfold crashD crashA flushD
  rw [List.length_replicate, crash_all _ _ (Nat.le_refl _), h.plan]
theorem crash_none {D : DM} {m n : Nat} (h : Plain D m n) : crashD (flushD D) [] = flushD D := by
  unfold crashD crashA flushD
  rw [h.plan]; rfl
/-- is the sector as it was, or as one of these calls wrote it? -/
def isB (b : Bool) (L : List OpM) (s : Nat) (Y : List Nat) (j : Nat) : Bool := b || (L.take j).any fun o => (o.sec == (s : Int)) && (markB o.n == Y)
theorem isB_zero (b : Bool) (L : List OpM) (s : Nat) (Y : List Nat) : isB b L s Y 0 = b := by simp [isB]
theorem isB_succ (b : Bool) (L : List OpM) (s : Nat) (Y : List Nat) (j : Nat) (h : j < L.length) : isB b L s Y (j + 1) = (isB b L s Y j || ((L[j].sec == (s : Int)) && (markB L[j].n == Y))) := by
  unfold isB; rw [List.take_succ_eq_append_getElem h, List.any_append]; simp [Bool.or_assoc]
theorem isB_end {D : DM} {L : List OpM} (h : OpnOf D L) (keep : List Bool) (hk : keep.length ≤ L.length) (s : Nat) (hs : s < D.firm.length) : isB (firmAt (crashD D keep) s == firmAt D s) L s (firmAt (crashD D keep) s) L.length = true := by
  unfold isB
  rw [List.take_length]
  rcases crash_is h keep s hs keep.length hk with e | ⟨o, ho, e1, e2⟩
  · have : firmAt (crashD D keep) s = firmAt D s := e
    rw [this]; simp
  · have : markB o.n = firmAt (crashD D keep) s := e2
    rw [Bool.or_eq_true]; right
    rw [List.any_eq_true]
    exact ⟨o, ho, by rw [this, e1]; simp⟩
/-- what the caller owns, and what lies there: one cell each -/
theorem own_row {w : World} {e : TypeId} {v : Value} {n : Nat} {xs : List Value} (h : w.ownsRow 0 e 1 v n xs) (hl : xs.length = n) : ∃ a c, v = .slice a n c ∧ Row w a xs := by
  rcases Nat.eq_zero_or_pos n with h0 | h0
  · subst h0
    obtain ⟨a, c, e1⟩ := own_form h
    exact ⟨a, c, e1, .inl (List.eq_nil_of_length_eq_zero hl)⟩
  · obtain ⟨g, cap, cur, hv, hg, hb, h4, h5, h6, h7⟩ := own_block h h0
    exact ⟨_, _, hv, Row.of_blk hb h7 (by omega)⟩
theorem op_info : (Try.prog.info? 33).map (fun i => (i.zero, i.size, i.bytes)) = some (some (.agg #[.int .i64 0, .int .i64 0, .int .i64 0]), 3, 24) := by kernel_rfl
theorem bool_info : (Try.prog.info? 4).map (fun i => (i.zero, i.size, i.bytes)) = some (some (.bool false), 1, 1) := by kernel_rfl
theorem opV_one (o : OpM) : ∀ u ∈ opV o, u.oneCell' = true := fun u hu => by simp [opV] at hu; rcases hu with rfl | rfl | rfl <;> rfl
theorem grown_fr {w w' : World} {v : Value} (g : w.grownBy w' v.ownBlock) : Fr (fun k => v.ownBlock = some k) w w' := (Fr.refl (fun k => v.ownBlock = some k) w).grown g (fun k e _ => e)

set_option maxRecDepth 100000 in
set_option maxHeartbeats 4000000 in
theorem loses_in (w : World) (m : Nat) (hm1 : 1 ≤ m) (hm40 : m ≤ 40) (al : Option Addr) (cap : Nat) (xs : List OpM) (hx : Ops5 w al xs) (hxl : xs.length ≤ 80) (ak : Option Addr) (capk : Nat) (keep : List Bool) (hkp : Row w ak (keep.map fun b => Value.bool b)) :
    Calls Try.prog 6 #[.int .i64 m, .slice al xs.length cap, .slice ak keep.length capk] w fun e w' => e = .returned (.bool true) ∧ Fr No w w' := by
  obtain ⟨i0, hi, hz0, hz1, hz2⟩ := info_parts op_info
  obtain ⟨ib, hbi, hbz0, hbz1, hbz2⟩ := info_parts bool_info
  have hm2 : m ≤ 4096 := by omega
  have hm40' : (m : Int) ≤ 40 := by omega
  have hxl' : (xs.length : Int) ≤ 80 := by omega
  have HX := hid hx
  have HKP := hid hkp
  clear hx hkp
  go_enter Try.func6, Try.ntmps6
  go_wp2_with fail
  refine (dv_few _ al xs.length cap hxl).mono ?_
  rintro e w ⟨rfl, rfl⟩
  go_wp2_with fail
  refine (dv_New_ok m _ hm1 hm2).mono ?_
  rintro e wn ⟨p, Sn, rfl, hDn, hFn, hSn⟩
  have HDn := hid hDn
  have HFn := hid hFn
  have HSn := hid hSn
  clear hDn hFn hSn
  go_wp2_with fail
  go_loopg [9, 10] xs.length (fun g vL i wr => ∃ (k : Nat) (S : Nat → Prop) (L : List OpM), k + g = xs.length ∧ i = .int .i64 k ∧ Hid (PD wr p S (runF (newD m) xs k)) ∧ Hid (∀ j, S j → w.heap.size ≤ j) ∧ Hid (Fr No w wr) ∧ Hid (OpnOf (runF (newD m) xs k) L) ∧ Hid (wr.ownsRow 0 33 3 vL L.length (L.flatMap opV)) ∧ Hid (∀ j, vL.ownBlock = some j → ¬ S j ∧ w.heap.size ≤ j))
  case atStart => exact ⟨0, Sn, [], by omega, rfl, HDn, HSn, HFn, OpnOf.nil rfl, World.ownsRow_nil _ _ _ _, fun j hj => by simp [Value.ownBlock] at hj⟩
  case round =>
    obtain ⟨k, S, L, hk, rfl, HD, HS, HF, HO, HL, HB⟩ := hrel
    cases gk with
    | succ g =>
      have hkl : k < xs.length := by omega
      obtain ⟨g0, o, rfl, hb, a0, a1, a2⟩ := HX.out.op5 k hkl
      have HPl := hid (Plain.run hm1 hm2 xs k (by omega))
      have hstep := runF_succ (newD m) xs k hkl
      obtain ⟨op, hop⟩ : ∃ op, xs[k] = op := ⟨_, rfl⟩
      rw [hop] at a0 a1 a2 hstep
      have HST := hid hstep
      have hlenD : (runF (newD m) xs k).opn.length ≤ 100000 := by have := HPl.out.opn; omega
      have hLk : L.length ≤ 80 := by have h1 := HPl.out.opn; have h2 := HO.out.len; omega
      obtain ⟨D, hD⟩ : ∃ D, runF (newD m) xs k = D := ⟨_, rfl⟩
      rw [hD] at HD HPl HST hlenD HO
      obtain ⟨ask, sec, nn⟩ := op
      have k0 : wr.cell? ⟨g0, o + k * 3, none⟩ = some (.int .i64 ask) := (HF.out.cell (p := ⟨g0, o + k * 3, none⟩) hb id).trans a0
      have k1 : wr.cell? ⟨g0, o + k * 3 + 1, none⟩ = some (.int .i64 sec) := (HF.out.cell (p := ⟨g0, o + k * 3 + 1, none⟩) hb id).trans a1
      have k2 : wr.cell? ⟨g0, o + k * 3 + 2, none⟩ = some (.int .i64 nn) := (HF.out.cell (p := ⟨g0, o + k * 3 + 2, none⟩) hb id).trans a2
      obtain ⟨aL, cL, rfl⟩ := own_form HL.out
      have hng0 : ¬ S g0 := fun e => by have := HS.out _ e; have e2 : g0 < w.heap.size := hb; omega
      have HVL : Hid (∀ (S' : Nat → Prop) (y : World), (∀ j, S' j → S j ∨ y.heap.size ≤ j) → wr.heap.size ≤ y.heap.size → ∀ j, (Value.slice aL L.length cL).ownBlock = some j → ¬ S' j ∧ w.heap.size ≤ j) := fun S' y hM hy j hj => ⟨fun e => (hM j e).elim (fun e => (HB.out j hj).1 e) (fun e => by obtain ⟨x, hx⟩ := own_ty HL.out hj; have := lt_of_block hx; omega), (HB.out j hj).2⟩
      clear hop hstep hD a0 a1 a2
      rcases Decidable.em (ask = 0) with h0 | h0
      · subst h0
        go_wp2_with fail
        refine wp_region_held_drew (S := fun W => W.cell? ⟨g0, o + k * 3, none⟩ = some (.int .i64 0) ∧ W.cell? ⟨g0, o + k * 3 + 1, none⟩ = some (.int .i64 sec) ∧ W.cell? ⟨g0, o + k * 3 + 2, none⟩ = some (.int .i64 nn)) (by kernel_rfl) ⟨k0, k1, k2⟩ (fun hHeld => ?_)
        have HD0 := hid (HD.out.no (Fr.refl No wr).drew)
        have HF0 := hid HF.out.drew
        have HL0 := hid (own_frk HL.out (Fr.refl No wr).drew (fun _ _ => id))
        have hz00 : wr.heap.size ≤ wr.drew.heap.size := Nat.le_refl _
        obtain ⟨z0, hz0'⟩ : ∃ z0, wr.drew = z0 := ⟨_, rfl⟩
        rw [hz0'] at HD0 HF0 HL0 hHeld hz00 ⊢
        clear hz0' k0 k1 k2 HD HF HL
        refine wpAnyH_take (i := 0) (v := ?_) rfl (by kernel_rfl) (by kernel_rfl) (by kernel_rfl) (fun _ _ _ h => h) (Or.inl ⟨by rfl, ?_⟩) hHeld ?_
        rotate_left
        · intro w hSw; obtain ⟨hA1, hA2, hA3⟩ := hSw
          go_simp
          with_reducible rfl
        try simp only [Act.put, List.getElem_toArray, List.getElem_cons_zero, List.getElem_cons_succ, List.setIfInBounds_toArray, List.set_cons_zero, List.set_cons_succ]
        refine wpAnyH_take (i := 1) (v := ?_) rfl (by kernel_rfl) (by kernel_rfl) (by kernel_rfl) (fun _ _ _ h => h) (Or.inl ⟨by rfl, ?_⟩) hHeld ?_
        rotate_left
        · intro w hSw; obtain ⟨hA1, hA2, hA3⟩ := hSw
          go_simp
          with_reducible rfl
        try simp only [Act.put, List.getElem_toArray, List.getElem_cons_zero, List.getElem_cons_succ, List.setIfInBounds_toArray, List.set_cons_zero, List.set_cons_succ]
        refine wpAnyH_take (i := 2) (v := ?_) rfl (by kernel_rfl) (by kernel_rfl) (by kernel_rfl) (fun _ _ _ h => h) (Or.inl ⟨by rfl, ?_⟩) hHeld ?_
        rotate_left
        · intro w hSw; obtain ⟨hA1, hA2, hA3⟩ := hSw
          go_simp
          with_reducible rfl
        try simp only [Act.put, List.getElem_toArray, List.getElem_cons_zero, List.getElem_cons_succ, List.setIfInBounds_toArray, List.set_cons_zero, List.set_cons_succ]
        refine wpAnyH_take (i := 3) (v := ?_) rfl (by kernel_rfl) (by kernel_rfl) (by kernel_rfl) (fun _ _ _ h => h) (Or.inl ⟨by rfl, ?_⟩) hHeld ?_
        rotate_left
        · intro w hSw; obtain ⟨hA1, hA2, hA3⟩ := hSw
          go_simp
          with_reducible rfl
        try simp only [Act.put, List.getElem_toArray, List.getElem_cons_zero, List.getElem_cons_succ, List.setIfInBounds_toArray, List.set_cons_zero, List.set_cons_succ]
        refine wpAnyH_take (i := 4) (v := ?_) rfl (by kernel_rfl) (by kernel_rfl) (by kernel_rfl) (fun _ _ _ h => h) (Or.inl ⟨by rfl, ?_⟩) hHeld ?_
        rotate_left
        · intro w hSw; obtain ⟨hA1, hA2, hA3⟩ := hSw
          go_simp
          with_reducible rfl
        try simp only [Act.put, List.getElem_toArray, List.getElem_cons_zero, List.getElem_cons_succ, List.setIfInBounds_toArray, List.set_cons_zero, List.set_cons_succ]
        refine wpAnyH_take (i := 5) (v := ?_) rfl (by kernel_rfl) (by kernel_rfl) (by kernel_rfl) (fun _ _ _ h => h) (Or.inl ⟨by rfl, ?_⟩) hHeld ?_
        rotate_left
        · intro w hSw; obtain ⟨hA1, hA2, hA3⟩ := hSw
          go_simp
          with_reducible rfl
        try simp only [Act.put, List.getElem_toArray, List.getElem_cons_zero, List.getElem_cons_succ, List.setIfInBounds_toArray, List.set_cons_zero, List.set_cons_succ]
        refine wpAnyH_take (i := 6) (v := ?_) rfl (by kernel_rfl) (by kernel_rfl) (by kernel_rfl) (fun _ _ _ h => h) (Or.inl ⟨by rfl, ?_⟩) hHeld ?_
        rotate_left
        · intro w hSw; obtain ⟨hA1, hA2, hA3⟩ := hSw
          go_simp
          with_reducible rfl
        try simp only [Act.put, List.getElem_toArray, List.getElem_cons_zero, List.getElem_cons_succ, List.setIfInBounds_toArray, List.set_cons_zero, List.set_cons_succ]
        refine wpAnyH_take (i := 7) (v := ?_) rfl (by kernel_rfl) (by kernel_rfl) (by kernel_rfl) (fun _ _ _ h => h) (Or.inl ⟨by rfl, ?_⟩) hHeld ?_
        rotate_left
        · intro w hSw; obtain ⟨hA1, hA2, hA3⟩ := hSw
          go_simp
          with_reducible rfl
        try simp only [Act.put, List.getElem_toArray, List.getElem_cons_zero, List.getElem_cons_succ, List.setIfInBounds_toArray, List.set_cons_zero, List.set_cons_succ]
        refine wpAnyH_take (i := 8) (v := ?_) rfl (by kernel_rfl) (by kernel_rfl) (by kernel_rfl) (fun _ _ _ h => h) (Or.inl ⟨by rfl, ?_⟩) hHeld ?_
        rotate_left
        · intro w hSw; obtain ⟨hA1, hA2, hA3⟩ := hSw
          go_simp
          with_reducible rfl
        try simp only [Act.put, List.getElem_toArray, List.getElem_cons_zero, List.getElem_cons_succ, List.setIfInBounds_toArray, List.set_cons_zero, List.set_cons_succ]
        refine wpAnyH_take (i := 9) (v := ?_) rfl (by kernel_rfl) (by kernel_rfl) (by kernel_rfl) (fun _ _ _ h => h) (Or.inl ⟨by rfl, ?_⟩) hHeld ?_
        rotate_left
        · intro w hSw; obtain ⟨hA1, hA2, hA3⟩ := hSw
          go_simp
          with_reducible rfl
        try simp only [Act.put, List.getElem_toArray, List.getElem_cons_zero, List.getElem_cons_succ, List.setIfInBounds_toArray, List.set_cons_zero, List.set_cons_succ]
        refine wpAnyH_take (i := 10) (v := ?_) rfl (by kernel_rfl) (by kernel_rfl) (by kernel_rfl) (fun _ _ _ h => h) (Or.inl ⟨by rfl, ?_⟩) hHeld ?_
        rotate_left
        · intro w hSw; obtain ⟨hA1, hA2, hA3⟩ := hSw
          go_simp
          with_reducible rfl
        try simp only [Act.put, List.getElem_toArray, List.getElem_cons_zero, List.getElem_cons_succ, List.setIfInBounds_toArray, List.set_cons_zero, List.set_cons_succ]
        refine wpAnyH_take (i := 11) (v := ?_) rfl (by kernel_rfl) (by kernel_rfl) (by kernel_rfl) (fun _ _ _ h => h) (Or.inl ⟨by rfl, ?_⟩) hHeld ?_
        rotate_left
        · intro w hSw; obtain ⟨hA1, hA2, hA3⟩ := hSw
          go_simp
          with_reducible rfl
        try simp only [Act.put, List.getElem_toArray, List.getElem_cons_zero, List.getElem_cons_succ, List.setIfInBounds_toArray, List.set_cons_zero, List.set_cons_succ]
        refine wpAnyH_take (i := 12) (v := ?_) rfl (by kernel_rfl) (by kernel_rfl) (by kernel_rfl) (fun _ _ _ h => h) (Or.inl ⟨by rfl, ?_⟩) hHeld ?_
        rotate_left
        · intro w hSw; obtain ⟨hA1, hA2, hA3⟩ := hSw
          go_simp
          with_reducible rfl
        try simp only [Act.put, List.getElem_toArray, List.getElem_cons_zero, List.getElem_cons_succ, List.setIfInBounds_toArray, List.set_cons_zero, List.set_cons_succ]
        refine wpAnyH_take (i := 13) (v := ?_) rfl (by kernel_rfl) (by kernel_rfl) (by kernel_rfl) (fun _ _ _ h => h) (Or.inl ⟨by rfl, ?_⟩) hHeld ?_
        rotate_left
        · intro w hSw; obtain ⟨hA1, hA2, hA3⟩ := hSw
          go_simp
          with_reducible rfl
        try simp only [Act.put, List.getElem_toArray, List.getElem_cons_zero, List.getElem_cons_succ, List.setIfInBounds_toArray, List.set_cons_zero, List.set_cons_succ]
        refine wpAnyH_take (i := 14) (v := ?_) rfl (by kernel_rfl) (by kernel_rfl) (by kernel_rfl) (fun _ _ _ h => h) (Or.inl ⟨by rfl, ?_⟩) hHeld ?_
        rotate_left
        · intro w hSw; obtain ⟨hA1, hA2, hA3⟩ := hSw
          go_simp
          with_reducible rfl
        try simp only [Act.put, List.getElem_toArray, List.getElem_cons_zero, List.getElem_cons_succ, List.setIfInBounds_toArray, List.set_cons_zero, List.set_cons_succ]
        refine wpAnyH_take (i := 15) (v := ?_) rfl (by kernel_rfl) (by kernel_rfl) (by kernel_rfl) (fun _ _ _ h => h) (Or.inl ⟨by rfl, ?_⟩) hHeld ?_
        rotate_left
        · intro w hSw; obtain ⟨hA1, hA2, hA3⟩ := hSw
          go_simp
          with_reducible rfl
        try simp only [Act.put, List.getElem_toArray, List.getElem_cons_zero, List.getElem_cons_succ, List.setIfInBounds_toArray, List.set_cons_zero, List.set_cons_succ]
        refine wpAnyH_take (i := 16) (v := ?_) rfl (by kernel_rfl) (by kernel_rfl) (by kernel_rfl) (fun _ _ _ h => h) (Or.inl ⟨by rfl, ?_⟩) hHeld ?_
        rotate_left
        · intro w hSw; obtain ⟨hA1, hA2, hA3⟩ := hSw
          go_simp
          with_reducible rfl
        try simp only [Act.put, List.getElem_toArray, List.getElem_cons_zero, List.getElem_cons_succ, List.setIfInBounds_toArray, List.set_cons_zero, List.set_cons_succ]
        refine wpAnyH_take (i := 17) (v := ?_) rfl (by kernel_rfl) (by kernel_rfl) (by kernel_rfl) (fun _ _ _ h => h) (Or.inl ⟨by rfl, ?_⟩) hHeld ?_
        rotate_left
        · intro w hSw; obtain ⟨hA1, hA2, hA3⟩ := hSw
          go_simp
          with_reducible rfl
        try simp only [Act.put, List.getElem_toArray, List.getElem_cons_zero, List.getElem_cons_succ, List.setIfInBounds_toArray, List.set_cons_zero, List.set_cons_succ]
        refine wpAnyH_ready (rs := [18]) (by kernel_rfl) (by simp) ?_
        refine AllReadyH.cons rfl (fun K hK => ?_) AllReadyH.nil
        rw [if_pos (by rfl)]
        go_simp
        refine (dv_mark z0 nn).mono ?_
        rintro e y0 ⟨rfl, hF⟩
        refine hK.out _ _ ⟨(hF.cell (lt_of_cell hHeld.1) id).trans hHeld.1, (hF.cell (lt_of_cell hHeld.2.1) id).trans hHeld.2.1, (hF.cell (lt_of_cell hHeld.2.2) id).trans hHeld.2.2⟩ (fun hHeld => ?_)
        clear hK K
        try simp only [Act.put, List.getElem_toArray, List.getElem_cons_zero, List.getElem_cons_succ, List.setIfInBounds_toArray, List.set_cons_zero, List.set_cons_succ]
        have HDm := hid (HD0.out.no hF)
        have HFm := hid (HF0.out.trans hF)
        have HLm := hid (own_frk HL0.out hF (fun _ _ => id))
        have hym : wr.heap.size ≤ y0.heap.size := Nat.le_trans hz00 hF.size
        clear hF HD0 HF0 HL0
        refine wpAnyH_ready (rs := [19]) (by kernel_rfl) (by simp) ?_
        refine AllReadyH.cons rfl (fun K hK => ?_) AllReadyH.nil
        rw [if_pos (by rfl)]
        go_simp
        refine (dv_WriteAny y0 p S D HDm.out sec (markB nn) (markB_len nn) hlenD).mono ?_
        rintro e v1 ⟨rfl, S1, hX, hF, hM⟩
        have hc0 : v1.cell? ⟨g0, o + k * 3, none⟩ = some (.int .i64 0) := (hF.cell (lt_of_cell hHeld.1) hng0).trans hHeld.1
        have hc1 : v1.cell? ⟨g0, o + k * 3 + 1, none⟩ = some (.int .i64 sec) := (hF.cell (lt_of_cell hHeld.2.1) hng0).trans hHeld.2.1
        have hc2 : v1.cell? ⟨g0, o + k * 3 + 2, none⟩ = some (.int .i64 nn) := (hF.cell (lt_of_cell hHeld.2.2) hng0).trans hHeld.2.2
        refine hK.out _ _ ⟨hc0, hc1, hc2⟩ (fun hHeld => ?_)
        clear hK K
        try simp only [Act.put, List.getElem_toArray, List.getElem_cons_zero, List.getElem_cons_succ, List.setIfInBounds_toArray, List.set_cons_zero, List.set_cons_succ]
        have HD1 := hid hX
        have HL1 := hid (own_frk HLm.out hF (fun j hj => (HB.out j hj).1))
        have HF1 := hid (HFm.out.then hF (fun i hi e => absurd hi (by have := HS.out i e; omega)))
        have HB1 := hid (HVL.out S1 y0 hM.1 hym)
        have HS1 : Hid (∀ j, S1 j → w.heap.size ≤ j) := fun j hj => (hM.1 j hj).elim (fun e => HS.out j e) (fun e => by have := HFm.out.size; omega)
        clear hX hF hM HDm HFm HLm
        by_cases ht : thereB D sec = true
        · have hE : ((wE D sec : Nat) : Int) = 0 := by unfold wE; rw [if_pos ht]; rw [HPl.out.wE.1]; rfl
          have hDD : wD D sec (markB nn) = addO D sec.toNat (markB nn) := by unfold Go.Proofs.Ytcdchojdkdimbaa.wD; rw [if_pos ht, HPl.out.write]
          have HO1 := hid (HO.out.add ⟨0, sec, nn⟩ ht)
          rw [hE]
          rw [hDD] at HD1
          have HST2 : Hid (runF (newD m) xs (k + 1) = addO D sec.toNat (markB nn)) := by unfold Hid; rw [HST.out, ← hDD]; rfl
          clear hE hDD ht
          refine wpAnyH_take (i := 20) (v := ?_) rfl (by kernel_rfl) (by kernel_rfl) (by kernel_rfl) (fun _ _ _ h => h) (Or.inl ⟨by rfl, ?_⟩) hHeld ?_
          rotate_left
          · intro w hSw; obtain ⟨hA1, hA2, hA3⟩ := hSw
            go_simp
            with_reducible rfl
          try simp only [Act.put, List.getElem_toArray, List.getElem_cons_zero, List.getElem_cons_succ, List.setIfInBounds_toArray, List.set_cons_zero, List.set_cons_succ]
          refine wpAnyH_take (i := 21) (v := ?_) rfl (by kernel_rfl) (by kernel_rfl) (by kernel_rfl) (fun _ _ _ h => h) (Or.inl ⟨by rfl, ?_⟩) hHeld ?_
          rotate_left
          · intro w hSw; obtain ⟨hA1, hA2, hA3⟩ := hSw
            go_simp
            with_reducible rfl
          try simp only [Act.put, List.getElem_toArray, List.getElem_cons_zero, List.getElem_cons_succ, List.setIfInBounds_toArray, List.set_cons_zero, List.set_cons_succ]
          refine wpAnyH_done (by kernel_rfl) ?_ _
          have HNB := hid (World.news_of_block (heap_new v1 (.cells #[.int .i64 0, .int .i64 sec, .int .i64 nn] 33)))
          have HLA := hid (own_frk HL1.out ((Fr.refl No v1).alloc (.cells #[.int .i64 0, .int .i64 sec, .int .i64 nn] 33)) (fun _ _ => id))
          have HFA := hid (HF1.out.alloc (.cells #[.int .i64 0, .int .i64 sec, .int .i64 nn] 33))
          have HDA := hid (HD1.out.no ((Fr.refl No v1).alloc (.cells #[.int .i64 0, .int .i64 sec, .int .i64 nn] 33)))
          have hd0 := ((Fr.refl No v1).alloc (.cells #[.int .i64 0, .int .i64 sec, .int .i64 nn] 33)).cell (p := ⟨g0, o + k * 3, none⟩) (lt_of_cell hc0) id
          rw [hc0] at hd0
          have hvs : v1.heap.size ≤ (v1.alloc (.cells #[.int .i64 0, .int .i64 sec, .int .i64 nn] 33)).heap.size := HFA.out.size |> fun _ => by simp
          go_wp2_with (at_builtin; refine wpList_append_lies _ rfl (.tmp 77) (.tmp 82) 22 rfl 0 33 i0 (.agg #[.int .i64 0, .int .i64 0, .int .i64 0]) 3 24 Try.underlying22 hi hz0 hz1 hz2 (by kernel_rfl) (by decide) _ L.length _ rfl HLA.out ⟨v1.heap.size, 0, none⟩ 1 1 [.int .i64 0, .int .i64 sec, .int .i64 nn] rfl rfl (by simpa using HNB.out) (opV_one ⟨0, sec, nn⟩) (by decide) (by unfold maxLen; omega) (by omega) (Nat.zero_le _) _ rfl ?_; intro gq capq w1 hown hgrow hgat hgz; have HFG := hid (grown_fr hgrow); have hd1 := (HFG.out.cell (p := ⟨g0, o + k * 3, none⟩) (lt_of_cell hd0) (fun e => by have := (HB1.out g0 e).2; have e2 : g0 < w.heap.size := hb; omega)).trans hd0; have HOWN := hid hown; have HGAT := hid hgat; clear hown hgrow hgat)
          go_roundg g
          case measure => omega
          case rel =>
            have HDG := HDA.out.fr HFG.out (fun j hj e => (HB1.out j e).1 hj)
            have HFF := HFA.out.then HFG.out (fun i hi e => absurd hi (by have := (HB1.out i e).2; omega))
            refine ⟨k + 1, S1, L ++ [⟨0, sec, nn⟩], by omega, by go_num, by rw [HST2.out]; exact HDG, HS1, HFF, by rw [HST2.out]; exact HO1.out, ?_, fun j hj => ?_⟩
            · rw [List.length_append, List.flatMap_append, List.length_singleton, List.flatMap_singleton]; exact HOWN.out
            · have hj : gq = j := by simpa [Value.ownBlock] using hj
              subst hj
              rcases HGAT.out with e | e
              · exact HB1.out _ e
              · refine ⟨fun hs => by have h1 := HD1.out.lt _ hs; omega, by have := HF1.out.size; omega⟩
        · have hE : ((wE D sec : Nat) : Int) = 10 := by unfold wE; rw [if_neg ht]; rfl
          have hDD : wD D sec (markB nn) = D := by unfold Go.Proofs.Ytcdchojdkdimbaa.wD; rw [if_neg ht]
          rw [hE]
          rw [hDD] at HD1
          have HST2 : Hid (runF (newD m) xs (k + 1) = D) := HST.out.trans (show stepF D ⟨0, sec, nn⟩ = D from hDD)
          clear hE hDD ht
          refine wpAnyH_take (i := 20) (v := ?_) rfl (by kernel_rfl) (by kernel_rfl) (by kernel_rfl) (fun _ _ _ h => h) (Or.inl ⟨by rfl, ?_⟩) hHeld ?_
          rotate_left
          · intro w hSw; obtain ⟨hA1, hA2, hA3⟩ := hSw
            go_simp
            with_reducible rfl
          try simp only [Act.put, List.getElem_toArray, List.getElem_cons_zero, List.getElem_cons_succ, List.setIfInBounds_toArray, List.set_cons_zero, List.set_cons_succ]
          refine wpAnyH_take (i := 21) (v := ?_) rfl (by kernel_rfl) (by kernel_rfl) (by kernel_rfl) (fun _ _ _ h => h) (Or.inl ⟨by rfl, ?_⟩) hHeld ?_
          rotate_left
          · intro w hSw; obtain ⟨hA1, hA2, hA3⟩ := hSw
            go_simp
            with_reducible rfl
          try simp only [Act.put, List.getElem_toArray, List.getElem_cons_zero, List.getElem_cons_succ, List.setIfInBounds_toArray, List.set_cons_zero, List.set_cons_succ]
          refine wpAnyH_done (by kernel_rfl) ?_ _
          go_wp2_with fail
          go_roundg g
          case measure => omega
          case rel => exact ⟨k + 1, S1, L, by omega, by go_num, by rw [HST2.out]; exact HD1, HS1, HF1, by rw [HST2.out]; exact HO, HL1, HB1⟩
      · have hn0 : (ask == 0) = false := by simpa using h0
        clear h0
        go_wp2_with fail
        refine wp_region_held_drew (S := fun W => W.cell? ⟨g0, o + k * 3, none⟩ = some (.int .i64 ask)) (by kernel_rfl) k0 (fun hHeld => ?_)
        have HD0 := hid (HD.out.no (Fr.refl No wr).drew)
        have HF0 := hid HF.out.drew
        have HL0 := hid (own_frk HL.out (Fr.refl No wr).drew (fun _ _ => id))
        obtain ⟨z0, hz0'⟩ : ∃ z0, wr.drew = z0 := ⟨_, rfl⟩
        rw [hz0'] at HD0 HF0 HL0 hHeld ⊢
        clear hz0' k0 k1 k2 HD HF HL
        refine wpAnyH_take (i := 0) (v := ?_) rfl (by kernel_rfl) (by kernel_rfl) (by kernel_rfl) (fun _ _ _ h => h) (Or.inl ⟨by rfl, ?_⟩) hHeld ?_
        rotate_left
        · intro w hSw
          go_simp
          with_reducible rfl
        try simp only [Act.put, List.getElem_toArray, List.getElem_cons_zero, List.getElem_cons_succ, List.setIfInBounds_toArray, List.set_cons_zero, List.set_cons_succ]
        refine wpAnyH_take (i := 1) (v := ?_) rfl (by kernel_rfl) (by kernel_rfl) (by kernel_rfl) (fun _ _ _ h => h) (Or.inl ⟨by rfl, ?_⟩) hHeld ?_
        rotate_left
        · intro w hSw
          go_simp
          with_reducible rfl
        try simp only [Act.put, List.getElem_toArray, List.getElem_cons_zero, List.getElem_cons_succ, List.setIfInBounds_toArray, List.set_cons_zero, List.set_cons_succ]
        refine wpAnyH_take (i := 2) (v := ?_) rfl (by kernel_rfl) (by kernel_rfl) (by kernel_rfl) (fun _ _ _ h => h) (Or.inl ⟨by rfl, ?_⟩) hHeld ?_
        rotate_left
        · intro w hSw
          go_simp
          with_reducible rfl
        try simp only [Act.put, List.getElem_toArray, List.getElem_cons_zero, List.getElem_cons_succ, List.setIfInBounds_toArray, List.set_cons_zero, List.set_cons_succ]
        refine wpAnyH_take (i := 3) (v := ?_) rfl (by kernel_rfl) (by kernel_rfl) (by kernel_rfl) (fun _ _ _ h => h) (Or.inl ⟨by rfl, ?_⟩) hHeld ?_
        rotate_left
        · intro w hSw
          go_simp
          with_reducible rfl
        try simp only [Act.put, List.getElem_toArray, List.getElem_cons_zero, List.getElem_cons_succ, List.setIfInBounds_toArray, List.set_cons_zero, List.set_cons_succ]
        refine wpAnyH_take (i := 4) (v := ?_) rfl (by kernel_rfl) (by kernel_rfl) (by kernel_rfl) (fun _ _ _ h => h) (Or.inl ⟨by rfl, ?_⟩) hHeld ?_
        rotate_left
        · intro w hSw
          go_simp
          with_reducible rfl
        try simp only [Act.put, List.getElem_toArray, List.getElem_cons_zero, List.getElem_cons_succ, List.setIfInBounds_toArray, List.set_cons_zero, List.set_cons_succ]
        refine wpAnyH_take (i := 5) (v := ?_) rfl (by kernel_rfl) (by kernel_rfl) (by kernel_rfl) (fun _ _ _ h => h) (Or.inl ⟨by rfl, ?_⟩) hHeld ?_
        rotate_left
        · intro w hSw
          go_simp
          with_reducible rfl
        try simp only [Act.put, List.getElem_toArray, List.getElem_cons_zero, List.getElem_cons_succ, List.setIfInBounds_toArray, List.set_cons_zero, List.set_cons_succ]
        refine wpAnyH_take (i := 6) (v := ?_) rfl (by kernel_rfl) (by kernel_rfl) (by kernel_rfl) (fun _ _ _ h => h) (Or.inl ⟨by rfl, ?_⟩) hHeld ?_
        rotate_left
        · intro w hSw
          go_simp
          with_reducible rfl
        try simp only [Act.put, List.getElem_toArray, List.getElem_cons_zero, List.getElem_cons_succ, List.setIfInBounds_toArray, List.set_cons_zero, List.set_cons_succ]
        refine wpAnyH_take (i := 7) (v := undef) rfl (by kernel_rfl) (by kernel_rfl) (by kernel_rfl) (fun _ _ _ h => h) (Or.inr ⟨by rfl, rfl⟩) hHeld ?_
        try simp only [Act.put, List.getElem_toArray, List.getElem_cons_zero, List.getElem_cons_succ, List.setIfInBounds_toArray, List.set_cons_zero, List.set_cons_succ]
        refine wpAnyH_take (i := 8) (v := undef) rfl (by kernel_rfl) (by kernel_rfl) (by kernel_rfl) (fun _ _ _ h => h) (Or.inr ⟨by rfl, rfl⟩) hHeld ?_
        try simp only [Act.put, List.getElem_toArray, List.getElem_cons_zero, List.getElem_cons_succ, List.setIfInBounds_toArray, List.set_cons_zero, List.set_cons_succ]
        refine wpAnyH_take (i := 9) (v := undef) rfl (by kernel_rfl) (by kernel_rfl) (by kernel_rfl) (fun _ _ _ h => h) (Or.inr ⟨by rfl, rfl⟩) hHeld ?_
        try simp only [Act.put, List.getElem_toArray, List.getElem_cons_zero, List.getElem_cons_succ, List.setIfInBounds_toArray, List.set_cons_zero, List.set_cons_succ]
        refine wpAnyH_take (i := 10) (v := undef) rfl (by kernel_rfl) (by kernel_rfl) (by kernel_rfl) (fun _ _ _ h => h) (Or.inr ⟨by rfl, rfl⟩) hHeld ?_
        try simp only [Act.put, List.getElem_toArray, List.getElem_cons_zero, List.getElem_cons_succ, List.setIfInBounds_toArray, List.set_cons_zero, List.set_cons_succ]
        refine wpAnyH_take (i := 11) (v := undef) rfl (by kernel_rfl) (by kernel_rfl) (by kernel_rfl) (fun _ _ _ h => h) (Or.inr ⟨by rfl, rfl⟩) hHeld ?_
        try simp only [Act.put, List.getElem_toArray, List.getElem_cons_zero, List.getElem_cons_succ, List.setIfInBounds_toArray, List.set_cons_zero, List.set_cons_succ]
        refine wpAnyH_take (i := 12) (v := undef) rfl (by kernel_rfl) (by kernel_rfl) (by kernel_rfl) (fun _ _ _ h => h) (Or.inr ⟨by rfl, rfl⟩) hHeld ?_
        try simp only [Act.put, List.getElem_toArray, List.getElem_cons_zero, List.getElem_cons_succ, List.setIfInBounds_toArray, List.set_cons_zero, List.set_cons_succ]
        refine wpAnyH_take (i := 13) (v := undef) rfl (by kernel_rfl) (by kernel_rfl) (by kernel_rfl) (fun _ _ _ h => h) (Or.inr ⟨by rfl, rfl⟩) hHeld ?_
        try simp only [Act.put, List.getElem_toArray, List.getElem_cons_zero, List.getElem_cons_succ, List.setIfInBounds_toArray, List.set_cons_zero, List.set_cons_succ]
        refine wpAnyH_take (i := 14) (v := undef) rfl (by kernel_rfl) (by kernel_rfl) (by kernel_rfl) (fun _ _ _ h => h) (Or.inr ⟨by rfl, rfl⟩) hHeld ?_
        try simp only [Act.put, List.getElem_toArray, List.getElem_cons_zero, List.getElem_cons_succ, List.setIfInBounds_toArray, List.set_cons_zero, List.set_cons_succ]
        refine wpAnyH_take (i := 15) (v := undef) rfl (by kernel_rfl) (by kernel_rfl) (by kernel_rfl) (fun _ _ _ h => h) (Or.inr ⟨by rfl, rfl⟩) hHeld ?_
        try simp only [Act.put, List.getElem_toArray, List.getElem_cons_zero, List.getElem_cons_succ, List.setIfInBounds_toArray, List.set_cons_zero, List.set_cons_succ]
        refine wpAnyH_take (i := 16) (v := undef) rfl (by kernel_rfl) (by kernel_rfl) (by kernel_rfl) (fun _ _ _ h => h) (Or.inr ⟨by rfl, rfl⟩) hHeld ?_
        try simp only [Act.put, List.getElem_toArray, List.getElem_cons_zero, List.getElem_cons_succ, List.setIfInBounds_toArray, List.set_cons_zero, List.set_cons_succ]
        refine wpAnyH_take (i := 17) (v := undef) rfl (by kernel_rfl) (by kernel_rfl) (by kernel_rfl) (fun _ _ _ h => h) (Or.inr ⟨by rfl, rfl⟩) hHeld ?_
        try simp only [Act.put, List.getElem_toArray, List.getElem_cons_zero, List.getElem_cons_succ, List.setIfInBounds_toArray, List.set_cons_zero, List.set_cons_succ]
        refine wpAnyH_take (i := 18) (v := undef) rfl (by kernel_rfl) (by kernel_rfl) (by kernel_rfl) (fun _ _ _ h => h) (Or.inr ⟨by rfl, rfl⟩) hHeld ?_
        try simp only [Act.put, List.getElem_toArray, List.getElem_cons_zero, List.getElem_cons_succ, List.setIfInBounds_toArray, List.set_cons_zero, List.set_cons_succ]
        refine wpAnyH_take (i := 19) (v := undef) rfl (by kernel_rfl) (by kernel_rfl) (by kernel_rfl) (fun _ _ _ h => h) (Or.inr ⟨by rfl, rfl⟩) hHeld ?_
        try simp only [Act.put, List.getElem_toArray, List.getElem_cons_zero, List.getElem_cons_succ, List.setIfInBounds_toArray, List.set_cons_zero, List.set_cons_succ]
        refine wpAnyH_take (i := 20) (v := undef) rfl (by kernel_rfl) (by kernel_rfl) (by kernel_rfl) (fun _ _ _ h => h) (Or.inr ⟨by rfl, rfl⟩) hHeld ?_
        try simp only [Act.put, List.getElem_toArray, List.getElem_cons_zero, List.getElem_cons_succ, List.setIfInBounds_toArray, List.set_cons_zero, List.set_cons_succ]
        refine wpAnyH_take (i := 21) (v := ?_) rfl (by kernel_rfl) (by kernel_rfl) (by kernel_rfl) (fun _ _ _ h => h) (Or.inl ⟨by rfl, ?_⟩) hHeld ?_
        rotate_left
        · intro w hSw
          go_simp
          with_reducible rfl
        try simp only [Act.put, List.getElem_toArray, List.getElem_cons_zero, List.getElem_cons_succ, List.setIfInBounds_toArray, List.set_cons_zero, List.set_cons_succ]
        refine wpAnyH_done (by kernel_rfl) ?_ _
        rcases Decidable.em (ask = 2) with h2 | h2
        · subst h2
          go_wp2_with fail
          refine (dv_Flush z0 p S D HD0.out hlenD).mono ?_
          rintro e v1 ⟨rfl, hX, hF⟩
          rw [show flushE D = 0 from HPl.out.wE.2.1]
          have HST2 : Hid (runF (newD m) xs (k + 1) = flushF D) := by unfold Hid; rw [HST.out]; rfl
          have HFE : Hid (flushF D = flushD D) := HPl.out.flush
          have HD1 := hid hX
          have HF1 := hid (HF0.out.then hF (fun i hi e => absurd hi (by have := HS.out i e; omega)))
          clear hX hF HD0 HF0 HL0
          go_wp2_with fail
          go_roundg g
          case measure => omega
          case rel => exact ⟨k + 1, S, [], by omega, by go_num, by rw [HST2.out]; exact HD1, HS, HF1, by rw [HST2.out, HFE.out]; exact OpnOf.nil rfl, World.ownsRow_nil _ _ _ _, fun j hj => by simp [Value.ownBlock] at hj⟩
        · have hn2 : (ask == 2) = false := by simpa using h2
          have HST2 : Hid (runF (newD m) xs (k + 1) = D) := by unfold Hid; rw [HST.out]; unfold stepF; rw [if_neg (by simp at hn0 hn2 ⊢; omega)]
          clear h2
          go_wp2_with fail
          go_roundg g
          case measure => omega
          case rel => exact ⟨k + 1, S, L, by omega, by go_num, by rw [HST2.out]; exact HD0, HS, HF0, by rw [HST2.out]; exact HO, HL0, HB⟩
    | zero =>
      obtain rfl : k = xs.length := by omega
      have hPl := Plain.run hm1 hm2 xs xs.length (Nat.le_refl _)
      obtain ⟨D, hD⟩ : ∃ D, runF (newD m) xs xs.length = D := ⟨_, rfl⟩
      rw [hD] at HD hPl HO
      have HPl := hid (hPl.up hxl)
      have hDL := HO.out.len
      have hL80 : L.length ≤ 80 := by have := HPl.out.opn; omega
      have hLi : (L.length : Int) ≤ 80 := by omega
      obtain ⟨aL, cL, rfl⟩ := own_form HL.out
      clear hD hPl HDn HFn HSn HX
      go_wp2_with fail
      refine (dv_Open wr p S D HD.out).mono ?_
      rintro e wr ⟨rfl, rfl⟩
      rw [hDL]
      by_cases hk : L.length < keep.length
      · have hk1 : (L.length : Int) < (keep.length : Int) := by omega
        go_wp2_with fail
        refine (dv_Open wr p S D HD.out).mono ?_
        rintro e wr ⟨rfl, rfl⟩
        rw [hDL]
        go_wp2_with fail
        refine (dv_awake wr).mono ?_
        rintro e u1 ⟨rfl, hF⟩
        go_wp2_with fail
        go_ret
        exact ⟨rfl, HF.out.trans hF⟩
      have hk1 : (keep.length : Int) ≤ (L.length : Int) := by omega
      go_wp2_with fail
      refine (dv_Crash wr p S D HD.out ak capk keep (HKP.out.no HF.out) (by omega) (by omega)).mono ?_
      rintro e v1 ⟨pc, Sc, rfl, hX, hF, hSc⟩
      have HC1 := hid hX
      have HD1 := hid (HD.out.no hF)
      have HL1 := hid (own_frk HL.out hF (fun _ _ => id))
      have HF1 := hid (HF.out.trans hF)
      clear hX hF hSc HD HL HF HKP
      go_wp2_with fail
      go_loopg [13, 14] L.length (fun g vA i wr2 => ∃ k : Nat, k + g = L.length ∧ i = .int .i64 k ∧ Hid (wr2.ownsRow 0 4 1 vA k (List.replicate k (.bool true))) ∧ Hid (Fr No v1 wr2) ∧ Hid (∀ j, vA.ownBlock = some j → v1.heap.size ≤ j))
      case atStart => exact ⟨0, by omega, rfl, World.ownsRow_nil _ _ _ _, Fr.refl _ _, fun j hj => by simp [Value.ownBlock] at hj⟩
      case round =>
        obtain ⟨k, hkk, rfl, HA, HFA, HAB⟩ := hrel
        obtain ⟨aA, cA, rfl⟩ := own_form HA.out
        cases gk with
        | succ g =>
          have HNB := hid (World.news_of_block (heap_new wr (.cells #[.bool true] 4)))
          have HAA := hid (own_frk HA.out ((Fr.refl No wr).alloc (.cells #[.bool true] 4)) (fun _ _ => id))
          have HFB := hid (HFA.out.alloc (.cells #[.bool true] 4))
          go_wp2_with (at_builtin; refine wpList_append_lies _ rfl (.tmp 127) (.tmp 128) 46 rfl 0 4 ib (.bool false) 1 1 Try.underlying46 hbi hbz0 hbz1 hbz2 (by kernel_rfl) (by decide) _ k _ rfl HAA.out ⟨wr.heap.size, 0, none⟩ 1 1 [.bool true] rfl rfl (by simpa using HNB.out) (fun u hu => by rw [List.mem_singleton] at hu; rw [hu]; rfl) (by decide) (by unfold maxLen; omega) (by omega) (Nat.zero_le _) _ rfl ?_; intro gq capq w1 hown hgrow hgat hgz; have HFG := hid (grown_fr hgrow); have HOWN := hid hown; have HGAT := hid hgat; clear hown hgrow hgat)
          go_roundg g
          case measure => omega
          case rel =>
            refine ⟨k + 1, by omega, by go_num, ?_, HFB.out.then HFG.out (fun i hi e => absurd hi (by have := HAB.out i e; omega)), fun j hj => ?_⟩
            · rw [List.replicate_succ']; exact HOWN.out
            · have hj : gq = j := by simpa [Value.ownBlock] using hj
              subst hj
              rcases HGAT.out with e | e
              · exact HAB.out _ e
              · have := HFB.out.size; omega
        | zero =>
          obtain rfl : k = L.length := by omega
          obtain ⟨aB, cB, e, HRW⟩ := own_row HA.out (by simp)
          obtain ⟨rfl, -, rfl⟩ : aA = aB ∧ True ∧ cA = cB := by injection e with e1 e2 e3; exact ⟨e1, trivial, e3⟩
          have HCR := dv_Crash wr p S D (HD1.out.no HFA.out) aA cA (List.replicate L.length true) (by rw [List.map_replicate]; exact HRW) (by rw [List.length_replicate]; omega) (by omega)
          rw [List.length_replicate, ← hDL, crash_flush HPl.out, hDL] at HCR
          have HD2 := hid (HD1.out.no HFA.out)
          have HC2 := hid (HC1.out.no HFA.out)
          have HL2 := hid (own_frk HL1.out HFA.out (fun _ _ => id))
          have HF2 := hid (HF1.out.trans HFA.out)
          have HCR := hid HCR
          clear e HA HFA HAB HRW HD1 HC1 HL1 HF1
          go_wp2_with fail
          refine HCR.out.mono ?_
          rintro e v2 ⟨pa, Sa, rfl, hX, hF, hSa⟩
          have HA3 := hid hX
          have HD3 := hid (HD2.out.no hF)
          have HC3 := hid (HC2.out.no hF)
          have HL3 := hid (own_frk HL2.out hF (fun _ _ => id))
          have HF3 := hid (HF2.out.trans hF)
          have hAS : ∀ j, Sa j → ¬ S j := fun j hj hs => by have := hSa j hj; have := HD2.out.lt j hs; omega
          clear hX hF hSa HD2 HC2 HL2 HF2 HCR
          go_wp2_with fail
          go_loopg [17] m (fun g i wr3 => ∃ s : Nat, s + g = m ∧ i = .int .i64 s ∧ Hid (Fr No v2 wr3))
          case atStart => exact ⟨0, by omega, rfl, Fr.refl _ _⟩
          case round =>
            obtain ⟨s, hs, rfl, HF4⟩ := hrel
            have HD4 := hid (HD3.out.no HF4.out)
            cases gk with
            | succ g =>
              have HC4 := hid (HC3.out.no HF4.out)
              have HL4 := hid (own_frk HL3.out HF4.out (fun _ _ => id))
              have hsm : s < m := by omega
              have hsD : s < D.firm.length := by rw [HPl.out.firm]; exact hsm
              have hsC : s < (crashD D keep).firm.length := by rw [show (crashD D keep).firm.length = D.firm.length from crashK_len D keep _]; exact hsD
              have hsi : (s : Int) < (m : Int) := by omega
              go_wp2_with fail
              refine (dv_Firm_ok wr p S D HD4.out s hsD).mono ?_
              rintro e u1 ⟨rfl, hF⟩
              obtain ⟨X, hX⟩ : ∃ X, firmAt D s = X := ⟨_, rfl⟩
              have HXE := hid hX
              have HXL : Hid (X.length = 64) := by unfold Hid; rw [← hX]; exact HPl.out.ok.firmAt hsD
              rw [hX]
              have HIX := hid (info64b X HXL.out)
              have H1X := hid (blkA_one X)
              have HSX : Hid ((blkA zeros).size = (blkA X).size) := by unfold Hid; rw [blkA_zeros_size, blkA_size, HXL.out]
              have HC5 := hid (HC4.out.no hF)
              have HL5 := hid (own_frk HL4.out hF (fun _ _ => id))
              have HF5 := hid (HF4.out.trans hF)
              clear hX hF HD4 HC4 HL4 HF4
              have HN := hid (heap_new u1 (.cells (blkA zeros) 42))
              have HP := put_blk u1 (blkA zeros) X
              go_wp2_with (
                refine wpList_store_row rfl 42 _ _ rfl u1.heap.size (blkA X) rfl rfl 42 (blkA zeros) HN.out HIX.out HSX.out H1X.out ?_
                change wpList _ _ _ _ _ ((u1.alloc (.cells (blkA zeros) 42)).setRow u1.heap.size (blkA X))
                obtain ⟨u2, hw⟩ : ∃ u2, ((u1.alloc (.cells (blkA zeros) 42)).setRow u1.heap.size (blkA X)) = u2 := ⟨_, rfl⟩
                rw [hw] at HP ⊢)
              obtain ⟨g18, hg⟩ : ∃ g18, u1.heap.size = g18 := ⟨_, rfl⟩
              rw [hg] at HP ⊢
              obtain ⟨hG, hF⟩ := HP
              have HG18 := hid hG
              have HC6 := hid (HC5.out.no hF)
              have HL6 := hid (own_frk HL5.out hF (fun _ _ => id))
              have HF6 := hid (HF5.out.trans hF)
              clear hw hg HN hG hF HC5 HL5 HF5
              refine (dv_Firm_ok u2 pc Sc (crashD D keep) HC6.out s hsC).mono ?_
              rintro e u3 ⟨rfl, hF⟩
              obtain ⟨Y, hY⟩ : ∃ Y, firmAt (crashD D keep) s = Y := ⟨_, rfl⟩
              have HYE := hid hY
              have HYL : Hid (Y.length = 64) := by unfold Hid; rw [← hY]; exact HC6.out.1.firmAt hsC
              rw [hY]
              have HIY := hid (info64b Y HYL.out)
              have H1Y := hid (blkA_one Y)
              have HSY : Hid ((blkA zeros).size = (blkA Y).size) := by unfold Hid; rw [blkA_zeros_size, blkA_size, HYL.out]
              have HL7 := hid (own_frk HL6.out hF (fun _ _ => id))
              have HF7 := hid (HF6.out.trans hF)
              have HG7 := hid ((hF.block g18 (lt_of_block HG18.out) id).trans HG18.out)
              clear hY hF HC6 HL6 HF6 HG18
              have HN := hid (heap_new u3 (.cells (blkA zeros) 42))
              have HP := put_blk u3 (blkA zeros) Y
              have hEQ := blk_eqIn Y X HYL.out HXL.out
              have hgu := eql_ty
              have HIB := hid (isB_end HO.out keep (by omega) s hsD)
              rw [HXE.out, HYE.out] at HIB
              obtain ⟨b0, hb0⟩ : ∃ b0, (Y == X) = b0 := ⟨_, rfl⟩
              rw [hb0] at hEQ HIB
              clear hb0
              go_wp2_with (first
                | (refine wpList_store_row rfl 42 _ _ rfl u3.heap.size (blkA Y) rfl rfl 42 (blkA zeros) HN.out HIY.out HSY.out H1Y.out ?_
                   change wpList _ _ _ _ _ ((u3.alloc (.cells (blkA zeros) 42)).setRow u3.heap.size (blkA Y))
                   obtain ⟨u4, hw⟩ : ∃ u4, ((u3.alloc (.cells (blkA zeros) 42)).setRow u3.heap.size (blkA Y)) = u4 := ⟨_, rfl⟩
                   rw [hw] at HP ⊢
                   have HG4 := hid ((HP.2.block g18 (lt_of_block HG7.out) id).trans HG7.out))
                | (refine list_val rfl (.agg (blkA Y)) (exec_load_row 42 (.tmp 20) rfl u3.heap.size (by rfl) 42 (blkA Y) (0, 0) _ _ HP.1 Try.underlying42 HIY.out) ?_)
                | (refine list_val rfl (.agg (blkA X)) (exec_load_row 42 (.tmp 18) rfl g18 (by rfl) 42 (blkA X) (0, 0) _ _ HG4.out Try.underlying42 HIX.out) ?_))
              obtain ⟨g20, hg⟩ : ∃ g20, u3.heap.size = g20 := ⟨_, rfl⟩
              rw [hg] at HP ⊢
              obtain ⟨hG, hF⟩ := HP
              have HG20 := hid hG
              have HL8 := hid (own_frk HL7.out hF (fun _ _ => id))
              have HF8 := hid (HF7.out.trans hF)
              clear hw hg HN hG hF HL7 HF7 HG7 HG4 hEQ
              go_loopg [22, 23] L.length (fun g2 bv i wr4 => ∃ j : Nat, j + g2 = L.length ∧ i = .int .i64 j ∧ bv = .bool (isB b0 L s Y j) ∧ Hid (Fr No u4 wr4))
              case atStart => exact ⟨0, by omega, rfl, by rw [isB_zero], Fr.refl _ _⟩
              case round =>
                obtain ⟨j, hj, rfl, rfl, HF9⟩ := hrel
                cases gk with
                | succ g2 =>
                  have hjl : j < L.length := by omega
                  have HL9 := hid (own_frk HL8.out HF9.out (fun _ _ => id))
                  have HG9 := hid ((HF9.out.block g20 (lt_of_block HG20.out) id).trans HG20.out)
                  obtain ⟨gL, capL, e, _, hgz, hr, _⟩ := own_at HL9.out (fun x _ => rfl) j hjl
                  obtain ⟨rfl, -, rfl⟩ : aL = some ⟨gL, 0, none⟩ ∧ True ∧ cL = capL := by injection e with e1 e2 e3; exact ⟨e1, trivial, e3⟩
                  have hsucc := isB_succ b0 L s Y j hjl
                  obtain ⟨op, hop⟩ : ∃ op, L[j] = op := ⟨_, rfl⟩
                  rw [hop] at hr hsucc
                  obtain ⟨ask, sec, nn⟩ := op
                  have k1 : wr.cell? ⟨gL, j * 3 + 1, none⟩ = some (.int .i64 sec) := hr 1 _ rfl
                  have k2 : wr.cell? ⟨gL, j * 3 + 2, none⟩ = some (.int .i64 nn) := hr 2 _ rfl
                  have HSU := hid hsucc
                  obtain ⟨bj, hbj⟩ : ∃ bj, isB b0 L s Y j = bj := ⟨_, rfl⟩
                  rw [hbj] at HSU ⊢
                  have hji : (j : Int) < (L.length : Int) := by omega
                  clear e hr hop hsucc hbj
                  cases bj
                  · by_cases hsec : sec = (s : Int)
                    · subst hsec
                      have HML := hid (markB_len nn)
                      have HMK : Hid (∀ W, Calls Try.prog 22 #[.int .i64 nn] W fun e w' => e = .returned (.agg (blkA (markB nn))) ∧ Fr No W w') := fun W => dv_mark W nn
                      obtain ⟨M, hM⟩ : ∃ M, markB nn = M := ⟨_, rfl⟩
                      rw [hM] at HML HMK
                      have HSU2 : Hid (isB b0 L s Y (j + 1) = (M == Y)) := by unfold Hid; rw [HSU.out, ← hM]; simp
                      have hEM := blk_eqIn M Y HML.out HYL.out
                      obtain ⟨bb, hbb⟩ : ∃ bb, (M == Y) = bb := ⟨_, rfl⟩
                      rw [hbb] at HSU2 hEM
                      clear hM hbb HSU
                      go_wp2_with fail
                      refine wp_region_held_drew (S := fun W => W.cell? ⟨gL, j * 3 + 1, none⟩ = some (.int .i64 (s : Int)) ∧ W.cell? ⟨gL, j * 3 + 2, none⟩ = some (.int .i64 nn) ∧ W.heap[g20]? = some (.cells (blkA Y) 42 (0, 0))) (by kernel_rfl) ⟨k1, k2, HG9.out⟩ (fun hHeld => ?_)
                      have HFz := hid HF9.out.drew
                      obtain ⟨z, hz⟩ : ∃ z, wr.drew = z := ⟨_, rfl⟩
                      rw [hz] at HFz hHeld ⊢
                      clear hz HF9 k1 k2 HG9 HL9
                      refine wpAnyH_take (i := 0) (v := ?_) rfl (by kernel_rfl) (by kernel_rfl) (by kernel_rfl) (fun _ _ _ h => h) (Or.inl ⟨by rfl, ?_⟩) hHeld ?_
                      rotate_left
                      · intro w hSw; obtain ⟨hA1, hA2, hA3⟩ := hSw
                        go_simp
                        with_reducible rfl
                      try simp only [Act.put, List.getElem_toArray, List.getElem_cons_zero, List.getElem_cons_succ, List.setIfInBounds_toArray, List.set_cons_zero, List.set_cons_succ]
                      refine wpAnyH_take (i := 1) (v := ?_) rfl (by kernel_rfl) (by kernel_rfl) (by kernel_rfl) (fun _ _ _ h => h) (Or.inl ⟨by rfl, ?_⟩) hHeld ?_
                      rotate_left
                      · intro w hSw; obtain ⟨hA1, hA2, hA3⟩ := hSw
                        go_simp
                        with_reducible rfl
                      try simp only [Act.put, List.getElem_toArray, List.getElem_cons_zero, List.getElem_cons_succ, List.setIfInBounds_toArray, List.set_cons_zero, List.set_cons_succ]
                      refine wpAnyH_take (i := 2) (v := ?_) rfl (by kernel_rfl) (by kernel_rfl) (by kernel_rfl) (fun _ _ _ h => h) (Or.inl ⟨by rfl, ?_⟩) hHeld ?_
                      rotate_left
                      · intro w hSw; obtain ⟨hA1, hA2, hA3⟩ := hSw
                        go_simp
                        with_reducible rfl
                      try simp only [Act.put, List.getElem_toArray, List.getElem_cons_zero, List.getElem_cons_succ, List.setIfInBounds_toArray, List.set_cons_zero, List.set_cons_succ]
                      refine wpAnyH_take (i := 3) (v := ?_) rfl (by kernel_rfl) (by kernel_rfl) (by kernel_rfl) (fun _ _ _ h => h) (Or.inl ⟨by rfl, ?_⟩) hHeld ?_
                      rotate_left
                      · intro w hSw; obtain ⟨hA1, hA2, hA3⟩ := hSw
                        go_simp
                        with_reducible rfl
                      try simp only [Act.put, List.getElem_toArray, List.getElem_cons_zero, List.getElem_cons_succ, List.setIfInBounds_toArray, List.set_cons_zero, List.set_cons_succ]
                      refine wpAnyH_take (i := 4) (v := ?_) rfl (by kernel_rfl) (by kernel_rfl) (by kernel_rfl) (fun _ _ _ h => h) (Or.inl ⟨by rfl, ?_⟩) hHeld ?_
                      rotate_left
                      · intro w hSw; obtain ⟨hA1, hA2, hA3⟩ := hSw
                        go_simp
                        with_reducible rfl
                      try simp only [Act.put, List.getElem_toArray, List.getElem_cons_zero, List.getElem_cons_succ, List.setIfInBounds_toArray, List.set_cons_zero, List.set_cons_succ]
                      refine wpAnyH_take (i := 5) (v := ?_) rfl (by kernel_rfl) (by kernel_rfl) (by kernel_rfl) (fun _ _ _ h => h) (Or.inl ⟨by rfl, ?_⟩) hHeld ?_
                      rotate_left
                      · intro w hSw; obtain ⟨hA1, hA2, hA3⟩ := hSw
                        go_simp
                        with_reducible rfl
                      try simp only [Act.put, List.getElem_toArray, List.getElem_cons_zero, List.getElem_cons_succ, List.setIfInBounds_toArray, List.set_cons_zero, List.set_cons_succ]
                      refine wpAnyH_take (i := 6) (v := ?_) rfl (by kernel_rfl) (by kernel_rfl) (by kernel_rfl) (fun _ _ _ h => h) (Or.inl ⟨by rfl, ?_⟩) hHeld ?_
                      rotate_left
                      · intro w hSw; obtain ⟨hA1, hA2, hA3⟩ := hSw
                        go_simp
                        with_reducible rfl
                      try simp only [Act.put, List.getElem_toArray, List.getElem_cons_zero, List.getElem_cons_succ, List.setIfInBounds_toArray, List.set_cons_zero, List.set_cons_succ]
                      refine wpAnyH_take (i := 7) (v := ?_) rfl (by kernel_rfl) (by kernel_rfl) (by kernel_rfl) (fun _ _ _ h => h) (Or.inl ⟨by rfl, ?_⟩) hHeld ?_
                      rotate_left
                      · intro w hSw; obtain ⟨hA1, hA2, hA3⟩ := hSw
                        go_simp
                        with_reducible rfl
                      try simp only [Act.put, List.getElem_toArray, List.getElem_cons_zero, List.getElem_cons_succ, List.setIfInBounds_toArray, List.set_cons_zero, List.set_cons_succ]
                      refine wpAnyH_take (i := 8) (v := ?_) rfl (by kernel_rfl) (by kernel_rfl) (by kernel_rfl) (fun _ _ _ h => h) (Or.inl ⟨by rfl, ?_⟩) hHeld ?_
                      rotate_left
                      · intro w hSw; obtain ⟨hA1, hA2, hA3⟩ := hSw
                        go_simp
                        with_reducible rfl
                      try simp only [Act.put, List.getElem_toArray, List.getElem_cons_zero, List.getElem_cons_succ, List.setIfInBounds_toArray, List.set_cons_zero, List.set_cons_succ]
                      refine wpAnyH_take (i := 9) (v := ?_) rfl (by kernel_rfl) (by kernel_rfl) (by kernel_rfl) (fun _ _ _ h => h) (Or.inl ⟨by rfl, ?_⟩) hHeld ?_
                      rotate_left
                      · intro w hSw; obtain ⟨hA1, hA2, hA3⟩ := hSw
                        go_simp
                        with_reducible rfl
                      try simp only [Act.put, List.getElem_toArray, List.getElem_cons_zero, List.getElem_cons_succ, List.setIfInBounds_toArray, List.set_cons_zero, List.set_cons_succ]
                      refine wpAnyH_take (i := 10) (v := ?_) rfl (by kernel_rfl) (by kernel_rfl) (by kernel_rfl) (fun _ _ _ h => h) (Or.inl ⟨by rfl, ?_⟩) hHeld ?_
                      rotate_left
                      · intro w hSw; obtain ⟨hA1, hA2, hA3⟩ := hSw
                        go_simp
                        with_reducible rfl
                      try simp only [Act.put, List.getElem_toArray, List.getElem_cons_zero, List.getElem_cons_succ, List.setIfInBounds_toArray, List.set_cons_zero, List.set_cons_succ]
                      refine wpAnyH_take (i := 11) (v := ?_) rfl (by kernel_rfl) (by kernel_rfl) (by kernel_rfl) (fun _ _ _ h => h) (Or.inl ⟨by rfl, ?_⟩) hHeld ?_
                      rotate_left
                      · intro w hSw; obtain ⟨hA1, hA2, hA3⟩ := hSw
                        go_simp
                        with_reducible rfl
                      try simp only [Act.put, List.getElem_toArray, List.getElem_cons_zero, List.getElem_cons_succ, List.setIfInBounds_toArray, List.set_cons_zero, List.set_cons_succ]
                      refine wpAnyH_take (i := 12) (v := ?_) rfl (by kernel_rfl) (by kernel_rfl) (by kernel_rfl) (fun _ _ _ h => h) (Or.inl ⟨by rfl, ?_⟩) hHeld ?_
                      rotate_left
                      · intro w hSw; obtain ⟨hA1, hA2, hA3⟩ := hSw
                        go_simp
                        with_reducible rfl
                      try simp only [Act.put, List.getElem_toArray, List.getElem_cons_zero, List.getElem_cons_succ, List.setIfInBounds_toArray, List.set_cons_zero, List.set_cons_succ]
                      refine wpAnyH_take (i := 13) (v := ?_) rfl (by kernel_rfl) (by kernel_rfl) (by kernel_rfl) (fun _ _ _ h => h) (Or.inl ⟨by rfl, ?_⟩) hHeld ?_
                      rotate_left
                      · intro w hSw; obtain ⟨hA1, hA2, hA3⟩ := hSw
                        go_simp
                        with_reducible rfl
                      try simp only [Act.put, List.getElem_toArray, List.getElem_cons_zero, List.getElem_cons_succ, List.setIfInBounds_toArray, List.set_cons_zero, List.set_cons_succ]
                      refine wpAnyH_take (i := 14) (v := ?_) rfl (by kernel_rfl) (by kernel_rfl) (by kernel_rfl) (fun _ _ _ h => h) (Or.inl ⟨by rfl, ?_⟩) hHeld ?_
                      rotate_left
                      · intro w hSw; obtain ⟨hA1, hA2, hA3⟩ := hSw
                        go_simp
                        with_reducible rfl
                      try simp only [Act.put, List.getElem_toArray, List.getElem_cons_zero, List.getElem_cons_succ, List.setIfInBounds_toArray, List.set_cons_zero, List.set_cons_succ]
                      refine wpAnyH_take (i := 16) (v := .agg (blkA Y)) rfl (by kernel_rfl) (by kernel_rfl) (by kernel_rfl) (fun _ _ _ h => h) (yields_row (by rfl) 42 _ rfl g20 rfl 42 (blkA Y) (0, 0) _ _ (fun W hW => hW.2.2) Try.underlying42 HIY.out) hHeld ?_
                      try simp only [Act.put, List.getElem_toArray, List.getElem_cons_zero, List.getElem_cons_succ, List.setIfInBounds_toArray, List.set_cons_zero, List.set_cons_succ]
                      refine wpAnyH_ready (rs := [15]) (by kernel_rfl) (by simp) ?_
                      refine AllReadyH.cons rfl (fun K hK => ?_) AllReadyH.nil
                      rw [if_pos (by rfl)]
                      go_simp
                      refine (HMK.out z).mono ?_
                      rintro e z2 ⟨rfl, hF⟩
                      refine hK.out _ _ ⟨(hF.cell (lt_of_cell hHeld.1) id).trans hHeld.1, (hF.cell (lt_of_cell hHeld.2.1) id).trans hHeld.2.1, (hF.block g20 (lt_of_block hHeld.2.2) id).trans hHeld.2.2⟩ (fun hHeld => ?_)
                      clear hK K
                      try simp only [Act.put, List.getElem_toArray, List.getElem_cons_zero, List.getElem_cons_succ, List.setIfInBounds_toArray, List.set_cons_zero, List.set_cons_succ]
                      have HFy := hid (HFz.out.trans hF)
                      clear hF HFz
                      refine wpAnyH_take (i := 17) (v := ?_) rfl (by kernel_rfl) (by kernel_rfl) (by kernel_rfl) (fun _ _ _ h => h) (Or.inl ⟨by rfl, ?_⟩) hHeld ?_
                      rotate_left
                      · intro w hSw
                        go_simp
                        with_reducible rfl
                      try simp only [Act.put, List.getElem_toArray, List.getElem_cons_zero, List.getElem_cons_succ, List.setIfInBounds_toArray, List.set_cons_zero, List.set_cons_succ]
                      refine wpAnyH_take (i := 18) (v := ?_) rfl (by kernel_rfl) (by kernel_rfl) (by kernel_rfl) (fun _ _ _ h => h) (Or.inl ⟨by rfl, ?_⟩) hHeld ?_
                      rotate_left
                      · intro w hSw
                        go_simp
                        with_reducible rfl
                      try simp only [Act.put, List.getElem_toArray, List.getElem_cons_zero, List.getElem_cons_succ, List.setIfInBounds_toArray, List.set_cons_zero, List.set_cons_succ]
                      refine wpAnyH_take (i := 19) (v := ?_) rfl (by kernel_rfl) (by kernel_rfl) (by kernel_rfl) (fun _ _ _ h => h) (Or.inl ⟨by rfl, ?_⟩) hHeld ?_
                      rotate_left
                      · intro w hSw
                        go_simp
                        with_reducible rfl
                      try simp only [Act.put, List.getElem_toArray, List.getElem_cons_zero, List.getElem_cons_succ, List.setIfInBounds_toArray, List.set_cons_zero, List.set_cons_succ]
                      refine wpAnyH_take (i := 20) (v := ?_) rfl (by kernel_rfl) (by kernel_rfl) (by kernel_rfl) (fun _ _ _ h => h) (Or.inl ⟨by rfl, ?_⟩) hHeld ?_
                      rotate_left
                      · intro w hSw
                        go_simp
                        with_reducible rfl
                      try simp only [Act.put, List.getElem_toArray, List.getElem_cons_zero, List.getElem_cons_succ, List.setIfInBounds_toArray, List.set_cons_zero, List.set_cons_succ]
                      refine wpAnyH_done (by kernel_rfl) ?_ _
                      go_wp2_with fail
                      go_roundg g2
                      case measure => omega
                      case rel => exact ⟨j + 1, by omega, by go_num, by rw [HSU2.out], HFy⟩
                    · have hse : (sec == (s : Int)) = false := by simpa using hsec
                      have HSU2 : Hid (isB b0 L s Y (j + 1) = false) := by unfold Hid; rw [HSU.out]; simp [hsec]
                      clear hsec HSU
                      go_wp2_with fail
                      refine wp_region_held_drew (S := fun W => W.cell? ⟨gL, j * 3 + 1, none⟩ = some (.int .i64 sec)) (by kernel_rfl) k1 (fun hHeld => ?_)
                      have HFz := hid HF9.out.drew
                      obtain ⟨z, hz⟩ : ∃ z, wr.drew = z := ⟨_, rfl⟩
                      rw [hz] at HFz hHeld ⊢
                      clear hz HF9 k1 k2 HG9 HL9
                      refine wpAnyH_take (i := 0) (v := ?_) rfl (by kernel_rfl) (by kernel_rfl) (by kernel_rfl) (fun _ _ _ h => h) (Or.inl ⟨by rfl, ?_⟩) hHeld ?_
                      rotate_left
                      · intro w hSw
                        go_simp
                        with_reducible rfl
                      try simp only [Act.put, List.getElem_toArray, List.getElem_cons_zero, List.getElem_cons_succ, List.setIfInBounds_toArray, List.set_cons_zero, List.set_cons_succ]
                      refine wpAnyH_take (i := 1) (v := ?_) rfl (by kernel_rfl) (by kernel_rfl) (by kernel_rfl) (fun _ _ _ h => h) (Or.inl ⟨by rfl, ?_⟩) hHeld ?_
                      rotate_left
                      · intro w hSw
                        go_simp
                        with_reducible rfl
                      try simp only [Act.put, List.getElem_toArray, List.getElem_cons_zero, List.getElem_cons_succ, List.setIfInBounds_toArray, List.set_cons_zero, List.set_cons_succ]
                      refine wpAnyH_take (i := 2) (v := ?_) rfl (by kernel_rfl) (by kernel_rfl) (by kernel_rfl) (fun _ _ _ h => h) (Or.inl ⟨by rfl, ?_⟩) hHeld ?_
                      rotate_left
                      · intro w hSw
                        go_simp
                        with_reducible rfl
                      try simp only [Act.put, List.getElem_toArray, List.getElem_cons_zero, List.getElem_cons_succ, List.setIfInBounds_toArray, List.set_cons_zero, List.set_cons_succ]
                      refine wpAnyH_take (i := 3) (v := ?_) rfl (by kernel_rfl) (by kernel_rfl) (by kernel_rfl) (fun _ _ _ h => h) (Or.inl ⟨by rfl, ?_⟩) hHeld ?_
                      rotate_left
                      · intro w hSw
                        go_simp
                        with_reducible rfl
                      try simp only [Act.put, List.getElem_toArray, List.getElem_cons_zero, List.getElem_cons_succ, List.setIfInBounds_toArray, List.set_cons_zero, List.set_cons_succ]
                      refine wpAnyH_take (i := 4) (v := ?_) rfl (by kernel_rfl) (by kernel_rfl) (by kernel_rfl) (fun _ _ _ h => h) (Or.inl ⟨by rfl, ?_⟩) hHeld ?_
                      rotate_left
                      · intro w hSw
                        go_simp
                        with_reducible rfl
                      try simp only [Act.put, List.getElem_toArray, List.getElem_cons_zero, List.getElem_cons_succ, List.setIfInBounds_toArray, List.set_cons_zero, List.set_cons_succ]
                      refine wpAnyH_take (i := 5) (v := ?_) rfl (by kernel_rfl) (by kernel_rfl) (by kernel_rfl) (fun _ _ _ h => h) (Or.inl ⟨by rfl, ?_⟩) hHeld ?_
                      rotate_left
                      · intro w hSw
                        go_simp
                        with_reducible rfl
                      try simp only [Act.put, List.getElem_toArray, List.getElem_cons_zero, List.getElem_cons_succ, List.setIfInBounds_toArray, List.set_cons_zero, List.set_cons_succ]
                      refine wpAnyH_take (i := 6) (v := ?_) rfl (by kernel_rfl) (by kernel_rfl) (by kernel_rfl) (fun _ _ _ h => h) (Or.inl ⟨by rfl, ?_⟩) hHeld ?_
                      rotate_left
                      · intro w hSw
                        go_simp
                        with_reducible rfl
                      try simp only [Act.put, List.getElem_toArray, List.getElem_cons_zero, List.getElem_cons_succ, List.setIfInBounds_toArray, List.set_cons_zero, List.set_cons_succ]
                      refine wpAnyH_take (i := 7) (v := ?_) rfl (by kernel_rfl) (by kernel_rfl) (by kernel_rfl) (fun _ _ _ h => h) (Or.inl ⟨by rfl, ?_⟩) hHeld ?_
                      rotate_left
                      · intro w hSw
                        go_simp
                        with_reducible rfl
                      try simp only [Act.put, List.getElem_toArray, List.getElem_cons_zero, List.getElem_cons_succ, List.setIfInBounds_toArray, List.set_cons_zero, List.set_cons_succ]
                      refine wpAnyH_take (i := 8) (v := ?_) rfl (by kernel_rfl) (by kernel_rfl) (by kernel_rfl) (fun _ _ _ h => h) (Or.inl ⟨by rfl, ?_⟩) hHeld ?_
                      rotate_left
                      · intro w hSw
                        go_simp
                        with_reducible rfl
                      try simp only [Act.put, List.getElem_toArray, List.getElem_cons_zero, List.getElem_cons_succ, List.setIfInBounds_toArray, List.set_cons_zero, List.set_cons_succ]
                      refine wpAnyH_take (i := 9) (v := ?_) rfl (by kernel_rfl) (by kernel_rfl) (by kernel_rfl) (fun _ _ _ h => h) (Or.inl ⟨by rfl, ?_⟩) hHeld ?_
                      rotate_left
                      · intro w hSw
                        go_simp
                        with_reducible rfl
                      try simp only [Act.put, List.getElem_toArray, List.getElem_cons_zero, List.getElem_cons_succ, List.setIfInBounds_toArray, List.set_cons_zero, List.set_cons_succ]
                      refine wpAnyH_take (i := 10) (v := undef) rfl (by kernel_rfl) (by kernel_rfl) (by kernel_rfl) (fun _ _ _ h => h) (Or.inr ⟨by rfl, rfl⟩) hHeld ?_
                      try simp only [Act.put, List.getElem_toArray, List.getElem_cons_zero, List.getElem_cons_succ, List.setIfInBounds_toArray, List.set_cons_zero, List.set_cons_succ]
                      refine wpAnyH_take (i := 11) (v := undef) rfl (by kernel_rfl) (by kernel_rfl) (by kernel_rfl) (fun _ _ _ h => h) (Or.inr ⟨by rfl, rfl⟩) hHeld ?_
                      try simp only [Act.put, List.getElem_toArray, List.getElem_cons_zero, List.getElem_cons_succ, List.setIfInBounds_toArray, List.set_cons_zero, List.set_cons_succ]
                      refine wpAnyH_take (i := 12) (v := undef) rfl (by kernel_rfl) (by kernel_rfl) (by kernel_rfl) (fun _ _ _ h => h) (Or.inr ⟨by rfl, rfl⟩) hHeld ?_
                      try simp only [Act.put, List.getElem_toArray, List.getElem_cons_zero, List.getElem_cons_succ, List.setIfInBounds_toArray, List.set_cons_zero, List.set_cons_succ]
                      refine wpAnyH_take (i := 13) (v := undef) rfl (by kernel_rfl) (by kernel_rfl) (by kernel_rfl) (fun _ _ _ h => h) (Or.inr ⟨by rfl, rfl⟩) hHeld ?_
                      try simp only [Act.put, List.getElem_toArray, List.getElem_cons_zero, List.getElem_cons_succ, List.setIfInBounds_toArray, List.set_cons_zero, List.set_cons_succ]
                      refine wpAnyH_take (i := 14) (v := undef) rfl (by kernel_rfl) (by kernel_rfl) (by kernel_rfl) (fun _ _ _ h => h) (Or.inr ⟨by rfl, rfl⟩) hHeld ?_
                      try simp only [Act.put, List.getElem_toArray, List.getElem_cons_zero, List.getElem_cons_succ, List.setIfInBounds_toArray, List.set_cons_zero, List.set_cons_succ]
                      refine wpAnyH_take (i := 15) (v := undef) rfl (by kernel_rfl) (by kernel_rfl) (by kernel_rfl) (fun _ _ _ h => h) (Or.inr ⟨by rfl, rfl⟩) hHeld ?_
                      try simp only [Act.put, List.getElem_toArray, List.getElem_cons_zero, List.getElem_cons_succ, List.setIfInBounds_toArray, List.set_cons_zero, List.set_cons_succ]
                      refine wpAnyH_take (i := 16) (v := undef) rfl (by kernel_rfl) (by kernel_rfl) (by kernel_rfl) (fun _ _ _ h => h) (Or.inr ⟨by rfl, rfl⟩) hHeld ?_
                      try simp only [Act.put, List.getElem_toArray, List.getElem_cons_zero, List.getElem_cons_succ, List.setIfInBounds_toArray, List.set_cons_zero, List.set_cons_succ]
                      refine wpAnyH_take (i := 17) (v := undef) rfl (by kernel_rfl) (by kernel_rfl) (by kernel_rfl) (fun _ _ _ h => h) (Or.inr ⟨by rfl, rfl⟩) hHeld ?_
                      try simp only [Act.put, List.getElem_toArray, List.getElem_cons_zero, List.getElem_cons_succ, List.setIfInBounds_toArray, List.set_cons_zero, List.set_cons_succ]
                      refine wpAnyH_take (i := 18) (v := ?_) rfl (by kernel_rfl) (by kernel_rfl) (by kernel_rfl) (fun _ _ _ h => h) (Or.inl ⟨by rfl, ?_⟩) hHeld ?_
                      rotate_left
                      · intro w hSw
                        go_simp
                        with_reducible rfl
                      try simp only [Act.put, List.getElem_toArray, List.getElem_cons_zero, List.getElem_cons_succ, List.setIfInBounds_toArray, List.set_cons_zero, List.set_cons_succ]
                      refine wpAnyH_take (i := 19) (v := ?_) rfl (by kernel_rfl) (by kernel_rfl) (by kernel_rfl) (fun _ _ _ h => h) (Or.inl ⟨by rfl, ?_⟩) hHeld ?_
                      rotate_left
                      · intro w hSw
                        go_simp
                        with_reducible rfl
                      try simp only [Act.put, List.getElem_toArray, List.getElem_cons_zero, List.getElem_cons_succ, List.setIfInBounds_toArray, List.set_cons_zero, List.set_cons_succ]
                      refine wpAnyH_take (i := 20) (v := ?_) rfl (by kernel_rfl) (by kernel_rfl) (by kernel_rfl) (fun _ _ _ h => h) (Or.inl ⟨by rfl, ?_⟩) hHeld ?_
                      rotate_left
                      · intro w hSw
                        go_simp
                        with_reducible rfl
                      try simp only [Act.put, List.getElem_toArray, List.getElem_cons_zero, List.getElem_cons_succ, List.setIfInBounds_toArray, List.set_cons_zero, List.set_cons_succ]
                      refine wpAnyH_done (by kernel_rfl) ?_ _
                      go_wp2_with fail
                      go_roundg g2
                      case measure => omega
                      case rel => exact ⟨j + 1, by omega, by go_num, by rw [HSU2.out], HFz⟩
                  · have HSU2 : Hid (isB b0 L s Y (j + 1) = true) := by unfold Hid; rw [HSU.out]; simp
                    clear HSU
                    go_wp2_with fail
                    refine wp_region_held_drew (S := fun W => W.cell? ⟨gL, j * 3 + 1, none⟩ = some (.int .i64 sec)) (by kernel_rfl) k1 (fun hHeld => ?_)
                    have HFz := hid HF9.out.drew
                    obtain ⟨z, hz⟩ : ∃ z, wr.drew = z := ⟨_, rfl⟩
                    rw [hz] at HFz hHeld ⊢
                    clear hz HF9 k1 k2 HG9 HL9
                    refine wpAnyH_take (i := 0) (v := ?_) rfl (by kernel_rfl) (by kernel_rfl) (by kernel_rfl) (fun _ _ _ h => h) (Or.inl ⟨by rfl, ?_⟩) hHeld ?_
                    rotate_left
                    · intro w hSw
                      go_simp
                      with_reducible rfl
                    try simp only [Act.put, List.getElem_toArray, List.getElem_cons_zero, List.getElem_cons_succ, List.setIfInBounds_toArray, List.set_cons_zero, List.set_cons_succ]
                    refine wpAnyH_take (i := 1) (v := ?_) rfl (by kernel_rfl) (by kernel_rfl) (by kernel_rfl) (fun _ _ _ h => h) (Or.inl ⟨by rfl, ?_⟩) hHeld ?_
                    rotate_left
                    · intro w hSw
                      go_simp
                      with_reducible rfl
                    try simp only [Act.put, List.getElem_toArray, List.getElem_cons_zero, List.getElem_cons_succ, List.setIfInBounds_toArray, List.set_cons_zero, List.set_cons_succ]
                    refine wpAnyH_take (i := 2) (v := undef) rfl (by kernel_rfl) (by kernel_rfl) (by kernel_rfl) (fun _ _ _ h => h) (Or.inr ⟨by rfl, rfl⟩) hHeld ?_
                    try simp only [Act.put, List.getElem_toArray, List.getElem_cons_zero, List.getElem_cons_succ, List.setIfInBounds_toArray, List.set_cons_zero, List.set_cons_succ]
                    refine wpAnyH_take (i := 3) (v := undef) rfl (by kernel_rfl) (by kernel_rfl) (by kernel_rfl) (fun _ _ _ h => h) (Or.inr ⟨by rfl, rfl⟩) hHeld ?_
                    try simp only [Act.put, List.getElem_toArray, List.getElem_cons_zero, List.getElem_cons_succ, List.setIfInBounds_toArray, List.set_cons_zero, List.set_cons_succ]
                    refine wpAnyH_take (i := 4) (v := undef) rfl (by kernel_rfl) (by kernel_rfl) (by kernel_rfl) (fun _ _ _ h => h) (Or.inr ⟨by rfl, rfl⟩) hHeld ?_
                    try simp only [Act.put, List.getElem_toArray, List.getElem_cons_zero, List.getElem_cons_succ, List.setIfInBounds_toArray, List.set_cons_zero, List.set_cons_succ]
                    refine wpAnyH_take (i := 5) (v := undef) rfl (by kernel_rfl) (by kernel_rfl) (by kernel_rfl) (fun _ _ _ h => h) (Or.inr ⟨by rfl, rfl⟩) hHeld ?_
                    try simp only [Act.put, List.getElem_toArray, List.getElem_cons_zero, List.getElem_cons_succ, List.setIfInBounds_toArray, List.set_cons_zero, List.set_cons_succ]
                    refine wpAnyH_take (i := 6) (v := undef) rfl (by kernel_rfl) (by kernel_rfl) (by kernel_rfl) (fun _ _ _ h => h) (Or.inr ⟨by rfl, rfl⟩) hHeld ?_
                    try simp only [Act.put, List.getElem_toArray, List.getElem_cons_zero, List.getElem_cons_succ, List.setIfInBounds_toArray, List.set_cons_zero, List.set_cons_succ]
                    refine wpAnyH_take (i := 7) (v := undef) rfl (by kernel_rfl) (by kernel_rfl) (by kernel_rfl) (fun _ _ _ h => h) (Or.inr ⟨by rfl, rfl⟩) hHeld ?_
                    try simp only [Act.put, List.getElem_toArray, List.getElem_cons_zero, List.getElem_cons_succ, List.setIfInBounds_toArray, List.set_cons_zero, List.set_cons_succ]
                    refine wpAnyH_take (i := 8) (v := undef) rfl (by kernel_rfl) (by kernel_rfl) (by kernel_rfl) (fun _ _ _ h => h) (Or.inr ⟨by rfl, rfl⟩) hHeld ?_
                    try simp only [Act.put, List.getElem_toArray, List.getElem_cons_zero, List.getElem_cons_succ, List.setIfInBounds_toArray, List.set_cons_zero, List.set_cons_succ]
                    refine wpAnyH_take (i := 9) (v := undef) rfl (by kernel_rfl) (by kernel_rfl) (by kernel_rfl) (fun _ _ _ h => h) (Or.inr ⟨by rfl, rfl⟩) hHeld ?_
                    try simp only [Act.put, List.getElem_toArray, List.getElem_cons_zero, List.getElem_cons_succ, List.setIfInBounds_toArray, List.set_cons_zero, List.set_cons_succ]
                    refine wpAnyH_take (i := 10) (v := undef) rfl (by kernel_rfl) (by kernel_rfl) (by kernel_rfl) (fun _ _ _ h => h) (Or.inr ⟨by rfl, rfl⟩) hHeld ?_
                    try simp only [Act.put, List.getElem_toArray, List.getElem_cons_zero, List.getElem_cons_succ, List.setIfInBounds_toArray, List.set_cons_zero, List.set_cons_succ]
                    refine wpAnyH_take (i := 11) (v := undef) rfl (by kernel_rfl) (by kernel_rfl) (by kernel_rfl) (fun _ _ _ h => h) (Or.inr ⟨by rfl, rfl⟩) hHeld ?_
                    try simp only [Act.put, List.getElem_toArray, List.getElem_cons_zero, List.getElem_cons_succ, List.setIfInBounds_toArray, List.set_cons_zero, List.set_cons_succ]
                    refine wpAnyH_take (i := 12) (v := undef) rfl (by kernel_rfl) (by kernel_rfl) (by kernel_rfl) (fun _ _ _ h => h) (Or.inr ⟨by rfl, rfl⟩) hHeld ?_
                    try simp only [Act.put, List.getElem_toArray, List.getElem_cons_zero, List.getElem_cons_succ, List.setIfInBounds_toArray, List.set_cons_zero, List.set_cons_succ]
                    refine wpAnyH_take (i := 13) (v := undef) rfl (by kernel_rfl) (by kernel_rfl) (by kernel_rfl) (fun _ _ _ h => h) (Or.inr ⟨by rfl, rfl⟩) hHeld ?_
                    try simp only [Act.put, List.getElem_toArray, List.getElem_cons_zero, List.getElem_cons_succ, List.setIfInBounds_toArray, List.set_cons_zero, List.set_cons_succ]
                    refine wpAnyH_take (i := 14) (v := undef) rfl (by kernel_rfl) (by kernel_rfl) (by kernel_rfl) (fun _ _ _ h => h) (Or.inr ⟨by rfl, rfl⟩) hHeld ?_
                    try simp only [Act.put, List.getElem_toArray, List.getElem_cons_zero, List.getElem_cons_succ, List.setIfInBounds_toArray, List.set_cons_zero, List.set_cons_succ]
                    refine wpAnyH_take (i := 15) (v := undef) rfl (by kernel_rfl) (by kernel_rfl) (by kernel_rfl) (fun _ _ _ h => h) (Or.inr ⟨by rfl, rfl⟩) hHeld ?_
                    try simp only [Act.put, List.getElem_toArray, List.getElem_cons_zero, List.getElem_cons_succ, List.setIfInBounds_toArray, List.set_cons_zero, List.set_cons_succ]
                    refine wpAnyH_take (i := 16) (v := undef) rfl (by kernel_rfl) (by kernel_rfl) (by kernel_rfl) (fun _ _ _ h => h) (Or.inr ⟨by rfl, rfl⟩) hHeld ?_
                    try simp only [Act.put, List.getElem_toArray, List.getElem_cons_zero, List.getElem_cons_succ, List.setIfInBounds_toArray, List.set_cons_zero, List.set_cons_succ]
                    refine wpAnyH_take (i := 17) (v := undef) rfl (by kernel_rfl) (by kernel_rfl) (by kernel_rfl) (fun _ _ _ h => h) (Or.inr ⟨by rfl, rfl⟩) hHeld ?_
                    try simp only [Act.put, List.getElem_toArray, List.getElem_cons_zero, List.getElem_cons_succ, List.setIfInBounds_toArray, List.set_cons_zero, List.set_cons_succ]
                    refine wpAnyH_take (i := 18) (v := undef) rfl (by kernel_rfl) (by kernel_rfl) (by kernel_rfl) (fun _ _ _ h => h) (Or.inr ⟨by rfl, rfl⟩) hHeld ?_
                    try simp only [Act.put, List.getElem_toArray, List.getElem_cons_zero, List.getElem_cons_succ, List.setIfInBounds_toArray, List.set_cons_zero, List.set_cons_succ]
                    refine wpAnyH_take (i := 19) (v := ?_) rfl (by kernel_rfl) (by kernel_rfl) (by kernel_rfl) (fun _ _ _ h => h) (Or.inl ⟨by rfl, ?_⟩) hHeld ?_
                    rotate_left
                    · intro w hSw
                      go_simp
                      with_reducible rfl
                    try simp only [Act.put, List.getElem_toArray, List.getElem_cons_zero, List.getElem_cons_succ, List.setIfInBounds_toArray, List.set_cons_zero, List.set_cons_succ]
                    refine wpAnyH_take (i := 20) (v := ?_) rfl (by kernel_rfl) (by kernel_rfl) (by kernel_rfl) (fun _ _ _ h => h) (Or.inl ⟨by rfl, ?_⟩) hHeld ?_
                    rotate_left
                    · intro w hSw
                      go_simp
                      with_reducible rfl
                    try simp only [Act.put, List.getElem_toArray, List.getElem_cons_zero, List.getElem_cons_succ, List.setIfInBounds_toArray, List.set_cons_zero, List.set_cons_succ]
                    refine wpAnyH_done (by kernel_rfl) ?_ _
                    go_wp2_with fail
                    go_roundg g2
                    case measure => omega
                    case rel => exact ⟨j + 1, by omega, by go_num, by rw [HSU2.out], HFz⟩
                | zero =>
                  obtain rfl : j = L.length := by omega
                  rw [HIB.out]
                  have HF10 := hid (HF8.out.trans HF9.out)
                  clear HF9
                  go_wp2_with fail
                  go_roundg g
                  case measure => omega
                  case rel => exact ⟨s + 1, by omega, by go_num, HF10⟩
            | zero =>
              obtain rfl : s = m := by omega
              have HA4 := hid (HA3.out.no HF4.out)
              have HF5 := hid (HF3.out.trans HF4.out)
              have hEo : (flushD D).opn.length ≤ 100000 := by show 0 ≤ 100000; decide
              have hEp : (flushD D).plan.length ≤ 100000 := by rw [HPl.out.flushP.plan]; decide
              clear HF4 HF3 HC3 HL3
              go_wp2_with fail
              refine (dv_Flush wr p S D HD4.out (by omega)).mono ?_
              rintro e u1 ⟨rfl, hX, hF⟩
              rw [HPl.out.flush] at hX
              have HD5 := hid hX
              have HA5 := hid (HA4.out.fr hF hAS)
              have HF6 := hid (HF5.out.then hF (fun i hi e => absurd hi (by have := HS.out i e; omega)))
              clear hX hF HD4 HA4 HF5
              go_wp2_with fail
              refine (dv_Crash u1 p S (flushD D) HD5.out none 0 [] (.inl rfl) (Nat.zero_le _) hEo).mono ?_
              rintro e u2 ⟨pn, Sn2, rfl, hX, hF, hSn2⟩
              rw [crash_none HPl.out] at hX
              have HN6 := hid hX
              have HD6 := hid (HD5.out.no hF)
              have HA6 := hid (HA5.out.no hF)
              have HF7 := hid (HF6.out.trans hF)
              clear hX hF hSn2 HD5 HA5 HF6
              go_wp2_with fail
              refine (dv_Same u2 pn pa Sn2 Sa (flushD D) HN6.out HA6.out hEo hEp).mono ?_
              rintro e u3 ⟨rfl, hF⟩
              have HN7 := hid (HN6.out.no hF)
              have HD7 := hid (HD6.out.no hF)
              have HF8 := hid (HF7.out.trans hF)
              clear hF HN6 HD6 HA6 HF7
              go_wp2_with fail
              refine (dv_Same u3 pn p Sn2 S (flushD D) HN7.out HD7.out hEo hEp).mono ?_
              rintro e u4 ⟨rfl, hF⟩
              have HF9 := hid (HF8.out.trans hF)
              clear hF HN7 HD7 HF8
              go_wp2_with fail
              refine (dv_awake u4).mono ?_
              rintro e u5 ⟨rfl, hF⟩
              go_wp2_with fail
              go_ret
              exact ⟨rfl, HF9.out.trans hF⟩
set_option maxRecDepth 100000 in
theorem loses_size (w : World) (m : Int) (hm : m < 1 ∨ 40 < m) (v u : Value) :
    Calls Try.prog 6 #[.int .i64 m, v, u] w fun e w' => e = .returned (.bool true) ∧ Fr No w w' := by
  by_cases h1 : m < 1
  · clear hm
    go_enter Try.func6, Try.ntmps6
    go_wp2_with fail
    refine (dv_awake _).mono ?_
    rintro e w2 ⟨rfl, hF2⟩
    go_wp2_with fail
    go_ret
    exact ⟨rfl, hF2⟩
  · have h2 : 40 < m := by omega
    clear hm
    go_enter Try.func6, Try.ntmps6
    go_wp2_with fail
    refine (dv_awake _).mono ?_
    rintro e w2 ⟨rfl, hF2⟩
    go_wp2_with fail
    go_ret
    exact ⟨rfl, hF2⟩
set_option maxRecDepth 100000 in
theorem loses_many (w : World) (m : Int) (hm1 : 1 ≤ m) (hm2 : m ≤ 40) (al : Option Addr) (k c : Nat) (hk : 80 < k) (u : Value) :
    Calls Try.prog 6 #[.int .i64 m, .slice al k c, u] w fun e w' => e = .returned (.bool true) ∧ Fr No w w' := by
  go_enter Try.func6, Try.ntmps6
  go_wp2_with fail
  refine (dv_few_not _ al k c hk).mono ?_
  rintro e w ⟨rfl, rfl⟩
  go_wp2_with fail
  refine (dv_awake _).mono ?_
  rintro e w2 ⟨rfl, hF2⟩
  go_wp2_with fail
  go_ret
  exact ⟨rfl, hF2⟩
theorem law_DevLoses (w : World) (m : Int) (_ : (Lit.int .i64 m).wf = true) (r : SRow) (hr : r.Ok w op3Sh) (q : SRow) (hq : q.Ok w .bool) :
    Calls Try.prog 6 #[.int .i64 m, r.v, q.v] w fun e w' => e = .returned (.bool true) ∧ Fr No w w' := by
  by_cases hm : m < 1 ∨ 40 < m
  · exact loses_size w m hm _ _
  obtain ⟨xs, e, hx⟩ := ops5_of hr
  rw [e]
  by_cases hk : 80 < xs.length
  · exact loses_many w m (by omega) (by omega) _ _ _ hk _
  obtain ⟨ks, e2, hkr⟩ := bools_of hq
  rw [e2]
  obtain ⟨k, rfl⟩ := Int.eq_ofNat_of_zero_le (show 0 ≤ m by omega)
  exact loses_in w k (by omega) (by omega) _ _ xs hx (by omega) _ _ ks hkr
end Go.Proofs.Ytcdchojdkdimbaa
