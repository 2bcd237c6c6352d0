/- The law DevReads. (tools/dev_re.py) -/
import Derived.Test.YtcdchojdkdimbaaDvL
namespace Go.Proofs.Ytcdchojdkdimbaa
open Go.RowKit

theorem list_valw {P : Program} {ops : Array Oper} {w : World} {Q : Exit → Act → World → Prop} {a : Act} {o : Oper} {rest : List Oper} (hw : Region.wanted o (yielded ops a.tmps) = true) (v : Value) (h : (execOp a.eval o).run P w = .ok (.value v) w) (hK : wpList P ops Q rest (a.put o.dst v) w) : wpList P ops Q (o :: rest) a w :=
  wpList_step fun _ hK' => by
    rw [if_pos hw]
    unfold Oper.wp
    rw [h]
    exact hK' _ _ hK
def rdB (D : DM) (s : Int) : List Nat := if thereB D s = true then latest D s.toNat else zeros
def rdE (D : DM) (s : Int) : Nat := if thereB D s = true then 0 else 10
theorem rdB_len {D : DM} (h : DOk D) (s : Int) : (rdB D s).length = 64 := by
  unfold rdB; split
  · rename_i ht
    obtain ⟨k, rfl, hk⟩ := there_nat ht
    exact latest_len h (by rw [Int.toNat_natCast]; exact hk)
  · exact zeros_len
theorem dv_ReadP (w : World) (p : Nat) (S : Nat → Prop) (D : DM) (h : PD w p S D) {m n : Nat} (hP : Plain D m n) (s : Int) (hlen : D.opn.length ≤ 100000) :
    Calls Try.prog 24 #[.pointer (some ⟨p, 0, none⟩), .int .i64 s] w fun e w' => e = .returned (.tuple #[.agg (blkA (rdB D s)), .int .i64 ((rdE D s : Nat) : Int)]) ∧ PD w' p S D ∧ Fr S w w' := by
  by_cases ht : thereB D s = true
  · obtain ⟨k, rfl, hk⟩ := there_nat ht
    have := dv_Read w p S D h k hk hlen
    rw [hP.pop, hP.wE.2.2] at this
    have e1 : rdB D k = latest D k := by unfold rdB; rw [if_pos ht, Int.toNat_natCast]
    have e2 : rdE D k = 0 := by unfold rdE; rw [if_pos ht]
    have e3 : readB D k = latest D k := by unfold readB; rw [hP.fate]; rfl
    rw [e1, e2]; rw [e3] at this
    exact this
  · have e1 : rdB D s = zeros := by unfold rdB; rw [if_neg ht]
    have e2 : rdE D s = 10 := by unfold rdE; rw [if_neg ht]
    rw [e1, e2]
    refine (dv_Read_bad w (some ⟨p, 0, none⟩) s 10 (by decide) (fun W f => dv_find_bad W p S D (h.no f) s (there_not ht))).mono ?_
    rintro e w' ⟨rfl, hF⟩
    exact ⟨rfl, h.no hF, hF.mono (fun _ _ h => h.elim)⟩
theorem there_w {D : DM} {m n : Nat} (h : Plain D m n) (s x : Int) (B : List Nat) : thereB (wD D s B) x = thereB D x := by
  unfold Go.Proofs.Ytcdchojdkdimbaa.wD; split
  · rw [h.write]; rfl
  · rfl
theorem latK_add (D : DM) (s : Nat) (B : List Nat) (x : Nat) : ∀ k, k ≤ D.opn.length → latK (addO D s B) x k = latK D x k
  | 0, _ => rfl
  | k + 1, hk => by
    have : opAt (addO D s B) k = opAt D k := by unfold opAt addO; simp [List.getD_eq_getElem?_getD, List.getElem?_append_left (show k < D.opn.length by omega)]
    unfold latK
    rw [this, latK_add D s B x k (by omega)]
theorem latest_add (D : DM) (s : Nat) (B : List Nat) (x : Nat) : latest (addO D s B) x = if s = x then B else latest D x := by
  have hl : (addO D s B).opn.length = D.opn.length + 1 := by simp [addO]
  have hk : opAt (addO D s B) D.opn.length = (s, B) := by unfold opAt addO; simp [List.getD_eq_getElem?_getD]
  unfold latest
  rw [hl]
  conv => lhs; unfold latK
  rw [hk, latK_add D s B x _ (Nat.le_refl _)]
theorem rd_in {D : DM} {m n : Nat} (h : Plain D m n) {a : Int} (ht : thereB D a = true) (B : List Nat) : wD D a B = addO D a.toNat B := by unfold Go.Proofs.Ytcdchojdkdimbaa.wD; rw [if_pos ht, h.write]
theorem rd_add {D : DM} {m n : Nat} (h : Plain D m n) {a : Int} (ht : thereB D a = true) (B : List Nat) : rdB (wD D a B) a = B := by
  unfold rdB
  rw [there_w h, if_pos ht, rd_in h ht, latest_add, if_pos rfl]
theorem rd_other {D : DM} {m n : Nat} (h : Plain D m n) {a b : Int} (ta : thereB D a = true) (tb : thereB D b = true) (hab : a ≠ b) (B : List Nat) : rdB (wD D a B) b = rdB D b := by
  obtain ⟨i, rfl, _⟩ := there_nat ta
  obtain ⟨j, rfl, _⟩ := there_nat tb
  unfold rdB
  rw [there_w h, if_pos tb, if_pos tb, rd_in h ta, latest_add, if_neg (by simp only [Int.toNat_natCast]; omega)]
theorem firmK_at {D : DM} (s : Nat) (hs : s < D.firm.length) : ∀ k, (firmK D k).getD s zeros = latK D s k
  | 0 => rfl
  | k + 1 => by
    unfold firmK latK
    have ih := firmK_at (D := D) s hs k
    rw [List.getD_eq_getElem?_getD, List.getElem?_set] at *
    by_cases e : (opAt D k).1 = s
    · rw [if_pos e, if_pos e]
      have : (opAt D k).1 < (firmK D k).length := by rw [firmK_len, e]; exact hs
      rw [if_pos this]; rfl
    · rw [if_neg e, if_neg e]; exact ih
theorem rd_flush {D : DM} {m n : Nat} (h : Plain D m n) {a : Int} (ht : thereB D a = true) : firmAt (flushD D) a.toNat = rdB D a ∧ rdB (flushD D) a = rdB D a := by
  obtain ⟨i, rfl, hi⟩ := there_nat ht
  have h1 : firmAt (flushD D) i = latest D i := firmK_at i hi _
  have h2 : thereB (flushD D) i = true := by unfold thereB at *; rw [show (flushD D).firm.length = D.firm.length from firmK_len D _]; exact ht
  unfold rdB
  rw [if_pos ht, if_pos h2, Int.toNat_natCast]
  exact ⟨h1, h1⟩

set_option maxRecDepth 100000 in
set_option maxHeartbeats 4000000 in
theorem reads_in (w : World) (m : Nat) (hm1 : 1 ≤ m) (hm40 : m ≤ 40) (al : Option Addr) (cap : Nat) (xs : List OpM) (hx : Ops5 w al xs) (hxl : xs.length ≤ 80) (a b : Int) :
    Calls Try.prog 5 #[.int .i64 m, .slice al xs.length cap, .agg #[.int .i64 a, .int .i64 b]] w fun e w' => e = .returned (.bool true) ∧ Fr No w w' := by
  have hm2 : m ≤ 4096 := by omega
  have hm40' : (m : Int) ≤ 40 := by omega
  have hxl' : (xs.length : Int) ≤ 80 := by omega
  have hb0 := heap_new w (.cells #[.int .i64 a, .int .i64 b] 53)
  have HFb := hid ((Fr.refl No w).alloc (.cells #[.int .i64 a, .int .i64 b] 53))
  have HX := hid (hx.no HFb.out)
  have HB := hid hb0
  have b1 := cell_blk hb0 0
  have b2 := cell_blk hb0 1
  simp only [List.getElem?_toArray, List.getElem?_cons_zero, List.getElem?_cons_succ] at b1 b2
  clear hx hb0
  go_enter Try.func5, Try.ntmps5
  go_wp2_with fail
  refine (dv_few _ al xs.length cap hxl).mono ?_
  rintro e w1 ⟨rfl, rfl⟩
  go_wp2_with fail
  refine (dv_New_ok m _ hm1 hm2).mono ?_
  rintro e wn ⟨p, Sn, rfl, hDn, hFn, hSn⟩
  have HDn := hid hDn
  have HFn := hid hFn
  have HSn := hid hSn
  obtain ⟨wb, hwb⟩ : ∃ wb, w.alloc (.cells #[.int .i64 a, .int .i64 b] 53) = wb := ⟨_, rfl⟩
  rw [hwb] at HFn HSn HX HB HFb b1 b2
  clear hDn hFn hSn hwb
  go_wp2_with fail
  go_loopg [9] xs.length (fun g i wr => ∃ (k : Nat) (S : Nat → Prop), k + g = xs.length ∧ i = .int .i64 k ∧ Hid (PD wr p S (runF (newD m) xs k)) ∧ Hid (∀ j, S j → wb.heap.size ≤ j) ∧ Hid (Fr No wb wr))
  case atStart => exact ⟨0, Sn, by omega, rfl, HDn, HSn, HFn⟩
  case round =>
    obtain ⟨k, S, hk, rfl, HD, HS, HF⟩ := hrel
    cases gk with
    | succ g =>
      have hkl : k < xs.length := by omega
      obtain ⟨g0, o, rfl, hb, a0, a1, a2⟩ := HX.out.op5 k hkl
      have HPl := hid (Plain.run hm1 hm2 xs k (by omega))
      have hstep := runF_succ (newD m) xs k hkl
      obtain ⟨op, hop⟩ : ∃ op, xs[k] = op := ⟨_, rfl⟩
      rw [hop] at a0 a1 a2 hstep
      have HST := hid hstep
      have hlenD : (runF (newD m) xs k).opn.length ≤ 100000 := by have := HPl.out.opn; omega
      obtain ⟨D, hD⟩ : ∃ D, runF (newD m) xs k = D := ⟨_, rfl⟩
      rw [hD] at HD HPl HST hlenD
      obtain ⟨ask, sec, nn⟩ := op
      have k0 : wr.cell? ⟨g0, o + k * 3, none⟩ = some (.int .i64 ask) := (HF.out.cell (p := ⟨g0, o + k * 3, none⟩) hb id).trans a0
      have k1 : wr.cell? ⟨g0, o + k * 3 + 1, none⟩ = some (.int .i64 sec) := (HF.out.cell (p := ⟨g0, o + k * 3 + 1, none⟩) hb id).trans a1
      have k2 : wr.cell? ⟨g0, o + k * 3 + 2, none⟩ = some (.int .i64 nn) := (HF.out.cell (p := ⟨g0, o + k * 3 + 2, none⟩) hb id).trans a2
      clear hop hstep hD a0 a1 a2
      by_cases hask : ask = 0 ∨ ask = 2
      · have HST2 : Hid (runF (newD m) xs (k + 1) = stepD D ⟨ask, sec, nn⟩) := by unfold Hid; rw [HST.out]; exact if_pos hask
        have HAS := hid hask
        have HORD : Hid (∀ W, PD W p S D → Fr No wr W → Calls Try.prog 13 #[.int .i64 m] W fun e w' => ∃ q T, e = .returned (.pointer (some ⟨q, 0, none⟩)) ∧ RD w' q T (newD m) ∧ Fr No W w' ∧ ∀ k, T k → W.heap.size ≤ k) := fun W _ _ => rf_New W m hm1 hm2
        clear hask HST
        have hbr : (ask == 0) = true ∨ ((ask == 0) = false ∧ (ask == 2) = true) := by
          rcases HAS.out with e | e <;> simp [e]
        have HGO : Hid (∀ (PP : Prop), (∀ (h1 : (ask == 0) = true), PP) → (∀ (h1 : (ask == 0) = false) (h2 : (ask == 2) = true), PP) → PP) := fun PP f g => hbr.elim f (fun h => g h.1 h.2)
        refine HGO.out _ (fun h1 => ?_) (fun h1 h2 => ?_)
        all_goals
          clear hbr
          go_wp2_with fail
          refine wp_region_held_drew (S := fun W => W.cell? ⟨g0, o + k * 3, none⟩ = some (.int .i64 ask) ∧ W.cell? ⟨g0, o + k * 3 + 1, none⟩ = some (.int .i64 sec) ∧ W.cell? ⟨g0, o + k * 3 + 2, none⟩ = some (.int .i64 nn)) (by kernel_rfl) ⟨k0, k1, k2⟩ (fun hHeld => ?_)
          have HD0 := hid (HD.out.no (Fr.refl No wr).drew)
          have HF0 := hid HF.out.drew
          obtain ⟨z0, hz0⟩ : ∃ z0, wr.drew = z0 := ⟨_, rfl⟩
          rw [hz0] at HD0 HF0 hHeld ⊢
          clear hz0 k0 k1 k2 HD HF
          refine wpAnyH_take (i := 0) (v := ?_) rfl (by kernel_rfl) (by kernel_rfl) (by kernel_rfl) (fun _ _ _ h => h) (Or.inl ⟨by rfl, ?_⟩) hHeld ?_
          rotate_left
          · intro w hSw; obtain ⟨hA1, hA2, hA3⟩ := hSw
            go_simp
            with_reducible rfl
          try simp only [Act.put, List.getElem_toArray, List.getElem_cons_zero, List.getElem_cons_succ, List.setIfInBounds_toArray, List.set_cons_zero, List.set_cons_succ]
          refine wpAnyH_take (i := 1) (v := ?_) rfl (by kernel_rfl) (by kernel_rfl) (by kernel_rfl) (fun _ _ _ h => h) (Or.inl ⟨by rfl, ?_⟩) hHeld ?_
          rotate_left
          · intro w hSw; obtain ⟨hA1, hA2, hA3⟩ := hSw
            go_simp
            with_reducible rfl
          try simp only [Act.put, List.getElem_toArray, List.getElem_cons_zero, List.getElem_cons_succ, List.setIfInBounds_toArray, List.set_cons_zero, List.set_cons_succ]
          refine wpAnyH_take (i := 3) (v := ?_) rfl (by kernel_rfl) (by kernel_rfl) (by kernel_rfl) (fun _ _ _ h => h) (Or.inl ⟨by rfl, ?_⟩) hHeld ?_
          rotate_left
          · intro w hSw; obtain ⟨hA1, hA2, hA3⟩ := hSw
            go_simp
            with_reducible rfl
          try simp only [Act.put, List.getElem_toArray, List.getElem_cons_zero, List.getElem_cons_succ, List.setIfInBounds_toArray, List.set_cons_zero, List.set_cons_succ]
          refine wpAnyH_take (i := 4) (v := ?_) rfl (by kernel_rfl) (by kernel_rfl) (by kernel_rfl) (fun _ _ _ h => h) (Or.inl ⟨by rfl, ?_⟩) hHeld ?_
          rotate_left
          · intro w hSw; obtain ⟨hA1, hA2, hA3⟩ := hSw
            go_simp
            with_reducible rfl
          try simp only [Act.put, List.getElem_toArray, List.getElem_cons_zero, List.getElem_cons_succ, List.setIfInBounds_toArray, List.set_cons_zero, List.set_cons_succ]
          refine wpAnyH_take (i := 5) (v := ?_) rfl (by kernel_rfl) (by kernel_rfl) (by kernel_rfl) (fun _ _ _ h => h) (Or.inl ⟨by rfl, ?_⟩) hHeld ?_
          rotate_left
          · intro w hSw; obtain ⟨hA1, hA2, hA3⟩ := hSw
            go_simp
            with_reducible rfl
          try simp only [Act.put, List.getElem_toArray, List.getElem_cons_zero, List.getElem_cons_succ, List.setIfInBounds_toArray, List.set_cons_zero, List.set_cons_succ]
          refine wpAnyH_take (i := 6) (v := ?_) rfl (by kernel_rfl) (by kernel_rfl) (by kernel_rfl) (fun _ _ _ h => h) (Or.inl ⟨by rfl, ?_⟩) hHeld ?_
          rotate_left
          · intro w hSw; obtain ⟨hA1, hA2, hA3⟩ := hSw
            go_simp
            with_reducible rfl
          try simp only [Act.put, List.getElem_toArray, List.getElem_cons_zero, List.getElem_cons_succ, List.setIfInBounds_toArray, List.set_cons_zero, List.set_cons_succ]
          refine wpAnyH_ready (rs := [2]) (by kernel_rfl) (by simp) ?_
          refine AllReadyH.cons rfl (fun K hK => ?_) AllReadyH.nil
          rw [if_pos (by rfl)]
          go_simp
          refine (rf_New z0 m hm1 hm2).mono ?_
          rintro e z2 ⟨q, T, rfl, hE2, hF2, hT2⟩
          have hb2 := lt_of_cell hHeld.1
          refine hK.out _ _ ⟨(hF2.cell (lt_of_cell hHeld.1) id).trans hHeld.1, (hF2.cell (lt_of_cell hHeld.2.1) id).trans hHeld.2.1, (hF2.cell (lt_of_cell hHeld.2.2) id).trans hHeld.2.2⟩ (fun hHeld => ?_)
          clear hK K
          try simp only [Act.put, List.getElem_toArray, List.getElem_cons_zero, List.getElem_cons_succ, List.setIfInBounds_toArray, List.set_cons_zero, List.set_cons_succ]
          have hdisj : ∀ j, S j → ¬ T j := fun j hj ht => by have := HD0.out.lt j hj; have := hT2 j ht; omega
          have HD2 := hid (HD0.out.no hF2)
          have HF2 := hid (HF0.out.trans hF2)
          have hTb : ∀ j, T j → wb.heap.size ≤ j := fun j ht => by have := hT2 j ht; have := HF0.out.size; omega
          refine wpAnyH_ready (rs := [7]) (by kernel_rfl) (by simp) ?_
          refine AllReadyH.cons rfl (fun K hK => ?_) AllReadyH.nil
          rw [if_pos (by rfl)]
          go_simp
          refine (dv_does z2 p q S T D (newD m) HD2.out hE2 hdisj ⟨ask, sec, nn⟩ HAS.out hlenD (by show 0 ≤ 100000; decide) (by show 0 ≤ 100000; decide)).mono ?_
          rintro e z7 ⟨⟨bb, rfl⟩, S', T', hD7, _, hF7, hM7, _, _⟩
          have hnb : ∀ j, j < wb.heap.size → ¬ (S j ∨ T j) := fun j hj e => e.elim (fun e => by have := HS.out j e; omega) (fun e => by have := hTb j e; omega)
          have hbw : g0 < wb.heap.size := hb
          refine hK.out _ _ ⟨(hF7.cell (lt_of_cell hHeld.1) (hnb g0 hbw)).trans hHeld.1, (hF7.cell (lt_of_cell hHeld.2.1) (hnb g0 hbw)).trans hHeld.2.1, (hF7.cell (lt_of_cell hHeld.2.2) (hnb g0 hbw)).trans hHeld.2.2⟩ (fun hHeld => ?_)
          clear hK K
          try simp only [Act.put, List.getElem_toArray, List.getElem_cons_zero, List.getElem_cons_succ, List.setIfInBounds_toArray, List.set_cons_zero, List.set_cons_succ]
          rw [← HST2.out] at hD7
          have HD7 := hid hD7
          have HS7 : Hid (∀ j, S' j → wb.heap.size ≤ j) := fun j hj => (hM7.1 j hj).elim (fun e => HS.out j e) (fun e => by have := HF2.out.size; omega)
          have HF7 := hid (HF2.out.then hF7 (fun i hi e => absurd e (hnb i hi)))
          clear hD7 hF7 hM7 hnb hE2 hF2 hT2 hTb hdisj
          refine wpAnyH_done (by kernel_rfl) ?_ _
          go_wp2_with fail
          go_roundg g
          case measure => omega
          case rel => exact ⟨k + 1, S', by omega, by go_num, HD7, HS7, HF7⟩
      · have HST2 : Hid (runF (newD m) xs (k + 1) = D) := by unfold Hid; rw [HST.out]; exact if_neg hask
        have h0 : (ask == 0) = false := by simp; omega
        have h2 : (ask == 2) = false := by simp; omega
        rw [← HST2.out] at HD
        clear hask HST HST2 k1 k2
        go_wp2_with fail
        go_roundg g
        case measure => omega
        case rel => exact ⟨k + 1, S, by omega, by go_num, HD, HS, HF⟩
    | zero =>
      obtain rfl : k = xs.length := by omega
      have hPl := Plain.run hm1 hm2 xs xs.length (Nat.le_refl _)
      obtain ⟨D, hD⟩ : ∃ D, runF (newD m) xs xs.length = D := ⟨_, rfl⟩
      rw [hD] at HD hPl
      have HPl := hid (hPl.up hxl)
      have b1r := (HF.out.cell (p := ⟨w.heap.size, 0, none⟩) (lt_of_block HB.out) id).trans b1
      have b2r := (HF.out.cell (p := ⟨w.heap.size, 1, none⟩) (lt_of_block HB.out) id).trans b2
      have HQ : Hid (w.heap.size < wb.heap.size) := lt_of_block HB.out
      obtain ⟨q, hq⟩ : ∃ q, w.heap.size = q := ⟨_, rfl⟩
      rw [hq] at b1r b2r HQ ⊢
      clear hD hPl b1 b2 HDn HSn HFn HX HB hq
      have hlen := HPl.out.opn
      have hpl : D.plan.length ≤ 100000 := by rw [HPl.out.plan]; decide
      have HQ0 := hid (show (wr.cell? ⟨q, 0, none⟩ = some (.int .i64 a) ∧ wr.cell? ⟨q, 1, none⟩ = some (.int .i64 b)) from ⟨b1r, b2r⟩)
      have HD0 := HD
      have HF0 := HF
      have hSb := HS.out
      have hnq : ¬ S q := fun e => by have := hSb _ e; have := HQ.out; omega
      clear b1r b2r HD HF HS
      have HML := hid (markB_len 201)
      obtain ⟨M, hM⟩ : ∃ M, markB 201 = M := ⟨_, rfl⟩
      rw [hM] at HML
      have HMK : Hid (∀ W, Calls Try.prog 22 #[.int .i64 201] W fun e w' => e = .returned (.agg (blkA M)) ∧ Fr No W w') := fun W => by rw [← hM]; exact dv_mark W 201
      clear hM
      have HIM := hid (info64b M HML.out)
      have H1M := hid (blkA_one M)
      have HSM : Hid ((blkA zeros).size = (blkA M).size) := by unfold Hid; rw [blkA_zeros_size, blkA_size, HML.out]
      have c0 := HQ0.out.1
      have c1 := HQ0.out.2
      go_wp2_with fail
      refine (dv_ReadP wr p S D HD0.out HPl.out b (by omega)).mono ?_
      rintro e v1 ⟨rfl, hX, hF⟩
      obtain ⟨A1, hA1⟩ : ∃ A1, rdB D b = A1 := ⟨_, rfl⟩
      have HLA1 : Hid (A1.length = 64) := by unfold Hid; rw [← hA1]; exact rdB_len HD0.out.1 _
      have HIA1 := hid (info64b A1 HLA1.out)
      have H1A1 := hid (blkA_one A1)
      have HSA1 : Hid ((blkA zeros).size = (blkA A1).size) := by unfold Hid; rw [blkA_zeros_size, blkA_size, HLA1.out]
      rw [hA1]
      have HEA1 := hid hA1
      clear hA1
      obtain ⟨f1, hf1⟩ : ∃ f1 : Int, ((rdE D b : Nat) : Int) = f1 := ⟨_, rfl⟩
      rw [hf1]
      have Hf1 := hid hf1
      clear hf1
      have HQ1 := hid (show (v1.cell? ⟨q, 0, none⟩ = some (.int .i64 a) ∧ v1.cell? ⟨q, 1, none⟩ = some (.int .i64 b)) from ⟨(hF.cell (lt_of_cell HQ0.out.1) hnq).trans HQ0.out.1, (hF.cell (lt_of_cell HQ0.out.2) hnq).trans HQ0.out.2⟩)
      have HD1 := hid (hX)
      have HF1 := hid (HF0.out.then hF (fun i hi e => absurd hi (by have := hSb i e; omega)))
      clear hF HQ0 HD0 HF0  hX
      clear c0 c1
      have HN := hid (heap_new v1 (.cells (blkA zeros) 42))
      have HP := put_blk v1 (blkA zeros) A1
      go_wp2_with (
        refine wpList_store_row rfl 42 _ _ rfl v1.heap.size (blkA A1) rfl rfl 42 (blkA zeros) HN.out HIA1.out HSA1.out H1A1.out ?_
        change wpList _ _ _ _ _ ((v1.alloc (.cells (blkA zeros) 42)).setRow v1.heap.size (blkA A1))
        obtain ⟨v2, hw⟩ : ∃ v2, ((v1.alloc (.cells (blkA zeros) 42)).setRow v1.heap.size (blkA A1)) = v2 := ⟨_, rfl⟩
        rw [hw] at HP ⊢
        have c0 := (HP.2.cell (lt_of_cell HQ1.out.1) id).trans HQ1.out.1
        have c1 := (HP.2.cell (lt_of_cell HQ1.out.2) id).trans HQ1.out.2)
      obtain ⟨g1, hg⟩ : ∃ g1, v1.heap.size = g1 := ⟨_, rfl⟩
      rw [hg] at HP ⊢
      have hng1 : ¬ S g1 := fun e => by have := HD1.out.lt _ e; omega
      obtain ⟨hG, hF⟩ := HP
      have Hg1_2 := hid hG
      clear hw hg HN hG c0 c1
      have HQ2 := hid (show (v2.cell? ⟨q, 0, none⟩ = some (.int .i64 a) ∧ v2.cell? ⟨q, 1, none⟩ = some (.int .i64 b)) from ⟨(hF.cell (lt_of_cell HQ1.out.1) id).trans HQ1.out.1, (hF.cell (lt_of_cell HQ1.out.2) id).trans HQ1.out.2⟩)
      have HD2 := hid (HD1.out.no hF)
      have HF2 := hid (HF1.out.trans hF)
      clear hF HQ1 HD1 HF1 
      refine wp_region_held_drew (S := fun W => (W.cell? ⟨q, 0, none⟩ = some (.int .i64 a) ∧ W.cell? ⟨q, 1, none⟩ = some (.int .i64 b))) (by kernel_rfl) HQ2.out (fun hHeld => ?_)
      have hF := (Fr.refl No v2).drew
      obtain ⟨z2, hz⟩ : ∃ z, v2.drew = z := ⟨_, rfl⟩
      rw [hz] at hF hHeld ⊢
      clear hz
      have HQ3 := hid (show (z2.cell? ⟨q, 0, none⟩ = some (.int .i64 a) ∧ z2.cell? ⟨q, 1, none⟩ = some (.int .i64 b)) from ⟨(hF.cell (lt_of_cell HQ2.out.1) id).trans HQ2.out.1, (hF.cell (lt_of_cell HQ2.out.2) id).trans HQ2.out.2⟩)
      have Hg1_3 := hid ((hF.block g1 (lt_of_block Hg1_2.out) id).trans Hg1_2.out)
      have HD3 := hid (HD2.out.no hF)
      have HF3 := hid (HF2.out.trans hF)
      clear hF HQ2 HD2 HF2 Hg1_2
      refine wpAnyH_take (i := 0) (v := ?_) rfl (by kernel_rfl) (by kernel_rfl) (by kernel_rfl) (fun _ _ _ h => h) (Or.inl ⟨by rfl, ?_⟩) hHeld ?_
      rotate_left
      · intro w hSw; obtain ⟨hA1, hA2⟩ := hSw
        go_simp
        with_reducible rfl
      try simp only [Act.put, List.getElem_toArray, List.getElem_cons_zero, List.getElem_cons_succ, List.setIfInBounds_toArray, List.set_cons_zero, List.set_cons_succ]
      refine wpAnyH_take (i := 1) (v := ?_) rfl (by kernel_rfl) (by kernel_rfl) (by kernel_rfl) (fun _ _ _ h => h) (Or.inl ⟨by rfl, ?_⟩) hHeld ?_
      rotate_left
      · intro w hSw; obtain ⟨hA1, hA2⟩ := hSw
        go_simp
        with_reducible rfl
      try simp only [Act.put, List.getElem_toArray, List.getElem_cons_zero, List.getElem_cons_succ, List.setIfInBounds_toArray, List.set_cons_zero, List.set_cons_succ]
      refine wpAnyH_take (i := 2) (v := ?_) rfl (by kernel_rfl) (by kernel_rfl) (by kernel_rfl) (fun _ _ _ h => h) (Or.inl ⟨by rfl, ?_⟩) hHeld ?_
      rotate_left
      · intro w hSw; obtain ⟨hA1, hA2⟩ := hSw
        go_simp
        with_reducible rfl
      try simp only [Act.put, List.getElem_toArray, List.getElem_cons_zero, List.getElem_cons_succ, List.setIfInBounds_toArray, List.set_cons_zero, List.set_cons_succ]
      refine wpAnyH_ready (rs := [3]) (by kernel_rfl) (by simp) ?_
      refine AllReadyH.cons rfl (fun K hK => ?_) AllReadyH.nil
      rw [if_pos (by rfl)]
      go_simp
      refine (HMK.out z2).mono ?_
      rintro e y2 ⟨rfl, hF⟩
      have HQ4 := hid (show (y2.cell? ⟨q, 0, none⟩ = some (.int .i64 a) ∧ y2.cell? ⟨q, 1, none⟩ = some (.int .i64 b)) from ⟨(hF.cell (lt_of_cell HQ3.out.1) id).trans HQ3.out.1, (hF.cell (lt_of_cell HQ3.out.2) id).trans HQ3.out.2⟩)
      have Hg1_4 := hid ((hF.block g1 (lt_of_block Hg1_3.out) id).trans Hg1_3.out)
      have HD4 := hid (HD3.out.no hF)
      have HF4 := hid (HF3.out.trans hF)
      clear hF HQ3 HD3 HF3 Hg1_3
      refine hK.out _ _ HQ4.out (fun hHeld => ?_)
      clear hK K
      try simp only [Act.put, List.getElem_toArray, List.getElem_cons_zero, List.getElem_cons_succ, List.setIfInBounds_toArray, List.set_cons_zero, List.set_cons_succ]
      refine wpAnyH_ready (rs := [4]) (by kernel_rfl) (by simp) ?_
      refine AllReadyH.cons rfl (fun K hK => ?_) AllReadyH.nil
      rw [if_pos (by rfl)]
      go_simp
      refine (dv_WriteAny y2 p S D HD4.out a M HML.out (by omega)).mono ?_
      rintro e v3 ⟨rfl, S1, hX, hF, hM⟩
      have hnq1 : ¬ S1 q := fun e => (hM.1 _ e).elim hnq (fun e => by have := lt_of_cell HQ4.out.1; have e1 : q < y2.heap.size := this; omega)
      have hng11 : ¬ S1 g1 := fun e => (hM.1 _ e).elim hng1 (fun e => by have := lt_of_block Hg1_4.out; omega)
      have hSb1 : ∀ j, S1 j → wb.heap.size ≤ j := fun j hj => (hM.1 j hj).elim (fun e => hSb j e) (fun e => by have := HF4.out.size; omega)
      obtain ⟨gE, hgE⟩ : ∃ gE : Int, ((wE D a : Nat) : Int) = gE := ⟨_, rfl⟩
      rw [hgE]
      have HGE := hid hgE
      clear hgE hM
      have HQ5 := hid (show (v3.cell? ⟨q, 0, none⟩ = some (.int .i64 a) ∧ v3.cell? ⟨q, 1, none⟩ = some (.int .i64 b)) from ⟨(hF.cell (lt_of_cell HQ4.out.1) hnq).trans HQ4.out.1, (hF.cell (lt_of_cell HQ4.out.2) hnq).trans HQ4.out.2⟩)
      have Hg1_5 := hid ((hF.block g1 (lt_of_block Hg1_4.out) hng1).trans Hg1_4.out)
      have HD5 := hid (hX)
      have HF5 := hid (HF4.out.then hF (fun i hi e => absurd hi (by have := hSb i e; omega)))
      clear hF HQ4 HD4 HF4 Hg1_4 hX
      refine hK.out _ _ HQ5.out (fun hHeld => ?_)
      clear hK K
      try simp only [Act.put, List.getElem_toArray, List.getElem_cons_zero, List.getElem_cons_succ, List.setIfInBounds_toArray, List.set_cons_zero, List.set_cons_succ]
      clear hnq hng1 hSb
      have hnq := hnq1
      have hng1 := hng11
      have hSb := hSb1
      clear hnq1 hng11 hSb1
      refine wpAnyH_take (i := 5) (v := ?_) rfl (by kernel_rfl) (by kernel_rfl) (by kernel_rfl) (fun _ _ _ h => h) (Or.inl ⟨by rfl, ?_⟩) hHeld ?_
      rotate_left
      · intro w hSw
        go_simp
        with_reducible rfl
      try simp only [Act.put, List.getElem_toArray, List.getElem_cons_zero, List.getElem_cons_succ, List.setIfInBounds_toArray, List.set_cons_zero, List.set_cons_succ]
      refine wpAnyH_done (by kernel_rfl) ?_ _
      have hP1 := HPl.out.wD a HML.out
      have HP1 := hid hP1
      clear hP1
      have hmE : ((D.firm.length : Nat) : Int) = m := by rw [HPl.out.firm]
      have c0 := HQ5.out.1
      have c1 := HQ5.out.2
      by_cases ha : thereB D a = true
      rotate_left
      · have hgE : gE = 10 := by rw [← HGE.out]; unfold wE; rw [if_neg ha]; rfl
        subst hgE
        have hn := there_not ha
        rw [hmE] at hn
        by_cases h1 : a < 0
        · clear hn ha
          go_wp2_with fail
          refine (dv_awake v3).mono ?_
          rintro e v4 ⟨rfl, hF⟩
          go_wp2_with fail
          go_ret
          exact ⟨rfl, HFb.out.trans (HF5.out.trans hF)⟩
        · have h2 : (m : Int) ≤ a := by omega
          clear hn ha
          go_wp2_with fail
          refine (dv_awake v3).mono ?_
          rintro e v4 ⟨rfl, hF⟩
          go_wp2_with fail
          go_ret
          exact ⟨rfl, HFb.out.trans (HF5.out.trans hF)⟩
      have hgE : gE = 0 := by rw [← HGE.out]; unfold wE; rw [if_pos ha]; unfold Go.Proofs.Ytcdchojdkdimbaa.writeE; rw [HPl.out.fate]; rfl
      subst hgE
      obtain ⟨i, rfl, hi⟩ := there_nat ha
      have hTA := hid ha
      have hi' : (i : Int) < (m : Int) := by omega
      have HRA := hid (rd_add HPl.out ha M)
      have HRF := hid (rd_flush HP1.out (show thereB (wD D i M) i = true by rw [there_w HPl.out]; exact ha))
      have HR1 : Hid (rdE (wD D i M) i = 0) := by unfold Hid rdE; rw [there_w HPl.out, if_pos ha]
      have HO1 : Hid ((wD D i M).opn.length = D.opn.length + 1) := by unfold Hid; rw [rd_in HPl.out ha]; simp [addO]
      have HR2 : Hid (rdE (flushD (wD D i M)) i = 0) := by unfold Hid rdE; rw [if_pos (show thereB (flushD (wD D i M)) i = true by unfold thereB; rw [show (flushD (wD D i M)).firm.length = (wD D i M).firm.length from firmK_len _ _]; have := there_w HPl.out i i M; unfold thereB at this; rw [this]; exact ha)]
      have HOB : Hid (thereB D b = true → (i : Int) ≠ b → rdB (wD D i M) b = rdB D b) := fun tb hne => rd_other HPl.out ha tb hne M
      have HEB : Hid (∀ x, thereB (wD D i M) x = thereB D x) := fun x => there_w HPl.out i x M
      have HFL : Hid ((flushD (wD D i M)).firm.length = m) := HP1.out.flushP.firm
      have him : i < m := by omega
      obtain ⟨D1, hD1⟩ : ∃ D1, wD D i M = D1 := ⟨_, rfl⟩
      rw [hD1] at HP1 HRA HRF HR1 HO1 HR2 HOB HEB HD5 HFL
      clear hD1 ha hi
      go_wp2_with fail
      refine (dv_ReadP v3 p S1 D1 HD5.out HP1.out i (by have := HO1.out; omega)).mono ?_
      rintro e v4 ⟨rfl, hX, hF⟩
      rw [show rdB D1 i = M from HRA.out]
      rw [show rdE D1 i = 0 from HR1.out]
      have HQ6 := hid (show (v4.cell? ⟨q, 0, none⟩ = some (.int .i64 i) ∧ v4.cell? ⟨q, 1, none⟩ = some (.int .i64 b)) from ⟨(hF.cell (lt_of_cell HQ5.out.1) hnq).trans HQ5.out.1, (hF.cell (lt_of_cell HQ5.out.2) hnq).trans HQ5.out.2⟩)
      have Hg1_6 := hid ((hF.block g1 (lt_of_block Hg1_5.out) hng1).trans Hg1_5.out)
      have HD6 := hid (hX)
      have HF6 := hid (HF5.out.then hF (fun i hi e => absurd hi (by have := hSb i e; omega)))
      clear hF HQ5 HD5 HF5 Hg1_5 hX
      clear c0 c1
      have HN := hid (heap_new v4 (.cells (blkA zeros) 42))
      have HP := put_blk v4 (blkA zeros) M
      go_wp2_with (
        refine wpList_store_row rfl 42 _ _ rfl v4.heap.size (blkA M) rfl rfl 42 (blkA zeros) HN.out HIM.out HSM.out H1M.out ?_
        change wpList _ _ _ _ _ ((v4.alloc (.cells (blkA zeros) 42)).setRow v4.heap.size (blkA M))
        obtain ⟨v5, hw⟩ : ∃ v5, ((v4.alloc (.cells (blkA zeros) 42)).setRow v4.heap.size (blkA M)) = v5 := ⟨_, rfl⟩
        rw [hw] at HP ⊢
        have c0 := (HP.2.cell (lt_of_cell HQ6.out.1) id).trans HQ6.out.1
        have c1 := (HP.2.cell (lt_of_cell HQ6.out.2) id).trans HQ6.out.2)
      obtain ⟨g2, hg⟩ : ∃ g2, v4.heap.size = g2 := ⟨_, rfl⟩
      rw [hg] at HP ⊢
      have hng2 : ¬ S1 g2 := fun e => by have := HD6.out.lt _ e; omega
      obtain ⟨hG, hF⟩ := HP
      have Hg2_7 := hid hG
      clear hw hg HN hG c0 c1
      have HQ7 := hid (show (v5.cell? ⟨q, 0, none⟩ = some (.int .i64 i) ∧ v5.cell? ⟨q, 1, none⟩ = some (.int .i64 b)) from ⟨(hF.cell (lt_of_cell HQ6.out.1) id).trans HQ6.out.1, (hF.cell (lt_of_cell HQ6.out.2) id).trans HQ6.out.2⟩)
      have Hg1_7 := hid ((hF.block g1 (lt_of_block Hg1_6.out) id).trans Hg1_6.out)
      have HD7 := hid (HD6.out.no hF)
      have HF7 := hid (HF6.out.trans hF)
      clear hF HQ6 HD6 HF6 Hg1_6
      go_wp2_with fail
      refine (dv_ReadP v5 p S1 D1 HD7.out HP1.out b (by have := HO1.out; omega)).mono ?_
      rintro e v6 ⟨rfl, hX, hF⟩
      obtain ⟨A3, hA3⟩ : ∃ A3, rdB D1 b = A3 := ⟨_, rfl⟩
      have HLA3 : Hid (A3.length = 64) := by unfold Hid; rw [← hA3]; exact rdB_len HD7.out.1 _
      have HIA3 := hid (info64b A3 HLA3.out)
      have H1A3 := hid (blkA_one A3)
      have HSA3 : Hid ((blkA zeros).size = (blkA A3).size) := by unfold Hid; rw [blkA_zeros_size, blkA_size, HLA3.out]
      rw [hA3]
      have HEA3 := hid hA3
      clear hA3
      obtain ⟨f3, hf3⟩ : ∃ f3 : Int, ((rdE D1 b : Nat) : Int) = f3 := ⟨_, rfl⟩
      rw [hf3]
      have Hf3 := hid hf3
      clear hf3
      have HQ8 := hid (show (v6.cell? ⟨q, 0, none⟩ = some (.int .i64 i) ∧ v6.cell? ⟨q, 1, none⟩ = some (.int .i64 b)) from ⟨(hF.cell (lt_of_cell HQ7.out.1) hnq).trans HQ7.out.1, (hF.cell (lt_of_cell HQ7.out.2) hnq).trans HQ7.out.2⟩)
      have Hg1_8 := hid ((hF.block g1 (lt_of_block Hg1_7.out) hng1).trans Hg1_7.out)
      have Hg2_8 := hid ((hF.block g2 (lt_of_block Hg2_7.out) hng2).trans Hg2_7.out)
      have HD8 := hid (hX)
      have HF8 := hid (HF7.out.then hF (fun i hi e => absurd hi (by have := hSb i e; omega)))
      clear hF HQ7 HD7 HF7 Hg1_7 Hg2_7 hX
      have HN := hid (heap_new v6 (.cells (blkA zeros) 42))
      have HP := put_blk v6 (blkA zeros) A3
      go_wp2_with (
        refine wpList_store_row rfl 42 _ _ rfl v6.heap.size (blkA A3) rfl rfl 42 (blkA zeros) HN.out HIA3.out HSA3.out H1A3.out ?_
        change wpList _ _ _ _ _ ((v6.alloc (.cells (blkA zeros) 42)).setRow v6.heap.size (blkA A3))
        obtain ⟨v7, hw⟩ : ∃ v7, ((v6.alloc (.cells (blkA zeros) 42)).setRow v6.heap.size (blkA A3)) = v7 := ⟨_, rfl⟩
        rw [hw] at HP ⊢
        have c0 := (HP.2.cell (lt_of_cell HQ8.out.1) id).trans HQ8.out.1
        have c1 := (HP.2.cell (lt_of_cell HQ8.out.2) id).trans HQ8.out.2)
      obtain ⟨g3, hg⟩ : ∃ g3, v6.heap.size = g3 := ⟨_, rfl⟩
      rw [hg] at HP ⊢
      have hng3 : ¬ S1 g3 := fun e => by have := HD8.out.lt _ e; omega
      obtain ⟨hG, hF⟩ := HP
      have Hg3_9 := hid hG
      clear hw hg HN hG c0 c1
      have HQ9 := hid (show (v7.cell? ⟨q, 0, none⟩ = some (.int .i64 i) ∧ v7.cell? ⟨q, 1, none⟩ = some (.int .i64 b)) from ⟨(hF.cell (lt_of_cell HQ8.out.1) id).trans HQ8.out.1, (hF.cell (lt_of_cell HQ8.out.2) id).trans HQ8.out.2⟩)
      have Hg1_9 := hid ((hF.block g1 (lt_of_block Hg1_8.out) id).trans Hg1_8.out)
      have Hg2_9 := hid ((hF.block g2 (lt_of_block Hg2_8.out) id).trans Hg2_8.out)
      have HD9 := hid (HD8.out.no hF)
      have HF9 := hid (HF8.out.trans hF)
      clear hF HQ8 HD8 HF8 Hg1_8 Hg2_8
      refine (dv_Open v7 p S1 D1 HD9.out).mono ?_
      rintro e v7 ⟨rfl, rfl⟩
      obtain ⟨no, hno⟩ : ∃ no : Nat, D1.opn.length = no := ⟨_, rfl⟩
      rw [hno]
      have hno1 : decide ((no : Int) < 1) = false := by have := HO1.out; exact decide_eq_false (by omega)
      have hnoX : no ≤ 100000 := by have := HO1.out; omega
      go_wp2_with fail
      refine (dv_Flush v7 p S1 D1 HD9.out (by omega)).mono ?_
      rintro e v8 ⟨rfl, hX, hF⟩
      rw [show flushE D1 = 0 from HP1.out.wE.2.1]
      rw [HP1.out.flush] at hX
      have HQ10 := hid (show (v8.cell? ⟨q, 0, none⟩ = some (.int .i64 i) ∧ v8.cell? ⟨q, 1, none⟩ = some (.int .i64 b)) from ⟨(hF.cell (lt_of_cell HQ9.out.1) hnq).trans HQ9.out.1, (hF.cell (lt_of_cell HQ9.out.2) hnq).trans HQ9.out.2⟩)
      have Hg1_10 := hid ((hF.block g1 (lt_of_block Hg1_9.out) hng1).trans Hg1_9.out)
      have Hg2_10 := hid ((hF.block g2 (lt_of_block Hg2_9.out) hng2).trans Hg2_9.out)
      have Hg3_10 := hid ((hF.block g3 (lt_of_block Hg3_9.out) hng3).trans Hg3_9.out)
      have HD10 := hid (hX)
      have HF10 := hid (HF9.out.then hF (fun i hi e => absurd hi (by have := hSb i e; omega)))
      clear hF HQ9 HD9 HF9 Hg1_9 Hg2_9 Hg3_9 hX
      have c0 := HQ10.out.1
      have c1 := HQ10.out.2
      go_wp2_with fail
      refine (dv_ReadP v8 p S1 (flushD D1) HD10.out HP1.out.flushP i (Nat.zero_le _)).mono ?_
      rintro e v9 ⟨rfl, hX, hF⟩
      rw [show rdB (flushD D1) i = M from HRF.out.2.trans HRA.out]
      rw [show rdE (flushD D1) i = 0 from HR2.out]
      have HQ11 := hid (show (v9.cell? ⟨q, 0, none⟩ = some (.int .i64 i) ∧ v9.cell? ⟨q, 1, none⟩ = some (.int .i64 b)) from ⟨(hF.cell (lt_of_cell HQ10.out.1) hnq).trans HQ10.out.1, (hF.cell (lt_of_cell HQ10.out.2) hnq).trans HQ10.out.2⟩)
      have Hg1_11 := hid ((hF.block g1 (lt_of_block Hg1_10.out) hng1).trans Hg1_10.out)
      have Hg2_11 := hid ((hF.block g2 (lt_of_block Hg2_10.out) hng2).trans Hg2_10.out)
      have Hg3_11 := hid ((hF.block g3 (lt_of_block Hg3_10.out) hng3).trans Hg3_10.out)
      have HD11 := hid (hX)
      have HF11 := hid (HF10.out.then hF (fun i hi e => absurd hi (by have := hSb i e; omega)))
      clear hF HQ10 HD10 HF10 Hg1_10 Hg2_10 Hg3_10 hX
      clear c0 c1
      have HN := hid (heap_new v9 (.cells (blkA zeros) 42))
      have HP := put_blk v9 (blkA zeros) M
      go_wp2_with (
        refine wpList_store_row rfl 42 _ _ rfl v9.heap.size (blkA M) rfl rfl 42 (blkA zeros) HN.out HIM.out HSM.out H1M.out ?_
        change wpList _ _ _ _ _ ((v9.alloc (.cells (blkA zeros) 42)).setRow v9.heap.size (blkA M))
        obtain ⟨v10, hw⟩ : ∃ v10, ((v9.alloc (.cells (blkA zeros) 42)).setRow v9.heap.size (blkA M)) = v10 := ⟨_, rfl⟩
        rw [hw] at HP ⊢
        have c0 := (HP.2.cell (lt_of_cell HQ11.out.1) id).trans HQ11.out.1
        have c1 := (HP.2.cell (lt_of_cell HQ11.out.2) id).trans HQ11.out.2)
      obtain ⟨g4, hg⟩ : ∃ g4, v9.heap.size = g4 := ⟨_, rfl⟩
      rw [hg] at HP ⊢
      have hng4 : ¬ S1 g4 := fun e => by have := HD11.out.lt _ e; omega
      obtain ⟨hG, hF⟩ := HP
      have Hg4_12 := hid hG
      clear hw hg HN hG c0 c1
      have HQ12 := hid (show (v10.cell? ⟨q, 0, none⟩ = some (.int .i64 i) ∧ v10.cell? ⟨q, 1, none⟩ = some (.int .i64 b)) from ⟨(hF.cell (lt_of_cell HQ11.out.1) id).trans HQ11.out.1, (hF.cell (lt_of_cell HQ11.out.2) id).trans HQ11.out.2⟩)
      have Hg1_12 := hid ((hF.block g1 (lt_of_block Hg1_11.out) id).trans Hg1_11.out)
      have Hg2_12 := hid ((hF.block g2 (lt_of_block Hg2_11.out) id).trans Hg2_11.out)
      have Hg3_12 := hid ((hF.block g3 (lt_of_block Hg3_11.out) id).trans Hg3_11.out)
      have HD12 := hid (HD11.out.no hF)
      have HF12 := hid (HF11.out.trans hF)
      clear hF HQ11 HD11 HF11 Hg1_11 Hg2_11 Hg3_11
      refine (dv_Firm_ok v10 p S1 (flushD D1) HD12.out i (by rw [HFL.out]; exact him)).mono ?_
      rintro e v11 ⟨rfl, hF⟩
      rw [show firmAt (flushD D1) i = M by have := HRF.out.1; rw [Int.toNat_natCast] at this; rw [this, HRA.out]]
      have HQ13 := hid (show (v11.cell? ⟨q, 0, none⟩ = some (.int .i64 i) ∧ v11.cell? ⟨q, 1, none⟩ = some (.int .i64 b)) from ⟨(hF.cell (lt_of_cell HQ12.out.1) id).trans HQ12.out.1, (hF.cell (lt_of_cell HQ12.out.2) id).trans HQ12.out.2⟩)
      have Hg1_13 := hid ((hF.block g1 (lt_of_block Hg1_12.out) id).trans Hg1_12.out)
      have Hg2_13 := hid ((hF.block g2 (lt_of_block Hg2_12.out) id).trans Hg2_12.out)
      have Hg3_13 := hid ((hF.block g3 (lt_of_block Hg3_12.out) id).trans Hg3_12.out)
      have Hg4_13 := hid ((hF.block g4 (lt_of_block Hg4_12.out) id).trans Hg4_12.out)
      have HD13 := hid (HD12.out.no hF)
      have HF13 := hid (HF12.out.trans hF)
      clear hF HQ12 HD12 HF12 Hg1_12 Hg2_12 Hg3_12 Hg4_12
      have HN := hid (heap_new v11 (.cells (blkA zeros) 42))
      have HP := put_blk v11 (blkA zeros) M
      go_wp2_with (
        refine wpList_store_row rfl 42 _ _ rfl v11.heap.size (blkA M) rfl rfl 42 (blkA zeros) HN.out HIM.out HSM.out H1M.out ?_
        change wpList _ _ _ _ _ ((v11.alloc (.cells (blkA zeros) 42)).setRow v11.heap.size (blkA M))
        obtain ⟨v12, hw⟩ : ∃ v12, ((v11.alloc (.cells (blkA zeros) 42)).setRow v11.heap.size (blkA M)) = v12 := ⟨_, rfl⟩
        rw [hw] at HP ⊢
        have c0 := (HP.2.cell (lt_of_cell HQ13.out.1) id).trans HQ13.out.1
        have c1 := (HP.2.cell (lt_of_cell HQ13.out.2) id).trans HQ13.out.2)
      obtain ⟨g5, hg⟩ : ∃ g5, v11.heap.size = g5 := ⟨_, rfl⟩
      rw [hg] at HP ⊢
      have hng5 : ¬ S1 g5 := fun e => by have := HD13.out.lt _ e; omega
      obtain ⟨hG, hF⟩ := HP
      have Hg5_14 := hid hG
      clear hw hg HN hG c0 c1
      have HQ14 := hid (show (v12.cell? ⟨q, 0, none⟩ = some (.int .i64 i) ∧ v12.cell? ⟨q, 1, none⟩ = some (.int .i64 b)) from ⟨(hF.cell (lt_of_cell HQ13.out.1) id).trans HQ13.out.1, (hF.cell (lt_of_cell HQ13.out.2) id).trans HQ13.out.2⟩)
      have Hg1_14 := hid ((hF.block g1 (lt_of_block Hg1_13.out) id).trans Hg1_13.out)
      have Hg2_14 := hid ((hF.block g2 (lt_of_block Hg2_13.out) id).trans Hg2_13.out)
      have Hg3_14 := hid ((hF.block g3 (lt_of_block Hg3_13.out) id).trans Hg3_13.out)
      have Hg4_14 := hid ((hF.block g4 (lt_of_block Hg4_13.out) id).trans Hg4_13.out)
      have HD14 := hid (HD13.out.no hF)
      have HF14 := hid (HF13.out.trans hF)
      clear hF HQ13 HD13 HF13 Hg1_13 Hg2_13 Hg3_13 Hg4_13
      have hEM := blk_eqIn_same M HML.out
      have hgu := eql_ty
      refine wp_region_held_drew (S := fun W => W.heap[g2]? = some (.cells (blkA M) 42 (0, 0)) ∧ W.heap[g4]? = some (.cells (blkA M) 42 (0, 0)) ∧ W.heap[g5]? = some (.cells (blkA M) 42 (0, 0))) (by kernel_rfl) ⟨Hg2_14.out, Hg4_14.out, Hg5_14.out⟩ (fun hHeld => ?_)
      have hF := (Fr.refl No v12).drew
      obtain ⟨z3, hz⟩ : ∃ z, v12.drew = z := ⟨_, rfl⟩
      rw [hz] at hF hHeld ⊢
      clear hz
      have HQ15 := hid (show (z3.cell? ⟨q, 0, none⟩ = some (.int .i64 i) ∧ z3.cell? ⟨q, 1, none⟩ = some (.int .i64 b)) from ⟨(hF.cell (lt_of_cell HQ14.out.1) id).trans HQ14.out.1, (hF.cell (lt_of_cell HQ14.out.2) id).trans HQ14.out.2⟩)
      have Hg1_15 := hid ((hF.block g1 (lt_of_block Hg1_14.out) id).trans Hg1_14.out)
      have Hg2_15 := hid ((hF.block g2 (lt_of_block Hg2_14.out) id).trans Hg2_14.out)
      have Hg3_15 := hid ((hF.block g3 (lt_of_block Hg3_14.out) id).trans Hg3_14.out)
      have Hg4_15 := hid ((hF.block g4 (lt_of_block Hg4_14.out) id).trans Hg4_14.out)
      have Hg5_15 := hid ((hF.block g5 (lt_of_block Hg5_14.out) id).trans Hg5_14.out)
      have HD15 := hid (HD14.out.no hF)
      have HF15 := hid (HF14.out.trans hF)
      clear hF HQ14 HD14 HF14 Hg1_14 Hg2_14 Hg3_14 Hg4_14 Hg5_14
      refine wpAnyH_take (i := 0) (v := ?_) rfl (by kernel_rfl) (by kernel_rfl) (by kernel_rfl) (fun _ _ _ h => h) (Or.inl ⟨by rfl, ?_⟩) hHeld ?_
      rotate_left
      · intro w hSw
        go_simp
        with_reducible rfl
      try simp only [Act.put, List.getElem_toArray, List.getElem_cons_zero, List.getElem_cons_succ, List.setIfInBounds_toArray, List.set_cons_zero, List.set_cons_succ]
      refine wpAnyH_take (i := 1) (v := ?_) rfl (by kernel_rfl) (by kernel_rfl) (by kernel_rfl) (fun _ _ _ h => h) (Or.inl ⟨by rfl, ?_⟩) hHeld ?_
      rotate_left
      · intro w hSw
        go_simp
        with_reducible rfl
      try simp only [Act.put, List.getElem_toArray, List.getElem_cons_zero, List.getElem_cons_succ, List.setIfInBounds_toArray, List.set_cons_zero, List.set_cons_succ]
      refine wpAnyH_take (i := 2) (v := ?_) rfl (by kernel_rfl) (by kernel_rfl) (by kernel_rfl) (fun _ _ _ h => h) (Or.inl ⟨by rfl, ?_⟩) hHeld ?_
      rotate_left
      · intro w hSw
        go_simp
        with_reducible rfl
      try simp only [Act.put, List.getElem_toArray, List.getElem_cons_zero, List.getElem_cons_succ, List.setIfInBounds_toArray, List.set_cons_zero, List.set_cons_succ]
      refine wpAnyH_take (i := 3) (v := ?_) rfl (by kernel_rfl) (by kernel_rfl) (by kernel_rfl) (fun _ _ _ h => h) (Or.inl ⟨by rfl, ?_⟩) hHeld ?_
      rotate_left
      · intro w hSw
        go_simp
        with_reducible rfl
      try simp only [Act.put, List.getElem_toArray, List.getElem_cons_zero, List.getElem_cons_succ, List.setIfInBounds_toArray, List.set_cons_zero, List.set_cons_succ]
      refine wpAnyH_take (i := 4) (v := ?_) rfl (by kernel_rfl) (by kernel_rfl) (by kernel_rfl) (fun _ _ _ h => h) (Or.inl ⟨by rfl, ?_⟩) hHeld ?_
      rotate_left
      · intro w hSw
        go_simp
        with_reducible rfl
      try simp only [Act.put, List.getElem_toArray, List.getElem_cons_zero, List.getElem_cons_succ, List.setIfInBounds_toArray, List.set_cons_zero, List.set_cons_succ]
      refine wpAnyH_take (i := 5) (v := ?_) rfl (by kernel_rfl) (by kernel_rfl) (by kernel_rfl) (fun _ _ _ h => h) (Or.inl ⟨by rfl, ?_⟩) hHeld ?_
      rotate_left
      · intro w hSw
        go_simp
        with_reducible rfl
      try simp only [Act.put, List.getElem_toArray, List.getElem_cons_zero, List.getElem_cons_succ, List.setIfInBounds_toArray, List.set_cons_zero, List.set_cons_succ]
      refine wpAnyH_take (i := 6) (v := ?_) rfl (by kernel_rfl) (by kernel_rfl) (by kernel_rfl) (fun _ _ _ h => h) (Or.inl ⟨by rfl, ?_⟩) hHeld ?_
      rotate_left
      · intro w hSw
        go_simp
        with_reducible rfl
      try simp only [Act.put, List.getElem_toArray, List.getElem_cons_zero, List.getElem_cons_succ, List.setIfInBounds_toArray, List.set_cons_zero, List.set_cons_succ]
      refine wpAnyH_take (i := 7) (v := .agg (blkA M)) rfl (by kernel_rfl) (by kernel_rfl) (by kernel_rfl) (fun _ _ _ h => h) (yields_row (by rfl) 42 _ rfl g2 rfl 42 (blkA M) (0, 0) _ _ (fun W hW => hW.1) Try.underlying42 HIM.out) hHeld ?_
      try simp only [Act.put, List.getElem_toArray, List.getElem_cons_zero, List.getElem_cons_succ, List.setIfInBounds_toArray, List.set_cons_zero, List.set_cons_succ]
      refine wpAnyH_ready (rs := [8]) (by kernel_rfl) (by simp) ?_
      refine AllReadyH.cons rfl (fun K hK => ?_) AllReadyH.nil
      rw [if_pos (by rfl)]
      go_simp
      refine (HMK.out z3).mono ?_
      rintro e z4 ⟨rfl, hF⟩
      have HQ16 := hid (show (z4.cell? ⟨q, 0, none⟩ = some (.int .i64 i) ∧ z4.cell? ⟨q, 1, none⟩ = some (.int .i64 b)) from ⟨(hF.cell (lt_of_cell HQ15.out.1) id).trans HQ15.out.1, (hF.cell (lt_of_cell HQ15.out.2) id).trans HQ15.out.2⟩)
      have Hg1_16 := hid ((hF.block g1 (lt_of_block Hg1_15.out) id).trans Hg1_15.out)
      have Hg2_16 := hid ((hF.block g2 (lt_of_block Hg2_15.out) id).trans Hg2_15.out)
      have Hg3_16 := hid ((hF.block g3 (lt_of_block Hg3_15.out) id).trans Hg3_15.out)
      have Hg4_16 := hid ((hF.block g4 (lt_of_block Hg4_15.out) id).trans Hg4_15.out)
      have Hg5_16 := hid ((hF.block g5 (lt_of_block Hg5_15.out) id).trans Hg5_15.out)
      have HD16 := hid (HD15.out.no hF)
      have HF16 := hid (HF15.out.trans hF)
      clear hF HQ15 HD15 HF15 Hg1_15 Hg2_15 Hg3_15 Hg4_15 Hg5_15
      refine hK.out _ _ ⟨Hg2_16.out, Hg4_16.out, Hg5_16.out⟩ (fun hHeld => ?_)
      clear hK K
      try simp only [Act.put, List.getElem_toArray, List.getElem_cons_zero, List.getElem_cons_succ, List.setIfInBounds_toArray, List.set_cons_zero, List.set_cons_succ]
      refine wpAnyH_take (i := 9) (v := ?_) rfl (by kernel_rfl) (by kernel_rfl) (by kernel_rfl) (fun _ _ _ h => h) (Or.inl ⟨by rfl, ?_⟩) hHeld ?_
      rotate_left
      · intro w hSw
        go_simp
        with_reducible rfl
      try simp only [Act.put, List.getElem_toArray, List.getElem_cons_zero, List.getElem_cons_succ, List.setIfInBounds_toArray, List.set_cons_zero, List.set_cons_succ]
      refine wpAnyH_take (i := 10) (v := ?_) rfl (by kernel_rfl) (by kernel_rfl) (by kernel_rfl) (fun _ _ _ h => h) (Or.inl ⟨by rfl, ?_⟩) hHeld ?_
      rotate_left
      · intro w hSw
        go_simp
        with_reducible rfl
      try simp only [Act.put, List.getElem_toArray, List.getElem_cons_zero, List.getElem_cons_succ, List.setIfInBounds_toArray, List.set_cons_zero, List.set_cons_succ]
      refine wpAnyH_take (i := 11) (v := ?_) rfl (by kernel_rfl) (by kernel_rfl) (by kernel_rfl) (fun _ _ _ h => h) (Or.inl ⟨by rfl, ?_⟩) hHeld ?_
      rotate_left
      · intro w hSw
        go_simp
        with_reducible rfl
      try simp only [Act.put, List.getElem_toArray, List.getElem_cons_zero, List.getElem_cons_succ, List.setIfInBounds_toArray, List.set_cons_zero, List.set_cons_succ]
      refine wpAnyH_take (i := 12) (v := ?_) rfl (by kernel_rfl) (by kernel_rfl) (by kernel_rfl) (fun _ _ _ h => h) (Or.inl ⟨by rfl, ?_⟩) hHeld ?_
      rotate_left
      · intro w hSw
        go_simp
        with_reducible rfl
      try simp only [Act.put, List.getElem_toArray, List.getElem_cons_zero, List.getElem_cons_succ, List.setIfInBounds_toArray, List.set_cons_zero, List.set_cons_succ]
      refine wpAnyH_take (i := 13) (v := ?_) rfl (by kernel_rfl) (by kernel_rfl) (by kernel_rfl) (fun _ _ _ h => h) (Or.inl ⟨by rfl, ?_⟩) hHeld ?_
      rotate_left
      · intro w hSw
        go_simp
        with_reducible rfl
      try simp only [Act.put, List.getElem_toArray, List.getElem_cons_zero, List.getElem_cons_succ, List.setIfInBounds_toArray, List.set_cons_zero, List.set_cons_succ]
      refine wpAnyH_take (i := 14) (v := ?_) rfl (by kernel_rfl) (by kernel_rfl) (by kernel_rfl) (fun _ _ _ h => h) (Or.inl ⟨by rfl, ?_⟩) hHeld ?_
      rotate_left
      · intro w hSw
        go_simp
        with_reducible rfl
      try simp only [Act.put, List.getElem_toArray, List.getElem_cons_zero, List.getElem_cons_succ, List.setIfInBounds_toArray, List.set_cons_zero, List.set_cons_succ]
      refine wpAnyH_take (i := 15) (v := ?_) rfl (by kernel_rfl) (by kernel_rfl) (by kernel_rfl) (fun _ _ _ h => h) (Or.inl ⟨by rfl, ?_⟩) hHeld ?_
      rotate_left
      · intro w hSw
        go_simp
        with_reducible rfl
      try simp only [Act.put, List.getElem_toArray, List.getElem_cons_zero, List.getElem_cons_succ, List.setIfInBounds_toArray, List.set_cons_zero, List.set_cons_succ]
      refine wpAnyH_take (i := 16) (v := ?_) rfl (by kernel_rfl) (by kernel_rfl) (by kernel_rfl) (fun _ _ _ h => h) (Or.inl ⟨by rfl, ?_⟩) hHeld ?_
      rotate_left
      · intro w hSw
        go_simp
        with_reducible rfl
      try simp only [Act.put, List.getElem_toArray, List.getElem_cons_zero, List.getElem_cons_succ, List.setIfInBounds_toArray, List.set_cons_zero, List.set_cons_succ]
      refine wpAnyH_take (i := 17) (v := ?_) rfl (by kernel_rfl) (by kernel_rfl) (by kernel_rfl) (fun _ _ _ h => h) (Or.inl ⟨by rfl, ?_⟩) hHeld ?_
      rotate_left
      · intro w hSw
        go_simp
        with_reducible rfl
      try simp only [Act.put, List.getElem_toArray, List.getElem_cons_zero, List.getElem_cons_succ, List.setIfInBounds_toArray, List.set_cons_zero, List.set_cons_succ]
      refine wpAnyH_take (i := 18) (v := ?_) rfl (by kernel_rfl) (by kernel_rfl) (by kernel_rfl) (fun _ _ _ h => h) (Or.inl ⟨by rfl, ?_⟩) hHeld ?_
      rotate_left
      · intro w hSw
        go_simp
        with_reducible rfl
      try simp only [Act.put, List.getElem_toArray, List.getElem_cons_zero, List.getElem_cons_succ, List.setIfInBounds_toArray, List.set_cons_zero, List.set_cons_succ]
      refine wpAnyH_take (i := 19) (v := ?_) rfl (by kernel_rfl) (by kernel_rfl) (by kernel_rfl) (fun _ _ _ h => h) (Or.inl ⟨by rfl, ?_⟩) hHeld ?_
      rotate_left
      · intro w hSw
        go_simp
        with_reducible rfl
      try simp only [Act.put, List.getElem_toArray, List.getElem_cons_zero, List.getElem_cons_succ, List.setIfInBounds_toArray, List.set_cons_zero, List.set_cons_succ]
      refine wpAnyH_take (i := 20) (v := ?_) rfl (by kernel_rfl) (by kernel_rfl) (by kernel_rfl) (fun _ _ _ h => h) (Or.inl ⟨by rfl, ?_⟩) hHeld ?_
      rotate_left
      · intro w hSw
        go_simp
        with_reducible rfl
      try simp only [Act.put, List.getElem_toArray, List.getElem_cons_zero, List.getElem_cons_succ, List.setIfInBounds_toArray, List.set_cons_zero, List.set_cons_succ]
      refine wpAnyH_take (i := 21) (v := ?_) rfl (by kernel_rfl) (by kernel_rfl) (by kernel_rfl) (fun _ _ _ h => h) (Or.inl ⟨by rfl, ?_⟩) hHeld ?_
      rotate_left
      · intro w hSw
        go_simp
        with_reducible rfl
      try simp only [Act.put, List.getElem_toArray, List.getElem_cons_zero, List.getElem_cons_succ, List.setIfInBounds_toArray, List.set_cons_zero, List.set_cons_succ]
      refine wpAnyH_take (i := 22) (v := ?_) rfl (by kernel_rfl) (by kernel_rfl) (by kernel_rfl) (fun _ _ _ h => h) (Or.inl ⟨by rfl, ?_⟩) hHeld ?_
      rotate_left
      · intro w hSw
        go_simp
        with_reducible rfl
      try simp only [Act.put, List.getElem_toArray, List.getElem_cons_zero, List.getElem_cons_succ, List.setIfInBounds_toArray, List.set_cons_zero, List.set_cons_succ]
      refine wpAnyH_take (i := 23) (v := ?_) rfl (by kernel_rfl) (by kernel_rfl) (by kernel_rfl) (fun _ _ _ h => h) (Or.inl ⟨by rfl, ?_⟩) hHeld ?_
      rotate_left
      · intro w hSw
        go_simp
        with_reducible rfl
      try simp only [Act.put, List.getElem_toArray, List.getElem_cons_zero, List.getElem_cons_succ, List.setIfInBounds_toArray, List.set_cons_zero, List.set_cons_succ]
      refine wpAnyH_take (i := 24) (v := .agg (blkA M)) rfl (by kernel_rfl) (by kernel_rfl) (by kernel_rfl) (fun _ _ _ h => h) (yields_row (by rfl) 42 _ rfl g4 rfl 42 (blkA M) (0, 0) _ _ (fun W hW => hW.2.1) Try.underlying42 HIM.out) hHeld ?_
      try simp only [Act.put, List.getElem_toArray, List.getElem_cons_zero, List.getElem_cons_succ, List.setIfInBounds_toArray, List.set_cons_zero, List.set_cons_succ]
      refine wpAnyH_take (i := 25) (v := .agg (blkA M)) rfl (by kernel_rfl) (by kernel_rfl) (by kernel_rfl) (fun _ _ _ h => h) (yields_row (by rfl) 42 _ rfl g2 rfl 42 (blkA M) (0, 0) _ _ (fun W hW => hW.1) Try.underlying42 HIM.out) hHeld ?_
      try simp only [Act.put, List.getElem_toArray, List.getElem_cons_zero, List.getElem_cons_succ, List.setIfInBounds_toArray, List.set_cons_zero, List.set_cons_succ]
      refine wpAnyH_take (i := 26) (v := ?_) rfl (by kernel_rfl) (by kernel_rfl) (by kernel_rfl) (fun _ _ _ h => h) (Or.inl ⟨by rfl, ?_⟩) hHeld ?_
      rotate_left
      · intro w hSw
        go_simp
        with_reducible rfl
      try simp only [Act.put, List.getElem_toArray, List.getElem_cons_zero, List.getElem_cons_succ, List.setIfInBounds_toArray, List.set_cons_zero, List.set_cons_succ]
      refine wpAnyH_take (i := 27) (v := ?_) rfl (by kernel_rfl) (by kernel_rfl) (by kernel_rfl) (fun _ _ _ h => h) (Or.inl ⟨by rfl, ?_⟩) hHeld ?_
      rotate_left
      · intro w hSw
        go_simp
        with_reducible rfl
      try simp only [Act.put, List.getElem_toArray, List.getElem_cons_zero, List.getElem_cons_succ, List.setIfInBounds_toArray, List.set_cons_zero, List.set_cons_succ]
      refine wpAnyH_take (i := 28) (v := ?_) rfl (by kernel_rfl) (by kernel_rfl) (by kernel_rfl) (fun _ _ _ h => h) (Or.inl ⟨by rfl, ?_⟩) hHeld ?_
      rotate_left
      · intro w hSw
        go_simp
        with_reducible rfl
      try simp only [Act.put, List.getElem_toArray, List.getElem_cons_zero, List.getElem_cons_succ, List.setIfInBounds_toArray, List.set_cons_zero, List.set_cons_succ]
      refine wpAnyH_take (i := 29) (v := ?_) rfl (by kernel_rfl) (by kernel_rfl) (by kernel_rfl) (fun _ _ _ h => h) (Or.inl ⟨by rfl, ?_⟩) hHeld ?_
      rotate_left
      · intro w hSw
        go_simp
        with_reducible rfl
      try simp only [Act.put, List.getElem_toArray, List.getElem_cons_zero, List.getElem_cons_succ, List.setIfInBounds_toArray, List.set_cons_zero, List.set_cons_succ]
      refine wpAnyH_take (i := 30) (v := ?_) rfl (by kernel_rfl) (by kernel_rfl) (by kernel_rfl) (fun _ _ _ h => h) (Or.inl ⟨by rfl, ?_⟩) hHeld ?_
      rotate_left
      · intro w hSw
        go_simp
        with_reducible rfl
      try simp only [Act.put, List.getElem_toArray, List.getElem_cons_zero, List.getElem_cons_succ, List.setIfInBounds_toArray, List.set_cons_zero, List.set_cons_succ]
      refine wpAnyH_take (i := 31) (v := ?_) rfl (by kernel_rfl) (by kernel_rfl) (by kernel_rfl) (fun _ _ _ h => h) (Or.inl ⟨by rfl, ?_⟩) hHeld ?_
      rotate_left
      · intro w hSw
        go_simp
        with_reducible rfl
      try simp only [Act.put, List.getElem_toArray, List.getElem_cons_zero, List.getElem_cons_succ, List.setIfInBounds_toArray, List.set_cons_zero, List.set_cons_succ]
      refine wpAnyH_take (i := 32) (v := ?_) rfl (by kernel_rfl) (by kernel_rfl) (by kernel_rfl) (fun _ _ _ h => h) (Or.inl ⟨by rfl, ?_⟩) hHeld ?_
      rotate_left
      · intro w hSw
        go_simp
        with_reducible rfl
      try simp only [Act.put, List.getElem_toArray, List.getElem_cons_zero, List.getElem_cons_succ, List.setIfInBounds_toArray, List.set_cons_zero, List.set_cons_succ]
      refine wpAnyH_take (i := 33) (v := .agg (blkA M)) rfl (by kernel_rfl) (by kernel_rfl) (by kernel_rfl) (fun _ _ _ h => h) (yields_row (by rfl) 42 _ rfl g5 rfl 42 (blkA M) (0, 0) _ _ (fun W hW => hW.2.2) Try.underlying42 HIM.out) hHeld ?_
      try simp only [Act.put, List.getElem_toArray, List.getElem_cons_zero, List.getElem_cons_succ, List.setIfInBounds_toArray, List.set_cons_zero, List.set_cons_succ]
      refine wpAnyH_take (i := 34) (v := .agg (blkA M)) rfl (by kernel_rfl) (by kernel_rfl) (by kernel_rfl) (fun _ _ _ h => h) (yields_row (by rfl) 42 _ rfl g2 rfl 42 (blkA M) (0, 0) _ _ (fun W hW => hW.1) Try.underlying42 HIM.out) hHeld ?_
      try simp only [Act.put, List.getElem_toArray, List.getElem_cons_zero, List.getElem_cons_succ, List.setIfInBounds_toArray, List.set_cons_zero, List.set_cons_succ]
      refine wpAnyH_take (i := 35) (v := ?_) rfl (by kernel_rfl) (by kernel_rfl) (by kernel_rfl) (fun _ _ _ h => h) (Or.inl ⟨by rfl, ?_⟩) hHeld ?_
      rotate_left
      · intro w hSw
        go_simp
        with_reducible rfl
      try simp only [Act.put, List.getElem_toArray, List.getElem_cons_zero, List.getElem_cons_succ, List.setIfInBounds_toArray, List.set_cons_zero, List.set_cons_succ]
      refine wpAnyH_take (i := 36) (v := ?_) rfl (by kernel_rfl) (by kernel_rfl) (by kernel_rfl) (fun _ _ _ h => h) (Or.inl ⟨by rfl, ?_⟩) hHeld ?_
      rotate_left
      · intro w hSw
        go_simp
        with_reducible rfl
      try simp only [Act.put, List.getElem_toArray, List.getElem_cons_zero, List.getElem_cons_succ, List.setIfInBounds_toArray, List.set_cons_zero, List.set_cons_succ]
      refine wpAnyH_take (i := 37) (v := ?_) rfl (by kernel_rfl) (by kernel_rfl) (by kernel_rfl) (fun _ _ _ h => h) (Or.inl ⟨by rfl, ?_⟩) hHeld ?_
      rotate_left
      · intro w hSw
        go_simp
        with_reducible rfl
      try simp only [Act.put, List.getElem_toArray, List.getElem_cons_zero, List.getElem_cons_succ, List.setIfInBounds_toArray, List.set_cons_zero, List.set_cons_succ]
      refine wpAnyH_take (i := 38) (v := ?_) rfl (by kernel_rfl) (by kernel_rfl) (by kernel_rfl) (fun _ _ _ h => h) (Or.inl ⟨by rfl, ?_⟩) hHeld ?_
      rotate_left
      · intro w hSw
        go_simp
        with_reducible rfl
      try simp only [Act.put, List.getElem_toArray, List.getElem_cons_zero, List.getElem_cons_succ, List.setIfInBounds_toArray, List.set_cons_zero, List.set_cons_succ]
      refine wpAnyH_ready (rs := [39]) (by kernel_rfl) (by simp) ?_
      refine AllReadyH.cons rfl (fun K hK => ?_) AllReadyH.nil
      rw [if_pos (by rfl)]
      go_simp
      refine (dv_Open z4 p S1 (flushD D1) HD16.out).mono ?_
      rintro e z4 ⟨rfl, rfl⟩
      rw [show (((flushD D1).opn.length : Nat) : Int) = 0 from rfl]
      refine hK.out _ _ hHeld (fun hHeld => ?_)
      clear hK K hHeld
      try simp only [Act.put, List.getElem_toArray, List.getElem_cons_zero, List.getElem_cons_succ, List.setIfInBounds_toArray, List.set_cons_zero, List.set_cons_succ]
      refine wpAnyH_take (i := 40) (v := ?_) rfl (by kernel_rfl) (by kernel_rfl) (by kernel_rfl) (fun _ _ _ h => h) (Or.inl ⟨by rfl, ?_⟩) hHeld ?_
      rotate_left
      · intro w hSw
        go_simp
        with_reducible rfl
      try simp only [Act.put, List.getElem_toArray, List.getElem_cons_zero, List.getElem_cons_succ, List.setIfInBounds_toArray, List.set_cons_zero, List.set_cons_succ]
      refine wpAnyH_take (i := 41) (v := ?_) rfl (by kernel_rfl) (by kernel_rfl) (by kernel_rfl) (fun _ _ _ h => h) (Or.inl ⟨by rfl, ?_⟩) hHeld ?_
      rotate_left
      · intro w hSw
        go_simp
        with_reducible rfl
      try simp only [Act.put, List.getElem_toArray, List.getElem_cons_zero, List.getElem_cons_succ, List.setIfInBounds_toArray, List.set_cons_zero, List.set_cons_succ]
      refine wpAnyH_done (by kernel_rfl) ?_ _
      have c0 := HQ16.out.1
      have c1 := HQ16.out.2
      by_cases hb : thereB D b = true
      rotate_left
      · have hf1 : f1 = 10 := by rw [← Hf1.out]; unfold rdE; rw [if_neg hb]; rfl
        have hf3 : f3 = 10 := by rw [← Hf3.out]; unfold rdE; rw [HEB.out, if_neg hb]; rfl
        subst hf1 hf3
        have hn := there_not hb
        rw [hmE] at hn
        by_cases h1 : b < 0
        · clear hn hb
          go_wp2_with fail
          refine (dv_awake z4).mono ?_
          rintro e u1 ⟨rfl, hF⟩
          go_wp2_with fail
          go_ret
          exact ⟨rfl, HFb.out.trans (HF16.out.trans hF)⟩
        · have h2 : (m : Int) ≤ b := by omega
          clear hn hb
          go_wp2_with fail
          refine (dv_awake z4).mono ?_
          rintro e u1 ⟨rfl, hF⟩
          go_wp2_with fail
          go_ret
          exact ⟨rfl, HFb.out.trans (HF16.out.trans hF)⟩
      have hf1 : f1 = 0 := by rw [← Hf1.out]; unfold rdE; rw [if_pos hb]; rfl
      have hf3 : f3 = 0 := by rw [← Hf3.out]; unfold rdE; rw [HEB.out, if_pos hb]; rfl
      subst hf1 hf3
      obtain ⟨j, rfl, hj⟩ := there_nat hb
      have hj' : (j : Int) < (m : Int) := by omega
      by_cases hab : (i : Int) = j
      · clear hb
        rw [← hab] at c1 hj'
        go_wp2_with fail
        refine (dv_awake z4).mono ?_
        rintro e u1 ⟨rfl, hF⟩
        go_wp2_with fail
        go_ret
        exact ⟨rfl, HFb.out.trans (HF16.out.trans hF)⟩
      · have hEE : A3 = A1 := by rw [← HEA3.out, ← HEA1.out]; exact HOB.out hb hab
        have hAB : ((i : Int) == (j : Int)) = false := by simpa using hab
        have hEA := blk_eqIn_same A1 HLA1.out
        have HGA := hid (show z4.heap[g3]? = some (.cells (blkA A1) 42 (0, 0)) from by rw [← hEE]; exact Hg3_16.out)
        have HGB := Hg1_16
        clear hb hEE hab
        go_wp2_with (first
          | refine list_valw (by rfl) (.agg (blkA A1)) (exec_load_row 42 (.tmp 15) rfl g3 (by rfl) 42 (blkA A1) (0, 0) _ _ HGA.out Try.underlying42 HIA1.out) ?_
          | refine list_valw (by rfl) (.agg (blkA A1)) (exec_load_row 42 (.tmp 10) rfl g1 (by rfl) 42 (blkA A1) (0, 0) _ _ HGB.out Try.underlying42 HIA1.out) ?_)
        refine (dv_awake z4).mono ?_
        rintro e u1 ⟨rfl, hF⟩
        go_wp2_with fail
        go_ret
        exact ⟨rfl, HFb.out.trans (HF16.out.trans hF)⟩
set_option maxRecDepth 100000 in
theorem reads_size (w : World) (m : Int) (hm : m < 1 ∨ 40 < m) (v : Value) (a b : Int) :
    Calls Try.prog 5 #[.int .i64 m, v, .agg #[.int .i64 a, .int .i64 b]] w fun e w' => e = .returned (.bool true) ∧ Fr No w w' := by
  have HFb := hid ((Fr.refl No w).alloc (.cells #[.int .i64 a, .int .i64 b] 53))
  by_cases h1 : m < 1
  · clear hm
    go_enter Try.func5, Try.ntmps5
    go_wp2_with fail
    refine (dv_awake _).mono ?_
    rintro e w2 ⟨rfl, hF2⟩
    go_wp2_with fail
    go_ret
    exact ⟨rfl, HFb.out.trans hF2⟩
  · have h2 : 40 < m := by omega
    clear hm
    go_enter Try.func5, Try.ntmps5
    go_wp2_with fail
    refine (dv_awake _).mono ?_
    rintro e w2 ⟨rfl, hF2⟩
    go_wp2_with fail
    go_ret
    exact ⟨rfl, HFb.out.trans hF2⟩
set_option maxRecDepth 100000 in
theorem reads_many (w : World) (m : Int) (hm1 : 1 ≤ m) (hm2 : m ≤ 40) (al : Option Addr) (k c : Nat) (hk : 80 < k) (a b : Int) :
    Calls Try.prog 5 #[.int .i64 m, .slice al k c, .agg #[.int .i64 a, .int .i64 b]] w fun e w' => e = .returned (.bool true) ∧ Fr No w w' := by
  have HFb := hid ((Fr.refl No w).alloc (.cells #[.int .i64 a, .int .i64 b] 53))
  go_enter Try.func5, Try.ntmps5
  go_wp2_with fail
  refine (dv_few_not _ al k c hk).mono ?_
  rintro e w1 ⟨rfl, rfl⟩
  go_wp2_with fail
  refine (dv_awake _).mono ?_
  rintro e w2 ⟨rfl, hF2⟩
  go_wp2_with fail
  go_ret
  exact ⟨rfl, HFb.out.trans hF2⟩
theorem law_DevReads (w : World) (m : Int) (_ : (Lit.int .i64 m).wf = true) (r : SRow) (hr : r.Ok w op3Sh) (x : Int × Int) (_ : (Lit.int .i64 x.1).wf = true ∧ (Lit.int .i64 x.2).wf = true) :
    Calls Try.prog 5 #[.int .i64 m, r.v, i2v x] w fun e w' => e = .returned (.bool true) ∧ Fr No w w' := by
  by_cases hm : m < 1 ∨ 40 < m
  · exact reads_size w m hm _ _ _
  obtain ⟨xs, e, hx⟩ := ops5_of hr
  rw [e]
  by_cases hk : 80 < xs.length
  · exact reads_many w m (by omega) (by omega) _ _ _ hk _ _
  obtain ⟨k, rfl⟩ := Int.eq_ofNat_of_zero_le (show 0 ≤ m by omega)
  exact reads_in w k (by omega) (by omega) _ _ xs hx (by omega) _ _
end Go.Proofs.Ytcdchojdkdimbaa
