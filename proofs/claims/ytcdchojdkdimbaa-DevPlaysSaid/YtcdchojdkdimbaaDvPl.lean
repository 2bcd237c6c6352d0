/- The law DevPlays. -/
import Derived.Test.YtcdchojdkdimbaaDvUp
import Derived.Test.YtcdchojdkdimbaaDvL
namespace Go.Proofs.Ytcdchojdkdimbaa
open Go.RowKit

theorem wpAnyH_strong {P : Program} {md : Region.Mode} {ops : Array Oper} {Q : Exit → Act → World → Prop} {S S' : World → Prop} (hS : ∀ W, S' W → S W) :
    ∀ (fuel : Nat) (listed : Array Bool) (a : Act) (w : World), wpAnyH P md ops Q S' fuel listed a w → wpAnyH P md ops Q S fuel listed a w
  | 0, _, _, _, h => h
  | fuel + 1, _, _, _, h => ⟨h.1, fun i hi => wpOp_mono (fun a' w' h' => ⟨hS w' h'.1, wpAnyH_strong hS fuel _ a' w' h'.2⟩) (h.2 i hi)⟩
set_option maxRecDepth 100000 in
set_option maxHeartbeats 4000000 in
theorem plays_in (w : World) (m : Nat) (hm1 : 1 ≤ m) (hm40 : m ≤ 40) (al : Option Addr) (cap : Nat) (xs : List OpM) (hx : Ops5 w al xs) (hxl : xs.length ≤ 80) :
    Calls Try.prog 3 #[.int .i64 m, .slice al xs.length cap] w fun e w' => e = .returned (.bool true) ∧ Fr No w w' := by
  have hm2 : m ≤ 4096 := by omega
  have hm40' : (m : Int) ≤ 40 := by omega
  have hxl' : (xs.length : Int) ≤ 80 := by omega
  have HX := hid hx
  obtain ⟨Z, HZ⟩ : ∃ Z, Hid (Z = zeros) := ⟨_, hid rfl⟩
  have hZL : Z.length = 64 := by rw [HZ.out, zeros_len]
  have HIZ := hid (info64b Z hZL)
  have H1Z := hid (blkA_one Z)
  have HSZ : Hid ((blkA zeros).size = (blkA Z).size) := by unfold Hid; rw [blkA_zeros_size, blkA_size, hZL]
  clear hx hZL
  go_enter Try.func3, Try.ntmps3
  go_wp2_with fail
  refine (dv_New_ok m w hm1 hm2).mono ?_
  rintro e wn ⟨p, Sn, rfl, hDn, hFn, hSn⟩
  have HDn := hid hDn
  have HFn := hid hFn
  have HSn := hid hSn
  clear hDn hFn hSn
  go_wp2_with fail
  refine (dv_few wn al xs.length cap hxl).mono ?_
  rintro e wn ⟨rfl, rfl⟩
  go_wp2_with fail
  refine (rf_New wn m hm1 hm2).mono ?_
  rintro e wm ⟨q, Tn, rfl, hE, hF, hT⟩
  have HDm := hid (HDn.out.no hF)
  have HEm := hid hE
  have HFm := hid (HFn.out.trans hF)
  have HDJ : Hid (∀ j, Sn j → ¬ Tn j) := fun j hj ht => by have := HDn.out.lt j hj; have := hT j ht; omega
  have HTn : Hid (∀ j, Tn j → w.heap.size ≤ j) := fun j hj => by have := hT j hj; have := HFn.out.size; omega
  clear hE hF hT HDn HFn
  go_wp2_with fail
  go_loopg [8] xs.length (fun g i wr => ∃ (k : Nat) (S T : Nat → Prop) (D : DM), k + g = xs.length ∧ i = .int .i64 k ∧ Hid (PD wr p S D) ∧ Hid (RD wr q T D) ∧ Hid (∀ j, S j → ¬ T j) ∧ Hid (∀ j, S j → w.heap.size ≤ j) ∧ Hid (∀ j, T j → w.heap.size ≤ j) ∧ Hid (Fr No w wr) ∧ Hid (D.firm.length = m ∧ D.opn.length ≤ k ∧ D.plan.length ≤ 3 * k))
  case atStart => exact ⟨0, Sn, Tn, newD m, by omega, rfl, HDm, HEm, HDJ, HSn, HTn, HFm, by simp [newD], Nat.le_refl _, Nat.le_refl _⟩
  case round =>
    obtain ⟨k, S, T, D, hk, rfl, HD, HE, HJ, HS, HT, HF, HL⟩ := hrel
    cases gk with
    | succ g =>
      have hkl : k < xs.length := by omega
      obtain ⟨g0, o, rfl, hb, a0, a1, a2⟩ := HX.out.op5 k hkl
      obtain ⟨op, hop⟩ : ∃ op, xs[k] = op := ⟨_, rfl⟩
      rw [hop] at a0 a1 a2
      have k0 : wr.cell? ⟨g0, o + k * 3, none⟩ = some (.int .i64 op.ask) := (HF.out.cell (p := ⟨g0, o + k * 3, none⟩) hb id).trans a0
      have k1 : wr.cell? ⟨g0, o + k * 3 + 1, none⟩ = some (.int .i64 op.sec) := (HF.out.cell (p := ⟨g0, o + k * 3 + 1, none⟩) hb id).trans a1
      have k2 : wr.cell? ⟨g0, o + k * 3 + 2, none⟩ = some (.int .i64 op.n) := (HF.out.cell (p := ⟨g0, o + k * 3 + 2, none⟩) hb id).trans a2
      have HDO : Hid (∀ W, PD W p S D → RD W q T D → Calls Try.prog 14 #[.pointer (some ⟨p, 0, none⟩), .pointer (some ⟨q, 0, none⟩), .agg #[.int .i64 op.ask, .int .i64 op.sec, .int .i64 op.n]] W fun e w' => e = .returned (.bool true) ∧ ∃ S' T' D', PD w' p S' D' ∧ RD w' q T' D' ∧ Fr (fun j => S j ∨ T j) W w' ∧ (∀ k, S' k → S k ∨ W.heap.size ≤ k) ∧ (∀ k, T' k → T k ∨ W.heap.size ≤ k) ∧ (∀ k, S' k → ¬ T' k) ∧ D'.firm.length = D.firm.length ∧ D'.opn.length ≤ D.opn.length + 1 ∧ D'.plan.length ≤ D.plan.length + 3) :=
        fun W h1 h2 => dv_doesAll W p q S T D h1 h2 HJ.out op (by have := HL.out.2.1; omega) (by have := HL.out.2.2; omega)
      obtain ⟨ask, sec, nn⟩ := op
      have hg0 : g0 < w.heap.size := hb
      clear hop a0 a1 a2
      go_wp2_with fail
      refine wp_region_held_drew (S := fun W => W.cell? ⟨g0, o + k * 3, none⟩ = some (.int .i64 ask) ∧ W.cell? ⟨g0, o + k * 3 + 1, none⟩ = some (.int .i64 sec) ∧ W.cell? ⟨g0, o + k * 3 + 2, none⟩ = some (.int .i64 nn)) (by kernel_rfl) ⟨k0, k1, k2⟩ (fun hHeld => ?_)
      have HD0 := hid (HD.out.no (Fr.refl No wr).drew)
      have HE0 := hid (HE.out.no (Fr.refl No wr).drew)
      have HF0 := hid HF.out.drew
      obtain ⟨z0, hz0⟩ : ∃ z0, wr.drew = z0 := ⟨_, rfl⟩
      rw [hz0] at HD0 HE0 HF0 hHeld ⊢
      clear hz0 k0 k1 k2 HD HE HF
      refine wpAnyH_take (i := 0) (v := ?_) rfl (by kernel_rfl) (by kernel_rfl) (by kernel_rfl) (fun _ _ _ h => h) (Or.inl ⟨by rfl, ?_⟩) hHeld ?_
      rotate_left
      · intro w hSw; obtain ⟨hA1, hA2, hA3⟩ := hSw
        go_simp
        with_reducible rfl
      try simp only [Act.put, List.getElem_toArray, List.getElem_cons_zero, List.getElem_cons_succ, List.setIfInBounds_toArray, List.set_cons_zero, List.set_cons_succ]
      refine wpAnyH_take (i := 1) (v := ?_) rfl (by kernel_rfl) (by kernel_rfl) (by kernel_rfl) (fun _ _ _ h => h) (Or.inl ⟨by rfl, ?_⟩) hHeld ?_
      rotate_left
      · intro w hSw; obtain ⟨hA1, hA2, hA3⟩ := hSw
        go_simp
        with_reducible rfl
      try simp only [Act.put, List.getElem_toArray, List.getElem_cons_zero, List.getElem_cons_succ, List.setIfInBounds_toArray, List.set_cons_zero, List.set_cons_succ]
      refine wpAnyH_take (i := 2) (v := ?_) rfl (by kernel_rfl) (by kernel_rfl) (by kernel_rfl) (fun _ _ _ h => h) (Or.inl ⟨by rfl, ?_⟩) hHeld ?_
      rotate_left
      · intro w hSw; obtain ⟨hA1, hA2, hA3⟩ := hSw
        go_simp
        with_reducible rfl
      try simp only [Act.put, List.getElem_toArray, List.getElem_cons_zero, List.getElem_cons_succ, List.setIfInBounds_toArray, List.set_cons_zero, List.set_cons_succ]
      refine wpAnyH_take (i := 3) (v := ?_) rfl (by kernel_rfl) (by kernel_rfl) (by kernel_rfl) (fun _ _ _ h => h) (Or.inl ⟨by rfl, ?_⟩) hHeld ?_
      rotate_left
      · intro w hSw; obtain ⟨hA1, hA2, hA3⟩ := hSw
        go_simp
        with_reducible rfl
      try simp only [Act.put, List.getElem_toArray, List.getElem_cons_zero, List.getElem_cons_succ, List.setIfInBounds_toArray, List.set_cons_zero, List.set_cons_succ]
      refine wpAnyH_take (i := 4) (v := ?_) rfl (by kernel_rfl) (by kernel_rfl) (by kernel_rfl) (fun _ _ _ h => h) (Or.inl ⟨by rfl, ?_⟩) hHeld ?_
      rotate_left
      · intro w hSw; obtain ⟨hA1, hA2, hA3⟩ := hSw
        go_simp
        with_reducible rfl
      try simp only [Act.put, List.getElem_toArray, List.getElem_cons_zero, List.getElem_cons_succ, List.setIfInBounds_toArray, List.set_cons_zero, List.set_cons_succ]
      refine wpAnyH_take (i := 5) (v := ?_) rfl (by kernel_rfl) (by kernel_rfl) (by kernel_rfl) (fun _ _ _ h => h) (Or.inl ⟨by rfl, ?_⟩) hHeld ?_
      rotate_left
      · intro w hSw; obtain ⟨hA1, hA2, hA3⟩ := hSw
        go_simp
        with_reducible rfl
      try simp only [Act.put, List.getElem_toArray, List.getElem_cons_zero, List.getElem_cons_succ, List.setIfInBounds_toArray, List.set_cons_zero, List.set_cons_succ]
      refine wpAnyH_ready (rs := [6]) (by kernel_rfl) (by simp) ?_
      refine AllReadyH.cons rfl (fun K hK => ?_) AllReadyH.nil
      rw [if_pos (by rfl)]
      go_simp
      refine (HDO.out z0 HD0.out HE0.out).mono ?_
      rintro e z6 ⟨rfl, S', T', D', hP, hQ, hF, hM1, hM2, hJ, e1, e2, e3⟩
      have hnb : ¬ (S g0 ∨ T g0) := fun e => e.elim (fun e => by have := HS.out _ e; omega) (fun e => by have := HT.out _ e; omega)
      refine hK.out _ _ ⟨(hF.cell (lt_of_cell hHeld.1) hnb).trans hHeld.1, (hF.cell (lt_of_cell hHeld.2.1) hnb).trans hHeld.2.1, (hF.cell (lt_of_cell hHeld.2.2) hnb).trans hHeld.2.2⟩ (fun hHeld => ?_)
      clear hK K
      try simp only [Act.put, List.getElem_toArray, List.getElem_cons_zero, List.getElem_cons_succ, List.setIfInBounds_toArray, List.set_cons_zero, List.set_cons_succ]
      have HP := hid hP
      have HQ := hid hQ
      have HJ2 := hid hJ
      have HF2 := hid (HF0.out.then hF (fun i hi e => absurd hi (by rcases e with e | e; · have := HS.out i e; omega
                                                                    · have := HT.out i e; omega)))
      have HS2 : Hid (∀ j, S' j → w.heap.size ≤ j) := fun j hj => (hM1 j hj).elim (fun e => HS.out j e) (fun e => by have := HF0.out.size; omega)
      have HT2 : Hid (∀ j, T' j → w.heap.size ≤ j) := fun j hj => (hM2 j hj).elim (fun e => HT.out j e) (fun e => by have := HF0.out.size; omega)
      have HL2 : Hid (D'.firm.length = m ∧ D'.opn.length ≤ k + 1 ∧ D'.plan.length ≤ 3 * (k + 1)) := ⟨e1.trans HL.out.1, by have := HL.out.2.1; omega, by have := HL.out.2.2; omega⟩
      obtain ⟨hokQ, vF, vO, vP, kV⟩ := hQ
      obtain ⟨c0, c1, c2, _⟩ := kV.cells
      obtain ⟨aF, cF, rfl⟩ := own_form kV.firm
      obtain ⟨aO, cO, rfl⟩ := own_form kV.opn
      obtain ⟨aP, cP, rfl⟩ := kV.plan.form
      have HFI := hid (dv_firm z6 p S' D' hP _ kV.firm)
      have HOP := hid (dv_Open z6 p S' D' hP)
      have HPL := hid (dv_Planned z6 p S' D' hP)
      clear hP hF hM1 hM2 hJ e1 e2 e3 kV hnb HD0 HE0 HF0 HDO
      refine wpAnyH_strong (S' := fun W => W.cell? ⟨q, 0, none⟩ = some (.slice aF D'.firm.length cF) ∧ W.cell? ⟨q, 1, none⟩ = some (.slice aO D'.opn.length cO) ∧ W.cell? ⟨q, 2, none⟩ = some (.slice aP D'.plan.length cP) ∧ W.cell? ⟨g0, o + k * 3, none⟩ = some (.int .i64 ask) ∧ W.cell? ⟨g0, o + k * 3 + 1, none⟩ = some (.int .i64 sec) ∧ W.cell? ⟨g0, o + k * 3 + 2, none⟩ = some (.int .i64 nn)) (fun W hW => hW.2.2.2) _ _ _ _ ?_
      have hHeld := And.intro c0 (And.intro c1 (And.intro c2 hHeld))
      clear c0 c1 c2
      obtain ⟨nF, hnF⟩ : ∃ nF, D'.firm.length = nF := ⟨_, rfl⟩
      obtain ⟨nO, hnO⟩ : ∃ nO, D'.opn.length = nO := ⟨_, rfl⟩
      obtain ⟨nP, hnP⟩ : ∃ nP, D'.plan.length = nP := ⟨_, rfl⟩
      rw [hnF, hnO, hnP] at hHeld ⊢
      rw [hnF] at HFI
      rw [hnO] at HOP
      rw [hnP] at HPL
      clear hnF hnO hnP
      refine wpAnyH_take (i := 7) (v := ?_) rfl (by kernel_rfl) (by kernel_rfl) (by kernel_rfl) (fun _ _ _ h => h) (Or.inl ⟨by rfl, ?_⟩) hHeld ?_
      rotate_left
      · intro w hSw; obtain ⟨hA1, hA2, hA3, _⟩ := hSw
        go_simp
        with_reducible rfl
      try simp only [Act.put, List.getElem_toArray, List.getElem_cons_zero, List.getElem_cons_succ, List.setIfInBounds_toArray, List.set_cons_zero, List.set_cons_succ]
      refine wpAnyH_take (i := 8) (v := ?_) rfl (by kernel_rfl) (by kernel_rfl) (by kernel_rfl) (fun _ _ _ h => h) (Or.inl ⟨by rfl, ?_⟩) hHeld ?_
      rotate_left
      · intro w hSw; obtain ⟨hA1, hA2, hA3, _⟩ := hSw
        go_simp
        with_reducible rfl
      try simp only [Act.put, List.getElem_toArray, List.getElem_cons_zero, List.getElem_cons_succ, List.setIfInBounds_toArray, List.set_cons_zero, List.set_cons_succ]
      refine wpAnyH_take (i := 9) (v := ?_) rfl (by kernel_rfl) (by kernel_rfl) (by kernel_rfl) (fun _ _ _ h => h) (Or.inl ⟨by rfl, ?_⟩) hHeld ?_
      rotate_left
      · intro w hSw; obtain ⟨hA1, hA2, hA3, _⟩ := hSw
        go_simp
        with_reducible rfl
      try simp only [Act.put, List.getElem_toArray, List.getElem_cons_zero, List.getElem_cons_succ, List.setIfInBounds_toArray, List.set_cons_zero, List.set_cons_succ]
      refine wpAnyH_take (i := 11) (v := ?_) rfl (by kernel_rfl) (by kernel_rfl) (by kernel_rfl) (fun _ _ _ h => h) (Or.inl ⟨by rfl, ?_⟩) hHeld ?_
      rotate_left
      · intro w hSw; obtain ⟨hA1, hA2, hA3, _⟩ := hSw
        go_simp
        with_reducible rfl
      try simp only [Act.put, List.getElem_toArray, List.getElem_cons_zero, List.getElem_cons_succ, List.setIfInBounds_toArray, List.set_cons_zero, List.set_cons_succ]
      refine wpAnyH_take (i := 12) (v := ?_) rfl (by kernel_rfl) (by kernel_rfl) (by kernel_rfl) (fun _ _ _ h => h) (Or.inl ⟨by rfl, ?_⟩) hHeld ?_
      rotate_left
      · intro w hSw; obtain ⟨hA1, hA2, hA3, _⟩ := hSw
        go_simp
        with_reducible rfl
      try simp only [Act.put, List.getElem_toArray, List.getElem_cons_zero, List.getElem_cons_succ, List.setIfInBounds_toArray, List.set_cons_zero, List.set_cons_succ]
      refine wpAnyH_take (i := 13) (v := ?_) rfl (by kernel_rfl) (by kernel_rfl) (by kernel_rfl) (fun _ _ _ h => h) (Or.inl ⟨by rfl, ?_⟩) hHeld ?_
      rotate_left
      · intro w hSw; obtain ⟨hA1, hA2, hA3, _⟩ := hSw
        go_simp
        with_reducible rfl
      try simp only [Act.put, List.getElem_toArray, List.getElem_cons_zero, List.getElem_cons_succ, List.setIfInBounds_toArray, List.set_cons_zero, List.set_cons_succ]
      refine wpAnyH_take (i := 14) (v := ?_) rfl (by kernel_rfl) (by kernel_rfl) (by kernel_rfl) (fun _ _ _ h => h) (Or.inl ⟨by rfl, ?_⟩) hHeld ?_
      rotate_left
      · intro w hSw; obtain ⟨hA1, hA2, hA3, _⟩ := hSw
        go_simp
        with_reducible rfl
      try simp only [Act.put, List.getElem_toArray, List.getElem_cons_zero, List.getElem_cons_succ, List.setIfInBounds_toArray, List.set_cons_zero, List.set_cons_succ]
      refine wpAnyH_take (i := 15) (v := ?_) rfl (by kernel_rfl) (by kernel_rfl) (by kernel_rfl) (fun _ _ _ h => h) (Or.inl ⟨by rfl, ?_⟩) hHeld ?_
      rotate_left
      · intro w hSw; obtain ⟨hA1, hA2, hA3, _⟩ := hSw
        go_simp
        with_reducible rfl
      try simp only [Act.put, List.getElem_toArray, List.getElem_cons_zero, List.getElem_cons_succ, List.setIfInBounds_toArray, List.set_cons_zero, List.set_cons_succ]
      refine wpAnyH_ready (rs := [10]) (by kernel_rfl) (by simp) ?_
      refine AllReadyH.cons rfl (fun K hK => ?_) AllReadyH.nil
      rw [if_pos (by rfl)]
      go_simp
      refine HOP.out.mono ?_
      rintro e z6 ⟨rfl, rfl⟩
      refine hK.out _ _ hHeld (fun hHeld => ?_)
      clear hK K
      try simp only [Act.put, List.getElem_toArray, List.getElem_cons_zero, List.getElem_cons_succ, List.setIfInBounds_toArray, List.set_cons_zero, List.set_cons_succ]
      refine wpAnyH_take (i := 16) (v := ?_) rfl (by kernel_rfl) (by kernel_rfl) (by kernel_rfl) (fun _ _ _ h => h) (Or.inl ⟨by rfl, ?_⟩) hHeld ?_
      rotate_left
      · intro w hSw; obtain ⟨hA1, hA2, hA3, _⟩ := hSw
        go_simp
        with_reducible rfl
      try simp only [Act.put, List.getElem_toArray, List.getElem_cons_zero, List.getElem_cons_succ, List.setIfInBounds_toArray, List.set_cons_zero, List.set_cons_succ]
      refine wpAnyH_take (i := 17) (v := ?_) rfl (by kernel_rfl) (by kernel_rfl) (by kernel_rfl) (fun _ _ _ h => h) (Or.inl ⟨by rfl, ?_⟩) hHeld ?_
      rotate_left
      · intro w hSw; obtain ⟨hA1, hA2, hA3, _⟩ := hSw
        go_simp
        with_reducible rfl
      try simp only [Act.put, List.getElem_toArray, List.getElem_cons_zero, List.getElem_cons_succ, List.setIfInBounds_toArray, List.set_cons_zero, List.set_cons_succ]
      refine wpAnyH_take (i := 18) (v := ?_) rfl (by kernel_rfl) (by kernel_rfl) (by kernel_rfl) (fun _ _ _ h => h) (Or.inl ⟨by rfl, ?_⟩) hHeld ?_
      rotate_left
      · intro w hSw; obtain ⟨hA1, hA2, hA3, _⟩ := hSw
        go_simp
        with_reducible rfl
      try simp only [Act.put, List.getElem_toArray, List.getElem_cons_zero, List.getElem_cons_succ, List.setIfInBounds_toArray, List.set_cons_zero, List.set_cons_succ]
      refine wpAnyH_take (i := 19) (v := ?_) rfl (by kernel_rfl) (by kernel_rfl) (by kernel_rfl) (fun _ _ _ h => h) (Or.inl ⟨by rfl, ?_⟩) hHeld ?_
      rotate_left
      · intro w hSw; obtain ⟨hA1, hA2, hA3, _⟩ := hSw
        go_simp
        with_reducible rfl
      try simp only [Act.put, List.getElem_toArray, List.getElem_cons_zero, List.getElem_cons_succ, List.setIfInBounds_toArray, List.set_cons_zero, List.set_cons_succ]
      refine wpAnyH_take (i := 21) (v := ?_) rfl (by kernel_rfl) (by kernel_rfl) (by kernel_rfl) (fun _ _ _ h => h) (Or.inl ⟨by rfl, ?_⟩) hHeld ?_
      rotate_left
      · intro w hSw; obtain ⟨hA1, hA2, hA3, _⟩ := hSw
        go_simp
        with_reducible rfl
      try simp only [Act.put, List.getElem_toArray, List.getElem_cons_zero, List.getElem_cons_succ, List.setIfInBounds_toArray, List.set_cons_zero, List.set_cons_succ]
      refine wpAnyH_take (i := 22) (v := ?_) rfl (by kernel_rfl) (by kernel_rfl) (by kernel_rfl) (fun _ _ _ h => h) (Or.inl ⟨by rfl, ?_⟩) hHeld ?_
      rotate_left
      · intro w hSw; obtain ⟨hA1, hA2, hA3, _⟩ := hSw
        go_simp
        with_reducible rfl
      try simp only [Act.put, List.getElem_toArray, List.getElem_cons_zero, List.getElem_cons_succ, List.setIfInBounds_toArray, List.set_cons_zero, List.set_cons_succ]
      refine wpAnyH_take (i := 23) (v := ?_) rfl (by kernel_rfl) (by kernel_rfl) (by kernel_rfl) (fun _ _ _ h => h) (Or.inl ⟨by rfl, ?_⟩) hHeld ?_
      rotate_left
      · intro w hSw; obtain ⟨hA1, hA2, hA3, _⟩ := hSw
        go_simp
        with_reducible rfl
      try simp only [Act.put, List.getElem_toArray, List.getElem_cons_zero, List.getElem_cons_succ, List.setIfInBounds_toArray, List.set_cons_zero, List.set_cons_succ]
      refine wpAnyH_take (i := 24) (v := ?_) rfl (by kernel_rfl) (by kernel_rfl) (by kernel_rfl) (fun _ _ _ h => h) (Or.inl ⟨by rfl, ?_⟩) hHeld ?_
      rotate_left
      · intro w hSw; obtain ⟨hA1, hA2, hA3, _⟩ := hSw
        go_simp
        with_reducible rfl
      try simp only [Act.put, List.getElem_toArray, List.getElem_cons_zero, List.getElem_cons_succ, List.setIfInBounds_toArray, List.set_cons_zero, List.set_cons_succ]
      refine wpAnyH_take (i := 25) (v := ?_) rfl (by kernel_rfl) (by kernel_rfl) (by kernel_rfl) (fun _ _ _ h => h) (Or.inl ⟨by rfl, ?_⟩) hHeld ?_
      rotate_left
      · intro w hSw; obtain ⟨hA1, hA2, hA3, _⟩ := hSw
        go_simp
        with_reducible rfl
      try simp only [Act.put, List.getElem_toArray, List.getElem_cons_zero, List.getElem_cons_succ, List.setIfInBounds_toArray, List.set_cons_zero, List.set_cons_succ]
      refine wpAnyH_ready (rs := [20]) (by kernel_rfl) (by simp) ?_
      refine AllReadyH.cons rfl (fun K hK => ?_) AllReadyH.nil
      rw [if_pos (by rfl)]
      go_simp
      refine HPL.out.mono ?_
      rintro e z6 ⟨rfl, rfl⟩
      refine hK.out _ _ hHeld (fun hHeld => ?_)
      clear hK K
      try simp only [Act.put, List.getElem_toArray, List.getElem_cons_zero, List.getElem_cons_succ, List.setIfInBounds_toArray, List.set_cons_zero, List.set_cons_succ]
      refine wpAnyH_take (i := 26) (v := ?_) rfl (by kernel_rfl) (by kernel_rfl) (by kernel_rfl) (fun _ _ _ h => h) (Or.inl ⟨by rfl, ?_⟩) hHeld ?_
      rotate_left
      · intro w hSw; obtain ⟨hA1, hA2, hA3, _⟩ := hSw
        go_simp
        with_reducible rfl
      try simp only [Act.put, List.getElem_toArray, List.getElem_cons_zero, List.getElem_cons_succ, List.setIfInBounds_toArray, List.set_cons_zero, List.set_cons_succ]
      refine wpAnyH_take (i := 27) (v := ?_) rfl (by kernel_rfl) (by kernel_rfl) (by kernel_rfl) (fun _ _ _ h => h) (Or.inl ⟨by rfl, ?_⟩) hHeld ?_
      rotate_left
      · intro w hSw; obtain ⟨hA1, hA2, hA3, _⟩ := hSw
        go_simp
        with_reducible rfl
      try simp only [Act.put, List.getElem_toArray, List.getElem_cons_zero, List.getElem_cons_succ, List.setIfInBounds_toArray, List.set_cons_zero, List.set_cons_succ]
      refine wpAnyH_take (i := 28) (v := ?_) rfl (by kernel_rfl) (by kernel_rfl) (by kernel_rfl) (fun _ _ _ h => h) (Or.inl ⟨by rfl, ?_⟩) hHeld ?_
      rotate_left
      · intro w hSw; obtain ⟨hA1, hA2, hA3, _⟩ := hSw
        go_simp
        with_reducible rfl
      try simp only [Act.put, List.getElem_toArray, List.getElem_cons_zero, List.getElem_cons_succ, List.setIfInBounds_toArray, List.set_cons_zero, List.set_cons_succ]
      refine wpAnyH_take (i := 29) (v := ?_) rfl (by kernel_rfl) (by kernel_rfl) (by kernel_rfl) (fun _ _ _ h => h) (Or.inl ⟨by rfl, ?_⟩) hHeld ?_
      rotate_left
      · intro w hSw; obtain ⟨hA1, hA2, hA3, _⟩ := hSw
        go_simp
        with_reducible rfl
      try simp only [Act.put, List.getElem_toArray, List.getElem_cons_zero, List.getElem_cons_succ, List.setIfInBounds_toArray, List.set_cons_zero, List.set_cons_succ]
      refine wpAnyH_take (i := 30) (v := ?_) rfl (by kernel_rfl) (by kernel_rfl) (by kernel_rfl) (fun _ _ _ h => h) (Or.inl ⟨by rfl, ?_⟩) hHeld ?_
      rotate_left
      · intro w hSw; obtain ⟨hA1, hA2, hA3, _⟩ := hSw
        go_simp
        with_reducible rfl
      try simp only [Act.put, List.getElem_toArray, List.getElem_cons_zero, List.getElem_cons_succ, List.setIfInBounds_toArray, List.set_cons_zero, List.set_cons_succ]
      refine wpAnyH_take (i := 31) (v := ?_) rfl (by kernel_rfl) (by kernel_rfl) (by kernel_rfl) (fun _ _ _ h => h) (Or.inl ⟨by rfl, ?_⟩) hHeld ?_
      rotate_left
      · intro w hSw; obtain ⟨hA1, hA2, hA3, _⟩ := hSw
        go_simp
        with_reducible rfl
      try simp only [Act.put, List.getElem_toArray, List.getElem_cons_zero, List.getElem_cons_succ, List.setIfInBounds_toArray, List.set_cons_zero, List.set_cons_succ]
      refine wpAnyH_take (i := 32) (v := ?_) rfl (by kernel_rfl) (by kernel_rfl) (by kernel_rfl) (fun _ _ _ h => h) (Or.inl ⟨by rfl, ?_⟩) hHeld ?_
      rotate_left
      · intro w hSw; obtain ⟨hA1, hA2, hA3, _⟩ := hSw
        go_simp
        with_reducible rfl
      try simp only [Act.put, List.getElem_toArray, List.getElem_cons_zero, List.getElem_cons_succ, List.setIfInBounds_toArray, List.set_cons_zero, List.set_cons_succ]
      refine wpAnyH_take (i := 33) (v := ?_) rfl (by kernel_rfl) (by kernel_rfl) (by kernel_rfl) (fun _ _ _ h => h) (Or.inl ⟨by rfl, ?_⟩) hHeld ?_
      rotate_left
      · intro w hSw; obtain ⟨hA1, hA2, hA3, _⟩ := hSw
        go_simp
        with_reducible rfl
      try simp only [Act.put, List.getElem_toArray, List.getElem_cons_zero, List.getElem_cons_succ, List.setIfInBounds_toArray, List.set_cons_zero, List.set_cons_succ]
      refine wpAnyH_ready (rs := [34]) (by kernel_rfl) (by simp) ?_
      refine AllReadyH.cons rfl (fun K hK => ?_) AllReadyH.nil
      rw [if_pos (by rfl)]
      go_simp
      refine HFI.out.mono ?_
      rintro e z7 ⟨rfl, hF⟩
      refine hK.out _ _ ⟨(hF.cell (lt_of_cell hHeld.1) id).trans hHeld.1, (hF.cell (lt_of_cell hHeld.2.1) id).trans hHeld.2.1, (hF.cell (lt_of_cell hHeld.2.2.1) id).trans hHeld.2.2.1, (hF.cell (lt_of_cell hHeld.2.2.2.1) id).trans hHeld.2.2.2.1, (hF.cell (lt_of_cell hHeld.2.2.2.2.1) id).trans hHeld.2.2.2.2.1, (hF.cell (lt_of_cell hHeld.2.2.2.2.2) id).trans hHeld.2.2.2.2.2⟩ (fun hHeld => ?_)
      clear hK K
      try simp only [Act.put, List.getElem_toArray, List.getElem_cons_zero, List.getElem_cons_succ, List.setIfInBounds_toArray, List.set_cons_zero, List.set_cons_succ]
      have HP3 := hid (HP.out.no hF)
      have HQ3 := hid (HQ.out.no hF)
      have HF3 := hid (HF2.out.trans hF)
      clear hF HP HQ HF2
      refine wpAnyH_take (i := 35) (v := ?_) rfl (by kernel_rfl) (by kernel_rfl) (by kernel_rfl) (fun _ _ _ h => h) (Or.inl ⟨by rfl, ?_⟩) hHeld ?_
      rotate_left
      · intro w hSw; obtain ⟨hA1, hA2, hA3, _⟩ := hSw
        go_simp
        with_reducible rfl
      try simp only [Act.put, List.getElem_toArray, List.getElem_cons_zero, List.getElem_cons_succ, List.setIfInBounds_toArray, List.set_cons_zero, List.set_cons_succ]
      refine wpAnyH_take (i := 36) (v := ?_) rfl (by kernel_rfl) (by kernel_rfl) (by kernel_rfl) (fun _ _ _ h => h) (Or.inl ⟨by rfl, ?_⟩) hHeld ?_
      rotate_left
      · intro w hSw; obtain ⟨hA1, hA2, hA3, _⟩ := hSw
        go_simp
        with_reducible rfl
      try simp only [Act.put, List.getElem_toArray, List.getElem_cons_zero, List.getElem_cons_succ, List.setIfInBounds_toArray, List.set_cons_zero, List.set_cons_succ]
      refine wpAnyH_done (by kernel_rfl) ?_ _
      go_wp2_with fail
      go_roundg g
      case measure => omega
      case rel => exact ⟨k + 1, S', T', D', by omega, by go_num, HP3, HQ3, HJ2, HS2, HT2, HF3, HL2⟩
    | zero =>
      have hfD := HL.out.1
      have HFB : Hid (∀ W s, Fr No wr W → (s < 0 ∨ (m : Int) ≤ s) → Calls Try.prog 18 #[.pointer (some ⟨p, 0, none⟩), .int .i64 s] W fun e w' => e = .returned (.tuple #[.agg (blkA zeros), .int .i64 10]) ∧ Fr No W w') :=
        fun W s f hs => dv_Firm_bad W _ s 10 (by decide) (fun W' f' => dv_find_bad W' p S D (HD.out.no (f.trans f')) s (by rw [HL.out.1]; exact hs))
      go_wp2_with fail
      refine (HFB.out wr m (Fr.refl _ _) (.inr (Int.le_refl _))).mono ?_
      rintro e w8 ⟨rfl, hF8⟩
      rw [← HZ.out]
      have HN8 := hid (heap_new w8 (.cells (blkA zeros) 42))
      have HP8 := put_blk w8 (blkA zeros) Z
      go_wp2_with (refine wpList_store_row rfl 42 _ _ rfl w8.heap.size (blkA Z) rfl rfl 42 (blkA zeros) HN8.out HIZ.out HSZ.out H1Z.out ?_)
      change Calls _ _ _ ((w8.alloc (.cells (blkA zeros) 42)).setRow w8.heap.size (blkA Z)) _
      obtain ⟨w9, hw9⟩ : ∃ w9, (w8.alloc (.cells (blkA zeros) 42)).setRow w8.heap.size (blkA Z) = w9 := ⟨_, rfl⟩
      rw [hw9] at HP8 ⊢
      have HF9 := hid (hF8.trans HP8.2)
      clear hw9 HP8 HN8 hF8
      refine (HFB.out w9 (-1) HF9.out (.inl (by decide))).mono ?_
      rintro e w10 ⟨rfl, hF10⟩
      rw [← HZ.out]
      have HN10 := hid (heap_new w10 (.cells (blkA zeros) 42))
      have HP10 := put_blk w10 (blkA zeros) Z
      go_wp2_with (refine wpList_store_row rfl 42 _ _ rfl w10.heap.size (blkA Z) rfl rfl 42 (blkA zeros) HN10.out HIZ.out HSZ.out H1Z.out ?_)
      change Calls _ _ _ ((w10.alloc (.cells (blkA zeros) 42)).setRow w10.heap.size (blkA Z)) _
      refine (dv_awake _).mono ?_
      rintro e w12 ⟨rfl, hF12⟩
      go_wp2_with fail
      go_ret
      exact ⟨rfl, HF.out.trans (HF9.out.trans (hF10.trans (HP10.2.trans hF12)))⟩
set_option maxRecDepth 100000 in
theorem plays_big (w : World) (m : Int) (hm : 40 < m) (hm2 : m ≤ 4096) (v : Value) :
    Calls Try.prog 3 #[.int .i64 m, v] w fun e w' => e = .returned (.bool true) ∧ Fr No w w' := by
  go_enter Try.func3, Try.ntmps3
  go_wp2_with fail
  refine (dv_awake _).mono ?_
  rintro e w2 ⟨rfl, hF2⟩
  go_wp2_with fail
  go_ret
  exact ⟨rfl, hF2⟩
set_option maxRecDepth 100000 in
theorem plays_size (w : World) (m : Int) (hm : m < 1 ∨ 4096 < m) (v : Value) :
    Calls Try.prog 3 #[.int .i64 m, v] w fun e w' => e = .returned (.bool true) ∧ Fr No w w' := by
  have HN := hid (dv_New_bad m w hm)
  by_cases h1 : m < 1
  · clear hm
    go_enter Try.func3, Try.ntmps3
    go_wp2_with fail
    refine HN.out.mono ?_
    rintro e w ⟨rfl, rfl⟩
    go_wp2_with fail
    refine (dv_awake _).mono ?_
    rintro e w2 ⟨rfl, hF2⟩
    go_wp2_with fail
    go_ret
    exact ⟨rfl, hF2⟩
  · have h2 : 4096 < m := by omega
    clear hm
    go_enter Try.func3, Try.ntmps3
    go_wp2_with fail
    refine HN.out.mono ?_
    rintro e w ⟨rfl, rfl⟩
    go_wp2_with fail
    refine (dv_awake _).mono ?_
    rintro e w2 ⟨rfl, hF2⟩
    go_wp2_with fail
    go_ret
    exact ⟨rfl, hF2⟩
set_option maxRecDepth 100000 in
theorem plays_many (w : World) (m : Nat) (hm1 : 1 ≤ m) (hm40 : m ≤ 40) (al : Option Addr) (k c : Nat) (hk : 80 < k) :
    Calls Try.prog 3 #[.int .i64 m, .slice al k c] w fun e w' => e = .returned (.bool true) ∧ Fr No w w' := by
  have hm40' : (m : Int) ≤ 40 := by omega
  go_enter Try.func3, Try.ntmps3
  go_wp2_with fail
  refine (dv_New_ok m w hm1 (by omega)).mono ?_
  rintro e wn ⟨p, Sn, rfl, hDn, hFn, hSn⟩
  go_wp2_with fail
  refine (dv_few_not wn al k c hk).mono ?_
  rintro e wn ⟨rfl, rfl⟩
  go_wp2_with fail
  refine (dv_awake _).mono ?_
  rintro e w2 ⟨rfl, hF2⟩
  go_wp2_with fail
  go_ret
  exact ⟨rfl, hFn.trans hF2⟩
theorem law_DevPlays (w : World) (m : Int) (_ : (Lit.int .i64 m).wf = true) (r : SRow) (hr : r.Ok w op3Sh) :
    Calls Try.prog 3 #[.int .i64 m, r.v] w fun e w' => e = .returned (.bool true) ∧ Fr No w w' := by
  by_cases hm : m < 1 ∨ 4096 < m
  · exact plays_size w m hm _
  by_cases hm2 : 40 < m
  · exact plays_big w m hm2 (by omega) _
  obtain ⟨xs, e, hx⟩ := ops5_of hr
  rw [e]
  obtain ⟨k, rfl⟩ := Int.eq_ofNat_of_zero_le (show 0 ≤ m by omega)
  by_cases hk : 80 < xs.length
  · exact plays_many w k (by omega) (by omega) _ _ _ hk
  exact plays_in w k (by omega) (by omega) _ _ xs hx (by omega)
end Go.Proofs.Ytcdchojdkdimbaa
