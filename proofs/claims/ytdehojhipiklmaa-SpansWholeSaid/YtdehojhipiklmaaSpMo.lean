/- The law SpansMoves. -/
import Derived.Test.YtdehojhipiklmaaSpTu
import Derived.Deep.AppendLies
namespace Go.Proofs.Ytdehojhipiklmaa
open Go.RowKit

theorem sp_slice1 (w : World) (x y : Int) : (Instr.buildSlice 39 1 #[(0, .agg #[.int .i64 x, .int .i64 y])]).run Try.prog w = .ok (.slice (some ⟨w.heap.size, 0, none⟩) 1 1) (w.alloc (.cells #[.int .i64 x, .int .i64 y] 24)) := by
  obtain ⟨i0, hi0, h1, h2, h3⟩ := info_parts sp_info
  refine run_buildSlice w 39 24 1 _ #[.int .i64 x, .int .i64 y] i0 (.agg #[.int .i64 0, .int .i64 0]) Try.underlying39 hi0 h1 (by rw [h2]; decide) (by rw [h2]; decide) ?_
  rw [h2]; kernel_rfl
set_option maxRecDepth 100000 in
set_option maxHeartbeats 4000000 in
theorem law_SpansMoves (w : World) (r : SRow) (hr : r.Ok w spSh) (by_ : Int) (hby : (Lit.int .i64 by_).wf = true) :
    Calls Try.prog 7 #[r.v, .int .i64 by_] w fun e w' => e = .returned (.bool true) ∧ Fr No w w' := by
  obtain ⟨l, hv, hE, hl63, hwf⟩ := spans_of hr
  rw [hv]
  obtain ⟨ra, hra⟩ : ∃ ra, r.a = ra := ⟨_, rfl⟩
  obtain ⟨rc, hrc⟩ : ∃ rc, r.cap = rc := ⟨_, rfl⟩
  rw [hra] at hE
  rw [hra, hrc]
  have HE := hid hE
  clear hv hr hra hrc hwf hE hby
  obtain ⟨i0, hi0, hz0, hz1, hz2⟩ := info_parts sp_info
  obtain ⟨n, hn⟩ : ∃ n, l.length = n := ⟨_, rfl⟩
  rw [hn] at hl63 ⊢
  have HLN := hid hn
  clear hn
  go_enter Try.func7, Try.ntmps7
  by_cases hok : n ≤ 40 ∧ 0 ≤ by_ ∧ by_ ≤ 1048576
  case neg =>
    rcases (show 40 < (n : Int) ∨ ((n : Int) ≤ 40 ∧ by_ < 0) ∨ ((n : Int) ≤ 40 ∧ 0 ≤ by_ ∧ 1048576 < by_) by omega) with h | ⟨h1, h2⟩ | ⟨h1, h2, h3⟩
    all_goals
      clear hok
      go_wp2_with fail
      refine (sp_awake _).mono ?_
      rintro e w9 ⟨rfl, hF9⟩
      have HF9 := hid hF9
      clear hF9
      go_wp2_with fail
      try rw [Exit.noGoto_ret]
      go_ret
      exact ⟨rfl, HF9.out⟩
  obtain ⟨h40, hb0, hb1⟩ := hok
  obtain ⟨bn, rfl⟩ : ∃ bn : Nat, by_ = (bn : Int) := ⟨by_.toNat, by omega⟩
  have h40' : (n : Int) ≤ 40 := by omega
  go_wp2_with fail
  go_loopg [5, 6] n (fun g x i wr => ∃ (k : Nat) (al : Option Addr) (cl : Nat), k + g = n ∧ x = .slice al k cl ∧ i = .int .i64 k ∧ Hid (∀ i (hi : i < l.length), i < k → mayB l[i].1 l[i].2 = true) ∧ Hid (wr.ownsRow 0 24 2 (.slice al k cl) k (((l.take k).map (movI bn)).flatMap ispV)) ∧ Hid (∀ q, (Value.slice al k cl).ownBlock = some q → w.heap.size ≤ q) ∧ Hid (Fr No w wr))
  case atStart => exact ⟨0, none, 0, by omega, rfl, rfl, fun i hi h => by omega, ⟨rfl, .inl ⟨rfl, rfl⟩⟩, fun q h => by simp [Value.ownBlock] at h, Fr.refl _ _⟩
  case round =>
    obtain ⟨k, al, cl, hk, rfl, rfl, HA, HOWN, HNEW, HFR⟩ := hrel
    cases gk with
    | zero =>
      obtain rfl : k = n := by omega
      have hra : rightAll l = true := rightAll_all (fun i hi => HA.out i hi (by rw [← HLN.out]; exact hi))
      have hNL : (l.take k).map (movI bn) = l.map (movI bn) := by rw [← HLN.out, List.take_length]
      have HRA := hid hra
      have ho := HOWN.out
      rw [hNL] at ho
      obtain ⟨NL, hNLe⟩ : ∃ NL, l.map (movI bn) = NL := ⟨_, rfl⟩
      have HNLE := hid hNLe
      rw [hNLe] at ho
      have hnl : NL.length = k := by rw [← hNLe, List.length_map, HLN.out]
      have HNL := hid hnl
      obtain ⟨a2, c2, e2, hE2⟩ := own_isp (L := NL) (by rw [hnl]; exact ho)
      obtain ⟨rfl, rfl⟩ : al = a2 ∧ cl = c2 := by injection e2 with e1 _ e3; exact ⟨e1, e3⟩
      have HE2 := hid hE2
      have HN1 := hid (sp_New wr ra rc l (by rw [HLN.out]; omega) (Elems.no HE.out HFR.out))
      rw [HLN.out] at HN1
      clear hra hNL ho hNLe hnl e2 hE2
      go_wp2_with fail
      refine HN1.out.mono ?_
      rintro e w1 (⟨_, v, rfl, p, S, rfl, hS, _, hF⟩ | ⟨h, _⟩)
      case inr => rw [HRA.out] at h; cases h
      have HF1 := hid (HFR.out.trans hF)
      have HS1 := hid hS
      have HN2 := hid (sp_New w1 al cl NL (by rw [HNL.out]; omega) (Elems.no HE2.out hF))
      rw [HNL.out] at HN2
      clear hF hS HN1
      go_wp2_with fail
      refine HN2.out.mono ?_
      rintro e w2 (⟨hr2, v, rfl, q, T, rfl, hT, _, hF⟩ | ⟨hr2, rfl, hF⟩)
      case inr =>
        have HF2 := hid (HF1.out.trans hF)
        clear hF hr2
        go_wp2_with fail
        refine (sp_awake _).mono ?_
        rintro e w9 ⟨rfl, hF9⟩
        have HF9 := hid (HF2.out.trans hF9)
        clear hF9
        go_wp2_with fail
        try rw [Exit.noGoto_ret]
        go_ret
        exact ⟨rfl, HF9.out⟩
      have HF2 := hid (HF1.out.trans hF)
      have HS2 := hid (HS1.out.no hF)
      have HT2 := hid hT
      have hMM := newL_mov l bn HRA.out (by rw [HNLE.out]; exact hr2)
      rw [HNLE.out] at hMM
      have hLl := newL_len l
      rw [HLN.out] at hLl
      have hSN := sumN_mov bn (newL l)
      rw [← hMM] at hSN
      have hML : (newL NL).length = (newL l).length := by rw [hMM, List.length_map]
      obtain ⟨L, hL⟩ : ∃ L, newL l = L := ⟨_, rfl⟩
      obtain ⟨M, hM⟩ : ∃ M, newL NL = M := ⟨_, rfl⟩
      rw [hL] at HS2 hMM hLl hSN hML
      rw [hM] at HT2 hMM hSN hML
      have HMM := hid hMM
      have HSN := hid hSN
      have HMLn := hid hML
      have hMl : M.length ≤ 300 := by omega
      have HGB := hid HS2.out.1
      clear hF hT HS1 HF1 hL hM HN2 hMM hSN hML hr2
      go_wp2_with fail
      refine (sp_lawAll w2 p S L HS2.out (by omega)).mono ?_
      rintro e w3 ⟨v3, rfl, hv3, hF⟩
      obtain ⟨a3, c3, rfl, _, _⟩ := hv3.elems
      have HF3 := hid (HF2.out.trans hF)
      have HS3 := hid (HS2.out.no hF)
      have HT3 := hid (HT2.out.no hF)
      have HV3 := hid hv3.1
      clear hF hv3 HF2 HS2 HT2
      go_wp2_with fail
      refine (sp_lawAll w3 q T M HT3.out hMl).mono ?_
      rintro e w4 ⟨v4, rfl, hv4, hF⟩
      obtain ⟨a4, c4, rfl, _, _⟩ := hv4.elems
      have HF4 := hid (HF3.out.trans hF)
      have HS4 := hid (HS3.out.no hF)
      have HT4 := hid (HT3.out.no hF)
      have HV4 := hid (own_frk HV3.out hF (fun _ _ => id))
      have HU4 := hid hv4.1
      clear hF hv4 HF3 HS3 HT3 HV3
      obtain ⟨m, hm⟩ : ∃ m, L.length = m := ⟨_, rfl⟩
      have hMm : M.length = m := by rw [HMLn.out, hm]
      have HLm := hid hm
      rw [hm] at hLl ⊢
      rw [hMm]
      clear hm hMm hMl
      have hm40 : (m : Int) ≤ 40 := by omega
      go_wp2_with fail
      refine (sp_Len w4 p S L HS4.out).mono ?_
      rintro e w5 ⟨rfl, hF⟩
      have HF5 := hid (HF4.out.trans hF)
      have HT5 := hid (HT4.out.no hF)
      have HV5 := hid (own_frk HV4.out hF (fun _ _ => id))
      have HU5 := hid (own_frk HU4.out hF (fun _ _ => id))
      clear hF HF4 HS4 HT4 HV4 HU4
      go_wp2_with fail
      refine (sp_Len w5 q T M HT5.out).mono ?_
      rw [HSN.out]
      rintro e w6 ⟨rfl, hF⟩
      have HF6 := hid (HF5.out.trans hF)
      have HV6 := hid (own_el (own_frk HV5.out hF (fun _ _ => id)))
      have HU6 := hid (own_el (own_frk HU5.out hF (fun _ _ => id)))
      clear hF HF5 HT5 HV5 HU5
      go_wp2_with fail
      go_loopg [15] m (fun g i wr2 => ∃ kk : Nat, kk + g = m ∧ i = .int .i64 kk ∧ Hid (Fr No w6 wr2))
      case atStart => exact ⟨0, by omega, rfl, Fr.refl _ _⟩
      case round =>
        obtain ⟨kk, hkk, rfl, HFQ⟩ := hrel
        cases gk with
        | zero =>
          obtain rfl : kk = m := by omega
          go_wp2_with fail
          refine (sp_awake _).mono ?_
          rintro e w9 ⟨rfl, hF9⟩
          have HF9 := hid ((HF6.out.trans HFQ.out).trans hF9)
          clear hF9
          go_wp2_with fail
          try rw [Exit.noGoto_ret]
          go_ret
          exact ⟨rfl, HF9.out⟩
        | succ g =>
          have hkm : (kk : Int) < (m : Int) := by omega
          have hkL : kk < L.length := by rw [HLm.out]; omega
          have hkM : kk < M.length := by rw [HMLn.out]; exact hkL
          have hMk : M[kk] = movS bn L[kk] := by simp only [HMM.out, List.getElem_map]
          obtain ⟨b, o, rfl, hb, c0, c1⟩ := HV6.out.sp2 kk hkL
          obtain ⟨b', o', rfl, hb', y0, y1⟩ := HU6.out.sp2 kk hkM
          rw [hMk] at y0 y1
          have hxb := HGB.out.2 _ (List.getElem_mem hkL)
          obtain ⟨x, hx⟩ : ∃ x, L[kk] = x := ⟨_, rfl⟩
          rw [hx] at c0 c1 y0 y1 hxb
          obtain ⟨x1, x2⟩ := x
          have hxb' : (x1 : Int) ≤ 1048576 := by have : x1 + x2 ≤ 1048576 := hxb; omega
          clear hxb
          have y0' : w6.cell? ⟨b', o' + kk * 2, none⟩ = some (.int .i64 ((x1 : Int) + (bn : Int))) := y0.trans (by show some (Value.int .i64 (((x1 + bn : Nat)) : Int)) = _; rw [Int.natCast_add])
          have z0 := (HFQ.out.cell (p := ⟨b, o + kk * 2, none⟩) hb id).trans c0
          have z1 := (HFQ.out.cell (p := ⟨b, o + kk * 2 + 1, none⟩) hb id).trans c1
          have t0 := (HFQ.out.cell (p := ⟨b', o' + kk * 2, none⟩) hb' id).trans y0'
          have t1 : wr.cell? ⟨b', o' + kk * 2 + 1, none⟩ = some (.int .i64 (x2 : Int)) := (HFQ.out.cell (p := ⟨b', o' + kk * 2 + 1, none⟩) hb' id).trans y1
          clear c0 c1 y0 y0' y1 hx hMk hkM hkL
          go_wp2_with fail
          go_quiet (fail)
          go_wp2_with fail
          go_roundg g
          case measure => omega
          case rel => exact ⟨kk + 1, by omega, by go_num, HFQ.out.drewN _⟩
    | succ g =>
      have hki : (k : Int) < (n : Int) := by omega
      have hkl : k < l.length := by rw [HLN.out]; omega
      obtain ⟨b, o, rfl, hb, c0, c1⟩ := HE.out.isp2 k hkl
      have HTK := hid (List.take_succ_eq_append_getElem hkl)
      obtain ⟨x, hx⟩ : ∃ x, l[k] = x := ⟨_, rfl⟩
      have HX := hid hx
      rw [hx] at c0 c1 HTK
      have HE0 := hid c0
      have HE1 := hid c1
      have e0 := (HFR.out.cell (p := ⟨b, o + k * 2, none⟩) hb id).trans c0
      have e1 := (HFR.out.cell (p := ⟨b, o + k * 2 + 1, none⟩) hb id).trans c1
      clear hx
      obtain ⟨xa, xn⟩ := x
      go_wp2_with fail
      refine (sp_Right wr xa xn).mono ?_
      obtain ⟨mm, hmm⟩ : ∃ mm, mayB xa xn = mm := ⟨_, rfl⟩
      have HM := hid hmm
      rw [hmm]
      rintro e w1 ⟨rfl, hF⟩
      have HF1 := hid (HFR.out.trans hF)
      have HFa := hid hF
      have d0 := ((HFR.out.trans hF).cell (p := ⟨b, o + k * 2, none⟩) hb id).trans c0
      have d1 := ((HFR.out.trans hF).cell (p := ⟨b, o + k * 2 + 1, none⟩) hb id).trans c1
      clear e0 e1 c0 c1 hF hmm
      cases mm with
      | false =>
        go_wp2_with fail
        refine (sp_awake _).mono ?_
        rintro e w9 ⟨rfl, hF9⟩
        have HF9 := hid (HF1.out.trans hF9)
        clear hF9
        go_wp2_with fail
        try rw [Exit.noGoto_ret]
        go_ret
        exact ⟨rfl, HF9.out⟩
      | true =>
        have hmb := mayB_iff.1 HM.out
        obtain ⟨hx0, hx1, hx2⟩ := hmb
        have hxs : xa ≤ 1048576 := by omega
        have HOWN1 := hid (own_frk HOWN.out HFa.out (fun _ _ => id))
        have hsz1 := HFa.out.size
        have HNEW1 : Hid (∀ q, (Value.slice al k cl).ownBlock = some q → w.heap.size ≤ q) := HNEW.out
        go_wp2_with fail
        have hbw : b < w.heap.size := hb
        have hw : IntKind.i64.wrap (xa + (bn : Int)) = xa + (bn : Int) := by rw [IntKind.wrap_i64]; omega
        have HMX : Hid (mayB xa xn = true) := HM.out
        refine wp_region_held_drew (S := fun W => W.cell? ⟨b, o + k * 2, none⟩ = some (.int .i64 xa) ∧ W.cell? ⟨b, o + k * 2 + 1, none⟩ = some (.int .i64 xn)) (by kernel_rfl) ⟨d0, d1⟩ (fun hHeld => ?_)
        refine wpAnyH_take (i := 0) (v := ?_) rfl (by kernel_rfl) (by kernel_rfl) (by kernel_rfl) (fun _ _ _ h => h) (Or.inl ⟨by rfl, ?_⟩) hHeld ?_
        rotate_left
        · intro w hSw
          go_simp
          with_reducible rfl
        try simp only [Act.put, List.getElem_toArray, List.getElem_cons_zero, List.getElem_cons_succ, List.setIfInBounds_toArray, List.set_cons_zero, List.set_cons_succ]
        refine wpAnyH_take (i := 1) (v := ?_) rfl (by kernel_rfl) (by kernel_rfl) (by kernel_rfl) (fun _ _ _ h => h) (Or.inl ⟨by rfl, ?_⟩) hHeld ?_
        rotate_left
        · intro w hSw
          go_simp
          with_reducible rfl
        try simp only [Act.put, List.getElem_toArray, List.getElem_cons_zero, List.getElem_cons_succ, List.setIfInBounds_toArray, List.set_cons_zero, List.set_cons_succ]
        refine wpAnyH_take (i := 2) (v := ?_) rfl (by kernel_rfl) (by kernel_rfl) (by kernel_rfl) (fun _ _ _ h => h) (Or.inl ⟨by rfl, ?_⟩) hHeld ?_
        rotate_left
        · intro w hSw
          go_simp
          with_reducible rfl
        try simp only [Act.put, List.getElem_toArray, List.getElem_cons_zero, List.getElem_cons_succ, List.setIfInBounds_toArray, List.set_cons_zero, List.set_cons_succ]
        refine wpAnyH_take (i := 3) (v := ?_) rfl (by kernel_rfl) (by kernel_rfl) (by kernel_rfl) (fun _ _ _ h => h) (Or.inl ⟨by rfl, ?_⟩) hHeld ?_
        rotate_left
        · intro w hSw
          go_simp
          with_reducible rfl
        try simp only [Act.put, List.getElem_toArray, List.getElem_cons_zero, List.getElem_cons_succ, List.setIfInBounds_toArray, List.set_cons_zero, List.set_cons_succ]
        refine wpAnyH_take (i := 4) (v := ?_) rfl (by kernel_rfl) (by kernel_rfl) (by kernel_rfl) (fun _ _ _ h => h) (Or.inl ⟨by rfl, ?_⟩) hHeld ?_
        rotate_left
        · intro w hSw
          go_simp
          with_reducible rfl
        try simp only [Act.put, List.getElem_toArray, List.getElem_cons_zero, List.getElem_cons_succ, List.setIfInBounds_toArray, List.set_cons_zero, List.set_cons_succ]
        refine wpAnyH_take (i := 5) (v := ?_) rfl (by kernel_rfl) (by kernel_rfl) (by kernel_rfl) (fun _ _ _ h => h) (Or.inl ⟨by rfl, ?_⟩) hHeld ?_
        rotate_left
        · intro w hSw; obtain ⟨s0, s1⟩ := hSw
          go_simp
          with_reducible rfl
        try simp only [Act.put, List.getElem_toArray, List.getElem_cons_zero, List.getElem_cons_succ, List.setIfInBounds_toArray, List.set_cons_zero, List.set_cons_succ]
        refine wpAnyH_take (i := 6) (v := ?_) rfl (by kernel_rfl) (by kernel_rfl) (by kernel_rfl) (fun _ _ _ h => h) (Or.inl ⟨by rfl, ?_⟩) hHeld ?_
        rotate_left
        · intro w hSw
          go_simp
          with_reducible rfl
        try simp only [Act.put, List.getElem_toArray, List.getElem_cons_zero, List.getElem_cons_succ, List.setIfInBounds_toArray, List.set_cons_zero, List.set_cons_succ]
        refine wpAnyH_take (i := 7) (v := ?_) rfl (by kernel_rfl) (by kernel_rfl) (by kernel_rfl) (fun _ _ _ h => h) (Or.inl ⟨by rfl, ?_⟩) hHeld ?_
        rotate_left
        · intro w hSw
          go_simp
          with_reducible rfl
        try simp only [Act.put, List.getElem_toArray, List.getElem_cons_zero, List.getElem_cons_succ, List.setIfInBounds_toArray, List.set_cons_zero, List.set_cons_succ]
        refine wpAnyH_take (i := 8) (v := ?_) rfl (by kernel_rfl) (by kernel_rfl) (by kernel_rfl) (fun _ _ _ h => h) (Or.inl ⟨by rfl, ?_⟩) hHeld ?_
        rotate_left
        · intro w hSw
          go_simp
          with_reducible rfl
        try simp only [Act.put, List.getElem_toArray, List.getElem_cons_zero, List.getElem_cons_succ, List.setIfInBounds_toArray, List.set_cons_zero, List.set_cons_succ]
        refine wpAnyH_take (i := 9) (v := ?_) rfl (by kernel_rfl) (by kernel_rfl) (by kernel_rfl) (fun _ _ _ h => h) (Or.inl ⟨by rfl, ?_⟩) hHeld ?_
        rotate_left
        · intro w hSw
          go_simp
          with_reducible rfl
        try simp only [Act.put, List.getElem_toArray, List.getElem_cons_zero, List.getElem_cons_succ, List.setIfInBounds_toArray, List.set_cons_zero, List.set_cons_succ]
        refine wpAnyH_take (i := 10) (v := ?_) rfl (by kernel_rfl) (by kernel_rfl) (by kernel_rfl) (fun _ _ _ h => h) (Or.inl ⟨by rfl, ?_⟩) hHeld ?_
        rotate_left
        · intro w hSw
          go_simp
          with_reducible rfl
        try simp only [Act.put, List.getElem_toArray, List.getElem_cons_zero, List.getElem_cons_succ, List.setIfInBounds_toArray, List.set_cons_zero, List.set_cons_succ]
        refine wpAnyH_take (i := 11) (v := ?_) rfl (by kernel_rfl) (by kernel_rfl) (by kernel_rfl) (fun _ _ _ h => h) (Or.inl ⟨by rfl, ?_⟩) hHeld ?_
        rotate_left
        · intro w hSw
          go_simp
          with_reducible rfl
        try simp only [Act.put, List.getElem_toArray, List.getElem_cons_zero, List.getElem_cons_succ, List.setIfInBounds_toArray, List.set_cons_zero, List.set_cons_succ]
        refine wpAnyH_take (i := 12) (v := ?_) rfl (by kernel_rfl) (by kernel_rfl) (by kernel_rfl) (fun _ _ _ h => h) (Or.inl ⟨by rfl, ?_⟩) hHeld ?_
        rotate_left
        · intro w hSw; obtain ⟨s0, s1⟩ := hSw
          go_simp
          with_reducible rfl
        try simp only [Act.put, List.getElem_toArray, List.getElem_cons_zero, List.getElem_cons_succ, List.setIfInBounds_toArray, List.set_cons_zero, List.set_cons_succ]
        refine wpAnyH_take (i := 13) (v := ?_) rfl (by kernel_rfl) (by kernel_rfl) (by kernel_rfl) (fun _ _ _ h => h) (Or.inl ⟨by rfl, ?_⟩) hHeld ?_
        rotate_left
        · intro w hSw
          go_simp
          with_reducible rfl
        try simp only [Act.put, List.getElem_toArray, List.getElem_cons_zero, List.getElem_cons_succ, List.setIfInBounds_toArray, List.set_cons_zero, List.set_cons_succ]
        refine wpAnyH_ready (rs := [14]) (by kernel_rfl) (by simp) ?_
        refine AllReadyH.cons rfl (fun K hK => ?_) AllReadyH.nil
        rw [if_pos (by rfl)]
        refine wp_buildS 39 1 _ rfl #[(0, .agg #[.int .i64 (xa + (bn : Int)), .int .i64 xn])] (by simp [Act.eval, hw]) _ _ (sp_slice1 _ _ _) ?_
        refine hK.out _ _ ⟨cell_allocd _ d0, cell_allocd _ d1⟩ (fun hHeld => ?_)
        clear hK K
        try simp only [Act.put, List.getElem_toArray, List.getElem_cons_zero, List.getElem_cons_succ, List.setIfInBounds_toArray, List.set_cons_zero, List.set_cons_succ]
        refine wpAnyH_ready (rs := [15]) (by kernel_rfl) (by simp) ?_
        refine AllReadyH.cons rfl (fun K hK => ?_) AllReadyH.nil
        rw [if_pos (by rfl)]
        refine wp_append_lies _ (.tmp 41) (.tmp 55) 39 rfl 0 24 i0 (.agg #[.int .i64 0, .int .i64 0]) 2 16 Try.underlying39 hi0 hz0 hz1 hz2 (by kernel_rfl) (by decide) _ k _ rfl (own_frk HOWN1.out ((Fr.refl No w1).drew.alloc _) (fun _ _ => id)) ⟨_, 0, none⟩ 1 1 [.int .i64 _, .int .i64 _] rfl rfl (cells2 _ _ _ _ rfl) (one2 _ _) (by decide) (by unfold maxLen; omega) (by omega) (Nat.zero_le _) _ rfl (fun gq cq w5 hown hgrow hgat hlt => ?_)
        have HR5 : Hid (Fr No w w5) := (HF1.out.drew.alloc _).then (grown_fr hgrow) (fun i hi h => absurd (HNEW1.out i h) (by omega))
        have HN5 : Hid (∀ q, (Value.slice (some ⟨gq, 0, none⟩) (k + 1) cq).ownBlock = some q → w.heap.size ≤ q) := new_next HNEW1.out (HF1.out.drew.alloc _) hgat (k + 1) cq
        have HO5 := hid hown
        have s0 := (HR5.out.cell (p := ⟨b, o + k * 2, none⟩) hb id).trans (HE0.out)
        have s1 := (HR5.out.cell (p := ⟨b, o + k * 2 + 1, none⟩) hb id).trans (HE1.out)
        clear hown hgrow hgat hlt
        refine hK.out _ _ ⟨s0, s1⟩ (fun hHeld => ?_)
        clear hK K
        try simp only [Act.put, List.getElem_toArray, List.getElem_cons_zero, List.getElem_cons_succ, List.setIfInBounds_toArray, List.set_cons_zero, List.set_cons_succ]
        refine wpAnyH_take (i := 16) (v := ?_) rfl (by kernel_rfl) (by kernel_rfl) (by kernel_rfl) (fun _ _ _ h => h) (Or.inl ⟨by rfl, ?_⟩) hHeld ?_
        rotate_left
        · intro w hSw
          go_simp
          with_reducible rfl
        try simp only [Act.put, List.getElem_toArray, List.getElem_cons_zero, List.getElem_cons_succ, List.setIfInBounds_toArray, List.set_cons_zero, List.set_cons_succ]
        refine wpAnyH_done (by kernel_rfl) ?_ _
        go_wp2_with fail
        go_roundg g
        case measure => omega
        case rel =>
          refine ⟨k + 1, _, _, by omega, rfl, by go_num, fun i hi hik => ?_, ?_, HN5.out, HR5.out⟩
          · rcases Nat.lt_succ_iff_lt_or_eq.1 hik with e | e
            · exact HA.out i hi e
            · subst e; rw [HX.out]; exact HM.out
          · unfold Hid
            rw [HTK.out, List.map_append, List.flatMap_append]
            exact HO5.out
end Go.Proofs.Ytdehojhipiklmaa
