/- spans: around. -/
import Derived.Test.YtdehojhipiklmaaSpC
namespace Go.Proofs.Ytdehojhipiklmaa
open Go.RowKit

theorem Elems.dropped {w : World} {a : Option Addr} {L : List Sp} (h : Elems spV 2 w a L) (k : Nat) : Elems spV 2 w (a.map fun x => x.add (k * 2)) (L.drop k) := by
  rcases Nat.lt_or_ge k L.length with hk | hk
  · rcases h with h | ⟨b, o, rfl, hb, hc⟩
    · subst h; simp at hk
    · refine .inr ⟨b, o + k * 2, by rw [Option.map_some, Addr.add_mid], hb, fun i j hi hj => ?_⟩
      rw [List.length_drop] at hi
      have := hc (k + i) j (by omega) hj
      rw [show o + k * 2 + (i * 2 + j) = o + ((k + i) * 2 + j) by omega, this, List.getElem_drop]
  · exact .inl (List.drop_eq_nil_of_le hk)
theorem takeWhile_len_eq {α : Type} (p : α → Bool) : ∀ (l : List α) (k : Nat), k ≤ l.length → (∀ i (hi : i < l.length), i < k → p l[i] = true) → (∀ (hk : k < l.length), p l[k] = false) → (l.takeWhile p).length = k
  | [], k, h, _, _ => by simp at h; subst h; rfl
  | a :: l, 0, _, _, h => by
    have := h (by simp)
    rw [List.takeWhile_cons, if_neg (by simpa using this)]; rfl
  | a :: l, k + 1, h, h1, h2 => by
    have e := h1 0 (by simp) (by omega)
    rw [List.takeWhile_cons, if_pos (by simpa using e), List.length_cons, takeWhile_len_eq p l k (by simpa using h) (fun i hi hk => h1 (i + 1) (by simpa using hi) (by omega)) (fun hk => h2 (by simpa using hk))]
set_option maxRecDepth 100000 in
theorem sp_around (w : World) (p : Nat) (S : Nat → Prop) (L : List Sp) (h : St w p S L) (low high : Int) (h2 : -1 ≤ low) (h3 : low ≤ 1048576) :
    Calls Try.prog 30 #[.pointer (some ⟨p, 0, none⟩), .int .i64 low, .int .i64 high] w fun e w' => e = .returned (.tuple #[.int .i64 (firstOf L low), .int .i64 (lastOf L low high)]) ∧ Fr No w w' := by
  obtain ⟨hG, v, hV⟩ := h
  obtain ⟨a, c, rfl, hlc, hE⟩ := own_elems hV.row
  have HV := hid hV
  have HG := hid hG
  have HE := hid hE
  have hlen := hG.len
  have c0 := cell_blk hV.blk 0
  simp only [List.getElem?_toArray, List.getElem?_cons_zero] at c0
  have hpz := lt_of_block hV.blk
  clear hV hE
  go_enter Try.func30, Try.ntmps30
  go_wp2_with fail
  go_step3
  go_wp2_with fail
  refine (sp_search w a c L hG HE.out low h2 h3).mono ?_
  rintro e w1 ⟨b, rfl, hF⟩
  have HF := hid hF
  have d0 := (hF.cell (p := ⟨p, 0, none⟩) hpz id).trans c0
  clear hF c0
  have hfl := firstOf_le L low
  obtain ⟨fo, hfo⟩ : ∃ fo, firstOf L low = fo := ⟨_, rfl⟩
  have HFO := hid hfo
  rw [hfo] at hfl ⊢
  clear hfo
  have hfl' : (fo : Int) ≤ (L.length : Int) := by omega
  have hlc' : (L.length : Int) ≤ (c : Int) := by omega
  go_wp2_with fail
  have HM : Hid (∀ a2 : Option Addr, (c = fo ∧ a2 = a ∨ a2 = a.map fun x => x.add (fo * 2)) → Elems spV 2 w a2 (L.drop fo)) := fun a2 h => by
    rcases h with ⟨e, rfl⟩ | rfl
    · exact .inl (List.drop_eq_nil_of_le (by omega))
    · exact HE.out.dropped fo
  have hml : (L.drop fo).length = L.length - fo := List.length_drop
  have HLO : Hid (lastOf L low high = fo + ((L.drop fo).takeWhile fun s => decide ((s.1 : Int) ≤ high)).length) := by unfold Hid lastOf; rw [HFO.out]
  have hgd : ∀ s ∈ L.drop fo, s.1 + s.2 ≤ 1048576 := fun s hs => HG.out.2 s (List.mem_of_mem_drop hs)
  have HGD := hid hgd
  obtain ⟨M, hM⟩ : ∃ M, L.drop fo = M := ⟨_, rfl⟩
  rw [hM] at HM hml HLO HGD
  clear hM hgd
  go_step3
  go_wp2_with fail
  case' inl => obtain ⟨a2, ha2⟩ : ∃ a2, a = a2 := ⟨_, rfl⟩
  case' inl => have HM2 := hid (HM.out a2 (.inl ⟨by omega, ha2.symm⟩))
  case' inr => obtain ⟨a2, ha2⟩ : ∃ a2, (a.map fun x => x.add (fo * 2)) = a2 := ⟨_, rfl⟩
  case' inr => have HM2 := hid (HM.out a2 (.inr ha2.symm))
  all_goals
    rw [ha2, ← hml]
    clear ha2 HM
    have hmi : (M.length : Int) ≤ 1048576 := by have : M.length ≤ 1048576 := by omega
                                                omega
    have hfi : (fo : Int) ≤ 1048576 := by omega
    clear hml hlc hlc' hfl' hfl hlen
    go_loopg [10, 30] M.length (fun g x i wr => ∃ k : Nat, k + g = M.length ∧ x = .int .i64 ((fo + k : Nat) : Int) ∧ i = .int .i64 k ∧ Hid (∀ i (hi : i < M.length), i < k → (M[i].1 : Int) ≤ high) ∧ Hid (Fr No w1 wr))
    case atStart => exact ⟨0, by omega, rfl, rfl, fun i hi h => by omega, Fr.refl _ _⟩
    case round =>
      obtain ⟨k, hk, rfl, rfl, HA, HF2⟩ := hrel
      cases gk with
      | zero =>
        obtain rfl : k = M.length := by omega
        have HEND : Hid (lastOf L low high = fo + M.length) := by
          unfold Hid; rw [HLO.out, takeWhile_len_eq _ M M.length (Nat.le_refl _) (fun i hi h => decide_eq_true (HA.out i hi h)) (fun h => absurd h (Nat.lt_irrefl _))]
        go_wp2_with fail
        rw [Exit.noGoto_ret]
        go_ret2
        exact ⟨by rw [HEND.out, HFO.out]; rfl, HF.out.trans HF2.out⟩
      | succ g =>
        have hkm : k < M.length := by omega
        have hki : (k : Int) < (M.length : Int) := by omega
        obtain ⟨b, o, rfl, hb, c0, c1⟩ := HM2.out.sp2 k hkm
        obtain ⟨s, hs⟩ : ∃ s, M[k] = s := ⟨_, rfl⟩
        rw [hs] at c0 c1
        have HS := hid hs
        have e0 := ((HF.out.trans HF2.out).cell (p := ⟨b, o + k * 2, none⟩) hb id).trans c0
        have e1 := ((HF.out.trans HF2.out).cell (p := ⟨b, o + k * 2 + 1, none⟩) hb id).trans c1
        clear c0 c1 hs
        obtain ⟨s1, s2⟩ := s
        by_cases hh : (s1 : Int) ≤ high
        · go_wp2_with fail
          go_roundg g
          case measure => omega
          case rel =>
            refine ⟨k + 1, by omega, by go_num, by go_num, fun i hi hik => ?_, HF2.out.alloc _⟩
            rcases Nat.lt_succ_iff_lt_or_eq.1 hik with e | e
            · exact HA.out i hi e
            · subst e; rw [HS.out]; exact hh
        · have hh2 : high < (s1 : Int) := by omega
          have HEND : Hid (lastOf L low high = fo + k) := by
            unfold Hid; rw [HLO.out, takeWhile_len_eq _ M k (by omega) (fun i hi h => decide_eq_true (HA.out i hi h)) (fun h => decide_eq_false (by rw [HS.out]; exact hh))]
          go_wp2_with fail
          try rw [Exit.noGoto_ret]
          go_ret2
          exact ⟨by rw [HEND.out, HFO.out]; rfl, HF.out.trans (HF2.out.alloc _)⟩
end Go.Proofs.Ytdehojhipiklmaa
