/- spans: Same. -/
import Derived.Test.YtdehojhipiklmaaSpK
namespace Go.Proofs.Ytdehojhipiklmaa
open Go.RowKit

set_option maxRecDepth 100000 in
set_option maxHeartbeats 2000000 in
theorem sp_Same (w : World) (p q : Nat) (S T : Nat → Prop) (L M : List Sp) (h : St w p S L) (h' : St w q T M) : Calls Try.prog 23 #[.pointer (some ⟨p, 0, none⟩), .pointer (some ⟨q, 0, none⟩)] w fun e w' => e = .returned (.bool (decide (L = M))) ∧ Fr No w w' := by
  obtain ⟨hG, v, hV⟩ := h
  obtain ⟨hG', v', hV'⟩ := h'
  have hlen := hG.len
  have hlen2 := hG'.len
  obtain ⟨a, c, rfl, _, hE⟩ := own_elems hV.row
  obtain ⟨a', c', rfl, _, hE'⟩ := own_elems hV'.row
  have c0 := cell_blk hV.blk 0
  have c1 := cell_blk hV'.blk 0
  simp only [List.getElem?_toArray, List.getElem?_cons_zero] at c0 c1
  have hpz := lt_of_block hV.blk
  have hqz := lt_of_block hV'.blk
  have HE := hid hE
  have HE' := hid hE'
  have HD : Hid (decide (L = M) = decide (L = M)) := rfl
  obtain ⟨bb, hbb⟩ : ∃ bb, decide (L = M) = bb := ⟨_, rfl⟩
  have HB := hid hbb
  rw [hbb]
  clear hV hV' hE hE' hG hG' hbb HD
  have hlen' : (L.length : Int) ≤ 1048576 := by omega
  by_cases hn : L.length = M.length
  case neg =>
    have hne : (((L.length : Int)) == (M.length : Int)) = false := by simp; omega
    obtain rfl : bb = false := by rw [← HB.out]; exact decide_eq_false (fun e => hn (by rw [e]))
    go_enter Try.func23, Try.ntmps23
    go_wp2_with fail
    go_region
    go_wp2_with fail
    try rw [Exit.noGoto_ret]
    go_ret
    exact ⟨rfl, (Fr.refl No w).drew⟩
  case pos =>
    obtain ⟨n, hLn⟩ : ∃ n, L.length = n := ⟨_, rfl⟩
    have hMn : M.length = n := by omega
    have HLn := hid hLn
    have HMn := hid hMn
    rw [hLn] at c0 hlen'
    rw [hMn] at c1
    clear hn hLn hMn
    go_enter Try.func23, Try.ntmps23
    go_wp2_with fail
    go_region
    go_wp2_with fail
    go_loopg [35] n (fun g i wr => ∃ k : Nat, k + g = n ∧ i = .int .i64 k ∧ Hid (∀ i, i < k → L[i]? = M[i]?) ∧ Hid (Fr No w wr))
    case atStart => exact ⟨0, by omega, rfl, fun i h => by omega, (Fr.refl No w).drew⟩
    case round =>
      obtain ⟨k, hk, rfl, HA, HF⟩ := hrel
      have d1 := (HF.out.cell (p := ⟨q, 0, none⟩) hqz id).trans c1
      have d1a := fun o => cell_allocd o d1
      clear c0 c1
      cases gk with
      | zero =>
        obtain rfl : k = n := by omega
        obtain rfl : bb = true := by
          rw [← HB.out]
          refine decide_eq_true (List.ext_getElem? (fun i => ?_))
          rcases Nat.lt_or_ge i k with e | e
          · exact HA.out i e
          · rw [List.getElem?_eq_none (by rw [HLn.out]; exact e), List.getElem?_eq_none (by rw [HMn.out]; exact e)]
        go_wp2_with fail
        try rw [Exit.noGoto_ret]
        go_ret
        exact ⟨rfl, HF.out⟩
      | succ g =>
        have hkL : k < L.length := by rw [HLn.out]; omega
        have hkM : k < M.length := by rw [HMn.out]; omega
        have hki : (k : Int) < (n : Int) := by omega
        obtain ⟨b, o, rfl, hb, x0, x1⟩ := HE.out.sp2 k hkL
        obtain ⟨b', o', rfl, hb', y0, y1⟩ := HE'.out.sp2 k hkM
        have HKL := hid (List.getElem?_eq_getElem hkL)
        have HKM := hid (List.getElem?_eq_getElem hkM)
        obtain ⟨x, hx⟩ : ∃ x, L[k] = x := ⟨_, rfl⟩
        obtain ⟨y, hy⟩ : ∃ y, M[k] = y := ⟨_, rfl⟩
        rw [hx] at x0 x1 HKL
        rw [hy] at y0 y1 HKM
        clear hx hy
        have x0' := (HF.out.cell (p := ⟨b, o + k * 2, none⟩) hb id).trans x0
        have x1' := (HF.out.cell (p := ⟨b, o + k * 2 + 1, none⟩) hb id).trans x1
        have y0' := (HF.out.cell (p := ⟨b', o' + k * 2, none⟩) hb' id).trans y0
        have y1' := (HF.out.cell (p := ⟨b', o' + k * 2 + 1, none⟩) hb' id).trans y1
        have y0a := fun o => cell_allocd o y0'
        have y1a := fun o => cell_allocd o y1'
        clear x0 x1 y0 y1 y0' y1' hkL hkM hlen hlen2 hb hb' hpz hqz
        obtain ⟨x1, x2⟩ := x
        obtain ⟨y1, y2⟩ := y
        go_wp2_with fail
        by_cases he : x1 = y1 ∧ x2 = y2
        · obtain ⟨rfl, rfl⟩ := he
          go_region
          go_wp2_with fail
          go_roundg g
          case measure => omega
          case rel =>
            refine ⟨k + 1, by omega, by go_num, fun i hi => ?_, (HF.out.alloc _).drew⟩
            rcases Nat.lt_succ_iff_lt_or_eq.1 hi with e | e
            · exact HA.out i e
            · subst e; rw [HKL.out, HKM.out]
        · have HNE : Hid (L ≠ M) := fun e => by
            have h1 := HKL.out
            rw [e, HKM.out] at h1
            injection h1 with h1
            injection h1 with e1 e2
            exact he ⟨e1.symm, e2.symm⟩
          obtain rfl : bb = false := by rw [← HB.out]; exact decide_eq_false HNE.out
          by_cases e1 : x1 = y1
          · subst e1
            have h2 : ¬ ((x2 : Int) = (y2 : Int)) := fun e => he ⟨rfl, by omega⟩
            clear he
            go_region
            go_wp2_with fail
            try rw [Exit.noGoto_ret]
            go_ret
            exact ⟨rfl, (HF.out.alloc _).drew⟩
          · have h1 : ¬ ((x1 : Int) = (y1 : Int)) := by omega
            clear he e1
            go_region
            go_wp2_with fail
            try rw [Exit.noGoto_ret]
            go_ret
            exact ⟨rfl, (HF.out.alloc _).drew⟩
end Go.Proofs.Ytdehojhipiklmaa
