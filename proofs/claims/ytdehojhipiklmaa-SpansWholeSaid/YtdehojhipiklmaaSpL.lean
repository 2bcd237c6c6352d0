/- spans: list, Len, Meets, Has. -/
import Derived.Test.YtdehojhipiklmaaSpCu
namespace Go.Proofs.Ytdehojhipiklmaa
open Go.RowKit

def sumN : List Sp → Nat
  | [] => 0
  | s :: l => s.2 + sumN l
theorem sumN_append (a b : List Sp) : sumN (a ++ b) = sumN a + sumN b := by
  induction a with
  | nil => simp [sumN]
  | cons s a ih => simp only [List.cons_append, sumN, ih]; omega
theorem sum_bound : ∀ (l : List Sp) (b : Nat), Good l → (∀ s ∈ l, b ≤ s.1) → (∀ s ∈ l, s.1 + s.2 ≤ 1048576) → b ≤ 1048576 → b + sumN l ≤ 1048576
  | [], b, _, _, _, h => by simpa [sumN] using h
  | s :: l, b, hg, hb, hm, _ => by
    obtain ⟨h1, h2, h3⟩ := good_cons.1 hg
    have h4 := hb s (List.mem_cons_self ..)
    have h5 := hm s (List.mem_cons_self ..)
    have := sum_bound l (s.1 + s.2) h3 (fun t ht => by have := h2 t ht; omega) (fun t ht => hm t (List.mem_cons_of_mem _ ht)) h5
    simp only [sumN]; omega
theorem GoodB.sum {l : List Sp} (h : GoodB l) : sumN l ≤ 1048576 := by
  have := sum_bound l 0 h.1 (fun _ _ => Nat.zero_le _) h.2 (Nat.zero_le _)
  omega
theorem sumN_take (l : List Sp) (k : Nat) : sumN (l.take k) ≤ sumN l := by
  have e : sumN l = sumN (l.take k) + sumN (l.drop k) := by rw [← sumN_append, List.take_append_drop]
  omega
theorem sp_list (w : World) (p : Nat) (S : Nat → Prop) (L : List Sp) (v : Value) (h : StV w p S L v) : Calls Try.prog 28 #[.pointer (some ⟨p, 0, none⟩)] w fun e w' => e = .returned v ∧ w' = w := by
  obtain ⟨a, c, rfl, _, _⟩ := own_elems h.row
  have c0 := cell_blk h.blk 0
  simp only [List.getElem?_toArray, List.getElem?_cons_zero] at c0
  clear h
  go_enter Try.func28, Try.ntmps28
  go_wp2_with fail
  go_ret
  exact ⟨rfl, rfl⟩
set_option maxRecDepth 100000 in
theorem sp_Len (w : World) (p : Nat) (S : Nat → Prop) (L : List Sp) (h : St w p S L) : Calls Try.prog 18 #[.pointer (some ⟨p, 0, none⟩)] w fun e w' => e = .returned (.int .i64 (sumN L)) ∧ Fr No w w' := by
  obtain ⟨hG, v, hV⟩ := h
  have hlen := hG.len
  have hsum := hG.sum
  have HL := hid (sp_list w p S L v hV)
  obtain ⟨a, c, rfl, _, hE⟩ := own_elems hV.row
  have HE := hid hE
  clear hV hE hG
  have hlen' : (L.length : Int) ≤ 1048576 := by omega
  go_enter Try.func18, Try.ntmps18
  go_wp2_with fail
  refine HL.out.mono ?_
  rintro e w1 ⟨rfl, e1⟩
  subst e1
  clear HL
  go_wp2_with fail
  go_loopg [3, 9] L.length (fun g x i wr => ∃ k : Nat, k + g = L.length ∧ x = .int .i64 (sumN (L.take k) : Nat) ∧ i = .int .i64 k ∧ Hid (Fr No w1 wr))
  case atStart => exact ⟨0, by omega, rfl, rfl, Fr.refl _ _⟩
  case round =>
    obtain ⟨k, hk, rfl, rfl, HF⟩ := hrel
    cases gk with
    | zero =>
      obtain rfl : k = L.length := by omega
      have HT : Hid (L.take L.length = L) := List.take_length
      go_wp2_with fail
      try rw [Exit.noGoto_ret]
      go_ret
      exact ⟨by rw [HT.out]; rfl, HF.out⟩
    | succ g =>
      have hkm : k < L.length := by omega
      have hki : (k : Int) < (L.length : Int) := by omega
      have HT : Hid (sumN (L.take (k + 1)) = sumN (L.take k) + L[k].2) := by
        unfold Hid; rw [List.take_succ_eq_append_getElem hkm, sumN_append]; simp [sumN]
      obtain ⟨b, o, rfl, hb, c0, c1⟩ := HE.out.sp2 k hkm
      have hs1 := sumN_take L (k + 1)
      rw [HT.out] at hs1
      obtain ⟨s, hs⟩ : ∃ s, L[k] = s := ⟨_, rfl⟩
      rw [hs] at c0 c1 HT hs1
      obtain ⟨m, hm⟩ : ∃ m, sumN (L.take k) = m := ⟨_, rfl⟩
      rw [hm] at HT hs1 ⊢
      have e0 := (HF.out.cell (p := ⟨b, o + k * 2, none⟩) hb id).trans c0
      have e1 := (HF.out.cell (p := ⟨b, o + k * 2 + 1, none⟩) hb id).trans c1
      obtain ⟨s1, s2⟩ := s
      have hs2 : (m : Int) + (s2 : Int) ≤ 1048576 := by have : m + s2 ≤ sumN L := hs1; omega
      clear c0 c1 hs hm hs1
      go_wp2_with fail
      go_roundg g
      case measure => omega
      case rel => exact ⟨k + 1, by omega, by rw [HT.out]; go_num, by go_num, HF.out.alloc _⟩
def meetsB (L : List Sp) (a n : Int) : Bool := mayB a n && !(n == 0) && decide (firstOf L a < lastOf L a (a + n - 1))
set_option maxRecDepth 100000 in
theorem sp_Meets (w : World) (p : Nat) (S : Nat → Prop) (L : List Sp) (h : St w p S L) (a n : Int) : Calls Try.prog 21 #[.pointer (some ⟨p, 0, none⟩), .agg #[.int .i64 a, .int .i64 n]] w fun e w' => e = .returned (.bool (meetsB L a n)) ∧ Fr No w w' := by
  have hb0 := heap_new w (.cells #[.int .i64 a, .int .i64 n] 24)
  have hbk : w.heap.size < (w.alloc (.cells #[.int .i64 a, .int .i64 n] 24)).heap.size := lt_of_block hb0
  have HF := hid ((Fr.refl No w).alloc (.cells #[.int .i64 a, .int .i64 n] 24))
  have b0 := cell_blk hb0 0
  have b1 := cell_blk hb0 1
  simp only [List.getElem?_toArray, List.getElem?_cons_zero, List.getElem?_cons_succ] at b0 b1
  clear hb0
  have HH := hid h
  clear h
  have HB : Hid (meetsB L a n = (mayB a n && !(n == 0) && decide (firstOf L a < lastOf L a (a + n - 1)))) := rfl
  have HI := hid (@mayB_iff a n)
  obtain ⟨mb, hmb⟩ : ∃ mb, meetsB L a n = mb := ⟨_, rfl⟩
  rw [hmb] at HB ⊢
  clear hmb
  obtain ⟨b, hb⟩ : ∃ b, mayB a n = b := ⟨_, rfl⟩
  have HM := hid hb
  rw [hb] at HB
  clear hb
  go_enter Try.func21, Try.ntmps21
  go_wp2_with fail
  refine (sp_may _ a n).mono ?_
  rw [HM.out]
  rintro e w1 ⟨rfl, hF⟩
  have HF1 := hid (HF.out.trans hF)
  have c0 := (hF.cell (p := ⟨w.heap.size, 0, none⟩) hbk id).trans b0
  have c1 := (hF.cell (p := ⟨w.heap.size, 1, none⟩) hbk id).trans b1
  clear hF b0 b1 hbk
  cases b with
  | false =>
    obtain rfl : mb = false := HB.out
    go_wp2_with fail
    try rw [Exit.noGoto_ret]
    go_ret
    exact ⟨rfl, HF1.out⟩
  | true =>
    obtain ⟨h1, h2, h3⟩ := HI.out.1 HM.out
    by_cases hn : n = 0
    · subst hn
      obtain rfl : mb = false := HB.out
      go_wp2_with fail
      try rw [Exit.noGoto_ret]
      go_ret
      exact ⟨rfl, HF1.out⟩
    · have hn0 : (n == 0) = false := by simpa using hn
      have HB2 : Hid (mb = decide (firstOf L a < lastOf L a (a + n - 1))) := by unfold Hid; rw [HB.out, hn0]; rfl
      have ha' : a ≤ 1048576 := by omega
      have hn' : n ≤ 1048576 := by omega
      clear HB
      go_wp2_with fail
      refine (sp_around w1 p S L (HH.out.no HF1.out) a (a + n - 1) (by omega) (by omega)).mono ?_
      rintro e w2 ⟨rfl, hF⟩
      have HF2 := hid (HF1.out.trans hF)
      clear hF c0 c1
      obtain ⟨f, hf⟩ : ∃ f, firstOf L a = f := ⟨_, rfl⟩
      obtain ⟨t, ht⟩ : ∃ t, lastOf L a (a + n - 1) = t := ⟨_, rfl⟩
      rw [hf] at HB2 ⊢
      rw [ht] at HB2 ⊢
      clear hf ht
      by_cases hlt : f < t
      · have hlt' : (f : Int) < (t : Int) := by omega
        obtain rfl : mb = true := by rw [HB2.out]; exact decide_eq_true hlt
        go_wp2_with fail
        try rw [Exit.noGoto_ret]
        go_ret
        exact ⟨rfl, HF2.out⟩
      · have hlt' : (t : Int) ≤ (f : Int) := by omega
        obtain rfl : mb = false := by rw [HB2.out]; exact decide_eq_false hlt
        go_wp2_with fail
        try rw [Exit.noGoto_ret]
        go_ret
        exact ⟨rfl, HF2.out⟩
theorem sp_Has (w : World) (p : Nat) (S : Nat → Prop) (L : List Sp) (h : St w p S L) (n : Int) : Calls Try.prog 20 #[.pointer (some ⟨p, 0, none⟩), .int .i64 n] w fun e w' => e = .returned (.bool (meetsB L n 1)) ∧ Fr No w w' := by
  have HM := hid (sp_Meets w p S L h n 1)
  clear h
  go_enter Try.func20, Try.ntmps20
  go_wp2_with fail
  refine HM.out.mono ?_
  rintro e w1 ⟨rfl, hF⟩
  have HF := hid hF
  clear hF
  go_wp2_with fail
  go_ret
  exact ⟨rfl, HF.out⟩
/-- whether a number is in -/
theorem meetsB_has (L : List Sp) (hg : GoodB L) (n : Nat) (hn : n < 1048576) : meetsB L n 1 = true ↔ hasL L n := by
  have hm : mayB (n : Int) 1 = true := mayB_nat (n := 1) (by omega)
  unfold meetsB
  rw [hm]
  have := meets_iff L hg.1 n 1 (by omega)
  simp only [Bool.true_and, Bool.and_eq_true, decide_eq_true_eq]
  constructor
  · rintro ⟨_, h⟩
    obtain ⟨y, h1, h2, h3⟩ := this.1 h
    obtain rfl : y = n := by omega
    exact h3
  · exact fun h => ⟨by decide, this.2 ⟨n, Nat.le_refl _, by omega, h⟩⟩
end Go.Proofs.Ytdehojhipiklmaa
