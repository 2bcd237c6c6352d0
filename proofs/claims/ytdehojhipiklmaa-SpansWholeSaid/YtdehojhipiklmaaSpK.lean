/- spans: slices.Clone, Copy; New; Same. -/
import Derived.Test.YtdehojhipiklmaaSpL
namespace Go.Proofs.Ytdehojhipiklmaa
open Go.RowKit

set_option maxRecDepth 100000 in
set_option maxHeartbeats 1000000 in
theorem cloneS (w : World) (g o n c : Nat) (xs : List Value) (hl : xs.length = n * 2) (hx : ∀ j u, xs[j]? = some u → w.cell? ⟨g, o + j, none⟩ = some u) (h1 : ∀ u ∈ xs, u.oneCell' = true) (hn : n ≤ 2000000) :
    Calls Try.prog 32 #[.slice (some ⟨g, o, none⟩) n c] w fun e w' => ∃ v, e = .returned v ∧ w'.ownsRow w.heap.size 24 2 v n xs ∧ Fr No w w' := by
  obtain ⟨i0, hi, hz0, hz1, hz2⟩ := info_parts sp_info
  have HN : Hid (∀ j u, xs[j]? = some u → (w.alloc (.cells #[] 24)).cell? ((⟨g, o, none⟩ : Addr).add j) = some u) := fun j u hu => by
    rw [Addr.add_mid]; exact cell_allocd (.cells #[] 24) (hx j u hu)
  have HO : Hid ((w.alloc (.cells #[] 24)).ownsRow w.heap.size 24 2 (.slice (some ⟨w.heap.size, 0, none⟩) 0 0) 0 []) := ⟨by simp, .inr ⟨w.heap.size, 0, #[], rfl, Nat.le_refl _, heap_new w _, Nat.le_refl _, Nat.zero_le _, by simp, by simp⟩⟩
  have hne : ∀ W, (binOp .eql 39 (.slice (some ⟨g, o, none⟩) n c) (.slice none 0 0)).run Try.prog W = .ok (.bool false) W := fun W => rfl
  have H1 := hid h1
  have HL := hid hl
  clear hx h1 hl
  go_enter Try.func32, Try.ntmps32
  go_wp2_with (at_builtin; refine wpList_append_own _ rfl (.tmp 5) (.tmp 6) 39 rfl w.heap.size 24 i0 (.agg #[.int .i64 0, .int .i64 0]) 2 16 Try.underlying39 hi hz0 hz1 hz2 (by kernel_rfl) (by decide) _ 0 [] rfl HO.out ⟨g, o, none⟩ n c xs rfl HL.out HN.out H1.out (by unfold maxLen; omega) (by omega) (by simp) ?_; intro v' w1 hown hgrow hnone; clear hnone; have HF1 := hid (((Fr.refl No w).alloc (.cells #[] 24)).grown hgrow (fun k h hk => by cases h; exact absurd hk (Nat.lt_irrefl _))); clear hgrow; rw [Nat.zero_add, List.nil_append] at hown; have HW := hid hown; clear hown)
  go_ret
  exact ⟨_, rfl, HW.out, HF1.out⟩
theorem cloneS_nil (w : World) : Calls Try.prog 32 #[.slice none 0 0] w fun e w' => e = .returned (.slice none 0 0) ∧ w' = w := by
  have hne : ∀ W, (binOp .eql 39 (.slice none 0 0) (.slice none 0 0)).run Try.prog W = .ok (.bool true) W := fun W => rfl
  go_enter Try.func32, Try.ntmps32
  go_wp2
  go_ret
  exact ⟨rfl, rfl⟩
theorem cloneS_own (w : World) (v : Value) (L : List Sp) (h : w.ownsRow 0 24 2 v L.length (L.flatMap spV)) (hn : L.length ≤ 2000000) : Calls Try.prog 32 #[v] w fun e w' => ∃ v', e = .returned v' ∧ w'.ownsRow 0 24 2 v' L.length (L.flatMap spV) ∧ (∀ k, v'.ownBlock = some k → w.heap.size ≤ k) ∧ Fr No w w' := by
  obtain ⟨hl, ⟨rfl, hz⟩ | ⟨g, cap, cur, rfl, _, hb, h4, h5, h6, h7⟩⟩ := h
  · refine (cloneS_nil w).mono ?_
    rintro e w' ⟨rfl, rfl⟩
    exact ⟨_, rfl, ⟨hl, .inl ⟨rfl, hz⟩⟩, fun k hk => by simp [Value.ownBlock] at hk, Fr.refl _ _⟩
  · refine (cloneS w g 0 L.length cap _ hl (fun j u hu => ?_) (flat_one spV_one _) hn).mono ?_
    · rw [Nat.zero_add, cell_blk hb]
      rw [← h7, List.getElem?_take] at hu
      split at hu
      · simpa using hu
      · cases hu
    · rintro e w' ⟨v, rfl, ho, hF⟩
      exact ⟨v, rfl, own_mono ho, fun k hk => own_ge2 ho hk, hF⟩
theorem sp_Copy (w : World) (p : Nat) (S : Nat → Prop) (L : List Sp) (h : St w p S L) : Calls Try.prog 24 #[.pointer (some ⟨p, 0, none⟩)] w fun e w' => ∃ q S', e = .returned (.pointer (some ⟨q, 0, none⟩)) ∧ St w' q S' L ∧ (∀ k, S' k → w.heap.size ≤ k) ∧ Fr No w w' := by
  obtain ⟨hG, v, hV⟩ := h
  have hlen := hG.len
  have HC := hid (cloneS_own w v L hV.row (by omega))
  obtain ⟨a, c, rfl, _, _⟩ := own_elems hV.row
  have c0 := cell_blk hV.blk 0
  simp only [List.getElem?_toArray, List.getElem?_cons_zero] at c0
  have HG := hid hG
  clear hV hG
  go_enter Try.func24, Try.ntmps24
  go_wp2_with fail
  refine HC.out.mono ?_
  rintro e w1 ⟨v', rfl, ho, hk, hF⟩
  obtain ⟨a1, c1, rfl, _, _⟩ := own_elems ho
  have HO := hid ho
  have HK := hid hk
  have HF := hid hF
  clear ho hk hF HC c0
  go_wp2_with fail
  go_ret
  have hsz := HF.out.size
  refine ⟨w1.heap.size, fun k => k = w1.heap.size ∨ (Value.slice a1 L.length c1).ownBlock = some k, rfl, ⟨HG.out, .slice a1 L.length c1, ?_⟩, ?_, HF.out.alloc _⟩
  · have f1 : Fr No w1 (w1.alloc (.cells #[.slice a1 L.length c1] 59)) := (Fr.refl No w1).alloc (.cells #[.slice a1 L.length c1] 59)
    have hl := lt_of_block (heap_new w1 (.cells #[.slice a1 L.length c1] 59))
    refine ⟨heap_new w1 _, own_frk HO.out f1 (fun _ _ => id), .inl rfl, fun k hk => .inr hk, fun k hk => ?_⟩
    rcases hk with rfl | hk
    · exact hl
    · obtain ⟨cs, hc⟩ := own_ty HO.out hk
      exact f1.lt (lt_of_block hc)
  · rintro k (rfl | hk)
    · exact hsz
    · exact HK.out k hk
/-! New -/
abbrev ISp := Int × Int
def ispV (s : ISp) : List Value := [.int .i64 s.1, .int .i64 s.2]
theorem ispV_len (s : ISp) : (ispV s).length = 2 := rfl
theorem Elems.isp2 {w : World} {a : Option Addr} {L : List ISp} (h : Elems ispV 2 w a L) (i : Nat) (hi : i < L.length) : ∃ b o, a = some ⟨b, o, none⟩ ∧ b < w.heap.size ∧ w.cell? ⟨b, o + i * 2, none⟩ = some (.int .i64 L[i].1) ∧ w.cell? ⟨b, o + i * 2 + 1, none⟩ = some (.int .i64 L[i].2) := by
  rcases h with h | ⟨b, o, e, hb, hc⟩
  · subst h; simp at hi
  · exact ⟨b, o, e, hb, hc i 0 hi (by omega), hc i 1 hi (by omega)⟩
def addI (L : List Sp) (x : ISp) : List Sp := addL L x.1.toNat x.2.toNat
def newL (l : List ISp) : List Sp := l.foldl addI []
def rightAll (l : List ISp) : Bool := l.all fun x => mayB x.1 x.2
theorem newL_snoc (l : List ISp) (k : Nat) (hk : k < l.length) : newL (l.take (k + 1)) = addI (newL (l.take k)) l[k] := by
  unfold newL; rw [List.take_succ_eq_append_getElem hk, List.foldl_append]; rfl
theorem rightAll_at {l : List ISp} {k : Nat} (hk : k < l.length) (h : mayB l[k].1 l[k].2 = false) : rightAll l = false := by
  unfold rightAll
  rw [List.all_eq_false]
  exact ⟨_, List.getElem_mem hk, by rw [h]; decide⟩
theorem rightAll_all {l : List ISp} (h : ∀ i (hi : i < l.length), mayB l[i].1 l[i].2 = true) : rightAll l = true := by
  unfold rightAll
  rw [List.all_eq_true]
  intro x hx
  obtain ⟨i, hi, rfl⟩ := List.getElem_of_mem hx
  exact h i hi
theorem mayB_toNat {a n : Int} (h : mayB a n = true) : ∃ x y : Nat, a = x ∧ n = y ∧ x + y ≤ 1048576 := by
  obtain ⟨h1, h2, h3⟩ := mayB_iff.1 h
  exact ⟨a.toNat, n.toNat, by omega, by omega, by omega⟩
theorem GoodB.nil : GoodB [] := ⟨Good.nil, fun s h => by simp at h⟩
theorem addI_good (L : List Sp) (hg : GoodB L) (x : ISp) (h : mayB x.1 x.2 = true) : GoodB (addI L x) := by
  obtain ⟨a, n, e1, e2, hl⟩ := mayB_toNat h
  unfold addI
  rw [e1, e2]
  exact (addL_good L hg _ _ (by simpa using hl)).1
/-- a set, new -/
def NewSt (w w' : World) (v : Value) (L : List Sp) : Prop := ∃ p S, v = .pointer (some ⟨p, 0, none⟩) ∧ St w' p S L ∧ (∀ k, S k → w.heap.size ≤ k) ∧ Fr No w w'
set_option maxRecDepth 100000 in
set_option maxHeartbeats 1000000 in
theorem sp_New (w : World) (a : Option Addr) (c : Nat) (l : List ISp) (hl : (l.length : Int) ≤ 9223372036854775807) (h : Elems ispV 2 w a l) : Calls Try.prog 9 #[.slice a l.length c] w fun e w' =>
    (rightAll l = true ∧ ∃ v, e = .returned (.tuple #[v, .int .i64 0]) ∧ NewSt w w' v (newL l)) ∨ (rightAll l = false ∧ e = .returned (.tuple #[.pointer none, .int .i64 10]) ∧ Fr No w w') := by
  have HE := hid h
  clear h
  have HS0 : Hid (St (w.alloc (.cells #[.slice none 0 0] 59)) w.heap.size (fun k => k = w.heap.size) []) := ⟨GoodB.nil, _, heap_new w _, ⟨rfl, .inl ⟨rfl, rfl⟩⟩, rfl, fun k hk => by simp [Value.ownBlock] at hk, fun k hk => by subst hk; exact lt_of_block (heap_new w _)⟩
  go_enter Try.func9, Try.ntmps9
  go_wp2_with fail
  obtain ⟨w0, hw0⟩ : ∃ w0, w.alloc (.cells #[.slice none 0 0] 59) = w0 := ⟨_, rfl⟩
  have HF0 : Hid (Fr No w w0) := by rw [← hw0]; exact (Fr.refl No w).alloc _
  rw [hw0] at HS0 ⊢
  clear hw0
  obtain ⟨p, hp⟩ : ∃ p, w.heap.size = p := ⟨_, rfl⟩
  have HP := hid hp
  rw [hp] at HS0 ⊢
  clear hp
  go_loopg [12] l.length (fun g i wr => ∃ k : Nat, k + g = l.length ∧ i = .int .i64 k ∧ Hid (∀ i (hi : i < l.length), i < k → mayB l[i].1 l[i].2 = true) ∧ Hid (∃ S, St wr p S (newL (l.take k)) ∧ ∀ q, S q → w.heap.size ≤ q) ∧ Hid (Fr No w wr))
  case atStart => exact ⟨0, by omega, rfl, fun i hi h => by omega, ⟨_, HS0.out, fun q hq => by rw [HP.out]; exact Nat.le_of_eq hq.symm⟩, HF0.out⟩
  case round =>
    obtain ⟨k, hk, rfl, HA, HS, HF⟩ := hrel
    cases gk with
    | zero =>
      obtain rfl : k = l.length := by omega
      go_wp2_with fail
      try rw [Exit.noGoto_ret]
      go_ret2
      obtain ⟨S, hS, hq⟩ := HS.out
      rw [List.take_length] at hS
      exact .inl ⟨rightAll_all (fun i hi => HA.out i hi hi), _, rfl, p, S, rfl, hS, hq, HF.out⟩
    | succ g =>
      have hkm : k < l.length := by omega
      have hki : (k : Int) < (l.length : Int) := by omega
      obtain ⟨b, o, rfl, hb, c0, c1⟩ := HE.out.isp2 k hkm
      have HN := hid (newL_snoc l k hkm)
      have HRF := hid (@rightAll_at l k hkm)
      obtain ⟨s, hs⟩ : ∃ s, l[k] = s := ⟨_, rfl⟩
      have HSK := hid hs
      rw [hs] at c0 c1 HN HRF
      have e0 := (HF.out.cell (p := ⟨b, o + k * 2, none⟩) hb id).trans c0
      have e1 := (HF.out.cell (p := ⟨b, o + k * 2 + 1, none⟩) hb id).trans c1
      clear c0 c1 hs
      obtain ⟨x, y⟩ := s
      go_wp2_with fail
      have hfA : Fr No wr (wr.alloc (.cells #[.int .i64 x, .int .i64 y] 24)) := (Fr.refl No wr).alloc _
      cases hm : mayB x y with
      | false =>
        have HR : Hid (rightAll l = false) := HRF.out hm
        refine (sp_Add_bad _ p x y hm).mono ?_
        rintro e w1 ⟨rfl, hF⟩
        have HF1 := hid ((HF.out.trans hfA).trans hF)
        clear hF hfA hm e0 e1
        go_wp2_with fail
        try rw [Exit.noGoto_ret]
        go_ret2
        exact .inr ⟨HR.out, rfl, HF1.out⟩
      | true =>
        obtain ⟨S, hS, hq⟩ := HS.out
        have HM := hid hm
        obtain ⟨x', y', ex, ey, hxy⟩ := mayB_toNat hm
        subst ex ey
        clear hm
        refine (sp_Add _ p S (newL (l.take k)) (hS.no hfA) x' y' hxy).mono ?_
        rintro e w1 ⟨rfl, S', hS', hq', hF⟩
        have HS1 : Hid (∃ S, St w1 p S (newL (l.take (k + 1))) ∧ ∀ q, S q → w.heap.size ≤ q) := ⟨S', by rw [HN.out]; exact hS', fun q h => (hq' q h).elim (hq q) (fun e => by have := (HF.out.trans hfA).size; omega)⟩
        have HF1 : Hid (Fr No w w1) := (HF.out.trans hfA).then hF (fun i hi h => absurd (hq i h) (by omega))
        clear hF hfA e0 e1 hS hq hS' hq'
        go_wp2_with fail
        go_roundg g
        case measure => omega
        case rel =>
          refine ⟨k + 1, by omega, by go_num, fun i hi hik => ?_, HS1.out, HF1.out⟩
          rcases Nat.lt_succ_iff_lt_or_eq.1 hik with e | e
          · exact HA.out i hi e
          · subst e; rw [HSK.out]; exact HM.out
end Go.Proofs.Ytdehojhipiklmaa
