/- lavaboref03: Spans. -/
import Derived.Test.YtdehojhipiklmaaSpRf
namespace Go.Proofs.Ytdehojhipiklmaa
open Go.RowKit

/-- the spans of the numbers below k -/
structure Upto (R : List Bool) (k : Nat) (X : List Sp) : Prop where
  good : Good X
  ends : ∀ s ∈ X, s.1 + s.2 ≤ k
  has : ∀ y, hasL X y ↔ y < k ∧ onB R y
theorem Upto.zero (R : List Bool) : Upto R 0 [] := ⟨Good.nil, fun s h => by simp at h, fun y => ⟨fun h => absurd h (hasL_nil y), fun h => by omega⟩⟩
theorem Upto.skip {R : List Bool} {k : Nat} {X : List Sp} (h : Upto R k X) (hk : ¬ onB R k) : Upto R (k + 1) X :=
  ⟨h.good, fun s hs => by have := h.ends s hs; omega, fun y => (h.has y).trans ⟨fun e => ⟨by omega, e.2⟩, fun e => ⟨by
    rcases Nat.lt_or_eq_of_le (show y ≤ k by omega) with g | rfl
    · exact g
    · exact absurd e.2 hk, e.2⟩⟩⟩
theorem Upto.fresh {R : List Bool} {k : Nat} {X : List Sp} (h : Upto R k X) (hk : onB R k) (hp : k = 0 ∨ ¬ onB R (k - 1)) : Upto R (k + 1) (X ++ [(k, 1)]) := by
  have hlt : ∀ s ∈ X, s.1 + s.2 < k := fun s hs => by
    rcases Nat.lt_or_eq_of_le (h.ends s hs) with g | g
    · exact g
    · have h1 := h.good.1 s hs
      exact absurd ((h.has (k - 1)).1 ⟨s, hs, by omega, by omega⟩).2 (hp.resolve_left (by omega))
  refine ⟨⟨fun s hs => ?_, List.pairwise_append.2 ⟨h.good.2, List.pairwise_singleton _ _, fun s hs t ht => ?_⟩⟩, fun s hs => ?_, fun y => ?_⟩
  · rcases List.mem_append.1 hs with hs | hs
    · exact h.good.1 s hs
    · have : s = (k, 1) := by simpa using hs
      subst this; exact Nat.le_refl _
  · have : t = (k, 1) := by simpa using ht
    subst this; exact hlt s hs
  · rcases List.mem_append.1 hs with hs | hs
    · have := hlt s hs; omega
    · have : s = (k, 1) := by simpa using hs
      subst this; exact Nat.le_refl _
  · rw [hasL_append, h.has]
    constructor
    · rintro (⟨h1, h2⟩ | ⟨s, hs, h1, h2⟩)
      · exact ⟨by omega, h2⟩
      · have : s = (k, 1) := by simpa using hs
        subst this
        have h1 : k ≤ y := h1
        have h2 : y < k + 1 := h2
        obtain rfl : y = k := by omega
        exact ⟨h2, hk⟩
    · rintro ⟨h1, h2⟩
      rcases Nat.lt_or_eq_of_le (show y ≤ k by omega) with g | rfl
      · exact .inl ⟨g, h2⟩
      · exact .inr ⟨(y, 1), List.mem_singleton_self _, Nat.le_refl _, Nat.lt_succ_self _⟩
/-- where the number before is in there is a last span, and it ends here -/
theorem Upto.last {R : List Bool} {k : Nat} {X : List Sp} (h : Upto R k X) (hk : 0 < k) (hp : onB R (k - 1)) : ∃ Y s, X = Y ++ [s] ∧ s.1 + s.2 = k := by
  obtain ⟨t, ht, h1, h2⟩ := (h.has (k - 1)).2 ⟨by omega, hp⟩
  rcases List.eq_nil_or_concat X with rfl | ⟨Y, s, hX⟩
  · simp at ht
  · rw [List.concat_eq_append] at hX
    subst hX
    refine ⟨Y, s, rfl, ?_⟩
    have h3 := h.ends s (by simp)
    rcases List.mem_append.1 ht with ht | ht
    · have h4 := (List.pairwise_append.1 h.good.2).2.2 t ht s (by simp)
      have h5 := h.good.1 s (by simp)
      omega
    · have : t = s := by simpa using ht
      subst this
      omega
theorem Upto.grow {R : List Bool} {k : Nat} {Y : List Sp} {s : Sp} (h : Upto R k (Y ++ [s])) (hs : s.1 + s.2 = k) (hk : onB R k) : Upto R (k + 1) (Y ++ [(s.1, s.2 + 1)]) := by
  obtain ⟨p1, p2, p3⟩ := List.pairwise_append.1 h.good.2
  refine ⟨⟨fun t ht => ?_, List.pairwise_append.2 ⟨p1, List.pairwise_singleton _ _, fun t ht u hu => ?_⟩⟩, fun t ht => ?_, fun y => ?_⟩
  · rcases List.mem_append.1 ht with ht | ht
    · exact h.good.1 t (List.mem_append_left _ ht)
    · have : t = (s.1, s.2 + 1) := by simpa using ht
      subst this; show 1 ≤ s.2 + 1; omega
  · have : u = (s.1, s.2 + 1) := by simpa using hu
    subst this; exact p3 t ht s (by simp)
  · rcases List.mem_append.1 ht with ht | ht
    · have := h.ends t (List.mem_append_left _ ht); omega
    · have : t = (s.1, s.2 + 1) := by simpa using ht
      subst this; show s.1 + (s.2 + 1) ≤ k + 1; omega
  · have hh := h.has y
    rw [hasL_append] at hh ⊢
    have e1 : hasL [s] y ↔ s.1 ≤ y ∧ y < k := ⟨fun ⟨t, ht, h1, h2⟩ => by
      have : t = s := by simpa using ht
      subst this; omega, fun ⟨h1, h2⟩ => ⟨s, List.mem_singleton_self _, h1, by omega⟩⟩
    have e2 : hasL [(s.1, s.2 + 1)] y ↔ s.1 ≤ y ∧ y < k + 1 := ⟨fun ⟨t, ht, h1, h2⟩ => by
      have : t = (s.1, s.2 + 1) := by simpa using ht
      subst this
      have h1 : s.1 ≤ y := h1
      have h2 : y < s.1 + (s.2 + 1) := h2
      omega, fun ⟨h1, h2⟩ => ⟨(s.1, s.2 + 1), List.mem_singleton_self _, h1, by show y < s.1 + (s.2 + 1); omega⟩⟩
    rw [e1] at hh
    rw [e2]
    by_cases hy : y = k
    · subst hy
      exact ⟨fun _ => ⟨by omega, hk⟩, fun _ => .inr ⟨by omega, by omega⟩⟩
    · constructor
      · rintro (g | g)
        · have := hh.1 (.inl g); exact ⟨by omega, this.2⟩
        · have := hh.1 (.inr ⟨g.1, by omega⟩); exact ⟨by omega, this.2⟩
      · rintro ⟨g1, g2⟩
        rcases hh.2 ⟨by omega, g2⟩ with g | g
        · exact .inl g
        · exact .inr ⟨g.1, by omega⟩
theorem Upto.len {R : List Bool} {k : Nat} {X : List Sp} (h : Upto R k X) (hk : k ≤ 200) : X.length ≤ 200 := by
  have h1 : ∀ (l : List Sp), (∀ s ∈ l, 1 ≤ s.2) → l.length ≤ sumN l := fun l => by
    induction l with
    | nil => intro _; exact Nat.le_refl _
    | cons s l ih =>
      intro hs
      have := ih (fun t ht => hs t (List.mem_cons_of_mem _ ht))
      have := hs s (List.mem_cons_self ..)
      rw [List.length_cons, sumN]; omega
  have hG : GoodB X := ⟨h.good, fun s hs => by have := h.ends s hs; omega⟩
  have h2 := h1 X h.good.1
  rw [sumN_has X hG, sumF_window (a := 0) (n := 200) _ (by omega) (fun y _ hy => ind_no (fun e => by have := (h.has y).1 e; omega))] at h2
  have h3 := sumF_le (P := fun i => hasL X (0 + i)) 200
  omega
theorem flat_last (Y : List Sp) (s : Sp) (v : Nat) : ((Y ++ [s]).flatMap spV).set (Y.length * 2 + 1) (.int .i64 (v : Int)) = (Y ++ [(s.1, v)]).flatMap spV := by
  rw [List.flatMap_append, List.flatMap_append]
  have e : (Y.flatMap spV).length = Y.length * 2 := flat_l Y
  rw [List.set_append_right _ _ (by rw [e]; omega), e, show Y.length * 2 + 1 - Y.length * 2 = 1 by omega]
  rfl
set_option maxRecDepth 100000 in
set_option maxHeartbeats 2000000 in
theorem rf_Spans (w : World) (q : Nat) (R : List Bool) (hR : RefAt w q R) :
    Calls Try.prog 17 #[.pointer (some ⟨q, 0, none⟩)] w fun e w' => ∃ v, e = .returned v ∧ ∃ X, Upto R 200 X ∧ Spn w w' v X ∧ Fr No w w' := by
  have HQ := hid hR.1
  have HL := hid hR.2
  have hqz := lt_of_block hR.1
  obtain ⟨i0, hi0, hz0, hz1, hz2⟩ := info_parts sp_info
  clear hR
  go_enter Try.func17, Try.ntmps17
  go_wp2_with fail
  go_loopg [3, 4] 200 (fun g x i wr => ∃ (k : Nat) (al : Option Addr) (cl nl : Nat) (X : List Sp), k + g = 200 ∧ x = .slice al nl cl ∧ i = .int .i64 k ∧ nl ≤ 200 ∧ Hid (X.length = nl) ∧ Hid (Upto R k X) ∧ Hid (wr.ownsRow 0 24 2 (.slice al nl cl) nl (X.flatMap spV)) ∧ Hid (∀ b, (Value.slice al nl cl).ownBlock = some b → w.heap.size ≤ b) ∧ Hid (Fr No w wr))
  case atStart => exact ⟨0, none, 0, 0, [], by omega, rfl, rfl, by omega, rfl, Upto.zero R, ⟨rfl, .inl ⟨rfl, rfl⟩⟩, fun b h => by simp [Value.ownBlock] at h, Fr.refl _ _⟩
  case round =>
    obtain ⟨k, al, cl, nl, X, hk, rfl, rfl, hnl, HXL, HU, HOWN, HNEW, HFR⟩ := hrel
    cases gk with
    | zero =>
      obtain rfl : k = 200 := by omega
      go_wp2_with fail
      try rw [Exit.noGoto_ret]
      go_ret
      exact ⟨_, rfl, X, HU.out, ⟨by rw [HXL.out]; exact HOWN.out, HNEW.out⟩, HFR.out⟩
    | succ g =>
      have hki : (k : Int) < 200 := by omega
      have hkR : k < R.length := by rw [HL.out]; omega
      have hqr : wr.heap[q]? = some (.cells (rb R) 33 (0, 0)) := (HFR.out.block q hqz id).trans HQ.out
      have c0 := (cell_blk hqr k).trans (rb_get hkR)
      have HO : Hid (R[k]? = some R[k]) := List.getElem?_eq_getElem hkR
      obtain ⟨xk, hxk⟩ : ∃ xk, R[k] = xk := ⟨_, rfl⟩
      rw [hxk] at c0 HO
      have HQR := hid hqr
      clear hkR hxk hqr
      cases xk with
      | false =>
        have HU2 := hid (HU.out.skip (fun e => by unfold onB at e; rw [HO.out] at e; cases e))
        go_wp2_with fail
        go_roundg g
        case measure => omega
        case rel => exact ⟨k + 1, al, cl, nl, X, by omega, rfl, by go_num, hnl, HXL.out, HU2.out, HOWN.out, HNEW.out, HFR.out⟩
      | true =>
        by_cases hp : 0 < k ∧ onB R (k - 1)
        · obtain ⟨hp1, hp2⟩ := hp
          obtain ⟨Y, s, hX, hs⟩ := HU.out.last hp1 hp2
          subst hX
          have HU2 := hid (HU.out.grow hs HO.out)
          obtain ⟨j, hj⟩ : ∃ j, Y.length = j := ⟨_, rfl⟩
          have hnj : nl = j + 1 := by rw [← HXL.out, List.length_append, hj]; rfl
          subst hnj
          have HJ := hid hj
          obtain ⟨ga, ca, hv⟩ := own_at0 (w := wr) (v := .slice al (j + 1) cl) (L := Y ++ [s]) (by rw [HXL.out]; exact HOWN.out) (by simp)
          obtain ⟨rfl, rfl⟩ : al = some ⟨ga, 0, none⟩ ∧ cl = ca := by injection hv with e1 _ e3; exact ⟨e1, e3⟩
          have hoc := own_cells HOWN.out
          have hnc := own_room HOWN.out
          have hget : ((Y ++ [s]).flatMap spV)[j * 2 + 1]? = some (.int .i64 (s.2 : Int)) := by
            rw [List.flatMap_append, List.getElem?_append_right (by rw [flat_l, hj]; omega), flat_l, hj, show j * 2 + 1 - j * 2 = 1 by omega]; rfl
          have y0 := hoc.1 _ _ hget
          have y1 := (hoc.2 (j * 2 + 1) (by omega)).2
          have hrp : k - 1 < R.length := by rw [HL.out]; omega
          have HST := hid ((HOWN.out.stored (j * 2 + 1) (.int .i64 ((s.2 + 1 : Nat) : Int))).1)
          have p0 := (cell_blk HQR.out (k - 1)).trans (rb_get hrp)
          have hpt : R[k - 1] = true := by have h := hp2; unfold onB at h; rw [List.getElem?_eq_getElem hrp] at h; injection h
          rw [hpt] at p0
          have hk1 : (k : Int) - 1 = ((k - 1 : Nat) : Int) := by omega
          obtain ⟨s1, s2⟩ := s
          have hs' : s1 + s2 = k := hs
          have hs2 : (s2 : Int) ≤ 200 := by omega
          have hk0 : (0 : Int) < (k : Int) := by omega
          obtain ⟨k1, hk1e⟩ : ∃ k1, k - 1 = k1 := ⟨_, rfl⟩
          rw [hk1e] at p0 hk1
          have hk10 : (k1 : Int) < 200 := by omega
          have hjc : (j : Int) ≤ 200 := by omega
          clear hpt hrp hget hoc hv hj hs hp2 hp1 hs' hk1e
          go_wp2_with fail
          go_roundg g
          case measure => omega
          case rel =>
            refine ⟨k + 1, _, _, j + 1, Y ++ [(s1, s2 + 1)], by omega, rfl, by go_num, hnl, ?_, HU2.out, ?_, HNEW.out, HFR.out.setCell (p := ⟨ga, j * 2 + 1, none⟩) (fun h => absurd (HNEW.out ga rfl) (by show ¬ w.heap.size ≤ ga; have h : ga < w.heap.size := h; omega)) _⟩
            · unfold Hid; rw [List.length_append, HJ.out]; rfl
            · have h1 := HST.out
              rw [← HJ.out, flat_last Y (s1, s2) (s2 + 1)] at h1
              have e : (((s2 + 1 : Nat)) : Int) = (s2 : Int) + 1 := by omega
              unfold Hid
              rw [← e, ← HJ.out]
              exact h1
        · have HU2 := hid (HU.out.fresh HO.out (by
            rcases Nat.eq_zero_or_pos k with e | e
            · exact .inl e
            · exact .inr (fun e2 => hp ⟨e, e2⟩)))
          have HLE : Hid (nl + 1 ≤ 200) := by
            have h1 := HU2.out.len (by omega)
            rw [List.length_append, HXL.out] at h1
            exact h1
          rcases Nat.eq_zero_or_pos k with e | e
          · subst e
            go_wp2_with (at_builtin; refine wpList_append_lies _ rfl (.tmp 35) (.tmp 38) 39 rfl 0 24 i0 (.agg #[.int .i64 0, .int .i64 0]) 2 16 Try.underlying39 hi0 hz0 hz1 hz2 (by kernel_rfl) (by decide) _ nl _ rfl (own_frk HOWN.out ((Fr.refl No wr).alloc _) (fun _ _ => id)) ⟨_, 0, none⟩ 1 1 [.int .i64 _, .int .i64 _] rfl rfl (cells2 _ _ _ _ (by simp)) (one2 _ _) (by decide) (by unfold maxLen; omega) (by omega) (Nat.zero_le _) _ rfl ?_; intro gq cq w4 hown hgrow hgat hgz; have HR4 := hid (grown_no HNEW.out HFR.out hgrow); have HN4 := hid (new_next HNEW.out (HFR.out.alloc _) hgat (nl + 1) cq); have HO4 := hid hown; clear hown hgrow hgat hgz)
            go_roundg g
            case measure => omega
            case rel =>
              refine ⟨0 + 1, _, _, nl + 1, X ++ [(0, 1)], by omega, rfl, by go_num, by have := HLE.out; omega, ?_, HU2.out, ?_, HN4.out, HR4.out⟩
              · unfold Hid; rw [List.length_append, HXL.out]; rfl
              · unfold Hid; rw [List.flatMap_append]; exact HO4.out
          · have hrp : k - 1 < R.length := by rw [HL.out]; omega
            have p0 := (cell_blk HQR.out (k - 1)).trans (rb_get hrp)
            have hpf : R[k - 1] = false := by
              cases hh : R[k - 1] with
              | false => rfl
              | true => exact absurd ⟨e, by unfold onB; rw [List.getElem?_eq_getElem hrp, hh]⟩ hp
            rw [hpf] at p0
            have hk1 : (k : Int) - 1 = ((k - 1 : Nat) : Int) := by omega
            have hk0 : (0 : Int) < (k : Int) := by omega
            obtain ⟨k1, hk1e⟩ : ∃ k1, k - 1 = k1 := ⟨_, rfl⟩
            rw [hk1e] at p0 hk1
            have hk10 : (k1 : Int) < 200 := by omega
            clear hpf hrp hk1e hp e
            go_wp2_with (at_builtin; refine wpList_append_lies _ rfl (.tmp 35) (.tmp 38) 39 rfl 0 24 i0 (.agg #[.int .i64 0, .int .i64 0]) 2 16 Try.underlying39 hi0 hz0 hz1 hz2 (by kernel_rfl) (by decide) _ nl _ rfl (own_frk HOWN.out ((Fr.refl No wr).alloc _) (fun _ _ => id)) ⟨_, 0, none⟩ 1 1 [.int .i64 _, .int .i64 _] rfl rfl (cells2 _ _ _ _ (by simp)) (one2 _ _) (by decide) (by unfold maxLen; omega) (by omega) (Nat.zero_le _) _ rfl ?_; intro gq cq w4 hown hgrow hgat hgz; have HR4 := hid (grown_no HNEW.out HFR.out hgrow); have HN4 := hid (new_next HNEW.out (HFR.out.alloc _) hgat (nl + 1) cq); have HO4 := hid hown; clear hown hgrow hgat hgz)
            go_roundg g
            case measure => omega
            case rel =>
              refine ⟨k + 1, _, _, nl + 1, X ++ [(k, 1)], by omega, rfl, by go_num, by have := HLE.out; omega, ?_, HU2.out, ?_, HN4.out, HR4.out⟩
              · unfold Hid; rw [List.length_append, HXL.out]; rfl
              · unfold Hid; rw [List.flatMap_append]; exact HO4.out
end Go.Proofs.Ytdehojhipiklmaa
