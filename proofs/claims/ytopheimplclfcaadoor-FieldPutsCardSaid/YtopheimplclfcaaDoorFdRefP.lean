/- lavaboref04: Bytes, Put, Block. -/
import Derived.Test.YtopheimplclfcaaDoorFdSeals
import Derived.Maps.AppendAt
import Derived.Laws.AppendOwnNone
namespace Go.Proofs.YtopheimplclfcaaDoor
open Go.RowKit

theorem u8_info : (Tryd.prog.info? 5).map (fun i => (i.zero, i.size, i.bytes)) = some (some (.int .u8 0), 1, 1) := by kernel_rfl
theorem own_ge {w : World} {base n r : Nat} {e : TypeId} {v : Value} {xs : List Value} (h : w.ownsRow base e 1 v n xs) (hr : v.ownBlock = some r) : base ≤ r := by
  obtain ⟨_, ⟨hv, _⟩ | ⟨g, cap, cur, hv, hg, _⟩⟩ := h
  · rw [hv] at hr; simp [Value.ownBlock] at hr
  · rw [hv] at hr; simp [Value.ownBlock] at hr; omega
theorem IsB.own {w : World} {base : Nat} {e : TypeId} {v : Value} {l : List Nat} (h : w.ownsRow base e 1 v l.length (l.map byte)) (hlt : ∀ x ∈ l, x < 256) (hn : l.length ≤ maxLen) : IsB w v l := by
  rcases Nat.eq_zero_or_pos l.length with h0 | h0
  · obtain rfl : l = [] := List.eq_nil_of_length_eq_zero h0
    obtain ⟨_, ⟨hv, _⟩ | ⟨g, cap, cur, h1, _⟩⟩ := h
    · rw [hv]; exact IsB.none w _ _
    · rw [h1]; exact IsB.none w _ _
  · obtain ⟨g, cap, cur, rfl, _, hb, hc, _, hs, ht⟩ := own_block h h0
    exact ⟨_, cap, rfl, Row.of_blk hb ht (by omega), hlt, hn⟩

set_option maxRecDepth 100000 in
set_option maxHeartbeats 1000000 in
theorem rf_Bytes (n s : Nat) (hs : s ≤ 7) (hn : n ≤ 9223372036854775807) (w : World) : Calls Tryd.prog 43 #[.int .i64 n, .int .i64 s] w fun e w' => ∃ v, e = .returned (.tuple #[v, .bool (n / 256 ^ s == 0)]) ∧ IsB w' v (digs s n) ∧ Fr No w w' ∧ ∀ r, v.ownBlock = some r → w.heap.size ≤ r := by
  obtain ⟨i0, hi, hz0, hz1, hz2⟩ := info_parts u8_info
  go_enter Tryd.func43, Tryd.ntmps43
  go_wp2_with fail
  go_loopg [0, 6, 7] s (fun g m v i wr => ∃ (k : Nat) (vv : Value), k + g = s ∧ i = .int .i64 k ∧ m = .int .i64 ((n / 256 ^ k : Nat) : Int) ∧ vv = v ∧ Hid (wr.ownsRow w.heap.size 5 1 vv k ((digs k n).map byte)) ∧ Hid (Fr No w wr))
  case atStart => exact ⟨0, _, by omega, rfl, by simp, rfl, own_nil w _ _, Fr.refl No w⟩
  case round =>
    obtain ⟨k, v, hk, rfl, rfl, rfl, HO, HF⟩ := hrel
    obtain ⟨m, hm⟩ : ∃ m, n / 256 ^ k = m := ⟨_, rfl⟩
    have hmn : m ≤ 9223372036854775807 := by rw [← hm]; exact Nat.le_trans (Nat.div_le_self _ _) hn
    have HM : Hid (n / 256 ^ (k + 1) = m / 256) := by unfold Hid; rw [← hm, Nat.pow_succ, Nat.div_div_eq_div_mul]
    have HD : Hid ((digs k n).map byte ++ [byte (m % 256)] = (digs (k + 1) n).map byte) := by unfold Hid; rw [digs_snoc, hm]; simp
    have HM0 := hid hm
    rw [hm]
    clear hm
    cases gk with
    | zero =>
      obtain rfl : k = s := by omega
      go_wp2_with fail
      go_ret2
      refine ⟨v, ?_, IsB.own (by rw [digs_len]; exact HO.out) (digs_lt _ _) (by rw [digs_len]; unfold maxLen; omega), HF.out, fun r hr => own_ge HO.out hr⟩
      rw [HM0.out]
      show Ending.returned (.tuple #[v, .bool ((m : Int) == 0)]) = _
      rw [show ((m : Int) == 0) = (m == 0) from eq_cast m 0]
    | succ g =>
      have hsz := HF.out.size
      have HX : Hid ((digs k n).map byte ++ [Value.int .u8 ((m : Int) % 256)] = (digs (k + 1) n).map byte) := by
        unfold Hid; rw [show ((m : Int) % 256) = ((m % 256 : Nat) : Int) from by omega]; exact HD.out
      go_wp2_with (at_builtin; (refine wpList_append_own _ rfl (.tmp 15) (.tmp 19) 26 rfl w.heap.size 5 i0 (.int .u8 0) 1 1 Tryd.underlying26 hi hz0 hz1 hz2 rfl (by decide) v k _ rfl (HO.out.alloc _) ⟨wr.heap.size, 0, none⟩ 1 1 [.int .u8 ((m : Int) % 256)] rfl rfl (cell_one_new _ _ _) (by simp [Value.oneCell']) (by unfold maxLen; omega) (by omega) (by simp; omega) ?_); intro v' w1 hown' hgrow _)
      rw [HX.out] at hown'
      have HO' := hid hown'
      have HF' := hid ((HF.out.alloc (.cells #[.int .u8 ((m : Int) % 256)] 5)).grown hgrow (fun r hr hl => absurd hl (by have := own_ge HO.out hr; omega)))
      clear hown' hgrow
      go_roundg g
      case measure => omega
      case rel => exact ⟨k + 1, _, by omega, by go_num, by rw [HM.out]; simp, rfl, HO', HF'⟩
/-- bytes, nil if there are none -/
def WB (w : World) (v : Value) (l : List Nat) : Prop := (l = [] ∧ v = .slice none 0 0) ∨ (l ≠ [] ∧ IsB w v l)
/-- .. and in no block below lo -/
def WBn (lo : Nat) (w : World) (v : Value) (l : List Nat) : Prop := WB w v l ∧ ∀ r, v.ownBlock = some r → lo ≤ r
theorem WBn.fr {lo p : Nat} {w w' : World} {v : Value} {l : List Nat} (h : WBn lo w v l) (f : Fr (fun k => k = p) w w') (hp : p < lo) : WBn lo w' v l := by
  refine ⟨?_, h.2⟩
  rcases h.1 with h0 | ⟨h1, a, cap, rfl, hr, h3⟩
  · exact .inl h0
  · refine .inr ⟨h1, a, cap, rfl, hr.fr f (fun b o e => ?_), h3⟩
    subst e
    have := h.2 b rfl
    omega
theorem WB.no {w w' : World} {v : Value} {l : List Nat} (h : WB w v l) (f : Fr No w w') : WB w' v l := by
  rcases h with h | ⟨h1, h2⟩
  · exact .inl h
  · exact .inr ⟨h1, h2.no f⟩
theorem IsB.news {w : World} {v : Value} {l : List Nat} (h : IsB w v l) (h0 : l ≠ []) : ∃ b o cap, v = .slice (some ⟨b, o, Option.none⟩) l.length cap ∧ b < w.heap.size ∧ ∀ j u, (l.map byte)[j]? = some u → w.cell? ((⟨b, o, Option.none⟩ : Addr).add j) = some u := by
  obtain ⟨a, cap, rfl, hr, _⟩ := h
  rcases hr with hr | ⟨b, o, hab, hb, hc⟩
  · exact absurd (List.map_eq_nil_iff.1 hr) h0
  · have hab : a = some ⟨b, o, Option.none⟩ := hab
    subst hab
    refine ⟨b, o, cap, rfl, hb, fun j u hu => ?_⟩
    have hj : j < (l.map byte).length := (List.getElem?_eq_some_iff.1 hu).1
    rw [add_off]
    have := hc j hj
    rw [this, List.getD_eq_getElem?_getD, hu]; rfl
theorem byte_ones (l : List Nat) : ∀ u ∈ l.map byte, u.oneCell' = true := fun u hu => by obtain ⟨z, _, rfl⟩ := List.mem_map.1 hu; rfl

theorem WBn.no {lo : Nat} {w w' : World} {v : Value} {l : List Nat} (h : WBn lo w v l) (f : Fr No w w') : WBn lo w' v l := ⟨h.1.no f, h.2⟩

set_option maxRecDepth 100000 in
set_option maxHeartbeats 1000000 in
theorem rf_Put_ok (w : World) (lo : Nat) (hlo : lo ≤ w.heap.size) (vb : Value) (l : List Nat) (hWn : WBn lo w vb l) (hlt : ∀ x ∈ l, x < 256) (n s : Nat) (hs1 : 1 ≤ s) (hs : s ≤ 7) (hn : n ≤ 9223372036854775807) (hfit : n / 256 ^ s = 0) (hll : l.length + s ≤ 60) :
    Calls Tryd.prog 17 #[vb, .int .i64 n, .int .i64 s] w fun e w' => ∃ v, e = .returned (.tuple #[v, .int .i64 0]) ∧ WBn lo w' v (l ++ digs s n) ∧ Fr No w w' := by
  obtain ⟨i0, hi, hz0, hz1, hz2⟩ := info_parts u8_info
  have HBy := hid (rf_Bytes n s hs hn w)
  rw [hfit] at HBy
  have hne : digs s n ≠ [] := by intro e; have := digs_len s n; rw [e] at this; simp at this; omega
  have HNE : Hid (l ++ digs s n ≠ []) := by unfold Hid; intro e; exact hne (List.append_eq_nil_iff.1 e).2
  have HLT : Hid (∀ x ∈ l ++ digs s n, x < 256) := fun x hx => by
    rcases List.mem_append.1 hx with hx | hx
    · exact hlt x hx
    · exact digs_lt _ _ x hx
  have hW := hWn.1
  clear hWn
  have HLO := hid hlo
  rcases hW with ⟨rfl, rfl⟩ | ⟨hl0, hB⟩
  · go_enter Tryd.func17, Tryd.ntmps17
    go_wp2_with fail
    refine HBy.out.mono ?_; rintro e w1 ⟨vx, rfl, hX, hF1, _⟩
    obtain ⟨b, o, cx, rfl, hbl, hnews⟩ := hX.news hne
    rw [digs_len]
    have HN := hid hnews
    have HF1 := hid hF1
    have hsz := hF1.size
    clear hX hF1 hne
    go_wp2_with (first
      | (at_builtin; refine wpList_append_own_none rfl (.tmp 33) (.tmp 34) 26 rfl w.heap.size 5 i0 1 Tryd.underlying26 hi (.slice none 0 0) 0 [] rfl (own_nil w1 _ _) rfl ?_)
      | (at_builtin; refine wpList_append_own _ rfl (.tmp 36) (.tmp 37) 26 rfl w.heap.size 5 i0 (.int .u8 0) 1 1 Tryd.underlying26 hi hz0 hz1 hz2 rfl (by decide) (.slice none 0 0) 0 [] rfl (own_nil w1 _ _) ⟨b, o, none⟩ s cx ((digs s n).map byte) rfl (by simp [digs_len]) HN.out (byte_ones _) (by unfold maxLen; omega) (by omega) hsz ?_; intro v' w2 hown' hgrow _))
    go_ret2
    rw [Nat.zero_add, List.nil_append] at hown'
    have hw2 := HF1.out.grown hgrow (fun r hr => by simp [Value.ownBlock] at hr)
    exact ⟨v', rfl, ⟨.inr ⟨HNE.out, IsB.own (l := [] ++ digs s n) (by rw [List.nil_append, digs_len]; exact hown') HLT.out (by rw [List.nil_append, digs_len]; unfold maxLen; omega)⟩, fun r hr => Nat.le_trans HLO.out (own_ge hown' hr)⟩, hw2⟩
  · obtain ⟨b0, o0, c0, rfl, hb0, hn0⟩ := hB.news hl0
    have HN0 := hid hn0
    have hlen : l.length ≤ 60 := by omega
    have hl1 : 0 < l.length := by cases l with
      | nil => exact absurd rfl hl0
      | cons => simp
    clear hB hn0 hl0
    go_enter Tryd.func17, Tryd.ntmps17
    go_wp2_with fail
    refine HBy.out.mono ?_; rintro e w1 ⟨vx, rfl, hX, hF1, _⟩
    obtain ⟨b, o, cx, rfl, hbl, hnews⟩ := hX.news hne
    rw [digs_len]
    have HN := hid hnews
    have HN1 : Hid (∀ j u, (l.map byte)[j]? = some u → w1.cell? ((⟨b0, o0, none⟩ : Addr).add j) = some u) := fun j u hu => by
      have := HN0.out j u hu
      rw [add_off] at this ⊢
      exact (hF1.cell (p := ⟨b0, o0 + j, none⟩) hb0 id).trans this
    have HF1 := hid hF1
    have hsz := hF1.size
    clear hX hF1 hne hnews
    go_wp2_with (first
      | (at_builtin; refine wpList_append_own _ rfl (.tmp 33) (.tmp 34) 26 rfl w.heap.size 5 i0 (.int .u8 0) 1 1 Tryd.underlying26 hi hz0 hz1 hz2 rfl (by decide) (.slice none 0 0) 0 [] rfl (own_nil w1 _ _) ⟨b0, o0, none⟩ l.length c0 (l.map byte) rfl (by simp) HN1.out (byte_ones _) (by unfold maxLen; omega) (by omega) hsz ?_; intro v1 w2 hown1 hgrow1 _; rw [Nat.zero_add, List.nil_append] at hown1; have HO1 := hid hown1; have hF2 := (Fr.refl No w1).grown hgrow1 (fun r hr => by simp [Value.ownBlock] at hr); have HF2 := hid (HF1.out.trans hF2); have HN2 : Hid (∀ j u, ((digs s n).map byte)[j]? = some u → w2.cell? ((⟨b, o, none⟩ : Addr).add j) = some u) := (fun j u hu => by have h3 := HN.out j u hu; rw [add_off] at h3 ⊢; exact (hF2.cell (p := ⟨b, o + j, none⟩) hbl id).trans h3); have hsz2 := HF2.out.size; clear hown1 hgrow1 hF2)
      | (at_builtin; refine wpList_append_own _ rfl (.tmp 36) (.tmp 37) 26 rfl w.heap.size 5 i0 (.int .u8 0) 1 1 Tryd.underlying26 hi hz0 hz1 hz2 rfl (by decide) v1 l.length (l.map byte) rfl HO1.out ⟨b, o, none⟩ s cx ((digs s n).map byte) rfl (by simp [digs_len]) HN2.out (byte_ones _) (by unfold maxLen; omega) (by omega) hsz2 ?_; intro v2 w3 hown2 hgrow2 _))
    go_ret2
    have hw3 := HF2.out.grown hgrow2 (fun r hr hl => absurd hl (by have := own_ge HO1.out hr; omega))
    have hl2 : (l ++ digs s n).length = l.length + s := by rw [List.length_append, digs_len]
    exact ⟨v2, rfl, ⟨.inr ⟨HNE.out, IsB.own (l := l ++ digs s n) (by rw [hl2, List.map_append]; exact hown2) HLT.out (by rw [hl2]; unfold maxLen; omega)⟩, fun r hr => Nat.le_trans HLO.out (own_ge hown2 hr)⟩, hw3⟩
end Go.Proofs.YtopheimplclfcaaDoor
