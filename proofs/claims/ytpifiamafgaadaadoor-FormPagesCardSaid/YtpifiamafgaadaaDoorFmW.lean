/- forms: the reference's numbers. -/
import Derived.Test.YtpifiamafgaadaaDoorFmT
namespace Go.Proofs.YtpifiamafgaadaaDoor
open Go.RowKit Go.Shelf
/-- an entry's numbers, the bounds of those from i to below k nought -/
def entK (e : EntI) (i k : Nat) : List NumI := [⟨e.b, 2, 0, if i ≤ 0 ∧ 0 < k then 0 else 4095⟩, ⟨e.s, 2, 0, if i ≤ 1 ∧ 1 < k then 0 else 1023⟩, ⟨bitI e.d, 1, 0, if i ≤ 2 ∧ 2 < k then 0 else 1⟩, ⟨e.u, 4, 0, if i ≤ 3 ∧ 3 < k then 0 else 4294967295⟩]
theorem entK_set (e : EntI) (i k : Nat) (hk : k < 4) (hi : i ≤ k) : ((entK e i k).flatMap refL).set (k * 4 + 3) (.int .i64 0) = (entK e i (k + 1)).flatMap refL := by
  obtain rfl | rfl | rfl | rfl : k = 0 ∨ k = 1 ∨ k = 2 ∨ k = 3 := by omega
  all_goals
    simp [entK, refL, List.flatMap_cons, hi]
  all_goals
    refine ⟨?_, ?_⟩ <;> (first | rfl | (split <;> first | rfl | omega) | skip)
/-- the k-th bound of a row of four becomes nought -/
theorem refs_zero {w : World} {g cap : Nat} {e : EntI} {i k B : Nat} (hk : k < 4) (hi : i ≤ k) (h : Refs w (.slice (some ⟨g, 0, none⟩) 4 cap) (entK e i k) B) :
    (∃ v, w.cell? ⟨g, k * 4 + 3, none⟩ = some v) ∧ w.frozen? ⟨g, k * 4 + 3, none⟩ = false ∧ Refs (w.setCell ⟨g, k * 4 + 3, none⟩ (.int .i64 0)) (.slice (some ⟨g, 0, none⟩) 4 cap) (entK e i (k + 1)) B ∧ B ≤ g := by
  obtain ⟨g', cap', hv, _, _, _, ht⟩ := own_at h (fun x _ => refL_len x) k hk
  have hg : g' = g := by injection hv with h; injection h with h; injection h with h; exact h.symm
  subst hg
  have h3 := ht 3 (by decide)
  refine ⟨Option.isSome_iff_exists.1 h3.1, h3.2, ?_, (World.ownsRow.lt h g' rfl).1⟩
  have := (World.ownsRow.stored h (k * 4 + 3) (.int .i64 0)).1
  rw [entK_set e i k hk hi] at this
  exact this
set_option maxRecDepth 1000000 in
set_option maxHeartbeats 400000 in
theorem rf_Entry (w : World) (b s u : Int) (d z : Bool) : Calls Tryd.prog 26 #[.int .i64 b, .int .i64 s, .bool d, .int .i64 u, .bool z] w fun e w' => ∃ v, e = .returned v ∧ Refs w' v (entR ⟨b, s, d, u⟩ z) w.heap.size ∧ Fr No w w' := by
  cases z
  all_goals
    have HF0 := hid (Fr.refl No w)
    go_enter Tryd.func26, Tryd.ntmps26
    go_wp2_with (first
      | (refine list_buildS rfl 33 4 _ rfl _ (by simp [Act.eval, Act.put, refT]) _ _ HBS.out ?_; obtain ⟨w3, hw⟩ : ∃ W, w2.alloc (.cells (List.flatMap refL (entP ⟨b, s, d, u⟩)).toArray 96) = W := ⟨_, rfl⟩; change wpList _ _ _ _ _ (w2.alloc (.cells (List.flatMap refL (entP ⟨b, s, d, u⟩)).toArray 96)); rw [hw] at HN HF3 ⊢; clear hw HBS)
      | (go_at_call 48; refine (rf_bit _ d).mono ?_; rintro e w2 ⟨rfl, rfl⟩)
      | (go_at_call 40; refine (rf_two w1 s 0 1023).mono ?_; rintro e w2 ⟨rfl, hF⟩; have HF2 := hid (HF1.out.trans hF); clear hF; have HBS := hid (show (Instr.buildSlice 33 4 #[(0, refT ⟨b, 2, 0, 4095⟩), (1, refT ⟨s, 2, 0, 1023⟩), (2, refT ⟨bitI d, 1, 0, 1⟩), (3, refT ⟨u, 4, 0, 4294967295⟩)]).run Tryd.prog w2 = .ok (.slice (some ⟨w2.heap.size, 0, none⟩) 4 4) (w2.alloc (.cells (List.flatMap refL (entP ⟨b, s, d, u⟩)).toArray 96)) from ref_slice (entP ⟨b, s, d, u⟩) (by simp [entP]) (by simp [entP]) w2 #[(0, refT ⟨b, 2, 0, 4095⟩), (1, refT ⟨s, 2, 0, 1023⟩), (2, refT ⟨bitI d, 1, 0, 1⟩), (3, refT ⟨u, 4, 0, 4294967295⟩)] rfl); have HN := hid (show Refs (w2.alloc (.cells (List.flatMap refL (entP ⟨b, s, d, u⟩)).toArray 96)) (.slice (some ⟨w2.heap.size, 0, none⟩) 4 4) (entP ⟨b, s, d, u⟩) w.heap.size from refs_new (entP ⟨b, s, d, u⟩) (by simp [entP]) w2 w.heap.size HF2.out.size); have HF3 := hid (HF2.out.alloc (.cells (List.flatMap refL (entP ⟨b, s, d, u⟩)).toArray 96)))
      | (go_at_call 40; refine (rf_two w b 0 4095).mono ?_; rintro e w1 ⟨rfl, hF⟩; have HF1 := hid hF; clear hF))
  · go_ret
    exact ⟨_, rfl, HN.out, HF3.out⟩
  · obtain ⟨g, hg⟩ : ∃ g, w2.heap.size = g := ⟨_, rfl⟩
    have HN : Hid (Refs w3 (.slice (some ⟨g, 0, none⟩) 4 4) (entK ⟨b, s, d, u⟩ 0 0) w.heap.size) := by rw [← hg]; exact HN.out
    rw [hg]
    clear hg
    go_loopg [12] 4 (fun gk i wr => ∃ k : Nat, k + gk = 4 ∧ i = .int .i64 k ∧ Hid (Refs wr (.slice (some ⟨g, 0, none⟩) 4 4) (entK ⟨b, s, d, u⟩ 0 k) w.heap.size) ∧ Hid (Fr No w wr))
    case atStart => exact ⟨0, by omega, rfl, HN.out, HF3.out⟩
    case round =>
      obtain ⟨k, hk, rfl, HR, HF⟩ := hrel
      cases gk with
      | succ gk =>
        have hk4 : k < 4 := by omega
        have hk5 : (k : Int) < 4 := by omega
        obtain ⟨⟨v0, c0⟩, f0, hR, hB⟩ := refs_zero hk4 (Nat.zero_le _) HR.out
        have HR2 := hid hR
        have HF2 := hid (HF.out.setCell (p := ⟨g, k * 4 + 3, none⟩) (fun h => absurd h (by show ¬ g < w.heap.size; omega)) (.int .i64 0))
        clear hR HR HF
        go_wp2_with fail
        go_roundg gk
        case measure => omega
        case rel => exact ⟨k + 1, by omega, by go_num, HR2, HF2⟩
      | zero =>
        obtain rfl : k = 4 := by omega
        go_wp2_with fail
        go_ret
        exact ⟨_, rfl, HR.out, HF.out⟩
end Go.Proofs.YtpifiamafgaadaaDoor
