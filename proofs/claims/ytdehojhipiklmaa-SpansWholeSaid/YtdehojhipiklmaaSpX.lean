/- slices.Replace at spans: all of its cases. -/
import Derived.Test.YtdehojhipiklmaaSpH
import Derived.Test.YtdehojhipiklmaaSpS
import Derived.Test.YtdehojhipiklmaaSpW
namespace Go.Proofs.Ytdehojhipiklmaa
open Go.RowKit

set_option maxRecDepth 100000 in
set_option maxHeartbeats 2000000 in
theorem sp_rep_none (w : World) (v : Value) (L : List Sp) (h : w.ownsRow 0 24 2 v L.length (L.flatMap spV)) (i : Nat) (hi : i ≤ L.length) (hn : L.length ≤ 1500000) (vn : Value) (N : List Sp) (hN : w.ownsRow 0 24 2 vn N.length (N.flatMap spV)) (hm : N.length ≤ 1500000) (hne : ∀ k, v.ownBlock = some k → vn.ownBlock ≠ some k) :
    Calls Try.prog 34 #[v, .int .i64 i, .int .i64 i, vn] w fun e w' => ∃ v', e = .returned v' ∧ Put2 w w' v v' (spI L i N i) := by
  have HC0 := hid (sp_insert w v L h i hi hn vn N hN hm hne)
  obtain ⟨av, cv, rfl, hc, _⟩ := own_elems h
  have HC : Hid (∀ x, x = cv → Calls Try.prog 38 #[.slice av L.length x, .int .i64 i, vn] w fun e w' => ∃ v', e = .returned v' ∧ Put2 w w' (.slice av L.length cv) v' (spI L i N i)) := fun x e => by subst e; exact HC0.out
  clear HC0
  have h1 : (i : Int) ≤ (L.length : Int) := by omega
  have h2 : (L.length : Int) ≤ (cv : Int) := by omega
  have h3 : (i : Int) ≤ (cv : Int) := by omega
  go_enter Try.func34, Try.ntmps34
  go_wp2_with fail
  all_goals
    refine (HC.out _ (by omega)).mono ?_
    rintro e w1 ⟨v', rfl, hp⟩
    have HP := hid hp
    clear hp
    go_wp2_with fail
    try rw [Exit.noGoto_ret]
    go_ret
    exact ⟨_, rfl, HP.out⟩
/-- slices.Replace at spans: rows of the call's own, in blocks apart -/
theorem sp_replace (w : World) (v : Value) (L : List Sp) (h : w.ownsRow 0 24 2 v L.length (L.flatMap spV)) (i j : Nat) (hij : i ≤ j) (hj : j ≤ L.length) (hn : L.length ≤ 1500000) (vn : Value) (N : List Sp) (hN : w.ownsRow 0 24 2 vn N.length (N.flatMap spV)) (hm : N.length ≤ 1500000) (hne : ∀ k, v.ownBlock = some k → vn.ownBlock ≠ some k) :
    Calls Try.prog 34 #[v, .int .i64 i, .int .i64 j, vn] w fun e w' => ∃ v', e = .returned v' ∧ Put2 w w' v v' (spI L i N j) := by
  rcases Nat.lt_or_eq_of_le hij with hij | rfl
  case inr => exact sp_rep_none w v L h i hj hn vn N hN hm hne
  obtain ⟨g, c, rfl⟩ := own_at0 h (by omega)
  have hc63 : c ≤ 9223372036854775807 := by
    obtain ⟨_, ⟨hv, _⟩ | ⟨g', cap', cur, hv, _, _, _, h5, _⟩⟩ := h
    · cases hv
    · obtain ⟨-, rfl⟩ : g = g' ∧ c = cap' := by injection hv with e1 _ e3; injection e1 with e1; injection e1 with e1; exact ⟨e1, e3⟩
      unfold maxLen at h5; omega
  have hlen : ∀ d, j + d = L.length → (spI L i N j).length = i + N.length + d := fun d hd => by unfold spI; rw [List.length_append, List.length_append, List.length_take, List.length_drop]; omega
  have hnc := own_room h
  rcases Nat.lt_or_eq_of_le hj with hj | rfl
  case inr =>
    have hle := hlen 0 rfl
    rw [Nat.add_zero] at hle
    rcases Nat.lt_or_ge c (i + N.length) with hr | hr
    · obtain ⟨gN, cN, rfl⟩ := own_at0 hN (by omega)
      refine (sp_rep_end_grow w g L.length c L rfl h i hij hn gN N.length cN N rfl (own_cells hN).1 hr hm).mono ?_
      rintro e w' ⟨v', rfl, ho, hF, hk⟩
      exact ⟨_, rfl, by rw [hle]; exact ho, hF.mono (fun k _ e => by rw [e]; rfl), fun k hk' => (hk k hk').imp (fun e => by rw [e]; rfl) id⟩
    · obtain ⟨an, cN, rfl⟩ := own_form hN
      refine (sp_rep_end_room w g L.length c L rfl h i hij hn an N.length cN N rfl ?_ ?_ hr hm hc63).mono ?_
      · rintro rfl
        obtain ⟨_, ⟨hv, hz⟩ | ⟨g', cap', cur, hv, _⟩⟩ := hN
        · injection hv with _ h2 h3; exact ⟨h2, h3⟩
        · injection hv with h1 _ _; cases h1
      · rintro ad rfl k u hu
        obtain ⟨_, ⟨hv, hz⟩ | ⟨g', cap', cur, hv, h4⟩⟩ := id hN
        · injection hv with h1 _ _; cases h1
        · obtain rfl : ad = ⟨g', 0, none⟩ := by injection hv with h1 _ _; injection h1
          rw [Addr.add_mid, Nat.zero_add]; exact (own_cells hN).1 k u hu
      · rintro e w' ⟨rfl, ho, hF⟩
        exact ⟨_, rfl, by rw [hle]; exact ho, hF.mono (fun k _ e => by rw [e]; rfl), fun k hk => .inl hk⟩
  obtain ⟨d, hd⟩ : ∃ d, j + d = L.length := ⟨L.length - j, by omega⟩
  have hle := hlen d hd
  rcases Nat.lt_or_ge j (i + N.length) with hf | hf
  · obtain ⟨gN, cN, rfl⟩ := own_at0 hN (by omega)
    have hgg : gN ≠ g := fun e => hne g rfl (by rw [e]; rfl)
    rcases Nat.lt_or_ge c (i + N.length + d) with hr | hr
    · refine (sp_rep_grow w g L.length c L rfl h i j d hij hd (by omega) hn gN N.length cN N rfl hN hm hr).mono ?_
      rintro e w' ⟨G, rfl, ho, hF⟩
      exact ⟨_, rfl, by rw [hle]; exact ho, hF.mono (fun _ _ e => e.elim), fun k hk => .inr (by have : w.heap.size = k := (by simpa [Value.ownBlock] using hk); omega)⟩
    · refine (sp_rep_expand w g L.length c L rfl h i j d hij hd (by omega) hn gN N.length cN N rfl hN hm hgg hf hr hc63).mono ?_
      rintro e w' ⟨rfl, ho, hF⟩
      exact ⟨_, rfl, by rw [hle]; exact ho, hF.mono (fun k _ e => by rw [e]; rfl), fun k hk => .inl hk⟩
  · obtain ⟨an, cN, rfl⟩ := own_form hN
    refine (sp_rep_fit w g L.length c L rfl h i j d hij hd (by omega) hn an N.length cN N rfl hN ?_ hf hc63).mono ?_
    · intro k hk e
      exact hne g rfl (by rw [hk, e])
    · rintro e w' ⟨rfl, ho, hF⟩
      exact ⟨_, rfl, by rw [hle]; exact ho, hF.mono (fun k _ e => by rw [e]; rfl), fun k hk => .inl hk⟩
end Go.Proofs.Ytdehojhipiklmaa
