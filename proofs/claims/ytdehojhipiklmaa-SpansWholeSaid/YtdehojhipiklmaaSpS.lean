/- slices.Replace at spans: at the end without room; in the middle. -/
import Derived.Test.YtdehojhipiklmaaSpR
namespace Go.Proofs.Ytdehojhipiklmaa
open Go.RowKit

set_option maxRecDepth 100000 in
set_option maxHeartbeats 2000000 in
theorem sp_rep_end_grow (w : World) (g n c : Nat) (L : List Sp) (hln : L.length = n) (h : w.ownsRow 0 24 2 (.slice (some ⟨g, 0, none⟩) n c) n (L.flatMap spV)) (i : Nat) (hi : i < n) (hn : n ≤ 1500000) (gN m cN : Nat) (N : List Sp) (hlm : N.length = m) (hN : ∀ j u, (N.flatMap spV)[j]? = some u → w.cell? ⟨gN, j, none⟩ = some u) (hroom : c < i + m) (hm : m ≤ 1500000) :
    Calls Try.prog 34 #[.slice (some ⟨g, 0, none⟩) n c, .int .i64 i, .int .i64 n, .slice (some ⟨gN, 0, none⟩) m cN] w fun e w' => ∃ v', e = .returned v' ∧ w'.ownsRow 0 24 2 v' (i + m) ((spI L i N n).flatMap spV) ∧ Fr (fun k => k = g) w w' ∧ ∀ k, v'.ownBlock = some k → k = g ∨ w.heap.size ≤ k := by
  obtain ⟨i0, hi0, hz0, hz1, hz2⟩ := info_parts sp_info
  have hnc := own_room h
  have HC := hid (own_cut h i (by omega))
  rw [flat_take] at HC
  have HL : Hid ((N.flatMap spV).length = m * 2) := by unfold Hid; rw [flat_l, hlm]
  have hspi : (spI L i N n).flatMap spV = (L.take i).flatMap spV ++ N.flatMap spV := by
    unfold spI; rw [← hln, List.drop_length, List.append_nil, List.flatMap_append]
  have HSP := hid hspi
  have HNN : Hid (∀ j u, (N.flatMap spV)[j]? = some u → w.cell? ((⟨gN, 0, none⟩ : Addr).add j) = some u) := fun j u hu => by rw [Addr.add_mid, Nat.zero_add]; exact hN j u hu
  have a1 : (i : Int) < (n : Int) := by omega
  have a2 : ((i : Int) == (n : Int)) = false := by simp; omega
  have a3 : (n : Int) ≤ (c : Int) := by omega
  have hin : i ≤ n := by omega
  have hic : i ≤ c := by omega
  have hci : ¬ c = i := by omega
  have hm0 : 0 < m := by omega
  have b1 : (n : Int) ≤ (i : Int) + (m : Int) := by omega
  clear h hspi hN hln hlm
  go_enter Try.func34, Try.ntmps34
  go_wp2_with (at_builtin; refine wpList_append_lies _ rfl (.tmp 32) (.tmp 33) 39 rfl 0 24 i0 (.agg #[.int .i64 0, .int .i64 0]) 2 16 Try.underlying39 hi0 hz0 hz1 hz2 (by kernel_rfl) (by decide) (.slice (some ⟨g, 0, none⟩) i c) i ((L.take i).flatMap spV) rfl HC.out ⟨gN, 0, none⟩ m cN (N.flatMap spV) rfl HL.out HNN.out (flat_one spV_one _) hm0 (by unfold maxLen; omega) (by omega) (Nat.zero_le _) _ rfl ?_; intro gq cq w1 hown hgrow hgat hgz; have HO := hid hown; have HF : Hid (Fr (fun k => k = g) w w1) := (grown_fr hgrow).mono (fun k _ e => by have : g = k := (by simpa [Value.ownBlock] using e); exact this.symm); have HA : Hid (gq = g ∨ gq = w.heap.size) := hgat.imp (fun e => by have : g = gq := (by simpa [Value.ownBlock] using e); exact this.symm) id; clear hown hgrow hgat)
  all_goals
    go_ret
    refine ⟨_, rfl, by rw [HSP.out]; exact HO.out, HF.out, fun k hk => ?_⟩
    have hk : gq = k := by simpa [Value.ownBlock] using hk
    subst hk
    rcases HA.out with e | e
    · exact .inl e
    · exact .inr (by omega)
end Go.Proofs.Ytdehojhipiklmaa
