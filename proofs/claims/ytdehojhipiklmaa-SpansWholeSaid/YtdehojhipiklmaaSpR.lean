/- slices.Replace at spans: at the end. -/
import Derived.Test.YtdehojhipiklmaaSpH
namespace Go.Proofs.Ytdehojhipiklmaa
open Go.RowKit

def zc (k : Nat) : List Value := (Builtin.zeroCells (Value.agg #[.int .i64 0, .int .i64 0]).cells k).toList
theorem zc_len (k : Nat) : (zc k).length = k * 2 := by unfold zc; rw [Array.length_toList, zeroCells_len]; rfl
theorem zc_one (k : Nat) : ∀ v ∈ zc k, v.oneCell' = true := by
  intro v hv
  unfold zc at hv
  simp only [Builtin.zeroCells, Array.toList_map, List.mem_map] at hv
  obtain ⟨j, _, rfl⟩ := hv
  have h2 : (Value.agg #[.int .i64 0, .int .i64 0]).cells = #[.int .i64 0, .int .i64 0] := rfl
  rw [h2]
  have : j % (#[Value.int .i64 0, Value.int .i64 0] : Array Value).size = 0 ∨ j % (#[Value.int .i64 0, Value.int .i64 0] : Array Value).size = 1 := by
    have : (#[Value.int .i64 0, Value.int .i64 0] : Array Value).size = 2 := rfl
    rw [this]; omega
  rcases this with e | e <;> rw [e] <;> rfl
theorem setsL_out : ∀ (vs xs : List Value) (o : Nat), xs.length ≤ o → setsL xs o vs = xs
  | [], _, _, _ => rfl
  | v :: r, xs, o, h => by rw [setsL, List.set_eq_of_length_le h]; exact setsL_out r xs (o + 1) (by omega)
theorem sp_clear (w : World) (g n c t k cc : Nat) (xs : List Value) (h : w.ownsRow 0 24 2 (.slice (some ⟨g, 0, none⟩) n c) n xs) (hk : t + k ≤ c) (ty : TypeId) :
    ∃ v', (Builtin.clear_ #[39] ty #[.slice (some ⟨g, t * 2, none⟩) k cc]).run Try.prog w = .ok v' (w.setCells g (t * 2) (zc k)) := by
  have hc := own_cells h
  have hl := zc_len k
  unfold zc at hl ⊢
  exact run_clear_k w _ 24 ty (.agg #[.int .i64 0, .int .i64 0]) Try.underlying39 (fun w => by kernel_rfl) g (t * 2) k cc (zc_one k)
    (fun j hj => (hc.2 (t * 2 + j) (by rw [hl] at hj; omega)).1) (fun j hj => (hc.2 (t * 2 + j) (by rw [hl] at hj; omega)).2)
set_option maxRecDepth 100000 in
set_option maxHeartbeats 2000000 in
theorem sp_rep_end_room (w : World) (g n c : Nat) (L : List Sp) (hln : L.length = n) (h : w.ownsRow 0 24 2 (.slice (some ⟨g, 0, none⟩) n c) n (L.flatMap spV)) (i : Nat) (hi : i < n) (hn : n ≤ 1500000) (an : Option Addr) (m cN : Nat) (N : List Sp) (hlm : N.length = m) (hnone : an = none → m = 0 ∧ cN = 0) (hN : ∀ ad, an = some ad → ∀ j u, (N.flatMap spV)[j]? = some u → w.cell? (ad.add j) = some u) (hroom : i + m ≤ c) (hm : m ≤ 1500000) (hc63 : c ≤ 9223372036854775807) :
    Calls Try.prog 34 #[.slice (some ⟨g, 0, none⟩) n c, .int .i64 i, .int .i64 n, .slice an m cN] w fun e w' => e = .returned (.slice (some ⟨g, 0, none⟩) (i + m) c) ∧ w'.ownsRow 0 24 2 (.slice (some ⟨g, 0, none⟩) (i + m) c) (i + m) ((spI L i N n).flatMap spV) ∧ Fr (fun k => k = g) w w' := by
  obtain ⟨i0, hi0, hz0, hz1, hz2⟩ := info_parts sp_info
  have hnc := own_room h
  have HC := hid (own_cut h i (by omega))
  rw [flat_take] at HC
  have HL : Hid ((N.flatMap spV).length = m * 2) := by unfold Hid; rw [flat_l, hlm]
  have hspi : (spI L i N n).flatMap spV = (L.take i).flatMap spV ++ N.flatMap spV := by
    unfold spI; rw [← hln, List.drop_length, List.append_nil, List.flatMap_append]
  have HSP := hid hspi
  have HNN := hid hN
  have HNO := hid hnone
  have a1 : (i : Int) < (n : Int) := by omega
  have a2 : ((i : Int) == (n : Int)) = false := by simp; omega
  have a3 : (n : Int) ≤ (c : Int) := by omega
  have hin : i ≤ n := by omega
  have hic : i ≤ c := by omega
  have hci : ¬ c = i := by omega
  clear h hspi hN hnone hln hlm
  by_cases hs : i + m < n
  · have b1 : (i : Int) + (m : Int) < (n : Int) := by omega
    have b2 : ¬ c = i + m := by omega
    have b3 : ((i + m : Nat) : Int) < (n : Int) := by omega
    have hcm : i + m ≤ n := by omega
    go_enter Try.func34, Try.ntmps34
    go_wp2_with (first | (refine wpList_clear_run rfl (.tmp 43) 39 rfl _ rfl (HCL.out _) (fun v2 => ?_)) | (at_builtin; refine wpList_append_fits_any _ rfl (.tmp 32) (.tmp 33) 39 rfl 0 24 i0 2 Try.underlying39 hi0 hz1 g i c ((L.take i).flatMap spV) rfl HC.out an m cN (N.flatMap spV) rfl HL.out HNO.out HNN.out (flat_one spV_one _) hroom ?_; intro w1 hown hgrow; have HO := hid hown; have HF : Hid (Fr (fun k => k = g) w w1) := (Fr.refl (fun k => k = g) w).grown hgrow (fun k e _ => by injection e with e; exact e.symm); have HCL : Hid (∀ ty, ∃ v', (Builtin.clear_ #[39] ty #[.slice (some ⟨g, (i + m) * 2, none⟩) (n - (i + m)) (c - (i + m))]).run Try.prog w1 = .ok v' (w1.setCells g ((i + m) * 2) (zc (n - (i + m))))) := (fun ty => sp_clear w1 g (i + m) c (i + m) (n - (i + m)) _ _ hown (by omega) ty); clear hown hgrow))
    all_goals
      go_ret
      have hX := own_sets (zc (n - (i + m))) ((i + m) * 2) w1 _ HO.out
      rw [setsL_out _ _ _ (by have := HO.out.1; omega)] at hX
      exact ⟨rfl, by rw [HSP.out]; exact hX.1, HF.out.trans hX.2⟩
  · have b1 : (n : Int) ≤ (i : Int) + (m : Int) := by omega
    go_enter Try.func34, Try.ntmps34
    go_wp2_with (at_builtin; refine wpList_append_fits_any _ rfl (.tmp 32) (.tmp 33) 39 rfl 0 24 i0 2 Try.underlying39 hi0 hz1 g i c ((L.take i).flatMap spV) rfl HC.out an m cN (N.flatMap spV) rfl HL.out HNO.out HNN.out (flat_one spV_one _) hroom ?_; intro w1 hown hgrow; have HO := hid hown; have HF : Hid (Fr (fun k => k = g) w w1) := (Fr.refl (fun k => k = g) w).grown hgrow (fun k e _ => by injection e with e; exact e.symm); clear hown hgrow)
    all_goals
      go_ret
      exact ⟨rfl, by rw [HSP.out]; exact HO.out, HF.out⟩
end Go.Proofs.Ytdehojhipiklmaa
