/- slices.Insert at spans. -/
import Derived.Test.YtdehojhipiklmaaSpD
import Derived.Test.YtdehojhipiklmaaSpE
import Derived.Maps.AppendAt
import Derived.Lib.Overlaps
import Derived.Lib.AppendZerosOnto
import Derived.Lib.AppendZeros
import Derived.Lib.Walk
import Derived.Laws.Externs
namespace Go.Proofs.Ytdehojhipiklmaa
open Go.RowKit

def spI (L : List Sp) (i : Nat) (N : List Sp) (j : Nat) : List Sp := L.take i ++ N ++ L.drop j
theorem sp_info : (Try.prog.info? 24).map (fun i => (i.zero, i.size, i.bytes)) = some (some (.agg #[.int .i64 0, .int .i64 0]), 2, 16) := by kernel_rfl
/-- what a call hands back that puts spans into a row -/
def Put2 (w w' : World) (v v' : Value) (X : List Sp) : Prop := w'.ownsRow 0 24 2 v' X.length (X.flatMap spV) ∧ Fr (fun k => v.ownBlock = some k) w w' ∧ ∀ k, v'.ownBlock = some k → v.ownBlock = some k ∨ w.heap.size ≤ k
theorem sp_insert_none (w : World) (v : Value) (L : List Sp) (h : w.ownsRow 0 24 2 v L.length (L.flatMap spV)) (i : Nat) (hi : i ≤ L.length) (hn : L.length ≤ 2000000) (a : Option Addr) (c : Nat) :
    Calls Try.prog 38 #[v, .int .i64 i, .slice a 0 c] w fun e w' => e = .returned v ∧ w' = w := by
  obtain ⟨av, cv, rfl, hc, _⟩ := own_elems h
  have h1 : (i : Int) ≤ (L.length : Int) := by omega
  have h2 : (L.length : Int) ≤ (cv : Int) := by omega
  have h3 : (i : Int) ≤ (cv : Int) := by omega
  go_enter Try.func38, Try.ntmps38
  go_wp2_with fail
  all_goals
    go_ret
    exact ⟨rfl, rfl⟩
theorem sp_insert_end (w : World) (v : Value) (L : List Sp) (h : w.ownsRow 0 24 2 v L.length (L.flatMap spV)) (hn : L.length ≤ 2000000) (gN oN cN : Nat) (N : List Sp) (hN : 0 < N.length) (hN2 : N.length ≤ 2000000) (hc : ∀ j u, (N.flatMap spV)[j]? = some u → w.cell? ⟨gN, oN + j, none⟩ = some u) :
    Calls Try.prog 38 #[v, .int .i64 L.length, .slice (some ⟨gN, oN, none⟩) N.length cN] w fun e w' => ∃ v', e = .returned v' ∧ Put2 w w' v v' (L ++ N) := by
  obtain ⟨i0, hi, hz0, hz1, hz2⟩ := info_parts sp_info
  have HO := hid h
  obtain ⟨av, cv, rfl, hcv, _⟩ := own_elems h
  have HC : Hid (∀ j u, (N.flatMap spV)[j]? = some u → w.cell? ((⟨gN, oN, none⟩ : Addr).add j) = some u) := fun j u hu => by rw [Addr.add_mid]; exact hc j u hu
  have HL : Hid ((N.flatMap spV).length = N.length * 2) := flat_len spV 2 N (fun x _ => spV_len x)
  have HEL : Hid ((L ++ N).length = L.length + N.length) := List.length_append
  obtain ⟨n, hn'⟩ : ∃ n, L.length = n := ⟨_, rfl⟩
  obtain ⟨m, hm'⟩ : ∃ m, N.length = m := ⟨_, rfl⟩
  rw [hn'] at HO hcv hn HEL ⊢
  rw [hm'] at HL hN hN2 HEL ⊢
  clear h hc hn' hm'
  have h2 : (n : Int) ≤ (cv : Int) := by omega
  have h5 : ((m : Int) == 0) = false := by simp; omega
  obtain ⟨gr, hgr⟩ : ∃ gr : Option Nat, (Value.slice av n cv).ownBlock = gr := ⟨_, rfl⟩
  have HGR := hid hgr
  have HGR2 : Hid (∀ c2, (Value.slice av n c2).ownBlock = gr) := fun c2 => by rw [← hgr]; cases av <;> simp [Value.ownBlock]
  clear hgr
  go_enter Try.func38, Try.ntmps38
  go_wp2_with (at_builtin; refine wpList_append_lies _ rfl (.tmp 23) (.tmp 24) 39 rfl 0 24 i0 (.agg #[.int .i64 0, .int .i64 0]) 2 16 Try.underlying39 hi hz0 hz1 hz2 (by kernel_rfl) (by decide) _ n _ rfl HO.out ⟨gN, oN, none⟩ m cN (N.flatMap spV) rfl HL.out HC.out (flat_one spV_one _) hN (by unfold maxLen; omega) (by omega) (Nat.zero_le _) _ rfl ?_; intro gq cq w1 hown hgrow hgat hgz; have HOW := hid hown; have HG : Hid (Fr (fun k => gr = some k) w w1) := (grown_fr hgrow).mono (fun k _ e => by rw [← HGR2.out]; exact e); have HA : Hid (gr = some gq ∨ gq = w.heap.size) := hgat.imp (fun e => by rw [← HGR2.out]; exact e) id; clear hown hgrow hgat)
  all_goals
    go_ret
    refine ⟨_, rfl, ?_, HG.out.mono (fun k _ e => by rw [HGR2.out]; exact e), fun k hk => ?_⟩
    · rw [HEL.out, List.flatMap_append]; exact HOW.out
    · have hk : gq = k := by simpa [Value.ownBlock] using hk
      subst hk
      rcases HA.out with e | e
      · exact .inl (by rw [HGR2.out]; exact e)
      · exact .inr (by omega)
end Go.Proofs.Ytdehojhipiklmaa
