/- spans: slices.Values, All; the law's own All. -/
import Derived.Test.YtdehojhipiklmaaSpQ
import Derived.RangeFuncNested
import Derived.RangeFuncBound
import Derived.RangeFuncCalls
import Derived.RangeFuncLeaves
import Derived.RangeFuncBox
import Derived.RangeFuncOwn
import Derived.Shelf.Abstract
import Derived.Shelf.RegionOpen
import Derived.WalkKit
import Derived.OwnWalkIn
import Derived.TacticsInMore
import Derived.LoopNIn
import Derived.LoopIn
import Derived.Maps.AppendAt
namespace Go.Proofs.Ytdehojhipiklmaa
open Go.RowKit Go.Shelf
attribute [local go_sem] Oper.semAt_some

abbrev spA (s : Sp) : Value := .agg #[.int .i64 s.1, .int .i64 s.2]
theorem sp_values (w : World) (a : Option Addr) (len cap : Nat) : Calls Try.prog 35 #[.slice a len cap] w fun e w' => e = .returned (.func (.func 42) #[] #[.pointer (some ⟨w.heap.size, 0, none⟩)]) ∧ w' = w.alloc (.cells #[.slice a len cap] 39) := by
  go_enter Try.func35, Try.ntmps35
  go_wp2
  go_ret
  exact ⟨rfl, rfl⟩
theorem sp_All (w : World) (p : Nat) (S : Nat → Prop) (L : List Sp) (h : St w p S L) : Calls Try.prog 27 #[.pointer (some ⟨p, 0, none⟩)] w fun e w' => ∃ B ra cap, e = .returned (.func (.func 42) #[] #[.pointer (some ⟨B, 0, none⟩)]) ∧
    B < w'.heap.size ∧ w'.cell? ⟨B, 0, none⟩ = some (.slice ra L.length cap) ∧ Elems spV 2 w' ra L ∧ Fr No w w' := by
  have HC := hid (sp_Copy w p S L h)
  clear h
  go_enter Try.func27, Try.ntmps27
  go_wp2_with fail
  refine HC.out.mono ?_
  rintro e w1 ⟨q, S', rfl, hS, _, hF⟩
  have HF := hid hF
  clear hF HC
  obtain ⟨_, v, hV⟩ := hS
  have HL := hid (sp_list w1 q S' L v hV)
  obtain ⟨a, c, rfl, _, hE⟩ := own_elems hV.row
  have HE := hid hE
  clear hV hE
  go_wp2_with fail
  refine HL.out.mono ?_
  rintro e w2 ⟨rfl, e2⟩
  subst e2
  clear HL
  go_wp2_with fail
  refine (sp_values _ a L.length c).mono ?_
  rintro e w3 ⟨rfl, rfl⟩
  go_wp2_with fail
  go_ret
  have hb := heap_new w2 (.cells #[.slice a L.length c] 39)
  refine ⟨_, a, c, rfl, lt_of_block hb, (cell_blk hb 0).trans rfl, Elems.no HE.out ((Fr.refl No w2).alloc (.cells #[.slice a L.length c] 39)), HF.out.alloc _⟩
set_option maxRecDepth 100000 in
set_option maxHeartbeats 2000000 in
theorem spvals_in (F : Fence) (n : Nat) (hF : F.fn 42) (hro : F.round = none) (hn : 1 ≤ n) (l Bs n₀ : Nat) (a : Option Addr) (cap : Nat) (xs : List Sp) (hlen : xs.length ≤ 1048576) (J Jx : List Sp → World → Prop) (W : World) (hJ : AbidesFrom W.heap.size J)
    (hY : ∀ pre x W, J pre W → pre.length < xs.length → YieldAt F (n - 1) Try.prog l #[spA x] W fun e W' =>
      (e = .returned (.bool true) ∧ J (pre ++ [x]) W' ∧ Fr (fun k => n₀ ≤ k) W W') ∨ (e = .returned (.bool false) ∧ Jx (pre ++ [x]) W'))
    (hBs : W.cell? ⟨Bs, 0, none⟩ = some (.slice a xs.length cap)) (hc : Elems spV 2 W a xs) (hn0 : 0 < xs.length → ∀ b o, a = some ⟨b, o, none⟩ → b < n₀) (h0 : J [] W) :
    CallsIn F n Try.prog 42 #[.func (.yield l) #[] #[], .pointer (some ⟨Bs, 0, none⟩)] W fun e W' => (∃ v, e = .returned v) ∧
      ((∃ ys, ys = xs ∧ J ys W') ∨ (∃ pre, pre <+: xs ∧ Jx pre W')) := by
  have HC := hid hc
  have HN0 := hid hn0
  have HJ := hid hJ
  have hlen' : (xs.length : Int) ≤ 1048576 := by omega
  clear hc hn0 hJ
  refine callsIn_of_wp Try.func42 rfl hF ?_ hro
  simp only [Try.ntmps42, List.size_toArray, List.length_cons, List.length_nil, Nat.reduceAdd, Nat.reduceSub, Array.replicate_succ, Array.replicate_zero, List.push_toArray, List.append_toArray, List.nil_append, List.cons_append]
  gi_wp2
  gi_loopw [7] (fun i wr => ∃ k : Nat, k ≤ xs.length ∧ i = .int .i64 k ∧ J (xs.take k) wr ∧ Fr (fun k => n₀ ≤ k) W wr)
    (fun i _ => xs.length - (intOf i).toNat)
  case atStart => exact ⟨0, Nat.zero_le _, rfl, h0, Fr.refl _ _⟩
  case round =>
    obtain ⟨k, hk, rfl, hJs, hnx⟩ := hrel
    by_cases hlt : k < xs.length
    · obtain ⟨b, o, rfl, hb, c0, c1⟩ := HC.out.sp2 k hlt
      have hbn := HN0.out (by omega) b o rfl
      have d0 := (hnx.cell (p := ⟨b, o + k * 2, none⟩) hb (show ¬ n₀ ≤ b by omega)).trans c0
      have d1 := (hnx.cell (p := ⟨b, o + k * 2 + 1, none⟩) hb (show ¬ n₀ ≤ b by omega)).trans c1
      have hkl : (k : Int) < (xs.length : Int) := by omega
      have htk := List.take_succ_eq_append_getElem hlt
      have htl : (xs.take k).length < xs.length := by simp; omega
      have htp : xs.take (k + 1) <+: xs := List.take_prefix _ _
      clear c0 c1
      obtain ⟨x, hx⟩ : ∃ x, xs[k] = x := ⟨_, rfl⟩
      rw [hx] at htk d0 d1
      clear hx
      have hJ2 : J (xs.take k) (wr.alloc (.cells #[.int .i64 x.1, .int .i64 x.2] 24)) := HJ.out _ _ _ none hJs (World.grownBy_alloc wr _ none) (fun r e => by cases e)
      obtain ⟨fn, tmps, assign, body, hy, hR⟩ := hY _ x _ hJ2 htl
      rw [← htk] at hR
      have HTP := hid htp
      have HNX := hid hnx
      clear htp htk htl hJ2 hJs hlt
      obtain ⟨x1, x2⟩ := x
      gi_wp2
      refine hR.mono ?_
      rintro e W3 (⟨rfl, hJ3, hk3⟩ | ⟨rfl, hJx3⟩)
      · gi_wp2
        go_roundw
        case rel => exact ⟨k + 1, by omega, by simp, hJ3, (HNX.out.alloc _).trans hk3⟩
        case measure => simp [intOf]; omega
      · gi_wp2
        refine bodyPost_ret (results_none rfl _ _ _) rfl ?_
        exact ⟨⟨_, rfl⟩, .inr ⟨_, HTP.out, hJx3⟩⟩
    · obtain rfl : k = xs.length := by omega
      rw [List.take_length] at hJs
      gi_wp2
      go_end0
      exact ⟨⟨_, rfl⟩, .inl ⟨_, rfl, hJs⟩⟩
end Go.Proofs.Ytdehojhipiklmaa
