/- slices.AppendSeq, Collect, Values; slots.All; the law's own All. -/
import Derived.Test.YtopheimplclfcaaDoorSlEach
import Derived.RangeFuncBox
import Derived.Maps.AppendAt
namespace Go.Proofs.YtopheimplclfcaaDoor
open Go.RowKit Go.Shelf
attribute [local go_sem] Oper.semAt_some

theorem infoInt : (Tryd.prog.info? 3).map (fun i => (i.zero, i.size, i.bytes)) = some (some (.int .i64 0), 1, 8) := by kernel_rfl
theorem Fr.from_below {n : Nat} {a w : World} (h : Below n a w) : Fr (fun k => n ≤ k) a w := ⟨h.os, h.tape, h.output, h.size, fun k _ hs => h.block k (by omega)⟩

/-- a value that hands out the numbers xs, as long as a round writes nothing below n -/
abbrev Gives (n : Nat) (gf : Nat) (lb : Array Value) (N0 : Nat) (xs : List Nat) (N : Nat) (w : World) : Prop :=
  SeqStopsK Fence.wide N0 Tryd.prog gf lb (fun x : Nat => #[i64v x]) (Fr fun k => n ≤ k) (fun ys => ys = xs) (fun pre => pre <+: xs) N w

set_option maxRecDepth 100000 in
set_option maxHeartbeats 2000000 in
theorem appendSeq_in (n : Nat) (hn : 3 ≤ n) (gf : Nat) (lb : Array Value) (xs : List Nat) (N : Nat) (hN : N ≤ 1024) (eg : ∀ args w, (callFunc gf args).run Tryd.prog w = .ok (.enter gf args) w) (w : World) (h : Gives w.heap.size gf lb (n - 1) xs N w) :
    CallsIn Fence.wide n Tryd.prog 60 #[.slice none 0 0, .func (.func gf) #[] lb] w fun e W' => ∃ v, e = .returned v ∧ W'.ownsRow w.heap.size 3 1 v xs.length (xs.map i64v) ∧ Below w.heap.size w W' := by
  have h1 : 1 ≤ n := by omega
  obtain ⟨i0, hi, hz0, hz1, hz2⟩ := info_parts infoInt
  refine callsIn_of_wp_marks Tryd.func60 rfl trivial ?_ rfl
  simp only [Tryd.ntmps60, List.size_toArray, List.length_cons, List.length_nil, Nat.reduceAdd, Nat.reduceSub, Array.replicate_succ, Array.replicate_zero, List.push_toArray, List.append_toArray, List.nil_append, List.cons_append]
  gi_wp2
  have bO := Boxed.new w 41 (.slice none 0 0)
  have hB0 : Below w.heap.size w (w.alloc (.cells #[.slice none 0 0] 41)) := (Below.refl _ w).alloc (Nat.le_refl _) _
  refine wpIn_rangeFunc_ownG rfl h1 (gf := gf) (lb := lb) rfl trivial eg h frK_t (frK_b (fun k hk => by simp at hk; omega)) hB0 (fun _ => rfl)
    (fun pre W => (∃ v, Boxed W w.heap.size 41 v ∧ W.ownsRow w.heap.size 3 1 v pre.length (pre.map i64v) ∧ True) ∧ Below w.heap.size w W)
    (fun _ _ _ => False)
    (OwnFrom.and (Own.from (holdsRow_own w.heap.size w.heap.size 41 3 1 (fun pre : List Nat => pre.length) (fun pre => pre.map i64v) (fun _ _ => True)) _) (ownFrom_below (Nat.le_refl _) (by simp)))
    (fun _ _ _ _ _ hs _ _ => hs)
    ⟨⟨_, bO, World.ownsRow_nil _ _ _ _, trivial⟩, hB0⟩
    (fun x => { tmps := #[.slice none 0 0, .func (.func gf) #[] lb, .pointer (some ⟨w.heap.size, 0, none⟩), undef, .slice none 0 0, i64v x, .func (.func gf) #[] lb, i64v x, undef, undef, undef, undef, undef], defers := [] }) ?assign ?body ?done ?stop
  case assign =>
    intro l x W K hK
    gi_wp2
    exact hK
  case body =>
    rintro l pre x W ⟨⟨v, hv, hrow, -⟩, hB⟩ hlt
    have hc := hv.cell
    gi_wp2_with (gi_at_builtin; refine wpListIn_append_own _ rfl _ _ 41 rfl w.heap.size 3 i0 (.int .i64 0) 1 8 Tryd.underlying41 hi hz0 hz1 hz2 rfl (by decide) _ _ _ rfl (hrow.alloc _) ⟨W.heap.size, 0, none⟩ 1 1 [i64v x] rfl rfl (cell_one_new _ _ _) (by simp [Value.oneCell']) (by unfold maxLen; omega) (by omega) (by have := hB.size; simp; omega) ?_; intro v' w1 hown' hgrow _; obtain ⟨g', cap', rfl⟩ := ownsRow_succ hown'; obtain ⟨hv1, hv2, hr2, hk2, hb2⟩ := hv.appended (by decide) hrow hB.size (Nat.le_refl _) hown' hgrow; have hc1 := hv1.cell; have hf1 := hv1.frozen)
    exact ⟨hk2.from _, Fr.from_below hb2, ⟨_, hv2, by simpa using hr2, trivial⟩, hB.trans hb2⟩
  case done =>
    rintro D ys W hD rfl ⟨⟨v, hv, hrow, -⟩, hB⟩ hK
    have hc := hv.cell
    gi_wp2
    refine ⟨by simp, .inl ⟨_, _, rfl, run_takeDeferred hK, ?_⟩⟩
    exact ⟨_, results_tmp rfl _ _ _, v, rfl, ownsRow_putObj hrow _ hK rfl, hB.trans (belowK_b (w := w) (Nat.le_refl _) W D _ _ (by simp at hD; omega) hK rfl rfl)⟩
  case stop =>
    rintro D c pre W _ _ h _
    exact h.elim

set_option maxHeartbeats 1000000 in
theorem collect_in (n : Nat) (hn : 4 ≤ n) (gf : Nat) (lb : Array Value) (xs : List Nat) (N : Nat) (hN : N ≤ 1024) (eg : ∀ args w, (callFunc gf args).run Tryd.prog w = .ok (.enter gf args) w) (w : World) (h : Gives w.heap.size gf lb (n - 1 - 1) xs N w) :
    CallsIn Fence.wide n Tryd.prog 55 #[.func (.func gf) #[] lb] w fun e W' => ∃ v, e = .returned v ∧ W'.ownsRow w.heap.size 3 1 v xs.length (xs.map i64v) ∧ Below w.heap.size w W' := by
  have h1 : 1 ≤ n := by omega
  refine callsIn_of_wp Tryd.func55 rfl trivial ?_ rfl
  simp only [Tryd.ntmps55, List.size_toArray, List.length_cons, List.length_nil, Nat.reduceAdd, Nat.reduceSub, Array.replicate_succ, Array.replicate_zero, List.push_toArray, List.append_toArray, List.nil_append, List.cons_append]
  gi_wp2_with (refine ⟨trivial, ?_⟩; gi_at_call 60; refine (appendSeq_in (n - 1) (by omega) gf lb xs N hN eg w h).mono ?_; rintro e w' ⟨v, rfl, hv, hB⟩)
  go_ret
  exact ⟨_, rfl, hv, hB⟩

set_option maxHeartbeats 1000000 in
theorem values_in (F : Fence) (n : Nat) (hF : F.fn 54) (hro : F.round = none) (a : Option Addr) (len cap : Nat) (w : World) :
    CallsIn F n Tryd.prog 54 #[.slice a len cap] w fun e w' => e = .returned (.func (.func 59) #[] #[.pointer (some ⟨w.heap.size, 0, none⟩)]) ∧ w' = w.alloc (.cells #[.slice a len cap] 41) := by
  refine callsIn_of_wp Tryd.func54 rfl hF ?_ hro
  simp only [Tryd.ntmps54, List.size_toArray, List.length_cons, List.length_nil, Nat.reduceAdd, Nat.reduceSub, Array.replicate_succ, Array.replicate_zero, List.push_toArray, List.append_toArray, List.nil_append, List.cons_append]
  gi_wp2
  go_ret
  exact ⟨rfl, rfl⟩

set_option maxRecDepth 100000 in
set_option maxHeartbeats 2000000 in
theorem values1_in (F : Fence) (n : Nat) (hF : F.fn 59) (hro : F.round = none) (hn : 1 ≤ n) (l Bs n₀ : Nat) (a : Option Addr) (cap : Nat) (xs : List Nat) (hlen : xs.length ≤ 1024) (J Jx : List Nat → World → Prop)
    (hY : ∀ pre x W, J pre W → pre.length < xs.length → YieldAt F (n - 1) Tryd.prog l #[i64v x] W fun e W' =>
      (e = .returned (.bool true) ∧ J (pre ++ [x]) W' ∧ Fr (fun k => n₀ ≤ k) W W') ∨ (e = .returned (.bool false) ∧ Jx (pre ++ [x]) W'))
    (W : World) (hBs : W.cell? ⟨Bs, 0, none⟩ = some (.slice a xs.length cap)) (hc : ∀ j (hj : j < xs.length), ∃ g, a = some ⟨g, 0, none⟩ ∧ g < n₀ ∧ W.cell? ⟨g, j, none⟩ = some (i64v xs[j])) (h0 : J [] W) :
    CallsIn F n Tryd.prog 59 #[.func (.yield l) #[] #[], .pointer (some ⟨Bs, 0, none⟩)] W fun e W' => (∃ v, e = .returned v) ∧
      ((∃ ys, ys = xs ∧ J ys W') ∨ (∃ pre, pre <+: xs ∧ Jx pre W')) := by
  have HC := hid hc
  clear hc
  refine callsIn_of_wp Tryd.func59 rfl hF ?_ hro
  simp only [Tryd.ntmps59, List.size_toArray, List.length_cons, List.length_nil, Nat.reduceAdd, Nat.reduceSub, Array.replicate_succ, Array.replicate_zero, List.push_toArray, List.append_toArray, List.nil_append, List.cons_append]
  gi_wp2
  gi_loopw [7] (fun i wr => ∃ k : Nat, k ≤ xs.length ∧ i = .int .i64 k ∧ J (xs.take k) wr ∧ Fr (fun k => n₀ ≤ k) W wr)
    (fun i _ => xs.length - (intOf i).toNat)
  case atStart => exact ⟨0, Nat.zero_le _, rfl, h0, Fr.refl _ _⟩
  case round =>
    obtain ⟨k, hk, rfl, hJs, hnx⟩ := hrel
    by_cases hlt : k < xs.length
    · obtain ⟨g, rfl, hg, hcg⟩ := HC.out k hlt
      have hc := (hnx.cell (p := ⟨g, k, none⟩) (lt_of_cell hcg) (show ¬ n₀ ≤ g by omega)).trans hcg
      have htk := List.take_succ_eq_append_getElem hlt
      have htl : (xs.take k).length < xs.length := by simp; omega
      have htp : xs.take (k + 1) <+: xs := List.take_prefix _ _
      clear hcg
      generalize xs[k] = x at *
      obtain ⟨fn, tmps, assign, body, hy, hR⟩ := hY _ x wr hJs htl
      rw [← htk] at hR
      gi_wp2
      refine hR.mono ?_
      rintro e W3 (⟨rfl, hJ3, hk3⟩ | ⟨rfl, hJx3⟩)
      · gi_wp2
        go_roundw
        case rel => exact ⟨k + 1, by omega, by simp, hJ3, hnx.trans hk3⟩
        case measure => simp [intOf]; omega
      · gi_wp2
        refine bodyPost_ret (results_none rfl _ _ _) rfl ?_
        exact ⟨⟨_, rfl⟩, .inr ⟨_, htp, hJx3⟩⟩
    · obtain rfl : k = xs.length := by omega
      rw [List.take_length] at hJs
      gi_wp2
      go_end0
      exact ⟨⟨_, rfl⟩, .inl ⟨_, rfl, hJs⟩⟩

theorem own_cells {w : World} {base : Nat} {v : Value} {xs : List Nat} (h : w.ownsRow base 3 1 v xs.length (xs.map i64v)) :
    ∃ a cap, v = .slice a xs.length cap ∧ ∀ j (hj : j < xs.length), ∃ g, a = some ⟨g, 0, none⟩ ∧ base ≤ g ∧ g < w.heap.size ∧ w.cell? ⟨g, j, none⟩ = some (i64v xs[j]) := by
  obtain ⟨_, ⟨rfl, h0⟩ | ⟨g, cap, cur, h1, h2, h3, h4, h5, h6, h7⟩⟩ := h
  · exact ⟨none, 0, by rw [h0], fun j hj => by omega⟩
  · refine ⟨_, cap, h1, fun j hj => ⟨g, rfl, h2, lt_of_block h3, ?_⟩⟩
    have : (xs.map i64v)[j]? = cur[j]? := by rw [← h7, List.getElem?_take]; simp [hj]
    rw [cell_blk h3, ← this]; simp [hj]

set_option maxHeartbeats 1000000 in
theorem slall_in (n : Nat) (hn : 6 ≤ n) (a : Option Addr) (st : Int) (xs : List Nat) (hlen : xs.length ≤ 1024) (w : World) (h : SlR w No a xs) :
    CallsIn Fence.wide n Tryd.prog 49 #[.pointer a, .int .i64 st] w fun e W' => ∃ B ra cap, e = .returned (.func (.func 59) #[] #[.pointer (some ⟨B, 0, none⟩)]) ∧
      B < W'.heap.size ∧ W'.cell? ⟨B, 0, none⟩ = some (.slice ra (which xs st).length cap) ∧ (∀ j (hj : j < (which xs st).length), ∃ g, ra = some ⟨g, 0, none⟩ ∧ g < W'.heap.size ∧ W'.cell? ⟨g, j, none⟩ = some (i64v (which xs st)[j])) ∧ Below w.heap.size w W' := by
  have h1 : 1 ≤ n := by omega
  have hsp := cell_new1 w (.pointer a) 52
  obtain ⟨w1, hw1⟩ : ∃ w1, w.alloc (.cells #[.pointer a] 52) = w1 := ⟨_, rfl⟩
  have hz1 : w1.heap.size = w.heap.size + 1 := by rw [← hw1]; simp
  have hsb := cell_new1 w1 (.int .i64 st) 3
  obtain ⟨w2, hw2⟩ : ∃ w2, w1.alloc (.cells #[.int .i64 st] 3) = w2 := ⟨_, rfl⟩
  have hz2 : w2.heap.size = w.heap.size + 2 := by rw [← hw2]; simp [hz1]
  have hB2 : Below w.heap.size w w2 := by rw [← hw2, ← hw1]; exact ((Below.refl _ w).alloc (Nat.le_refl _) _).alloc (by simp) _
  rw [hw1] at hsp
  rw [hz1, hw2] at hsb
  have hsp2 : w2.cell? ⟨w.heap.size, 0, none⟩ = some (.pointer a) := by rw [← hw2]; exact cell_allocd _ hsp.1
  have hR : SlR w2 (fun k => w2.heap.size ≤ k) a xs := by
    cases h with
    | nil => exact .nil
    | «at» h _ _ =>
      have := h.ltp; have := h.ltq
      exact .at (h.no (Fr.of_below hB2)) (by omega) (by omega)
  have HG := hid (each_stops Fence.wide (n - 1 - 1 - 1) trivial rfl (by omega) w.heap.size (w.heap.size + 1) (fun k => w2.heap.size ≤ k) a xs st w2 hR hsp2 hsb.1 (by omega) (by omega) (by omega))
  have HB2 := hid hB2
  have HW : Hid ((w.alloc (.cells #[.pointer a] 52)).alloc (.cells #[.int .i64 st] 3) = w2) := by rw [hw1]; exact hw2
  clear hsp hsb hsp2 hR hB2 hw1 hw2 hz1 h
  refine callsIn_of_wp Tryd.func49 rfl trivial ?_ rfl
  simp only [Tryd.ntmps49, List.size_toArray, List.length_cons, List.length_nil, Nat.reduceAdd, Nat.reduceSub, Array.replicate_succ, Array.replicate_zero, List.push_toArray, List.append_toArray, List.nil_append, List.cons_append]
  gi_wp2_with (first
    | (refine ⟨trivial, ?_⟩; gi_at_call 50; refine (each_in Fence.wide (n - 1) trivial rfl _ _ _).mono ?_; rintro e w' ⟨rfl, rfl⟩; rw [HW.out])
    | (refine ⟨trivial, ?_⟩; gi_at_call 55; refine (collect_in (n - 1) (by omega) _ _ (which xs st) xs.length hlen (enters_of Tryd.func56 (by kernel_rfl) rfl) w2 HG.out).mono ?_; rintro e w3 ⟨v, rfl, hv, hB3⟩; obtain ⟨ra, cap, rfl, hcs⟩ := own_cells hv; have HB3 := hid hB3; have HC := hid hcs; clear hB3 hv hcs)
    | (refine ⟨trivial, ?_⟩; gi_at_call 54; refine (values_in Fence.wide (n - 1) trivial rfl _ _ _ _).mono ?_; rintro e w4 ⟨rfl, rfl⟩))
  go_ret
  have hz3 := HB3.out.size
  refine ⟨_, ra, cap, rfl, by simp, (cell_new1 w3 _ _).1, fun j hj => ?_, (HB2.out.trans (HB3.out.mono (by omega))).alloc (by omega) _⟩
  obtain ⟨g, hg, _, hl, hcg⟩ := HC.out j hj
  exact ⟨g, hg, by simp; omega, cell_allocd _ hcg⟩
end Go.Proofs.YtopheimplclfcaaDoor
