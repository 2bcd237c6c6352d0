/- spans: Numbers. -/
import Derived.Test.YtdehojhipiklmaaSpCa
import Derived.Laws.EntriesVeiled
namespace Go.Proofs.Ytdehojhipiklmaa
open Go.RowKit Go.Shelf
attribute [local go_sem] Oper.semAt_some

def numsOf (s : Sp) : List Nat := (List.range s.2).map (s.1 + ·)
def nums (L : List Sp) : List Nat := L.flatMap numsOf
theorem numsOf_len (s : Sp) : (numsOf s).length = s.2 := by simp [numsOf]
theorem nums_len : ∀ L : List Sp, (nums L).length = sumN L
  | [] => rfl
  | s :: L => by
    have := nums_len L
    unfold nums at *
    rw [List.flatMap_cons, List.length_append, numsOf_len, this]; rfl
theorem nums_snoc (pre : List Sp) (x : Sp) : nums (pre ++ [x]) = nums pre ++ numsOf x := by unfold nums; rw [List.flatMap_append]; simp
theorem numsOf_take (s : Sp) (k : Nat) (h : k < s.2) : (numsOf s).take (k + 1) = (numsOf s).take k ++ [s.1 + k] := by
  have hl : k < (numsOf s).length := by rw [numsOf_len]; exact h
  rw [List.take_succ_eq_append_getElem hl]; simp [numsOf]
set_option maxRecDepth 100000 in
set_option maxHeartbeats 2000000 in
theorem spvals_calm (n : Nat) (Bs : Nat) (T : Nat → Prop) (a : Option Addr) (cap : Nat) (xs : List Sp) (hlen : xs.length ≤ 1048576) (w : World)
    (hBs : w.cell? ⟨Bs, 0, none⟩ = some (.slice a xs.length cap)) (hBl : Bs < w.heap.size) (hc : Elems spV 2 w a xs) (hn0 : 0 < xs.length → ∀ b o, a = some ⟨b, o, none⟩ → ¬ T b) :
    Calm n Try.prog 42 #[.pointer (some ⟨Bs, 0, none⟩)] (fun x : Sp => #[spA x]) T xs w := by
  intro l J W hbw _ hJ hY h0
  have hBs' := (hbw.cell (p := ⟨Bs, 0, none⟩) hBl).trans hBs
  have HC := hid (Elems.no hc (Fr.of_below hbw))
  have HN0 := hid hn0
  have HJ := hid hJ
  have HY := hid hY
  have hlen' : (xs.length : Int) ≤ 1048576 := by omega
  clear hc hn0 hJ hY hBs hBl hbw
  refine callsIn_of_wp Try.func42 rfl trivial ?_ rfl
  simp only [Try.ntmps42, List.size_toArray, List.length_cons, List.length_nil, Nat.reduceAdd, Nat.reduceSub, Array.replicate_succ, Array.replicate_zero, List.push_toArray, List.append_toArray, List.nil_append, List.cons_append]
  gi_wp2
  gi_loopw [7] (fun i wr => ∃ k : Nat, k ≤ xs.length ∧ i = .int .i64 k ∧ J (xs.take k) wr ∧ Fr T W wr)
    (fun i _ => xs.length - (intOf i).toNat)
  case atStart => exact ⟨0, Nat.zero_le _, rfl, h0, Fr.refl _ _⟩
  case round =>
    obtain ⟨k, hk, rfl, hJs, hnx⟩ := hrel
    by_cases hlt : k < xs.length
    · obtain ⟨b, o, rfl, hb, c0, c1⟩ := HC.out.sp2 k hlt
      have hbn := HN0.out (by omega) b o rfl
      have d0 := (hnx.cell (p := ⟨b, o + k * 2, none⟩) hb hbn).trans c0
      have d1 := (hnx.cell (p := ⟨b, o + k * 2 + 1, none⟩) hb hbn).trans c1
      have hkl : (k : Int) < (xs.length : Int) := by omega
      have htk := List.take_succ_eq_append_getElem hlt
      have htp : xs.take (k + 1) <+: xs := List.take_prefix _ _
      clear c0 c1
      obtain ⟨x, hx⟩ : ∃ x, xs[k] = x := ⟨_, rfl⟩
      rw [hx] at htk d0 d1
      clear hx
      have hJ2 : J (xs.take k) (wr.alloc (.cells #[.int .i64 x.1, .int .i64 x.2] 24)) := HJ.out _ _ _ none hJs (World.grownBy_alloc wr _ none) (fun r e => by cases e)
      obtain ⟨fn, tmps, assign, body, hy, hR⟩ := HY.out _ x _ hJ2 (by rw [← htk]; exact htp)
      rw [← htk] at hR
      have HNX := hid hnx
      clear htp htk hJ2 hJs hlt hnx
      obtain ⟨x1, x2⟩ := x
      gi_wp2
      refine ⟨(fun h => by cases h), hR.mono ?_⟩
      rintro e W3 ⟨rfl, hJ3, hk3⟩
      gi_wp2
      go_roundw
      case rel => exact ⟨k + 1, by omega, by simp, hJ3, (HNX.out.alloc _).trans hk3⟩
      case measure => simp [intOf]; omega
    · obtain rfl : k = xs.length := by omega
      rw [List.take_length] at hJs
      gi_wp2
      go_end0
      exact ⟨⟨_, rfl⟩, hJs⟩
theorem sp_Numbers (w : World) (p : Nat) (S : Nat → Prop) (L : List Sp) (h : St w p S L) : Calls Try.prog 22 #[.pointer (some ⟨p, 0, none⟩)] w fun e w' => ∃ Bn B ra cap, e = .returned (.func (.func 31) #[] #[.pointer (some ⟨Bn, 0, none⟩)]) ∧
    Bn < w'.heap.size ∧ w'.cell? ⟨Bn, 0, none⟩ = some (.func (.func 42) #[] #[.pointer (some ⟨B, 0, none⟩)]) ∧ B < w'.heap.size ∧ w'.cell? ⟨B, 0, none⟩ = some (.slice ra L.length cap) ∧ Elems spV 2 w' ra L ∧ Fr No w w' := by
  have HA := hid (sp_All w p S L h)
  clear h
  go_enter Try.func22, Try.ntmps22
  go_wp2_with fail
  refine HA.out.mono ?_
  rintro e w1 ⟨B, ra, cap, rfl, hB, hc, hE, hF⟩
  have HB := hid hB
  have HC := hid hc
  have HE := hid hE
  have HF := hid hF
  clear hB hc hE hF HA
  go_wp2_with fail
  go_ret
  have hb := heap_new w1 (.cells #[.func (.func 42) #[] #[.pointer (some ⟨B, 0, none⟩)]] 61)
  have f1 : Fr No w1 (w1.alloc (.cells #[.func (.func 42) #[] #[.pointer (some ⟨B, 0, none⟩)]] 61)) := (Fr.refl No w1).alloc _
  exact ⟨_, B, ra, cap, rfl, lt_of_block hb, (cell_blk hb 0).trans rfl, f1.lt HB.out, (f1.cell (p := ⟨B, 0, none⟩) HB.out id).trans HC.out, Elems.no HE.out f1, HF.out.trans f1⟩
theorem OwnFrom.up {β : Type} {B B' : Nat} {I : β → World → Prop} (h : OwnFrom B I) (hB : B ≤ B') : OwnFrom B' I := fun s W W' row hs hg hr => h s W W' row hs hg (fun r e => ⟨Nat.le_trans hB (hr r e).1, (hr r e).2⟩)
theorem Fr.keepsFrom {T : Nat → Prop} {W W' : World} {B : Nat} (f : Fr T W W') (h : ∀ k, B ≤ k → ¬ T k) : KeepsFrom B W W' := ⟨f.size, fun k o hk ho _ => (f.block k (lt_of_block ho) (h k hk)).trans ho⟩
set_option maxRecDepth 100000 in
set_option maxHeartbeats 4000000 in
theorem nums_calm (n : Nat) (Bn B : Nat) (T : Nat → Prop) (a : Option Addr) (cap : Nat) (L : List Sp) (hG : GoodB L) (w : World) (hBn : Bn < w.heap.size) (hcn : w.cell? ⟨Bn, 0, none⟩ = some (.func (.func 42) #[] #[.pointer (some ⟨B, 0, none⟩)]))
    (hB : B < w.heap.size) (hc : w.cell? ⟨B, 0, none⟩ = some (.slice a L.length cap)) (hE : Elems spV 2 w a L) (hn0 : 0 < L.length → ∀ b o, a = some ⟨b, o, none⟩ → ¬ T b) :
    Calm n Try.prog 31 #[.pointer (some ⟨Bn, 0, none⟩)] (fun x : Nat => #[.int .i64 x]) T (nums L) w := by
  intro l J W hbw hTW hJ hY h0
  have hcn' := (hbw.cell (p := ⟨Bn, 0, none⟩) hBn).trans hcn
  have hbx := heap_new W (.cells #[.func (.yield l) #[] #[]] 45)
  have fW1 : Fr No W (W.alloc (.cells #[.func (.yield l) #[] #[]] 45)) := (Fr.refl No W).alloc _
  have hcna := fun o => cell_allocd o hcn'
  have hlen := hG.len
  have hB' : B < (W.alloc (.cells #[.func (.yield l) #[] #[]] 45)).heap.size := fW1.lt (Nat.lt_of_lt_of_le hB hbw.size)
  have HSEQ : Hid (Calm (n - 1) Try.prog 42 #[.pointer (some ⟨B, 0, none⟩)] (fun x : Sp => #[spA x]) (fun k => T k ∨ k = (W.alloc (.cells #[.func (.yield l) #[] #[]] 45)).heap.size + 1) L (W.alloc (.cells #[.func (.yield l) #[] #[]] 45))) :=
    spvals_calm (n - 1) B _ a cap L hlen _ ((fW1.cell (p := ⟨B, 0, none⟩) (Nat.lt_of_lt_of_le hB hbw.size) id).trans ((hbw.cell (p := ⟨B, 0, none⟩) hB).trans hc)) hB'
      (Elems.no (Elems.no hE (Fr.of_below hbw)) fW1) (fun hp b o e h => h.elim (hn0 hp b o e) (fun h => by
        rcases hE with hE | ⟨b', o', e', hb', _⟩
        · subst hE; simp at hp
        · rw [e'] at e; injection e with e; injection e with e
          have := hbw.size; have := fW1.size; omega))
  have HJ := hid hJ
  have HY := hid hY
  have HG := hid hG
  have HTW := hid hTW
  have hJ1 : J [] (W.alloc (.cells #[.func (.yield l) #[] #[]] 45)) := hJ.alloc _ h0
  have hzW : (W.alloc (.cells #[.func (.yield l) #[] #[]] 45)).heap.size = W.heap.size + 1 := by simp
  clear hcn hc hE hn0 hB hBn hbw hJ hY hG hTW h0 hB' fW1
  refine callsIn_of_wp_marks Try.func31 rfl trivial ?_ rfl
  simp only [Try.ntmps31, List.size_toArray, List.length_cons, List.length_nil, Nat.reduceAdd, Nat.reduceSub, Array.replicate_succ, Array.replicate_zero, List.push_toArray, List.append_toArray, List.nil_append, List.cons_append]
  gi_wp2
  obtain ⟨W1, hW1⟩ : ∃ W1, W.alloc (.cells #[.func (.yield l) #[] #[]] 45) = W1 := ⟨_, rfl⟩
  rw [hW1] at hbx HSEQ hJ1 hzW ⊢
  clear hW1 hcn' hcna
  obtain ⟨Y, hY⟩ : ∃ Y, W.heap.size = Y := ⟨_, rfl⟩
  rw [hY] at hbx hzW HJ HTW ⊢
  clear hY
  have hI : OwnFrom W1.heap.size (fun (pre : List Sp) W' => J (nums pre) W' ∧ W'.heap[Y]? = some (.cells #[.func (.yield l) #[] #[]] 45 (0, 0))) :=
    OwnFrom.and (fun s A B row hs hg hr => (OwnFrom.up HJ.out (by omega : Y ≤ W1.heap.size)) _ A B row hs hg hr) (Own.from (block_own Y (fun _ => .cells #[.func (.yield l) #[] #[]] 45 (0, 0)) (fun _ => rfl)) _)
  refine rangeFunc_calm (gf := 42) (lb := #[.pointer (some ⟨B, 0, none⟩)]) rfl (enters_of Try.func42 (by kernel_rfl) rfl) HSEQ.out (.inr rfl)
    (fun k hk h => h.elim (HTW.out k (by omega)) (fun h => by omega)) (by intro _; rfl)
    (fun pre W' => J (nums pre) W' ∧ W'.heap[Y]? = some (.cells #[.func (.yield l) #[] #[]] 45 (0, 0))) hI ⟨hJ1, hbx⟩
    (fun x a' W' => ∃ B', W1.heap.size ≤ B' ∧ W'.heap[B']? = some (.cells #[.int .i64 x.1, .int .i64 x.2] 24 (0, 0)) ∧ a' = { tmps := #[.func (.yield l) #[] #[], .pointer (some ⟨Bn, 0, none⟩), .pointer (some ⟨Y, 0, none⟩), .pointer (some ⟨B', 0, none⟩), undef, .func (.func 42) #[] #[.pointer (some ⟨B, 0, none⟩)], spA x, undef, undef, undef, undef, undef, undef, undef, undef, undef, undef, undef, undef, undef], defers := [] })
    (fun x a' s X Z row hs hg hrow => by
      obtain ⟨B', hB0, hB', e⟩ := hs
      exact ⟨B', hB0, Own.from (block_own (β := Unit) B' (fun _ => .cells #[.int .i64 x.1, .int .i64 x.2] 24 (0, 0)) (fun _ => rfl)) W1.heap.size () X Z row hB' hg hrow, e⟩) ?assign ?body ?done
  case assign =>
    intro l' pre x W' K hIp hK
    have hfa : Fr (fun k => T k ∨ k = W1.heap.size + 1) W' (W'.alloc (.cells #[.int .i64 x.1, .int .i64 x.2] 24)) := (Fr.refl _ W').alloc _
    have hK2 := hid (fun a' hz e => hK a' (W'.alloc (.cells #[.int .i64 x.1, .int .i64 x.2] 24)) ((KeepsOthers.alloc W' _).from _) hfa (hI.alloc _ hIp) ⟨W'.heap.size, hz, heap_new W' _, e⟩)
    have hyz := lt_of_block hIp.2
    have hz : W1.heap.size ≤ W'.heap.size := by omega
    have HZ := hid hz
    clear hIp hK HSEQ HJ HY HG HTW hI hfa hyz hz
    obtain ⟨x1, x2⟩ := x
    gi_wp2
    exact hK2.out _ HZ.out rfl
  case body =>
    rintro l' pre x a' W' ⟨hJp, hYb⟩ ⟨B', hB0, hB', rfl⟩ hpre
    have hxL : x ∈ L := hpre.subset (by simp)
    have hxb := HG.out.2 x hxL
    have x0 := cell_blk hB' 0
    have x1 := cell_blk hB' 1
    simp only [List.getElem?_toArray, List.getElem?_cons_zero, List.getElem?_cons_succ] at x0 x1
    have HPRE : Hid (∀ k, k ≤ x.2 → nums pre ++ (numsOf x).take k <+: nums L) := fun k _ => by
      refine List.IsPrefix.trans ?_ (?_ : nums (pre ++ [x]) <+: nums L)
      · rw [nums_snoc]; exact (List.prefix_append_right_inj _).2 (List.take_prefix _ _)
      · obtain ⟨t, ht⟩ := hpre
        rw [← ht]; unfold nums; rw [List.flatMap_append (xs := pre ++ [x])]; exact List.prefix_append _ _
    have HTAKE := hid (numsOf_take x)
    have HSN := hid (nums_snoc pre x)
    have HFUL : Hid ((numsOf x).take x.2 = numsOf x) := List.take_of_length_le (by rw [numsOf_len]; exact Nat.le_refl _)
    have hTB : ¬ T B' := HTW.out B' (by omega)
    have hTY : ¬ T Y := HTW.out Y (Nat.le_refl _)
    have HB' := hid hB'
    have HYB := hid hYb
    have hJ0 : J (nums pre ++ (numsOf x).take 0) W' := by rw [List.take_zero, List.append_nil]; exact hJp
    obtain ⟨xa, xn⟩ := x
    have hxb' : (xa : Int) + (xn : Int) ≤ 1048576 := by have : xa + xn ≤ 1048576 := hxb; omega
    clear hpre hxL hxb HSEQ hI hB' hYb hJp HG
    gi_wp2
    gi_loopw [4, 9] (fun _ i wr => ∃ k : Nat, k ≤ xn ∧ i = .int .i64 k ∧ J (nums pre ++ (numsOf (xa, xn)).take k) wr ∧ Fr T W' wr)
      (fun _ i _ => xn - (intOf i).toNat)
    case atStart => exact ⟨0, Nat.zero_le _, rfl, hJ0, Fr.refl _ _⟩
    case round =>
      obtain ⟨k, hk, rfl, hJs, hnx⟩ := hrel
      have z0 := (hnx.cell (p := ⟨B', 0, none⟩) (lt_of_block HB'.out) hTB).trans x0
      have y0 := (cell_blk ((hnx.block Y (lt_of_block HYB.out) hTY).trans HYB.out) 0)
      simp only [List.getElem?_toArray, List.getElem?_cons_zero] at y0
      by_cases hlt : k < xn
      · have hkl : (k : Int) < (xn : Int) := by omega
        obtain ⟨fn, tmps, assign, body, hy, hR⟩ := HY.out (nums pre ++ (numsOf (xa, xn)).take k) (xa + k) wr hJs (by rw [List.append_assoc, ← HTAKE.out k hlt]; exact HPRE.out (k + 1) (by omega))
        rw [List.append_assoc, ← HTAKE.out k hlt] at hR
        have e : (((xa + k : Nat)) : Int) = (xa : Int) + (k : Int) := by omega
        rw [e] at hy
        have HNX := hid hnx
        clear hnx hlt e
        gi_wp2
        refine ⟨(fun h => by cases h), (roundIn_any hR).mono ?_⟩
        rintro e W3 ⟨rfl, hJ3, hk3⟩
        gi_wp2
        go_roundw
        case rel => exact ⟨k + 1, by omega, by simp, hJ3, HNX.out.trans hk3⟩
        case measure => simp [intOf]; omega
      · obtain rfl : k = xn := by omega
        gi_wp2
        refine ⟨hnx.keepsFrom (fun k hk => HTW.out k (by omega)), hnx.mono (fun _ _ h => .inl h), by rw [HSN.out, ← HFUL.out]; exact hJs, (hnx.block Y (lt_of_block HYB.out) hTY).trans HYB.out⟩
  case done =>
    rintro D W' hD ⟨hJL, hYb⟩ hK
    have hJ2 := (OwnFrom.up HJ.out (by omega : Y ≤ W1.heap.size)).putObj (.deferred none) hJL hD hK rfl
    clear hI HSEQ
    gi_wp2
    refine ⟨by simp, .inl ⟨_, _, rfl, run_takeDeferred hK, ?_⟩⟩
    exact ⟨_, results_none rfl _ _ _, ⟨_, rfl⟩, hJ2⟩
end Go.Proofs.Ytdehojhipiklmaa
