/- forms: pageFits. -/
import Derived.Test.YtpifiamafgaadaaDoorFmI
namespace Go.Proofs.YtpifiamafgaadaaDoor
open Go.RowKit Go.Shelf
/-- the first k entries, the rest nought -/
def firstA (a b c d : EntI) (k : Nat) : Array Value := entsA (if 0 < k then a else ent0) (if 1 < k then b else ent0) (if 2 < k then c else ent0) (if 3 < k then d else ent0)
def pageA (q n o m : Int) (a b c d : EntI) : Array Value := (([.int .i64 q, .int .i64 n, .int .i64 o, .int .i64 m] : List Value) ++ (entsA a b c d).toList).toArray
def eqF (a b c d : EntI) (k : Nat) : Bool := eqE a (if 0 < k then a else ent0) && (eqE b (if 1 < k then b else ent0) && (eqE c (if 2 < k then c else ent0) && eqE d (if 3 < k then d else ent0)))
theorem eqE_if (a : EntI) (j k : Nat) : eqE a (if j < k then a else ent0) = (decide (j < k) || entZ a) := by
  by_cases h : j < k
  · rw [if_pos h, eqE_self]; simp [h]
  · rw [if_neg h, eqE_zero]; simp [h]
theorem ents_final (a b c d : EntI) (k : Nat) (n o m : Int) (h0 : 0 ≤ m) (h : m = k ∨ (k = 4 ∧ ∀ j : Nat, j < 4 → m ≠ j)) : (decide (n < o) && eqF a b c d k) = pageFitsB n o m a b c d := by
  unfold eqF pageFitsB
  rw [eqE_if, eqE_if, eqE_if, eqE_if]
  have key : ∀ j : Nat, j < 4 → decide (j < k) = decide ((j : Int) < m) := by
    intro j hj
    rcases h with h | ⟨h1, h2⟩
    · subst h; simp
    · subst h1
      have : 4 ≤ m := by
        have a0 := h2 0 (by omega)
        have a1 := h2 1 (by omega)
        have a2 := h2 2 (by omega)
        have a3 := h2 3 (by omega)
        have b0 : m ≠ 0 := by simpa using a0
        have b1 : m ≠ 1 := by simpa using a1
        have b2 : m ≠ 2 := by simpa using a2
        have b3 : m ≠ 3 := by simpa using a3
        omega
      have h1 : (j : Int) < m := by omega
      simp [hj, h1]
  rw [key 0 (by omega), key 1 (by omega), key 2 (by omega), key 3 (by omega)]
  simp [Bool.and_assoc]
def entAt (a b c d : EntI) (k : Nat) : EntI := if k = 0 then a else if k = 1 then b else if k = 2 then c else d
set_option maxRecDepth 100000 in
theorem ents_index (a b c d : EntI) (k : Nat) (hk : k < 4) (w : World) : (Instr.index 40 (.agg (entsA a b c d)) (.int .i64 (k : Int))).run Tryd.prog w = .ok (.agg (entV (entAt a b c d k)).toArray) w := by
  have hi : (Tryd.prog.info? 39).map (·.size) = some 4 := by kernel_rfl
  obtain ⟨i, hi, hs⟩ := Option.map_eq_some_iff.1 hi
  have hu := Tryd.underlying40
  obtain rfl | rfl | rfl | rfl : k = 0 ∨ k = 1 ∨ k = 2 ∨ k = 3 := by omega
  all_goals
    simp only [Instr.index]
    go_simp
    rfl
theorem info4 : (Tryd.prog.info? 39).map (·.size) = some 4 := by kernel_rfl
theorem range_blk {w : World} {g : Nat} {cs : Array Value} {t : TypeId} (h : w.heap[g]? = some (.cells cs t (0, 0))) : w.rangeAt g 0 cs.toList := fun j v hv => by
  rw [cell_blk h, Nat.zero_add, ← hv]; simp
theorem setCells_fr (g : Nat) : ∀ (vs : List Value) (o : Nat) (w : World), Fr (fun k => k = g) w (w.setCells g o vs)
  | [], _, w => Fr.refl _ w
  | v :: r, o, w => (Fr.set1 w g o v).trans (setCells_fr g r (o + 1) _)
theorem first_there {w : World} {a b c d : EntI} {F : Nat} {T : TypeId} (k : Nat) (hk : k < 4) (h : w.heap[F]? = some (.cells (firstA a b c d k) T (0, 0))) : w.there F (k * 4) 4 := fun j hj => by
  refine ⟨?_, free_blk h _⟩
  rw [cell_blk h, Array.getElem?_eq_getElem (by show k * 4 + j < 16; omega)]
  rfl
theorem store_first {w : World} {a b c d : EntI} {F : Nat} {T : TypeId} (k : Nat) (hk : k < 4) (h : w.heap[F]? = some (.cells (firstA a b c d k) T (0, 0))) : (w.setCells F (k * 4) (entV (entAt a b c d k))).heap[F]? = some (.cells (firstA a b c d (k + 1)) T (0, 0)) := by
  obtain rfl | rfl | rfl | rfl : k = 0 ∨ k = 1 ∨ k = 2 ∨ k = 3 := by omega
  all_goals
    simp only [entV, World.setCells]
    rw [set_blk (set_blk (set_blk (set_blk h _ _) _ _) _ _) _ _]
    rfl
theorem page_range {w : World} {X : Nat} {q n o m : Int} {a b c d : EntI} {PA : Array Value} {T : TypeId} (hP : pageA q n o m a b c d = PA) (h : w.heap[X]? = some (.cells PA T (0, 0))) : w.rangeAt X 4 (entsA a b c d).toList := fun j v hv => by
  rw [cell_blk h, ← hP]
  show (([.int .i64 q, .int .i64 n, .int .i64 o, .int .i64 m] : List Value) ++ (entsA a b c d).toList).toArray[4 + j]? = _
  rw [List.getElem?_toArray, List.getElem?_append_right (by simp), hv.symm]
  simp
theorem info16 {a b c d : EntI} : (Tryd.prog.info? 40).map (·.size) = some (entsA a b c d).toList.length := by
  have : (Tryd.prog.info? 40).map (·.size) = some 16 := by kernel_rfl
  exact this
set_option maxRecDepth 1000000 in
set_option maxHeartbeats 4000000 in
theorem fm_pageFits (w : World) (q n o m : Int) (a b c d : EntI) (hm0' : 0 ≤ m) : Calls Tryd.prog 47 #[.agg (pageA q n o m a b c d)] w fun e w' => e = .returned (.bool (pageFitsB n o m a b c d)) ∧ Fr No w w' := by
  obtain ⟨PA, hPA⟩ : ∃ A, pageA q n o m a b c d = A := ⟨_, rfl⟩
  rw [hPA]
  have HPA := hid hPA
  have hm0 := hid hm0'
  clear hm0'
  clear hPA
  go_enter Tryd.func47, Tryd.ntmps47
  go_wp2_with fail
  obtain ⟨w1, hw1⟩ : ∃ W, w.alloc (.cells PA 42) = W := ⟨_, rfl⟩
  have HX1 : Hid (w1.heap[w.heap.size]? = some (.cells PA 42 (0, 0))) := by rw [← hw1]; exact heap_new _ _
  have HF1 : Hid (Fr No w w1) := by rw [← hw1]; exact (Fr.refl No w).alloc _
  rw [hw1]
  clear hw1
  obtain ⟨X, hX⟩ : ∃ X, w.heap.size = X := ⟨_, rfl⟩
  rw [hX] at HX1 ⊢
  have HXE := hid hX
  clear hX
  go_step3
  go_wp2_with fail
  rw [show (#[Value.int IntKind.i64 0, Value.int IntKind.i64 0, Value.bool false, Value.int IntKind.i64 0, Value.int IntKind.i64 0, Value.int IntKind.i64 0, Value.bool false, Value.int IntKind.i64 0, Value.int IntKind.i64 0, Value.int IntKind.i64 0, Value.bool false, Value.int IntKind.i64 0, Value.int IntKind.i64 0, Value.int IntKind.i64 0, Value.bool false, Value.int IntKind.i64 0] : Array Value) = firstA a b c d 0 from rfl]
  have HF2 := hid (HF1.out.alloc (.cells (firstA a b c d 0) 40))
  have HB2 := hid (heap_new w1 (.cells (firstA a b c d 0) 40))
  have HX2 := hid (heap_more (o' := .cells (firstA a b c d 0) 40) HX1.out)
  obtain ⟨w2, hw2⟩ : ∃ W, w1.alloc (.cells (firstA a b c d 0) 40) = W := ⟨_, rfl⟩
  obtain ⟨F, hF⟩ : ∃ F, w1.heap.size = F := ⟨_, rfl⟩
  have HFX : Hid (X < F) := by rw [← hF]; exact lt_of_block HX1.out
  have HFE : Hid (w.heap.size ≤ F) := by rw [← hF]; exact HF1.out.size
  rw [hw2, hF] at HB2
  rw [hw2] at HF2 HX2 ⊢
  rw [hF]
  clear hw2 hF
  have HR2 := hid (page_range HPA.out HX2.out)
  go_step3
  go_wp2_with (refine wpList_load_mid_w (by rfl) 40 _ rfl X 4 rfl (entsA a b c d).toList 4 _ HR2.out Tryd.underlying40 info16 ?_)
  go_loopg [8] 4 (fun g i wr => ∃ k : Nat, k + g = 4 ∧ i = .int .i64 k ∧ Hid (wr.heap[F]? = some (.cells (firstA a b c d k) 40 (0, 0))) ∧ Hid (wr.heap[X]? = some (.cells PA 42 (0, 0))) ∧ Hid (Fr No w wr) ∧ Hid (∀ j : Nat, j < k → m ≠ j))
  case atStart => exact ⟨0, by omega, rfl, HB2, HX2, HF2, fun j hj => absurd hj (by omega)⟩
  case round =>
    obtain ⟨k, hk, rfl, HB, HX, HF, HM⟩ := hrel
    have c1 : wr.cell? ⟨X, 1, none⟩ = some (.int .i64 n) := by rw [cell_blk HX.out, ← HPA.out]; rfl
    have c2 : wr.cell? ⟨X, 2, none⟩ = some (.int .i64 o) := by rw [cell_blk HX.out, ← HPA.out]; rfl
    have c3 : wr.cell? ⟨X, 3, none⟩ = some (.int .i64 m) := by rw [cell_blk HX.out, ← HPA.out]; rfl
    have hgu := ents_guard
    cases gk with
    | succ g =>
      have hk4 : (k : Int) < 4 := by omega
      have hk3 : k < 4 := by omega
      have hix := fun W => ents_index a b c d k (by omega) W
      obtain ⟨⟨eb, es, ed, eu⟩, hek⟩ : ∃ e, entAt a b c d k = e := ⟨_, rfl⟩
      have HEK := hid hek
      rw [hek] at hix
      replace hix : ∀ W, (Instr.index 40 (.agg (entsA a b c d)) (.int .i64 (k : Int))).run Tryd.prog W = .ok (.agg #[.int .i64 eb, .int .i64 es, .bool ed, .int .i64 eu]) W := hix
      clear hek
      have hFE := (Fr.refl No wr).alloc (.cells #[.int .i64 eb, .int .i64 es, .bool ed, .int .i64 eu] 39)
      have HEE := hid (heap_new wr (.cells #[.int .i64 eb, .int .i64 es, .bool ed, .int .i64 eu] 39))
      have HFe := hid (HF.out.trans hFE)
      have HXe := hid ((hFE.block X (lt_of_block HX.out) id).trans HX.out)
      have HBe := hid ((hFE.block F (lt_of_block HB.out) id).trans HB.out)
      have d1 := (hFE.cell (p := ⟨X, 1, none⟩) (lt_of_block HX.out) id).trans c1
      have d2 := (hFE.cell (p := ⟨X, 2, none⟩) (lt_of_block HX.out) id).trans c2
      have d3 := (hFE.cell (p := ⟨X, 3, none⟩) (lt_of_block HX.out) id).trans c3
      have HRG := hid (range_blk HEE.out)
      have HTH := hid (first_there k hk3 HBe.out)
      have HONE := hid (show (#[.int .i64 eb, .int .i64 es, .bool ed, .int .i64 eu] : Array Value).all (·.oneCell') = true from all_oneCell_toArray (fun v hv => by simp only [List.mem_cons, List.not_mem_nil, or_false] at hv; rcases hv with rfl | rfl | rfl | rfl <;> rfl))
      clear hFE
      by_cases hm : m = k
      · have hm' : ((k : Int) == m) = true := by simp [hm]
        have HMK := hid hm
        clear hm
        clear c1 c2 c3
        have HEQ := hid (ents_final a b c d k n o m hm0.out (by exact .inl HMK.out))
        have HR3 := hid (page_range HPA.out HXe.out)
        obtain ⟨FA, hFA⟩ : ∃ A, firstA a b c d k = A := ⟨_, rfl⟩
        have hEQL : ∀ W, (binOp .eql 40 (.agg (entsA a b c d)) (.agg FA)).run Tryd.prog W = .ok (.bool (eqF a b c d k)) W := fun W => by rw [← hFA]; exact ents_eql ..
        rw [hFA] at HBe
        have HI3 : Hid ((Tryd.prog.info? 40).map (·.size) = some FA.size) := by rw [← hFA]; exact info16 (a := if 0 < k then a else ent0) (b := if 1 < k then b else ent0) (c := if 2 < k then c else ent0) (d := if 3 < k then d else ent0)
        obtain ⟨RES, hRES⟩ : ∃ r, eqF a b c d k = r := ⟨_, rfl⟩
        rw [hRES] at hEQL HEQ
        clear hFA hRES
        by_cases hno : n < o
        · go_wp2_with (first
            | (refine wpList_load_mid_w (by rfl) 40 _ rfl X 4 rfl (entsA a b c d).toList 4 _ HR3.out Tryd.underlying40 info16 ?_)
            | (refine wpList_load_row_w (by rfl) 40 _ rfl F rfl 40 FA (0, 0) _ _ HBe.out Tryd.underlying40 HI3.out ?_))
          have hE := HEQ.out
          rw [show decide (n < o) = true by simp [hno], Bool.true_and] at hE
          try rw [Exit.noGoto_ret]
          go_ret
          exact ⟨by rw [hE]; rfl, HFe.out⟩
        · go_wp2_with fail
          have hE := HEQ.out
          rw [show decide (n < o) = false by simp [hno], Bool.false_and] at hE
          try rw [Exit.noGoto_ret]
          go_ret
          exact ⟨by rw [hE]; rfl, HFe.out⟩
      · have hm' : ((k : Int) == m) = false := by simp; omega
        have HMK := hid hm
        clear hm
        obtain ⟨v0, f0⟩ := Option.isSome_iff_exists.1 (HTH.out 0 (by omega)).1
        obtain ⟨v1, f1⟩ := Option.isSome_iff_exists.1 (HTH.out 1 (by omega)).1
        obtain ⟨v2, f2⟩ := Option.isSome_iff_exists.1 (HTH.out 2 (by omega)).1
        obtain ⟨v3, f3⟩ := Option.isSome_iff_exists.1 (HTH.out 3 (by omega)).1
        have g0 := (HTH.out 0 (by omega)).2
        have g1 := (HTH.out 1 (by omega)).2
        have g2 := (HTH.out 2 (by omega)).2
        have g3 := (HTH.out 3 (by omega)).2
        rw [Nat.add_zero] at f0 g0
        clear c1 c2 c3 d1 d2
        go_wp2_with fail
        have hS := store_first k hk3 HBe.out
        rw [HEK.out] at hS
        have hFS := setCells_fr F (entV ⟨eb, es, ed, eu⟩) (k * 4) (wr.alloc (.cells #[.int .i64 eb, .int .i64 es, .bool ed, .int .i64 eu] 39))
        simp only [entV, World.setCells, Nat.add_assoc, Nat.reduceAdd] at hS hFS
        have HBf := hid hS
        have HXf := hid ((hFS.block X (lt_of_block HXe.out) (fun e => by have := HFX.out; omega)).trans HXe.out)
        have HFf := hid (HFe.out.then hFS (fun i hi e => by have e : i = F := e; have := HFE.out; omega))
        go_roundg g
        case measure => omega
        case rel => exact ⟨k + 1, by omega, by go_num, HBf, HXf, HFf, fun j hj => (Nat.lt_succ_iff_lt_or_eq.1 hj).elim (fun h => HM.out j h) (fun h => by subst h; exact HMK.out)⟩
    | zero =>
      obtain rfl : k = 4 := by omega
      have HK4 := hid (show ∀ j : Nat, j < 4 → m ≠ j from HM.out)
      have HEQ := hid (ents_final a b c d 4 n o m hm0.out (by exact .inr ⟨rfl, fun j hj => HK4.out j hj⟩))
      have HR3 := hid (page_range HPA.out HX.out)
      obtain ⟨FA, hFA⟩ : ∃ A, firstA a b c d 4 = A := ⟨_, rfl⟩
      have hEQL : ∀ W, (binOp .eql 40 (.agg (entsA a b c d)) (.agg FA)).run Tryd.prog W = .ok (.bool (eqF a b c d 4)) W := fun W => by rw [← hFA]; exact ents_eql ..
      rw [hFA] at HB
      have HI3 : Hid ((Tryd.prog.info? 40).map (·.size) = some FA.size) := by rw [← hFA]; exact info16 (a := if 0 < 4 then a else ent0) (b := if 1 < 4 then b else ent0) (c := if 2 < 4 then c else ent0) (d := if 3 < 4 then d else ent0)
      obtain ⟨RES, hRES⟩ : ∃ r, eqF a b c d 4 = r := ⟨_, rfl⟩
      rw [hRES] at hEQL HEQ
      clear hFA hRES
      by_cases hno : n < o
      · go_wp2_with (first
          | (refine wpList_load_mid_w (by rfl) 40 _ rfl X 4 rfl (entsA a b c d).toList 4 _ HR3.out Tryd.underlying40 info16 ?_)
          | (refine wpList_load_row_w (by rfl) 40 _ rfl F rfl 40 FA (0, 0) _ _ HB.out Tryd.underlying40 HI3.out ?_))
        have hE := HEQ.out
        rw [show decide (n < o) = true by simp [hno], Bool.true_and] at hE
        try rw [Exit.noGoto_ret]
        go_ret
        exact ⟨by rw [hE]; rfl, HF.out⟩
      · go_wp2_with fail
        have hE := HEQ.out
        rw [show decide (n < o) = false by simp [hno], Bool.false_and] at hE
        try rw [Exit.noGoto_ret]
        go_ret
        exact ⟨by rw [hE]; rfl, HF.out⟩
end Go.Proofs.YtpifiamafgaadaaDoor
