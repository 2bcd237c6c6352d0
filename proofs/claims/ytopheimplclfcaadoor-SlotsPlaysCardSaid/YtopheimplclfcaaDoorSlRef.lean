/- lavaboref08: the document's answer for slots; lavabolaw02.Ints. -/
import Derived.Test.YtopheimplclfcaaDoorSlDo
namespace Go.Proofs.YtopheimplclfcaaDoor
open Go.RowKit

/-- the reference's slots: the struct at p holds a slice of its own -/
structure RfAt (w : World) (base p : Nat) (l : List Nat) : Prop where
  st : ∃ q c, w.heap[p]? = some (.cells #[.slice (some ⟨q, 0, none⟩) l.length c] 83 (0, 0)) ∧ base ≤ q ∧ p ≠ q ∧ ∃ cur, w.heap[q]? = some (.cells cur 3 (0, 0)) ∧ cur.toList.take l.length = l.map i64v
  base : base ≤ p
  len : l.length ≤ 1024
  le : ∀ x ∈ l, x ≤ 4
theorem RfAt.ltp {w : World} {b p : Nat} {l : List Nat} (h : RfAt w b p l) : p < w.heap.size := let ⟨_, _, hc, _⟩ := h.st; lt_of_block hc
theorem RfAt.fr {S : Nat → Prop} {w w' : World} {b p : Nat} {l : List Nat} (h : RfAt w b p l) (f : Fr S w w') (hS : ∀ k, b ≤ k → ¬ S k) : RfAt w' b p l := by
  obtain ⟨q, c, h1, h2, h3, cur, h4, h5⟩ := h.st
  exact ⟨⟨q, c, (f.block p h.ltp (hS p h.base)).trans h1, h2, h3, cur, (f.block q (lt_of_block h4) (hS q h2)).trans h4, h5⟩, h.base, h.len, h.le⟩
theorem RfAt.no {w w' : World} {b p : Nat} {l : List Nat} (h : RfAt w b p l) (f : Fr No w w') : RfAt w' b p l := h.fr f (fun _ _ => id)
/-- what a walk wants to know -/
theorem RfAt.open {w : World} {b p : Nat} {l : List Nat} (h : RfAt w b p l) : ∃ q c, w.cell? ⟨p, 0, none⟩ = some (.slice (some ⟨q, 0, none⟩) l.length c) ∧ b ≤ q ∧ (∀ i (hi : i < l.length), w.cell? ⟨q, i, none⟩ = some (i64v l[i])) ∧ (∀ i, w.frozen? ⟨q, i, none⟩ = false) ∧
    (∀ i x, x ≤ 4 → RfAt (w.setCell ⟨q, i, none⟩ (i64v x)) b p (l.set i x)) := by
  obtain ⟨q, c, h1, h2, h3, cur, h4, h5⟩ := h.st
  refine ⟨q, c, by rw [cell_blk h1]; rfl, h2, fun i hi => ?_, fun i => free_blk h4 i, fun i x hx => ⟨⟨q, c, ?_, h2, h3, _, set_blk h4 i (i64v x), ?_⟩, h.base, by simpa using h.len, fun y hy => ?_⟩⟩
  · have : (l.map i64v)[i]? = cur[i]? := by rw [← h5, List.getElem?_take]; simp [hi]
    rw [cell_blk h4, ← this]; simp [hi]
  · rw [Below.heap_setCell _ _ _ _ h3, List.length_set]; exact h1
  · rw [Array.toList_setIfInBounds, List.length_set, List.take_set, h5, List.map_set]
  · rcases List.mem_or_eq_of_mem_set hy with g | g
    · exact h.le y g
    · rw [g]; exact hx

set_option maxRecDepth 100000 in
set_option maxHeartbeats 1000000 in
theorem rfnew (m : Nat) (hm1 : 1 ≤ m) (hm : m ≤ 1024) (w : World) : Calls Tryd.prog 27 #[.int .i64 m] w fun e w' => ∃ p, e = .returned (.pointer (some ⟨p, 0, none⟩)) ∧ RfAt w' w.heap.size p (List.replicate m 0) ∧ Fr No w w' := by
  obtain ⟨i0, hi, hz0, hz1, hz2⟩ := info_parts infoInt
  go_enter Tryd.func27, Tryd.ntmps27
  go_wp2
  go_loopg [4] m (fun g i wr => ∃ (k : Nat) (v : Value), k + g = m ∧ i = .int .i64 k ∧ Hid (Boxed wr w.heap.size 83 v) ∧ Hid (wr.ownsRow w.heap.size 3 1 v k ((List.replicate k 0).map i64v)) ∧ Hid (Fr No w wr))
  case atStart => exact ⟨0, _, by omega, rfl, Boxed.new w _ _, World.ownsRow_nil _ _ _ _, (Fr.refl No w).alloc _⟩
  case round =>
    obtain ⟨k, v, hk, rfl, HB, HO, HF⟩ := hrel
    cases gk with
    | zero =>
      obtain rfl : k = m := by omega
      go_wp2
      go_ret
      obtain ⟨q, c, cur, rfl, hq, hb, hn, hcm, hsz, htk⟩ := own_block HO.out hm1
      refine ⟨w.heap.size, rfl, ⟨⟨q, c, by have := HB.out; simpa [Boxed] using this, hq, ?_, cur, hb, by simpa using htk⟩, Nat.le_refl _, by simpa using hm, fun x hx => by rw [List.eq_of_mem_replicate hx]; omega⟩, HF.out⟩
      intro e
      have h1 := HB.out
      unfold Boxed at h1
      rw [e, hb] at h1
      cases h1
    | succ g =>
      have hc := HB.out.cell
      have hfz := HB.out.frozen
      have hsz := HF.out.size
      have HX : Hid ((List.replicate k 0).map i64v ++ [Value.int .i64 0] = (List.replicate (k + 1) 0).map i64v) := by
        rw [List.replicate_succ', List.map_append]; rfl
      go_wp2_with (at_builtin; refine wpList_append_own _ rfl (.tmp 16) (.tmp 17) 41 rfl w.heap.size 3 i0 (.int .i64 0) 1 8 Tryd.underlying41 hi hz0 hz1 hz2 rfl (by decide) v k _ rfl (HO.out.alloc _) ⟨wr.heap.size, 0, none⟩ 1 1 [.int .i64 0] rfl rfl (cell_one_new _ _ _) (by simp [Value.oneCell']) (by unfold maxLen; omega) (by omega) (by simp; omega) ?_; intro v' w1 hown' hgrow _; rw [HX.out] at hown'; obtain ⟨g', cap', rfl⟩ := ownsRow_succ hown'; have HA := hid (HB.out.appended (by decide) HO.out hsz (Nat.le_refl _) hown' hgrow); have hc1 := HA.out.1.cell; have hf1 := HA.out.1.frozen; clear hown' hgrow)
      go_roundg g
      case measure => omega
      case rel => exact ⟨k + 1, _, by omega, by go_num, HA.out.2.1, HA.out.2.2.1, HF.out.then (Fr.from_below HA.out.2.2.2.2) (fun i hi e => absurd hi (by omega))⟩

set_option maxHeartbeats 1000000 in
theorem rfalloc (w : World) (b p : Nat) (l : List Nat) (h : RfAt w b p l) : Calls Tryd.prog 29 #[.pointer (some ⟨p, 0, none⟩)] w fun e w' =>
    e = .returned (.tuple #[i64v (allocF l).1, .int .i64 ((allocF l).2.1 : Int)]) ∧ RfAt w' b p (allocF l).2.2 ∧ Fr (fun k => b ≤ k) w w' := by
  have HS := hid h
  have hl := h.len
  obtain ⟨q, c, hc0, hq, hcells, hfz, hset⟩ := h.open
  have HC := hid hcells
  have HZ := hid hfz
  have HT := hid hset
  clear h hcells hfz hset
  go_enter Tryd.func29, Tryd.ntmps29
  go_wp2
  go_loopg [4] l.length (fun g i wr => ∃ k : Nat, k + g = l.length ∧ i = .int .i64 k ∧ Hid (∀ j (hj : j < l.length), j < k → l[j] ≠ 0) ∧ wr = w)
  case atStart => exact ⟨0, by omega, rfl, fun j _ hj => by omega, rfl⟩
  case round =>
    obtain ⟨k, hk, rfl, hb, rfl⟩ := hrel
    cases gk with
    | zero =>
      obtain rfl : k = l.length := by omega
      have hnone : l.findIdx? (· == 0) = none := by
        rw [List.findIdx?_eq_none_iff]
        intro x hx
        obtain ⟨i, hi, rfl⟩ := List.getElem_of_mem hx
        have := hb.out i hi hi
        simpa using this
      have HN := hid hnone
      clear hnone
      go_wp2
      go_ret2
      have e1 : allocF l = (0, 17, l) := by unfold allocF; rw [HN.out]
      rw [e1]
      exact ⟨rfl, HS.out, Fr.refl _ _⟩
    | succ g =>
      have hlt : k < l.length := by omega
      have hc := HC.out k hlt
      have hfz := HZ.out k
      by_cases h0 : l[k] = 0
      · have HF := hid (find_at l k hlt h0 (fun j hj => hb.out j (by omega) hj))
        rw [h0] at hc
        go_wp2
        go_ret2
        have e1 : allocF l = (k, 0, l.set k 1) := by unfold allocF; rw [HF.out]
        rw [e1]
        exact ⟨rfl, HT.out k 1 (by omega), (Fr.refl _ _).setCell (p := ⟨q, k, none⟩) (fun _ => hq) _⟩
      · have hne : (((l[k] : Nat) : Int) == 0) = false := by simp; omega
        have HB : Hid (∀ j (hj : j < l.length), j < k + 1 → l[j] ≠ 0) := fun j hj hjk => by
          rcases Nat.lt_or_ge j k with g | g
          · exact hb.out j hj g
          · obtain rfl : j = k := by omega
            exact h0
        generalize l[k] = x at *
        go_wp2
        go_roundg g
        case measure => omega
        case rel => exact ⟨k + 1, by omega, by go_num, HB, rfl⟩

set_option maxHeartbeats 1000000 in
theorem rfturn (w : World) (b p : Nat) (l : List Nat) (x y : Int) (h : RfAt w b p l) : Calls Tryd.prog 31 #[.pointer (some ⟨p, 0, none⟩), .int .i64 x, .int .i64 y] w fun e w' =>
    e = .returned (.int .i64 ((turnF l x y).1 : Int)) ∧ RfAt w' b p (turnF l x y).2 ∧ Fr (fun k => b ≤ k) w w' := by
  have HS := hid h
  have hl := h.len
  obtain ⟨q, c, hc0, hq, hcells, hfz, hset⟩ := h.open
  have HC := hid hcells
  have HZ := hid hfz
  have HT := hid hset
  clear h hcells hfz hset
  by_cases h1 : x < 0
  · have e1 : turnF l x y = (10, l) := by unfold turnF; rw [dif_neg (by omega)]
    rw [e1]
    clear e1
    go_enter Tryd.func31, Tryd.ntmps31
    go_wp2
    go_ret
    exact ⟨rfl, HS.out, Fr.refl _ _⟩
  by_cases h2 : (l.length : Int) ≤ x
  · have e1 : turnF l x y = (10, l) := by unfold turnF; rw [dif_neg (by omega)]
    rw [e1]
    clear e1
    go_enter Tryd.func31, Tryd.ntmps31
    go_wp2
    go_ret
    exact ⟨rfl, HS.out, Fr.refl _ _⟩
  by_cases h3 : y < 0
  · have e1 : turnF l x y = (1, l) := by unfold turnF; rw [dif_pos (by omega), if_neg (by omega)]
    rw [e1]
    clear e1
    go_enter Tryd.func31, Tryd.ntmps31
    go_wp2
    go_ret
    exact ⟨rfl, HS.out, Fr.refl _ _⟩
  by_cases h4 : 4 < y
  · have e1 : turnF l x y = (1, l) := by unfold turnF; rw [dif_pos (by omega), if_neg (by omega)]
    rw [e1]
    clear e1
    go_enter Tryd.func31, Tryd.ntmps31
    go_wp2
    go_ret
    exact ⟨rfl, HS.out, Fr.refl _ _⟩
  obtain ⟨x, rfl⟩ := Int.eq_ofNat_of_zero_le (show 0 ≤ x by omega)
  obtain ⟨y, rfl⟩ := Int.eq_ofNat_of_zero_le (show 0 ≤ y by omega)
  have hxl : x < l.length := by omega
  have hy : y ≤ 4 := by omega
  have hz := HS.out.le _ (List.getElem_mem hxl)
  have HM := hid (rmay_any (l[x] : Nat) (y : Nat) w)
  rw [show mayI (l[x] : Nat) (y : Nat) = mayN l[x] y by unfold mayI; rw [decide_eq_true (by omega)]; rfl] at HM
  have hc := HC.out x hxl
  have hf := HZ.out x
  have e1 : turnF l x y = if mayN l[x] y = true then (0, l.set x y) else (16, l) := by
    unfold turnF; rw [dif_pos (by omega), if_pos (by omega)]; rfl
  have HE := hid e1
  clear e1 h1 h2 h3 h4
  cases hm : mayN l[x] y with
  | false =>
    rw [hm] at HM HE
    rw [HE.out, if_neg (by decide)]
    clear HE hm
    generalize l[x] = z at *
    go_enter Tryd.func31, Tryd.ntmps31
    go_wp2_with fail
    refine HM.out.mono ?_; rintro e w ⟨rfl, rfl⟩
    go_wp2_with fail
    go_ret
    exact ⟨rfl, HS.out, Fr.refl _ _⟩
  | true =>
    rw [hm] at HM HE
    rw [HE.out, if_pos rfl]
    clear HE hm
    generalize l[x] = z at *
    go_enter Tryd.func31, Tryd.ntmps31
    go_wp2_with fail
    refine HM.out.mono ?_; rintro e w ⟨rfl, rfl⟩
    go_wp2_with fail
    go_ret
    exact ⟨rfl, HT.out x y hy, (Fr.refl _ _).setCell (p := ⟨q, x, none⟩) (fun _ => hq) _⟩
end Go.Proofs.YtopheimplclfcaaDoor
