/- slots.New, Alloc, find, Turn, State: what they do to the states. -/
import Derived.Test.YtopheimplclfcaaDoorSlMay
import Derived.Deep.LoopGhost
import Derived.Laws.MakeOwn
namespace Go.Proofs.YtopheimplclfcaaDoor
open Go.RowKit

abbrev i64v (n : Nat) : Value := .int .i64 n
/-- slots whose states are l: the struct at p, the states at q -/
structure SlAt (w : World) (p q : Nat) (l : List Nat) : Prop where
  st : ∃ c, w.heap[p]? = some (.cells #[.slice (some ⟨q, 0, none⟩) l.length c] 81 (0, 0))
  row : ∃ cur, w.heap[q]? = some (.cells cur 3 (0, 0)) ∧ cur.toList.take l.length = l.map i64v
  ne : p ≠ q
  len : l.length ≤ 1024
  le : ∀ x ∈ l, x ≤ 4
def slv (p : Nat) : Value := .pointer (some ⟨p, 0, none⟩)
theorem SlAt.ltp {w : World} {p q : Nat} {l : List Nat} (h : SlAt w p q l) : p < w.heap.size := let ⟨_, hc⟩ := h.st; lt_of_block hc
theorem SlAt.ltq {w : World} {p q : Nat} {l : List Nat} (h : SlAt w p q l) : q < w.heap.size := let ⟨_, hc, _⟩ := h.row; lt_of_block hc
theorem SlAt.fr {S : Nat → Prop} {w w' : World} {p q : Nat} {l : List Nat} (h : SlAt w p q l) (f : Fr S w w') (hp : ¬ S p) (hq : ¬ S q) : SlAt w' p q l :=
  ⟨let ⟨c, hc⟩ := h.st; ⟨c, (f.block p h.ltp hp).trans hc⟩, let ⟨cur, hc, ht⟩ := h.row; ⟨cur, (f.block q h.ltq hq).trans hc, ht⟩, h.ne, h.len, h.le⟩
theorem SlAt.no {w w' : World} {p q : Nat} {l : List Nat} (h : SlAt w p q l) (f : Fr No w w') : SlAt w' p q l := h.fr f id id
theorem SlAt.cell0 {w : World} {p q : Nat} {l : List Nat} (h : SlAt w p q l) : ∃ c : Nat, w.cell? ⟨p, 0, none⟩ = some (.slice (some ⟨q, 0, none⟩) l.length c) := by
  obtain ⟨c, hc⟩ := h.st
  exact ⟨c, by rw [cell_blk hc]; rfl⟩
theorem SlAt.cell {w : World} {p q : Nat} {l : List Nat} (h : SlAt w p q l) (i : Nat) (hi : i < l.length) : w.cell? ⟨q, i, none⟩ = some (i64v l[i]) := by
  obtain ⟨cur, hc, ht⟩ := h.row
  have : (l.map i64v)[i]? = cur[i]? := by rw [← ht, List.getElem?_take]; simp [hi]
  rw [cell_blk hc, ← this]; simp [hi]
theorem SlAt.free {w : World} {p q : Nat} {l : List Nat} (h : SlAt w p q l) (i : Nat) : w.frozen? ⟨q, i, none⟩ = false := let ⟨_, hc, _⟩ := h.row; free_blk hc i
theorem SlAt.set {w : World} {p q : Nat} {l : List Nat} (h : SlAt w p q l) (i x : Nat) (hx : x ≤ 4) : SlAt (w.setCell ⟨q, i, none⟩ (i64v x)) p q (l.set i x) := by
  obtain ⟨c, hst⟩ := h.st
  obtain ⟨cur, hc, ht⟩ := h.row
  refine ⟨⟨c, ?_⟩, ⟨_, set_blk hc i (i64v x), ?_⟩, h.ne, by simpa using h.len, fun y hy => ?_⟩
  · rw [Below.heap_setCell _ _ _ _ h.ne, List.length_set]; exact hst
  · rw [Array.toList_setIfInBounds, List.length_set, List.take_set, ht, List.map_set]
  · rcases List.mem_or_eq_of_mem_set hy with g | g
    · exact h.le y g
    · rw [g]; exact hx

def zeroInts (n : Nat) : Array Value := madeCells #[.int .i64 0] n
theorem zeroInts_list (n : Nat) : zeroInts n = ((List.replicate n 0).map i64v).toArray := by
  apply Array.ext
  · simp [zeroInts, size_madeCells]
  · intro i h1 h2
    simp [zeroInts, madeCells, Nat.mod_one]
theorem mk_ints (n : Nat) (hn : n ≤ 1048576) (W : World) : (Instr.makeSlice 41 (.int .i64 (n : Int)) (.int .i64 (n : Int))).run Tryd.prog W = .ok (.slice (some ⟨W.heap.size, 0, none⟩) n n) (W.alloc (.cells (zeroInts n) 3)) := by
  have info : (Tryd.prog.info? 3).map (fun i => (i.zero, i.size, i.bytes)) = some (some (.int .i64 0), 1, 8) := by kernel_rfl
  obtain ⟨i0, hi, hz0, hz1, hz2⟩ := info_parts info
  have := run_make (P := Tryd.prog) W 41 3 i0 (.int .i64 0) Tryd.underlying41 hi hz0 .i64 .i64 (n : Int) (n : Int) (by omega) (by omega) (by rw [hz2]; omega) (by omega)
  rw [this, hz1]
  simp only [Int.toNat_natCast, Nat.mul_one, zeroInts]
  rfl

theorem slnew_bad (n : Int) (w : World) (h : n < 1 ∨ 1024 < n) : Calls Tryd.prog 26 #[.int .i64 n] w fun e w' => e = .returned (.tuple #[.pointer none, .int .i64 24]) ∧ w' = w := by
  rcases h with h | h
  all_goals
    go_enter Tryd.func26, Tryd.ntmps26
    go_wp2
    go_ret2
    exact ⟨rfl, rfl⟩
/-- new slots: all free -/
theorem slnew_ok (n : Nat) (w : World) (h0 : 1 ≤ n) (h1 : n ≤ 1024) : Calls Tryd.prog 26 #[.int .i64 n] w fun e w' => e = .returned (.tuple #[slv (w.heap.size + 1), .int .i64 0]) ∧ SlAt w' (w.heap.size + 1) w.heap.size (List.replicate n 0) ∧ Fr No w w' := by
  have hmk := mk_ints n (by omega)
  go_enter Tryd.func26, Tryd.ntmps26
  go_wp2
  go_ret2
  refine ⟨rfl, ⟨⟨n, ?_⟩, ⟨zeroInts n, ?_, ?_⟩, by omega, by simpa using h1, fun x hx => by rw [List.eq_of_mem_replicate hx]; omega⟩, ((Fr.refl _ _).alloc _).alloc _⟩
  · have := heap_new (w.alloc (.cells (zeroInts n) 3)) (.cells #[.slice (some ⟨w.heap.size, 0, none⟩) n n] 81)
    simpa using this
  · rw [Below.heap_alloc _ _ _ (by simp), heap_new]
  · rw [zeroInts_list]; simp

/-! Alloc -/
theorem slalloc_nil (w : World) : Calls Tryd.prog 28 #[.pointer none] w fun e w' => e = .returned (.tuple #[.int .i64 0, .int .i64 2]) ∧ w' = w := by
  go_enter Tryd.func28, Tryd.ntmps28
  go_wp2
  go_step3
  go_wp2
  rw [Exit.noGoto_ret]
  go_ret2
  exact ⟨rfl, rfl⟩
/-- what Alloc does: the first free slot is open from now on, or there is none -/
def AllocPost (w : World) (p q : Nat) (l : List Nat) (e : Ending) (w' : World) : Prop :=
  match l.findIdx? (· == 0) with
  | some i => e = .returned (.tuple #[i64v i, .int .i64 0]) ∧ SlAt w' p q (l.set i 1) ∧ Fr (fun k => k = q) w w' ∧ w'.heap.size = w.heap.size
  | none => e = .returned (.tuple #[.int .i64 0, .int .i64 17]) ∧ w' = w
theorem AllocPost.some {w w' : World} {p q : Nat} {l : List Nat} {i : Nat} (h : l.findIdx? (· == 0) = some i) (h1 : SlAt w' p q (l.set i 1)) (h2 : Fr (fun k => k = q) w w') (h3 : w'.heap.size = w.heap.size) : AllocPost w p q l (.returned (.tuple #[i64v i, .int .i64 0])) w' := by
  unfold AllocPost; rw [h]; exact ⟨rfl, h1, h2, h3⟩
theorem AllocPost.none {w : World} {p q : Nat} {l : List Nat} (h : l.findIdx? (· == 0) = none) : AllocPost w p q l (.returned (.tuple #[.int .i64 0, .int .i64 17])) w := by
  unfold AllocPost; rw [h]; exact ⟨rfl, rfl⟩
theorem find_at (l : List Nat) (k : Nat) (hk : k < l.length) (h0 : l[k] = 0) (hb : ∀ j (hj : j < k), l[j] ≠ 0) : l.findIdx? (· == 0) = some k := by
  rw [List.findIdx?_eq_some_iff_getElem]
  exact ⟨hk, by simp [h0], fun j hj => by simp [hb j hj]⟩

set_option maxHeartbeats 1000000 in
theorem slalloc_any (w : World) (p q : Nat) (l : List Nat) (h : SlAt w p q l) : Calls Tryd.prog 28 #[slv p] w (AllocPost w p q l) := by
  have HS := hid h
  obtain ⟨c0, hc0⟩ := h.cell0
  have hl := h.len
  clear h
  unfold slv
  go_enter Tryd.func28, Tryd.ntmps28
  go_wp2
  go_step3
  go_wp2
  go_step3
  go_wp2
  go_loopg [13] l.length (fun g i wr => ∃ k : Nat, k + g = l.length ∧ i = .int .i64 k ∧ Hid (∀ j (hj : j < l.length), j < k → l[j] ≠ 0) ∧ wr = w)
  case atStart => exact ⟨0, by omega, rfl, fun j _ hj => by omega, rfl⟩
  case round =>
    obtain ⟨k, hk, rfl, hb, rfl⟩ := hrel
    cases gk with
    | zero =>
      obtain rfl : k = l.length := by omega
      have hnone : l.findIdx? (· == 0) = none := by
        rw [List.findIdx?_eq_none_iff]
        intro x hx
        obtain ⟨i, hi, rfl⟩ := List.getElem_of_mem hx
        have := hb.out i hi hi
        simpa using this
      have HN := hid hnone
      clear hnone
      go_wp2
      rw [Exit.noGoto_ret]
      go_ret2
      exact AllocPost.none HN.out
    | succ g =>
      have hlt : k < l.length := by omega
      have hc := HS.out.cell k hlt
      have hfz := HS.out.free k
      by_cases h0 : l[k] = 0
      · have HF := hid (find_at l k hlt h0 (fun j hj => hb.out j (by omega) hj))
        rw [h0] at hc
        go_wp2
        rw [Exit.noGoto_ret]
        go_ret2
        exact AllocPost.some HF.out (HS.out.set k 1 (by omega)) (Fr.set1 _ _ _ _) (size_set _ _ _)
      · have hne : (((l[k] : Nat) : Int) == 0) = false := by simp; omega
        have hne2 : (((l[k] : Nat) : Int) != 0) = true := by simp; omega
        have HB : Hid (∀ j (hj : j < l.length), j < k + 1 → l[j] ≠ 0) := fun j hj hjk => by
          rcases Nat.lt_or_ge j k with g | g
          · exact hb.out j hj g
          · obtain rfl : j = k := by omega
            exact h0
        generalize l[k] = x at *
        go_wp2
        go_roundg g
        case measure => omega
        case rel => exact ⟨k + 1, by omega, by go_num, HB, rfl⟩

/-! find, Turn, State -/
theorem slfind_nil (x : Int) (w : World) : Calls Tryd.prog 47 #[.pointer none, .int .i64 x] w fun e w' => e = .returned (.int .i64 2) ∧ w' = w := by
  go_enter Tryd.func47, Tryd.ntmps47
  go_wp2
  go_ret
  exact ⟨rfl, rfl⟩
theorem slfind_out (w : World) (p q : Nat) (l : List Nat) (x : Int) (h : SlAt w p q l) (hx : x < 0 ∨ (l.length : Int) ≤ x) : Calls Tryd.prog 47 #[slv p, .int .i64 x] w fun e w' => e = .returned (.int .i64 10) ∧ w' = w := by
  obtain ⟨c0, hc0⟩ := h.cell0
  have hl := h.len
  clear h
  unfold slv
  rcases hx with hx | hx
  all_goals
    go_enter Tryd.func47, Tryd.ntmps47
    go_wp2
    go_ret
    exact ⟨rfl, rfl⟩
theorem slfind_in (w : World) (p q : Nat) (l : List Nat) (x : Nat) (h : SlAt w p q l) (hx : x < l.length) : Calls Tryd.prog 47 #[slv p, .int .i64 x] w fun e w' => e = .returned (.int .i64 0) ∧ w' = w := by
  obtain ⟨c0, hc0⟩ := h.cell0
  have hl := h.len
  clear h
  unfold slv
  go_enter Tryd.func47, Tryd.ntmps47
  go_wp2
  all_goals go_ret
  all_goals exact ⟨rfl, rfl⟩

theorem slturn_nil (x y : Int) (w : World) : Calls Tryd.prog 30 #[.pointer none, .int .i64 x, .int .i64 y] w fun e w' => e = .returned (.int .i64 2) ∧ w' = w := by
  go_enter Tryd.func30, Tryd.ntmps30
  go_wp2_with (go_at_call 47; refine (slfind_nil x w).mono ?_; rintro e w' ⟨rfl, rfl⟩)
  go_ret
  exact ⟨rfl, rfl⟩
theorem slturn_out (w : World) (p q : Nat) (l : List Nat) (x y : Int) (h : SlAt w p q l) (hx : x < 0 ∨ (l.length : Int) ≤ x) : Calls Tryd.prog 30 #[slv p, .int .i64 x, .int .i64 y] w fun e w' => e = .returned (.int .i64 10) ∧ w' = w := by
  have H := hid (slfind_out w p q l x h hx)
  clear h hx
  go_enter Tryd.func30, Tryd.ntmps30
  go_wp2_with (go_at_call 47; refine H.out.mono ?_; rintro e w' ⟨rfl, rfl⟩)
  go_ret
  exact ⟨rfl, rfl⟩
theorem slturn_arg (w : World) (p q : Nat) (l : List Nat) (x : Nat) (y : Int) (h : SlAt w p q l) (hx : x < l.length) (hy : y < 0 ∨ 4 < y) : Calls Tryd.prog 30 #[slv p, .int .i64 x, .int .i64 y] w fun e w' => e = .returned (.int .i64 1) ∧ w' = w := by
  have H := hid (slfind_in w p q l x h hx)
  have H2 := hid (isState_no y w hy)
  clear h hx hy
  go_enter Tryd.func30, Tryd.ntmps30
  go_wp2_with (first
    | (go_at_call 47; refine H.out.mono ?_; rintro e w' ⟨rfl, rfl⟩)
    | (go_at_call 48; refine H2.out.mono ?_; rintro e w' ⟨rfl, rfl⟩))
  go_ret
  exact ⟨rfl, rfl⟩
set_option maxHeartbeats 1000000 in
theorem slturn_in (w : World) (p q : Nat) (l : List Nat) (x y : Nat) (hT : TurnsAt w) (h : SlAt w p q l) (hx : x < l.length) (hy : y ≤ 4) : Calls Tryd.prog 30 #[slv p, .int .i64 x, .int .i64 y] w fun e w' =>
    (mayN l[x] y = false ∧ e = .returned (.int .i64 16) ∧ w' = w) ∨ (mayN l[x] y = true ∧ e = .returned (.int .i64 0) ∧ SlAt w' p q (l.set x y) ∧ Fr (fun k => k = q) w w' ∧ w'.heap.size = w.heap.size) := by
  have H := hid (slfind_in w p q l x h hx)
  have H2 := hid (isState_yes y w (by omega) (by omega))
  have hz := h.le l[x] (List.getElem_mem hx)
  have H3 := hid (may_in l[x] y w (by omega) (by omega) hT)
  have HS := hid h
  obtain ⟨c0, hc0⟩ := h.cell0
  have hl := h.len
  have hc := h.cell x hx
  have hfz := h.free x
  clear h hT
  generalize l[x] = z at *
  by_cases hm : mayN z y = true
  · rw [hm] at H3
    have HM := hid hm
    clear hm
    unfold slv
    go_enter Tryd.func30, Tryd.ntmps30
    go_wp2_with (first
      | (go_at_call 47; refine H.out.mono ?_; rintro e w' ⟨rfl, rfl⟩)
      | (go_at_call 48; refine H2.out.mono ?_; rintro e w' ⟨rfl, rfl⟩)
      | (go_at_call 37; refine H3.out.mono ?_; rintro e w' ⟨rfl, rfl⟩))
    go_ret
    exact .inr ⟨HM.out, rfl, HS.out.set x y hy, Fr.set1 _ _ _ _, size_set _ _ _⟩
  · have hm2 : mayN z y = false := by simpa using hm
    rw [hm2] at H3
    have HM := hid hm2
    clear hm hm2
    unfold slv
    go_enter Tryd.func30, Tryd.ntmps30
    go_wp2_with (first
      | (go_at_call 47; refine H.out.mono ?_; rintro e w' ⟨rfl, rfl⟩)
      | (go_at_call 48; refine H2.out.mono ?_; rintro e w' ⟨rfl, rfl⟩)
      | (go_at_call 37; refine H3.out.mono ?_; rintro e w' ⟨rfl, rfl⟩))
    go_ret
    exact .inl ⟨HM.out, rfl, rfl⟩
theorem slstate_nil (x : Int) (w : World) : Calls Tryd.prog 40 #[.pointer none, .int .i64 x] w fun e w' => e = .returned (.tuple #[.int .i64 0, .int .i64 2]) ∧ w' = w := by
  go_enter Tryd.func40, Tryd.ntmps40
  go_wp2_with (go_at_call 47; refine (slfind_nil x w).mono ?_; rintro e w' ⟨rfl, rfl⟩)
  go_ret2
  exact ⟨rfl, rfl⟩
theorem slstate_in (w : World) (p q : Nat) (l : List Nat) (x : Nat) (h : SlAt w p q l) (hx : x < l.length) : Calls Tryd.prog 40 #[slv p, .int .i64 x] w fun e w' => e = .returned (.tuple #[i64v l[x], .int .i64 0]) ∧ w' = w := by
  have H := hid (slfind_in w p q l x h hx)
  obtain ⟨c0, hc0⟩ := h.cell0
  have hl := h.len
  have hc := h.cell x hx
  clear h
  generalize l[x] = z at *
  unfold slv
  go_enter Tryd.func40, Tryd.ntmps40
  go_wp2_with (go_at_call 47; refine H.out.mono ?_; rintro e w' ⟨rfl, rfl⟩)
  go_ret2
  exact ⟨rfl, rfl⟩
end Go.Proofs.YtopheimplclfcaaDoor
