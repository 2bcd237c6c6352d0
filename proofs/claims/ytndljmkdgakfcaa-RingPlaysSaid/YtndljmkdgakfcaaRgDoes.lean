/- lavabolaw02.does: a call done with both. -/
import Derived.Test.YtndljmkdgakfcaaRgRef
import Derived.Deep.RegionHeld3
namespace Go.Proofs.Ytndljmkdgakfcaa
open Go.RowKit

theorem RR.fr {w w' : World} {base px most : Nat} {l : List Int} {shut : Bool} (h : RR w base px most l shut) {S : Nat → Prop} (f : Fr S w w') (hS : ∀ k, base ≤ k → ¬ S k) : RR w' base px most l shut := by
  obtain ⟨⟨v, hb, hO⟩, hpx⟩ := h
  exact ⟨⟨v, (f.block px (lt_of_block hb) (hS px hpx)).trans hb, hO.fr f (fun k hk _ => hS k hk)⟩, hpx⟩
theorem OffRow.row {w : World} {base : Nat} {v : Value} {l : List Int} (h : OffRow w base v l) : ∃ a c, v = .slice a l.length c ∧ Row w a (l.map iv) := by
  rcases h with ⟨rfl, rfl⟩ | ⟨g, o, cap, cs, rfl, hg, hb, hcap, hlc, hel⟩
  · exact ⟨_, _, rfl, .nil _ _⟩
  · refine ⟨_, _, rfl, .inr ⟨g, o, rfl, lt_of_block hb, fun i hi => ?_⟩⟩
    have hi' : i < l.length := by simpa using hi
    rw [cell_blk hb, hel i hi']
    simp [List.getD_eq_getElem?_getD, hi']
theorem putR_iv (most : Nat) (l : List Int) (shut : Bool) (x : Int) : putR most (l.map iv) shut (iv x) = ((putI most l shut x).1.map iv, (putI most l shut x).2) := by
  unfold putR putI
  rw [List.length_map]
  split
  · rfl
  · split
    · simp
    · rfl
def doF (most : Nat) (l : List Int) (shut : Bool) (ask x : Int) : List Int × Bool :=
  if ask = 0 then ((putI most l shut x).1, shut) else if ask = 1 then (l.tail, shut) else if ask = 2 then (l, true) else ([], shut)
structure Both (w : World) (base p c px most : Nat) (l : List Int) (shut : Bool) : Prop where
  r : Rg w p c most (l.map iv) shut
  x : RR w base px most l shut
  p : p < base
  c : c < base
  z : base ≤ w.heap.size

set_option maxRecDepth 100000 in
set_option maxHeartbeats 4000000 in
theorem does_put (w : World) (base p c px most : Nat) (l : List Int) (shut : Bool) (x : Int) (h : Both w base p c px most l shut) (hlen : l.length ≤ 1024) :
    Calls Try.prog 11 #[.pointer (some ⟨p, 0, none⟩), .pointer (some ⟨px, 0, none⟩), .agg #[.int .i64 0, .int .i64 x]] w fun e w' => e = .returned (.bool true) ∧ Both w' base p c px most (putI most l shut x).1 shut ∧ Fr (fun k => k = p ∨ k = c ∨ base ≤ k) w w' := by
  have hbx := heap_new w (.cells #[.int .i64 0, .int .i64 x] 34)
  have hb0 := cell_blk hbx 0
  have hb1 := cell_blk hbx 1
  simp only [List.getElem?_toArray, List.getElem?_cons_zero, List.getElem?_cons_succ] at hb0 hb1
  have HH := hid h
  have HA := hid ((Fr.refl (fun k => k = p ∨ k = c ∨ base ≤ k) w).alloc (.cells #[.int .i64 0, .int .i64 x] 34))
  have HR0 := hid (h.r.fr (((Fr.refl No w).alloc (.cells #[.int .i64 0, .int .i64 x] 34)).drew) id id)
  have HX0 := hid (h.x.fr (((Fr.refl No w).alloc (.cells #[.int .i64 0, .int .i64 x] 34)).drew) (fun _ _ => id))
  have HZ0 := hid (((Fr.refl No w).alloc (.cells #[.int .i64 0, .int .i64 x] 34)).drew)
  have HBX := hid hbx
  clear h hbx
  go_enter Try.func11, Try.ntmps11
  go_wp2_with fail
  obtain ⟨q, hq⟩ : ∃ q, w.heap.size = q := ⟨_, rfl⟩
  rw [hq] at HBX ⊢
  obtain ⟨wa, hwa⟩ : ∃ wa, w.alloc (.cells #[.int .i64 0, .int .i64 x] 34) = wa := ⟨_, rfl⟩
  rw [hwa] at HA HR0 HX0 HZ0 HBX ⊢
  have HQ := hid hq
  clear hq hwa hb0 hb1
  have hs0 : wa.drew.cell? ⟨q, 1, none⟩ = some (.int .i64 x) := cell_blk HBX.out 1
  refine wp_region_held_drew (S := fun w' => w'.cell? ⟨q, 1, none⟩ = some (.int .i64 x)) (by kernel_rfl) hs0 (fun hHeld => ?_)
  refine wpAnyH_take (i := 0) (v := ?_) rfl (by kernel_rfl) (by kernel_rfl) (by kernel_rfl) (fun _ _ _ h => h) (Or.inl ⟨by rfl, ?_⟩) hHeld ?_
  rotate_left
  · intro w hSw
    go_simp
    with_reducible rfl
  try simp only [Act.put, List.getElem_toArray, List.getElem_cons_zero, List.getElem_cons_succ, List.setIfInBounds_toArray, List.set_cons_zero, List.set_cons_succ]
  refine wpAnyH_take (i := 1) (v := ?_) rfl (by kernel_rfl) (by kernel_rfl) (by kernel_rfl) (fun _ _ _ h => h) (Or.inl ⟨by rfl, ?_⟩) hHeld ?_
  rotate_left
  · intro w hSw
    go_simp
    with_reducible rfl
  try simp only [Act.put, List.getElem_toArray, List.getElem_cons_zero, List.getElem_cons_succ, List.setIfInBounds_toArray, List.set_cons_zero, List.set_cons_succ]
  refine wpAnyH_take (i := 2) (v := ?_) rfl (by kernel_rfl) (by kernel_rfl) (by kernel_rfl) (fun _ _ _ h => h) (Or.inl ⟨by rfl, ?_⟩) hHeld ?_
  rotate_left
  · intro w hSw
    go_simp
    with_reducible rfl
  try simp only [Act.put, List.getElem_toArray, List.getElem_cons_zero, List.getElem_cons_succ, List.setIfInBounds_toArray, List.set_cons_zero, List.set_cons_succ]
  refine wpAnyH_take (i := 4) (v := ?_) rfl (by kernel_rfl) (by kernel_rfl) (by kernel_rfl) (fun _ _ _ h => h) (Or.inl ⟨by rfl, ?_⟩) hHeld ?_
  rotate_left
  · intro w hSw
    go_simp
    with_reducible rfl
  try simp only [Act.put, List.getElem_toArray, List.getElem_cons_zero, List.getElem_cons_succ, List.setIfInBounds_toArray, List.set_cons_zero, List.set_cons_succ]
  refine wpAnyH_take (i := 5) (v := ?_) rfl (by kernel_rfl) (by kernel_rfl) (by kernel_rfl) (fun _ _ _ h => h) (Or.inl ⟨by rfl, ?_⟩) hHeld ?_
  rotate_left
  · intro w hSw
    go_simp
    with_reducible rfl
  try simp only [Act.put, List.getElem_toArray, List.getElem_cons_zero, List.getElem_cons_succ, List.setIfInBounds_toArray, List.set_cons_zero, List.set_cons_succ]
  refine wpAnyH_take (i := 6) (v := ?_) rfl (by kernel_rfl) (by kernel_rfl) (by kernel_rfl) (fun _ _ _ h => h) (Or.inl ⟨by rfl, ?_⟩) hHeld ?_
  rotate_left
  · intro w hSw
    go_simp
    with_reducible rfl
  try simp only [Act.put, List.getElem_toArray, List.getElem_cons_zero, List.getElem_cons_succ, List.setIfInBounds_toArray, List.set_cons_zero, List.set_cons_succ]
  refine wpAnyH_ready (rs := [3]) (by kernel_rfl) (by simp) ?_
  refine AllReadyH.cons rfl (fun K hK => ?_) AllReadyH.nil
  rw [if_pos (by rfl)]
  go_simp
  refine (rg_Put wa.drew p c most _ shut (.int .i64 x) HR0.out).mono ?_; rintro e2 w2 ⟨rfl, hR2, hF2⟩
  rw [show Value.int .i64 x = iv x from rfl, putR_iv] at hR2
  have he2 := putR_iv most l shut x
  rw [show Value.int .i64 x = iv x from rfl, putR_iv]
  have HX2 := hid (HX0.out.fr hF2 (fun k hk e => by have := HH.out.c; omega))
  have HR2 := hid hR2
  have HF2 := hid ((HA.out.drew).trans (hF2.mono (fun k _ e => Or.inr (Or.inl e))))
  have hz2 : base ≤ w2.heap.size := Nat.le_trans HH.out.z HF2.out.size
  have hqz : q < wa.drew.heap.size := lt_of_cell hHeld
  have hbq : w2.heap[q]? = some (.cells #[.int .i64 0, .int .i64 x] 34 (0, 0)) := (hF2.block q hqz (by have h1 := HH.out.c; have h2 := HH.out.z; have h3 := HQ.out; omega)).trans HBX.out
  have HBQ := hid hbq
  refine hK.out _ _ (cell_blk hbq 1) (fun hHeld => ?_)
  clear hK K hF2 hR2 hbq
  try simp only [Act.put, List.getElem_toArray, List.getElem_cons_zero, List.getElem_cons_succ, List.setIfInBounds_toArray, List.set_cons_zero, List.set_cons_succ]
  refine wpAnyH_ready (rs := [7]) (by kernel_rfl) (by simp) ?_
  refine AllReadyH.cons rfl (fun K hK => ?_) AllReadyH.nil
  rw [if_pos (by rfl)]
  go_simp
  refine (rr_Put w2 base px most l shut x HX2.out hz2 (by omega)).mono ?_; rintro e3 w3 ⟨rfl, hX3, hF3⟩
  have hqp : ¬ RS w2 base px q := by
    rintro (e | ⟨_, cs, e⟩)
    · obtain ⟨⟨v, hbv, _⟩, _⟩ := HX2.out
      rw [← e, HBQ.out] at hbv
      injection hbv with hbv; injection hbv with _ ht _; exact absurd ht (by decide)
    · rw [HBQ.out] at e
      injection e with e; injection e with _ ht _; exact absurd ht (by decide)
  have hS3 : ∀ k, RS w2 base px k → base ≤ k := fun k hk => by
    rcases hk with e | ⟨e, _⟩
    · rw [e]; exact HX2.out.px
    · exact e
  have HR3 := hid (HR2.out.fr hF3 (fun e => by have := hS3 _ e; have := HH.out.p; omega) (fun e => by have := hS3 _ e; have := HH.out.c; omega))
  have HX3 := hid hX3
  have HF3 := hid (HF2.out.trans (hF3.mono (fun k _ e => Or.inr (Or.inr (hS3 k e)))))
  have hc3 : w3.cell? ⟨q, 1, none⟩ = some (.int .i64 x) := (hF3.cell (p := ⟨q, 1, none⟩) (lt_of_cell hHeld) hqp).trans hHeld
  refine hK.out _ _ hc3 (fun hHeld => ?_)
  clear hK K hF3 hX3 hqp hS3
  try simp only [Act.put, List.getElem_toArray, List.getElem_cons_zero, List.getElem_cons_succ, List.setIfInBounds_toArray, List.set_cons_zero, List.set_cons_succ]
  refine wpAnyH_take (i := 8) (v := ?_) rfl (by kernel_rfl) (by kernel_rfl) (by kernel_rfl) (fun _ _ _ h => h) (Or.inl ⟨by rfl, ?_⟩) hHeld ?_
  rotate_left
  · intro w hSw
    go_simp
    with_reducible rfl
  try simp only [Act.put, List.getElem_toArray, List.getElem_cons_zero, List.getElem_cons_succ, List.setIfInBounds_toArray, List.set_cons_zero, List.set_cons_succ]
  refine wpAnyH_take (i := 9) (v := ?_) rfl (by kernel_rfl) (by kernel_rfl) (by kernel_rfl) (fun _ _ _ h => h) (Or.inl ⟨by rfl, ?_⟩) hHeld ?_
  rotate_left
  · intro w hSw
    go_simp
    with_reducible rfl
  try simp only [Act.put, List.getElem_toArray, List.getElem_cons_zero, List.getElem_cons_succ, List.setIfInBounds_toArray, List.set_cons_zero, List.set_cons_succ]
  refine wpAnyH_done (by kernel_rfl) ?_ _
  go_wp2_with fail
  go_ret
  refine ⟨?_, ⟨HR3.out, HX3.out, HH.out.p, HH.out.c, Nat.le_trans HH.out.z HF3.out.size⟩, HF3.out⟩
  simp
set_option maxRecDepth 100000 in
set_option maxHeartbeats 4000000 in
theorem does_take (w : World) (base p c px most : Nat) (l : List Int) (shut : Bool) (x : Int) (h : Both w base p c px most l shut) (hlen : l.length ≤ 1024)  :
    Calls Try.prog 11 #[.pointer (some ⟨p, 0, none⟩), .pointer (some ⟨px, 0, none⟩), .agg #[.int .i64 1, .int .i64 x]] w fun e w' => e = .returned (.bool true) ∧ Both w' base p c px most l.tail shut ∧ Fr (fun k => k = p ∨ k = c ∨ base ≤ k) w w' := by
  have hbx := heap_new w (.cells #[.int .i64 1, .int .i64 x] 34)
  have hb0 := cell_blk hbx 0
  simp only [List.getElem?_toArray, List.getElem?_cons_zero, List.getElem?_cons_succ] at hb0
  have HH := hid h
  have HA := hid ((Fr.refl (fun k => k = p ∨ k = c ∨ base ≤ k) w).alloc (.cells #[.int .i64 1, .int .i64 x] 34))
  have HR0 := hid (h.r.fr ((Fr.refl No w).alloc (.cells #[.int .i64 1, .int .i64 x] 34)) id id)
  have HX0 := hid (h.x.fr ((Fr.refl No w).alloc (.cells #[.int .i64 1, .int .i64 x] 34)) (fun _ _ => id))
  clear h hbx
  go_enter Try.func11, Try.ntmps11
  go_wp2_with fail
  obtain ⟨wa, hwa⟩ : ∃ wa, w.alloc (.cells #[.int .i64 1, .int .i64 x] 34) = wa := ⟨_, rfl⟩
  rw [hwa] at HA HR0 HX0 ⊢
  clear hwa hb0
  cases l with
  | nil =>
    refine (rg_Take0 wa p c most shut HR0.out).mono ?_; rintro e2 w2 ⟨rfl, hR2, hF2⟩
    have HX2 := hid (HX0.out.fr hF2 (fun k hk e => by have := HH.out.c; omega))
    have HR2 := hid hR2
    have HF2 := hid (HA.out.trans (hF2.mono (fun k _ e => Or.inr (Or.inl e))))
    clear hR2 hF2
    go_wp2_with fail
    refine (rr_Take0 w2 base px most shut HX2.out).mono ?_; rintro e3 w3 ⟨rfl, rfl⟩
    go_wp2_with fail
    go_ret
    exact ⟨rfl, ⟨HR2.out, HX2.out, HH.out.p, HH.out.c, Nat.le_trans HH.out.z HF2.out.size⟩, HF2.out⟩
  | cons y t =>
    rw [List.map_cons] at HR0
    refine (rg_Take1 wa p c most _ _ shut HR0.out).mono ?_; rintro e2 w2 ⟨rfl, hR2, hF2⟩
    rw [show iv y = Value.int .i64 y from rfl]
    have HX2 := hid (HX0.out.fr hF2 (fun k hk e => by have := HH.out.c; omega))
    have HR2 := hid hR2
    have HF2 := hid (HA.out.trans (hF2.mono (fun k _ e => Or.inr (Or.inl e))))
    clear hR2 hF2
    go_wp2_with fail
    refine (rr_Take1 w2 base px most y t shut HX2.out).mono ?_; rintro e3 w3 ⟨rfl, hX3, hF3⟩
    have HR3 := hid (HR2.out.fr hF3 (fun e => by have := HH.out.p; omega) (fun e => by have := HH.out.c; omega))
    have HX3 := hid hX3
    have HF3 := hid (HF2.out.trans (hF3.mono (fun k _ e => Or.inr (Or.inr e))))
    clear hX3 hF3
    go_wp2_with fail
    go_ret
    exact ⟨rfl, ⟨HR3.out, HX3.out, HH.out.p, HH.out.c, Nat.le_trans HH.out.z HF3.out.size⟩, HF3.out⟩
set_option maxRecDepth 100000 in
set_option maxHeartbeats 4000000 in
theorem does_close (w : World) (base p c px most : Nat) (l : List Int) (shut : Bool) (x : Int) (h : Both w base p c px most l shut) (hlen : l.length ≤ 1024)  :
    Calls Try.prog 11 #[.pointer (some ⟨p, 0, none⟩), .pointer (some ⟨px, 0, none⟩), .agg #[.int .i64 2, .int .i64 x]] w fun e w' => e = .returned (.bool true) ∧ Both w' base p c px most l true ∧ Fr (fun k => k = p ∨ k = c ∨ base ≤ k) w w' := by
  have hbx := heap_new w (.cells #[.int .i64 2, .int .i64 x] 34)
  have hb0 := cell_blk hbx 0
  simp only [List.getElem?_toArray, List.getElem?_cons_zero, List.getElem?_cons_succ] at hb0
  have HH := hid h
  have HA := hid ((Fr.refl (fun k => k = p ∨ k = c ∨ base ≤ k) w).alloc (.cells #[.int .i64 2, .int .i64 x] 34))
  have HR0 := hid (h.r.fr ((Fr.refl No w).alloc (.cells #[.int .i64 2, .int .i64 x] 34)) id id)
  have HX0 := hid (h.x.fr ((Fr.refl No w).alloc (.cells #[.int .i64 2, .int .i64 x] 34)) (fun _ _ => id))
  clear h hbx
  go_enter Try.func11, Try.ntmps11
  go_wp2_with fail
  obtain ⟨wa, hwa⟩ : ∃ wa, w.alloc (.cells #[.int .i64 2, .int .i64 x] 34) = wa := ⟨_, rfl⟩
  rw [hwa] at HA HR0 HX0 ⊢
  clear hwa hb0
  refine (rg_Close wa p c most _ shut HR0.out).mono ?_; rintro e2 w2 ⟨rfl, hR2, hF2⟩
  have HX2 := hid (HX0.out.fr hF2 (fun k hk e => by have := HH.out.c; have := HH.out.p; omega))
  have HR2 := hid hR2
  have HF2 := hid (HA.out.trans (hF2.mono (T := fun k => k = p ∨ k = c ∨ base ≤ k) (fun k _ e => by rcases e with e | e; exact Or.inl e; exact Or.inr (Or.inl e))))
  clear hR2 hF2
  obtain ⟨⟨v, hb, hO⟩, hpx⟩ := HX2.out
  have HPX := hid hpx
  have c2 := cell_blk hb 2
  have f2 := free_blk hb 2
  simp only [List.getElem?_toArray, List.getElem?_cons_zero, List.getElem?_cons_succ] at c2
  have HB3 := hid (set_blk hb 2 (.bool true))
  have HF3 := hid (HF2.out.setCell (p := ⟨px, 2, none⟩) (fun _ => Or.inr (Or.inr HPX.out)) (.bool true))
  have HR3 := hid (HR2.out.fr (Fr.set1 w2 px 2 (.bool true)) (fun e => by have := HH.out.p; have := HPX.out; omega) (fun e => by have := HH.out.c; have := HPX.out; omega))
  have HO3 := hid (hO.fr (Fr.set1 w2 px 2 (.bool true)) (fun k _ hk e => hO.ne hb (hk.trans (congrArg some e))))
  clear hb hO hpx
  cases shut
  all_goals
    go_wp2_with fail
    go_ret
    exact ⟨rfl, ⟨HR3.out, ⟨⟨v, HB3.out, HO3.out⟩, HPX.out⟩, HH.out.p, HH.out.c, Nat.le_trans HH.out.z HF3.out.size⟩, HF3.out⟩
set_option maxRecDepth 100000 in
set_option maxHeartbeats 4000000 in
theorem does_drain (w : World) (base p c px most : Nat) (l : List Int) (shut : Bool) (ask x : Int) (h : Both w base p c px most l shut) (hlen : l.length ≤ 1024) (h0 : ask ≠ 0) (h1 : ask ≠ 1) (h2 : ask ≠ 2) :
    Calls Try.prog 11 #[.pointer (some ⟨p, 0, none⟩), .pointer (some ⟨px, 0, none⟩), .agg #[.int .i64 ask, .int .i64 x]] w fun e w' => e = .returned (.bool true) ∧ Both w' base p c px most [] shut ∧ Fr (fun k => k = p ∨ k = c ∨ base ≤ k) w w' := by
  have hbx := heap_new w (.cells #[.int .i64 ask, .int .i64 x] 34)
  have hb0 := cell_blk hbx 0
  simp only [List.getElem?_toArray, List.getElem?_cons_zero, List.getElem?_cons_succ] at hb0
  have HH := hid h
  have HA := hid ((Fr.refl (fun k => k = p ∨ k = c ∨ base ≤ k) w).alloc (.cells #[.int .i64 ask, .int .i64 x] 34))
  have HR0 := hid (h.r.fr ((Fr.refl No w).alloc (.cells #[.int .i64 ask, .int .i64 x] 34)) id id)
  have HX0 := hid (h.x.fr ((Fr.refl No w).alloc (.cells #[.int .i64 ask, .int .i64 x] 34)) (fun _ _ => id))
  clear h hbx
  have b0 : (ask == 0) = false := by simpa using h0
  have b1 : (ask == 1) = false := by simpa using h1
  have b2 : (ask == 2) = false := by simpa using h2
  go_enter Try.func11, Try.ntmps11
  go_wp2_with fail
  obtain ⟨wa, hwa⟩ : ∃ wa, w.alloc (.cells #[.int .i64 ask, .int .i64 x] 34) = wa := ⟨_, rfl⟩
  rw [hwa] at HA HR0 HX0 ⊢
  clear hwa hb0
  refine (rg_Drain wa p c most l shut HR0.out hlen).mono ?_; rintro e2 w2 ⟨v2, rfl, hO2, hR2, hF2⟩
  have HX2 := hid (HX0.out.fr hF2 (fun k hk e => by have := HH.out.c; omega))
  have HR2 := hid hR2
  have HF2 := hid (HA.out.trans (hF2.mono (T := fun k => k = p ∨ k = c ∨ base ≤ k) (fun k _ e => Or.inr (Or.inl e))))
  obtain ⟨a2, c2, rfl, hrow2⟩ := own_row' hO2
  obtain ⟨hrow2, hge2⟩ := hrow2
  have HRow := hid hrow2
  have HGe := hid hge2
  clear hR2 hF2 hO2 hrow2 hge2
  obtain ⟨⟨v, hb, hO⟩, hpx⟩ := HX2.out
  have hpz : px < wa.heap.size := by
    obtain ⟨⟨_, hb, _⟩, _⟩ := HX0.out
    exact lt_of_block hb
  obtain ⟨av, cv, rfl, hrv⟩ := hO.row
  have HPX := hid hpx
  have c0 := cell_blk hb 0
  have f0 := free_blk hb 0
  simp only [List.getElem?_toArray, List.getElem?_cons_zero, List.getElem?_cons_succ] at c0
  have HB3 := hid (set_blk hb 0 (.slice none 0 0))
  have HF3 := hid (HF2.out.setCell (p := ⟨px, 0, none⟩) (fun _ => Or.inr (Or.inr HPX.out)) (.slice none 0 0))
  have HS1 := Fr.set1 w2 px 0 (.slice none 0 0)
  have HR3 := hid (HR2.out.fr HS1 (fun e => by have := HH.out.p; have := HPX.out; omega) (fun e => by have := HH.out.c; have := HPX.out; omega))
  have HV3 := hid (hrv.fr HS1 (fun b o e h => hO.ne hb (by subst e; exact congrArg some h)))
  have HW3 := hid (HRow.out.fr HS1 (fun b o e h => by have := HGe.out b o e; omega))
  have HI := hid (ints_same _ a2 av c2 cv l (by omega) HW3.out HV3.out)
  clear hb hO hpx hrv HS1
  go_wp2_with fail
  refine HI.out.mono ?_; rintro e4 w4 ⟨rfl, hF4⟩
  have HB4 := hid ((hF4.block px (lt_of_block HB3.out) id).trans HB3.out)
  have HR4 := hid (HR3.out.fr hF4 id id)
  have HF4 := hid (HF3.out.trans (hF4.mono (fun _ _ h => h.elim)))
  clear hF4
  go_wp2_with fail
  go_ret
  exact ⟨rfl, ⟨HR4.out, ⟨⟨.slice none 0 0, HB4.out, .inl ⟨rfl, rfl⟩⟩, HPX.out⟩, HH.out.p, HH.out.c, Nat.le_trans HH.out.z HF4.out.size⟩, HF4.out⟩
theorem does_any (w : World) (base p c px most : Nat) (l : List Int) (shut : Bool) (ask x : Int) (h : Both w base p c px most l shut) (hlen : l.length ≤ 1024) :
    Calls Try.prog 11 #[.pointer (some ⟨p, 0, none⟩), .pointer (some ⟨px, 0, none⟩), .agg #[.int .i64 ask, .int .i64 x]] w fun e w' => e = .returned (.bool true) ∧ Both w' base p c px most (doF most l shut ask x).1 (doF most l shut ask x).2 ∧ Fr (fun k => k = p ∨ k = c ∨ base ≤ k) w w' := by
  unfold doF
  by_cases h0 : ask = 0
  · subst h0; rw [if_pos rfl]; exact does_put w base p c px most l shut x h hlen
  rw [if_neg h0]
  by_cases h1 : ask = 1
  · subst h1; rw [if_pos rfl]; exact does_take w base p c px most l shut x h hlen
  rw [if_neg h1]
  by_cases h2 : ask = 2
  · subst h2; rw [if_pos rfl]; exact does_close w base p c px most l shut x h hlen
  rw [if_neg h2]
  exact does_drain w base p c px most l shut ask x h hlen h0 h1 h2
theorem doF_len (most : Nat) (l : List Int) (shut : Bool) (ask x : Int) (h : l.length ≤ most) : (doF most l shut ask x).1.length ≤ most := by
  unfold doF putI
  split
  · split
    · exact h
    · split
      · simp; omega
      · exact h
  · split
    · simp; omega
    · split
      · exact h
      · simp
end Go.Proofs.Ytndljmkdgakfcaa
