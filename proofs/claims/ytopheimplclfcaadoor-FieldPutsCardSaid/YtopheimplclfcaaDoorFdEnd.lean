/- field.Reader.End. -/
import Derived.Test.YtopheimplclfcaaDoorFdRead
import Derived.Laws.CopyOwn
namespace Go.Proofs.YtopheimplclfcaaDoor
open Go.RowKit

theorem fd_End_nil (w : World) : Calls Tryd.prog 24 #[.pointer none] w fun e w' => e = .returned (.int .i64 2) ∧ w' = w := by
  go_enter Tryd.func24, Tryd.ntmps24
  go_wp2_with fail
  go_ret
  exact ⟨rfl, rfl⟩
theorem fd_End_err (w : World) (p at_ e : Nat) (bs : List Nat) (h : RdAt w p bs at_ e) (he : 0 < e) : Calls Tryd.prog 24 #[.pointer (some ⟨p, 0, none⟩)] w fun r w' => r = .returned (.int .i64 e) ∧ w' = w := by
  have hce := h.e_cell
  have hb : (((e : Nat) : Int) != 0) = true := by simp; omega
  clear h
  go_enter Tryd.func24, Tryd.ntmps24
  go_wp2_with fail
  go_ret
  exact ⟨rfl, rfl⟩
theorem info8 : (Tryd.prog.info? 5).map (·.size) = some 1 := by kernel_rfl
/-- what is left, up to the sum, in a sector of noughts -/
def restB (bs : List Nat) (at_ : Nat) : List Nat := zeros.take at_ ++ (bs.take 60).drop at_ ++ zeros.drop 60
theorem restB_len (bs : List Nat) (at_ : Nat) (hl : bs.length = 64) (h : at_ ≤ 60) : (restB bs at_).length = 64 := by
  simp [restB, zeros, hl]; omega
def formE (b : Bool) : Int := if b then 0 else 12
set_option maxRecDepth 100000 in
set_option maxHeartbeats 2000000 in
theorem fd_End_ok (w : World) (p at_ : Nat) (bs : List Nat) (h : RdAt w p bs at_ 0) : Calls Tryd.prog 24 #[.pointer (some ⟨p, 0, none⟩)] w fun r w' => r = .returned (.int .i64 (formE (restB bs at_ == zeros))) ∧ Fr No w w' := by
  have hce := h.e_cell
  have hlp := h.ltp
  have hr := h.room
  have hr' : (at_ : Int) ≤ 60 := by omega
  have h64 : ¬ 64 = at_ := by omega
  have HB := hid (heap_new w (.cells (blkA zeros) 33))
  have HF := hid ((Fr.refl No w).alloc (.cells (blkA zeros) 33))
  have HR := hid (h.fr HF.out id)
  have HRL := hid (restB_len bs at_ h.len hr)
  clear h
  go_enter Tryd.func24, Tryd.ntmps24
  go_wp2_with fail
  have hz := blkA_zeros
  simp only [byte, Int.natCast_zero] at hz
  try rw [← hz]
  clear hz
  generalize hw1 : w.alloc (.cells (blkA zeros) 33) = w1 at *
  generalize hq : w.heap.size = q at *
  have HBel : Hid (Below q w w1.drew) := by rw [← hq]; exact HF.out.drew.below
  clear hw1 hce
  have hca : w1.drew.cell? ⟨p, 64, none⟩ = some (.int .i64 at_) := HR.out.at_cell
  refine wp_region_held_drew (S := fun w' => w'.cell? ⟨p, 64, none⟩ = some (.int .i64 at_)) (by kernel_rfl) hca (fun hHeld => ?_)
  refine wpAnyH_take (i := 0) (v := ?_) rfl (by kernel_rfl) (by kernel_rfl) (by kernel_rfl) (fun _ _ _ h => h) (Or.inl ⟨by rfl, ?_⟩) hHeld ?_
  rotate_left
  · intro w hSw
    (try obtain ⟨hSw1, hSw2⟩ := hSw)
    go_simp
    with_reducible rfl
  try simp only [Act.put, List.getElem_toArray, List.getElem_cons_zero, List.getElem_cons_succ, List.setIfInBounds_toArray, List.set_cons_zero, List.set_cons_succ]
  refine wpAnyH_take (i := 1) (v := ?_) rfl (by kernel_rfl) (by kernel_rfl) (by kernel_rfl) (fun _ _ _ h => h) (Or.inl ⟨by rfl, ?_⟩) hHeld ?_
  rotate_left
  · intro w hSw
    (try obtain ⟨hSw1, hSw2⟩ := hSw)
    go_simp
    with_reducible rfl
  try simp only [Act.put, List.getElem_toArray, List.getElem_cons_zero, List.getElem_cons_succ, List.setIfInBounds_toArray, List.set_cons_zero, List.set_cons_succ]
  refine wpAnyH_take (i := 2) (v := ?_) rfl (by kernel_rfl) (by kernel_rfl) (by kernel_rfl) (fun _ _ _ h => h) (Or.inl ⟨by rfl, ?_⟩) hHeld ?_
  rotate_left
  · intro w hSw
    (try obtain ⟨hSw1, hSw2⟩ := hSw)
    go_simp
    with_reducible rfl
  try simp only [Act.put, List.getElem_toArray, List.getElem_cons_zero, List.getElem_cons_succ, List.setIfInBounds_toArray, List.set_cons_zero, List.set_cons_succ]
  refine wpAnyH_take (i := 3) (v := ?_) rfl (by kernel_rfl) (by kernel_rfl) (by kernel_rfl) (fun _ _ _ h => h) (Or.inl ⟨by rfl, ?_⟩) hHeld ?_
  rotate_left
  · intro w hSw
    (try obtain ⟨hSw1, hSw2⟩ := hSw)
    go_simp
    with_reducible rfl
  try simp only [Act.put, List.getElem_toArray, List.getElem_cons_zero, List.getElem_cons_succ, List.setIfInBounds_toArray, List.set_cons_zero, List.set_cons_succ]
  refine wpAnyH_take (i := 4) (v := ?_) rfl (by kernel_rfl) (by kernel_rfl) (by kernel_rfl) (fun _ _ _ h => h) (Or.inl ⟨by rfl, ?_⟩) hHeld ?_
  rotate_left
  · intro w hSw
    (try obtain ⟨hSw1, hSw2⟩ := hSw)
    go_simp
    with_reducible rfl
  try simp only [Act.put, List.getElem_toArray, List.getElem_cons_zero, List.getElem_cons_succ, List.setIfInBounds_toArray, List.set_cons_zero, List.set_cons_succ]
  refine wpAnyH_take (i := 5) (v := ?_) rfl (by kernel_rfl) (by kernel_rfl) (by kernel_rfl) (fun _ _ _ h => h) (Or.inl ⟨by rfl, ?_⟩) hHeld ?_
  rotate_left
  · intro w hSw
    (try obtain ⟨hSw1, hSw2⟩ := hSw)
    go_simp
    with_reducible rfl
  try simp only [Act.put, List.getElem_toArray, List.getElem_cons_zero, List.getElem_cons_succ, List.setIfInBounds_toArray, List.set_cons_zero, List.set_cons_succ]
  refine wpAnyH_take (i := 6) (v := ?_) rfl (by kernel_rfl) (by kernel_rfl) (by kernel_rfl) (fun _ _ _ h => h) (Or.inl ⟨by rfl, ?_⟩) hHeld ?_
  rotate_left
  · intro w hSw
    (try obtain ⟨hSw1, hSw2⟩ := hSw)
    go_simp
    with_reducible rfl
  try simp only [Act.put, List.getElem_toArray, List.getElem_cons_zero, List.getElem_cons_succ, List.setIfInBounds_toArray, List.set_cons_zero, List.set_cons_succ]
  refine wpAnyH_take (i := 7) (v := ?_) rfl (by kernel_rfl) (by kernel_rfl) (by kernel_rfl) (fun _ _ _ h => h) (Or.inl ⟨by rfl, ?_⟩) hHeld ?_
  rotate_left
  · intro w hSw
    (try obtain ⟨hSw1, hSw2⟩ := hSw)
    go_simp
    with_reducible rfl
  try simp only [Act.put, List.getElem_toArray, List.getElem_cons_zero, List.getElem_cons_succ, List.setIfInBounds_toArray, List.set_cons_zero, List.set_cons_succ]
  refine wpAnyH_take (i := 8) (v := ?_) rfl (by kernel_rfl) (by kernel_rfl) (by kernel_rfl) (fun _ _ _ h => h) (Or.inl ⟨by rfl, ?_⟩) hHeld ?_
  rotate_left
  · intro w hSw
    (try obtain ⟨hSw1, hSw2⟩ := hSw)
    go_simp
    with_reducible rfl
  try simp only [Act.put, List.getElem_toArray, List.getElem_cons_zero, List.getElem_cons_succ, List.setIfInBounds_toArray, List.set_cons_zero, List.set_cons_succ]
  refine wpAnyH_take (i := 9) (v := ?_) rfl (by kernel_rfl) (by kernel_rfl) (by kernel_rfl) (fun _ _ _ h => h) (Or.inl ⟨by rfl, ?_⟩) hHeld ?_
  rotate_left
  · intro w hSw
    (try obtain ⟨hSw1, hSw2⟩ := hSw)
    go_simp
    with_reducible rfl
  try simp only [Act.put, List.getElem_toArray, List.getElem_cons_zero, List.getElem_cons_succ, List.setIfInBounds_toArray, List.set_cons_zero, List.set_cons_succ]
  refine wpAnyH_take (i := 10) (v := ?_) rfl (by kernel_rfl) (by kernel_rfl) (by kernel_rfl) (fun _ _ _ h => h) (Or.inl ⟨by rfl, ?_⟩) hHeld ?_
  rotate_left
  · intro w hSw
    (try obtain ⟨hSw1, hSw2⟩ := hSw)
    go_simp
    with_reducible rfl
  try simp only [Act.put, List.getElem_toArray, List.getElem_cons_zero, List.getElem_cons_succ, List.setIfInBounds_toArray, List.set_cons_zero, List.set_cons_succ]
  refine wpAnyH_take (i := 11) (v := ?_) rfl (by kernel_rfl) (by kernel_rfl) (by kernel_rfl) (fun _ _ _ h => h) (Or.inl ⟨by rfl, ?_⟩) hHeld ?_
  rotate_left
  · intro w hSw
    (try obtain ⟨hSw1, hSw2⟩ := hSw)
    go_simp
    with_reducible rfl
  try simp only [Act.put, List.getElem_toArray, List.getElem_cons_zero, List.getElem_cons_succ, List.setIfInBounds_toArray, List.set_cons_zero, List.set_cons_succ]
  refine wpAnyH_take (i := 12) (v := ?_) rfl (by kernel_rfl) (by kernel_rfl) (by kernel_rfl) (fun _ _ _ h => h) (Or.inl ⟨by rfl, ?_⟩) hHeld ?_
  rotate_left
  · intro w hSw
    (try obtain ⟨hSw1, hSw2⟩ := hSw)
    go_simp
    with_reducible rfl
  try simp only [Act.put, List.getElem_toArray, List.getElem_cons_zero, List.getElem_cons_succ, List.setIfInBounds_toArray, List.set_cons_zero, List.set_cons_succ]
  refine wpAnyH_ready (rs := [13]) (by kernel_rfl) (by simp) ?_
  refine AllReadyH.cons rfl (fun K hK => ?_) AllReadyH.nil
  have hcsl : (((bs.take 60).drop at_).map byte).length = 60 - at_ := by simp [HR.out.len]
  refine step_copy_splice rfl (.tmp 19) (.tmp 27) 26 26 rfl 5 Tryd.underlying26 info8 _ _ _ _ _ _ rfl rfl q at_ (zeros.map byte) 33 HB.out (((bs.take 60).drop at_).map byte) (by rw [hcsl]; exact (Nat.min_self _).symm)
    (fun _ => ⟨rfl, _, rfl, fun j v hv => ?_⟩) (by rw [hcsl]; simp [zeros]; omega) (fun v hv => by obtain ⟨x, _, rfl⟩ := List.mem_map.1 hv; rfl) q w HBel.out (Nat.le_refl _) ?_
  · have hj : j < 60 - at_ := by rw [← hcsl]; exact (List.getElem?_eq_some_iff.1 hv).1
    rw [add_off]
    show w1.cell? _ = _
    rw [HR.out.cell (at_ + j) (by rw [HR.out.len]; omega), ← hv]
    simp only [List.getElem?_map, List.getElem?_drop, List.getElem?_take]
    rw [if_pos (by omega), List.getElem?_eq_getElem (by rw [HR.out.len]; omega)]; rfl
  intro w4 hg4 hb4
  refine hK.out _ _ ((hb4.cell (p := ⟨p, 64, none⟩) hlp).trans ((HBel.out.cell (p := ⟨p, 64, none⟩) hlp).symm.trans hHeld)) (fun hHeld => ?_)
  clear hK K
  try simp only [Act.put, List.getElem_toArray, List.getElem_cons_zero, List.getElem_cons_succ, List.setIfInBounds_toArray, List.set_cons_zero, List.set_cons_succ]
  refine wpAnyH_done (by kernel_rfl) ?_ _
  have hsp : (splice (zeros.map byte) at_ (((bs.take 60).drop at_).map byte)).toArray = blkA (restB bs at_) := by
    unfold splice restB blkA
    rw [hcsl, show at_ + (60 - at_) = 60 from by omega]
    simp [List.map_take, List.map_drop]
  have HQ : Hid (w4.heap[q]? = some (.cells (blkA (restB bs at_)) 33)) := by rw [← hsp]; exact hg4
  have HI := hid (info64b (restB bs at_) HRL.out)
  have HE := hid (equal_blk (restB bs at_) zeros HRL.out rfl w4)
  have HF4 := hid (Fr.of_below (S := No) (hq ▸ hb4 : Below w.heap.size w w4))
  clear hsp hg4 hb4 hHeld hcsl hca HBel HB HR
  have he := HE.out
  rw [z64_eq] at he
  have hg := guard_blk
  generalize hrb : restB bs at_ = rb at *
  have HRB := hid hrb
  generalize hbq : (rb == zeros) = c at *
  have HBQ := hid hbq
  clear hrb hbq
  go_wp2_with (refine wpList_load_row rfl 33 _ rfl q rfl 33 (blkA rb) (0, 0) _ HQ.out Tryd.underlying33 rfl HI.out ?_)
  all_goals
    rename_i hcc
    have hc := hcc
    simp only [Bool.not_eq_eq_eq_not, Bool.not_true, Bool.not_false] at hc
    subst hc
    go_ret
    exact ⟨by rw [HRB.out, HBQ.out]; rfl, HF4.out⟩
end Go.Proofs.YtopheimplclfcaaDoor
