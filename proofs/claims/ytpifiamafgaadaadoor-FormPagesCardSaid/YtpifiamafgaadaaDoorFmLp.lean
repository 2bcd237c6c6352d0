/- forms: put of the law -/
import Derived.Test.YtpifiamafgaadaaDoorFmAA
import Derived.Test.YtpifiamafgaadaaDoorFmQ
namespace Go.Proofs.YtpifiamafgaadaaDoor
open Go.RowKit Go.Shelf
theorem lz64 (W : World) : (Op.equalIn 10000 27 (.agg (blkA zeros)) (.agg (#[.int .u8 0, .int .u8 0, .int .u8 0, .int .u8 0, .int .u8 0, .int .u8 0, .int .u8 0, .int .u8 0, .int .u8 0, .int .u8 0, .int .u8 0, .int .u8 0, .int .u8 0, .int .u8 0, .int .u8 0, .int .u8 0, .int .u8 0, .int .u8 0, .int .u8 0, .int .u8 0, .int .u8 0, .int .u8 0, .int .u8 0, .int .u8 0, .int .u8 0, .int .u8 0, .int .u8 0, .int .u8 0, .int .u8 0, .int .u8 0, .int .u8 0, .int .u8 0, .int .u8 0, .int .u8 0, .int .u8 0, .int .u8 0, .int .u8 0, .int .u8 0, .int .u8 0, .int .u8 0, .int .u8 0, .int .u8 0, .int .u8 0, .int .u8 0, .int .u8 0, .int .u8 0, .int .u8 0, .int .u8 0, .int .u8 0, .int .u8 0, .int .u8 0, .int .u8 0, .int .u8 0, .int .u8 0, .int .u8 0, .int .u8 0, .int .u8 0, .int .u8 0, .int .u8 0, .int .u8 0, .int .u8 0, .int .u8 0, .int .u8 0, .int .u8 0] : Array Value))).run Tryd.prog W = .ok true W := by
  rw [show (#[.int .u8 0, .int .u8 0, .int .u8 0, .int .u8 0, .int .u8 0, .int .u8 0, .int .u8 0, .int .u8 0, .int .u8 0, .int .u8 0, .int .u8 0, .int .u8 0, .int .u8 0, .int .u8 0, .int .u8 0, .int .u8 0, .int .u8 0, .int .u8 0, .int .u8 0, .int .u8 0, .int .u8 0, .int .u8 0, .int .u8 0, .int .u8 0, .int .u8 0, .int .u8 0, .int .u8 0, .int .u8 0, .int .u8 0, .int .u8 0, .int .u8 0, .int .u8 0, .int .u8 0, .int .u8 0, .int .u8 0, .int .u8 0, .int .u8 0, .int .u8 0, .int .u8 0, .int .u8 0, .int .u8 0, .int .u8 0, .int .u8 0, .int .u8 0, .int .u8 0, .int .u8 0, .int .u8 0, .int .u8 0, .int .u8 0, .int .u8 0, .int .u8 0, .int .u8 0, .int .u8 0, .int .u8 0, .int .u8 0, .int .u8 0, .int .u8 0, .int .u8 0, .int .u8 0, .int .u8 0, .int .u8 0, .int .u8 0, .int .u8 0, .int .u8 0] : Array Value) = blkA zeros from rfl, equal_blk zeros zeros rfl rfl W, beq_self_eq_true]
theorem guard_blk6 : Tryd.prog.eqGuardType Tryd.prog.depth 27 = false := by kernel_rfl
set_option maxRecDepth 1000000 in
set_option maxHeartbeats 4000000 in
theorem lw_put (w : World) (K : Nat) (hK : K < 256) (v : Value) (l : List NumI) (B : Nat) (h : Refs w v l B) (hl : 0 < l.length) (hl2 : l.length ≤ 1000) (L : List NumI) (fits : Bool) (hok : okAll l = (okAll L && fits)) (hby : bytesN l = bytesN L)
    (hL : okAll l = true → ∀ x ∈ l, 1 ≤ x.size ∧ x.size ≤ 7 ∧ 0 ≤ x.n ∧ x.n ≤ 9223372036854775807) (hlen : (bytesN l).length ≤ 59) :
    Calls Tryd.prog 7 #[.agg (blkA (putN K L fits).1), .int .i64 (((putN K L fits).2 : Nat) : Int), .int .i64 K, v] w fun e w' => e = .returned (.bool true) ∧ Fr No w w' := by
  cases hb : okAll l with
  | false =>
    have hp : putN K L fits = (zeros, 10) := by unfold putN; rw [← hok, hb]; rfl
    rw [hp]
    show Calls Tryd.prog 7 #[.agg (blkA zeros), .int .i64 10, .int .i64 K, v] w fun e w' => e = .returned (.bool true) ∧ Fr No w w'
    have HR := hid (rf_Right (w.alloc (.cells (blkA zeros) 27)) v l B (h.no ((Fr.refl No w).alloc _)) hl hl2)
    rw [hb] at HR
    have HB := hid (heap_new w (.cells (blkA zeros) 27))
    have HF := hid ((Fr.refl No w).alloc (.cells (blkA zeros) 27))
    have HI := hid (info64b zeros (by simp [zeros]))
    have he' := lz64
    have hg := guard_blk6
    clear h hl hl2 hok hby hL hlen hb hp
    go_enter Tryd.func7, Tryd.ntmps7
    go_wp2_with (first
      | (go_at_call 17; refine HR.out.mono ?_; rintro e w1 ⟨rfl, hF1⟩; have HF1 := hid (HF.out.trans hF1); have HB1 := hid ((hF1.block w.heap.size (lt_of_block HB.out) id).trans HB.out); clear hF1)
      | (refine wpList_load_row_w (by rfl) 27 _ rfl w.heap.size rfl 27 (blkA zeros) (0, 0) _ _ HB1.out Tryd.underlying27 HI.out ?_))
    go_ret
    exact ⟨rfl, HF1.out⟩
  | true =>
    have hp : putN K L fits = (sealB (pad (K :: bytesN l)), 0) := by unfold putN; rw [← hok, hb, hby]; rfl
    rw [hp]
    have hSL := sealB_len (pad (K :: bytesN l)) (pad_len _ (by simp only [List.length_cons]; omega))
    have HBK := hid (fun W hW => rf6_Block W K hK v l B hW hl hl2 hb (hL hb) hlen)
    have HR := hid (fun W hW => rf_Right W v l B hW hl hl2)
    rw [hb] at HR
    obtain ⟨SB, hSB⟩ : ∃ b, sealB (pad (K :: bytesN l)) = b := ⟨_, rfl⟩
    rw [hSB] at hSL HBK ⊢
    show Calls Tryd.prog 7 #[.agg (blkA SB), .int .i64 0, .int .i64 K, v] w fun e w' => e = .returned (.bool true) ∧ Fr No w w'
    have HBK := hid (show ∀ W, Refs W v l B → Calls Tryd.prog 18 #[.int .i64 K, v] W fun e w' => e = .returned (.agg (blkA SB)) ∧ Fr No W w' from HBK.out)
    have HR := hid (show ∀ W, Refs W v l B → Calls Tryd.prog 17 #[v] W fun e w' => e = .returned (.bool true) ∧ Fr No W w' from HR.out)
    have HB := hid (heap_new w (.cells (blkA SB) 27))
    have HF := hid ((Fr.refl No w).alloc (.cells (blkA SB) 27))
    have HI := hid (info64b SB hSL)
    have HRW := hid h
    have he' : ∀ W, (Op.equalIn 10000 27 (.agg (blkA SB)) (.agg (blkA SB))).run Tryd.prog W = .ok true W := fun W => by
      rw [equal_blk SB SB hSL hSL W, beq_self_eq_true]
    have hg := guard_blk6
    clear h hl hl2 hok hby hL hlen hb hp hSL hSB
    go_enter Tryd.func7, Tryd.ntmps7
    go_wp2_with (go_at_call 17; refine (HR.out _ (HRW.out.no HF.out)).mono ?_; rintro e w1 ⟨rfl, hF1⟩; have HF1 := hid (HF.out.trans hF1); have HB1 := hid ((hF1.block w.heap.size (lt_of_block HB.out) id).trans HB.out); clear hF1)
    obtain ⟨q, hq⟩ : ∃ b, w.heap.size = b := ⟨_, rfl⟩
    rw [hq] at HB1 ⊢
    refine wp_region_held_drew (S := fun W => W.heap[q]? = some (.cells (blkA SB) 27 (0, 0))) (by kernel_rfl) HB1.out (fun hHeld => ?_)
    have HF2 := hid HF1.out.drew
    obtain ⟨wz, hwz⟩ : ∃ z, w1.drew = z := ⟨_, rfl⟩
    rw [hwz] at HF2 hHeld ⊢
    clear hwz HB HB1 hq
    refine wpAnyH_take (i := 0) (v := ?_) rfl (by kernel_rfl) (by kernel_rfl) (by kernel_rfl) (fun _ _ _ h => h) (Or.inl ⟨by rfl, ?_⟩) hHeld ?_
    rotate_left
    · intro w hSw
      go_simp
      with_reducible rfl
    try simp only [Act.put, List.getElem_toArray, List.getElem_cons_zero, List.getElem_cons_succ, List.setIfInBounds_toArray, List.set_cons_zero, List.set_cons_succ]
    refine wpAnyH_take (i := 1) (v := ?_) rfl (by kernel_rfl) (by kernel_rfl) (by kernel_rfl) (fun _ _ _ h => h) (Or.inl ⟨by rfl, ?_⟩) hHeld ?_
    rotate_left
    · intro w hSw
      go_simp
      with_reducible rfl
    try simp only [Act.put, List.getElem_toArray, List.getElem_cons_zero, List.getElem_cons_succ, List.setIfInBounds_toArray, List.set_cons_zero, List.set_cons_succ]
    refine wpAnyH_take (i := 2) (v := ?_) rfl (by kernel_rfl) (by kernel_rfl) (by kernel_rfl) (fun _ _ _ h => h) (Or.inl ⟨by rfl, ?_⟩) hHeld ?_
    rotate_left
    · intro w hSw
      go_simp
      with_reducible rfl
    try simp only [Act.put, List.getElem_toArray, List.getElem_cons_zero, List.getElem_cons_succ, List.setIfInBounds_toArray, List.set_cons_zero, List.set_cons_succ]
    refine wpAnyH_take (i := 3) (v := .agg (blkA SB)) rfl (by kernel_rfl) (by kernel_rfl) (by kernel_rfl) (fun _ _ _ h => h) (yields_row (by rfl) 27 _ rfl q rfl 27 (blkA SB) (0, 0) _ _ (fun _ h => h) Tryd.underlying27 HI.out) hHeld ?_
    try simp only [Act.put, List.getElem_toArray, List.getElem_cons_zero, List.getElem_cons_succ, List.setIfInBounds_toArray, List.set_cons_zero, List.set_cons_succ]
    refine wpAnyH_take (i := 4) (v := ?_) rfl (by kernel_rfl) (by kernel_rfl) (by kernel_rfl) (fun _ _ _ h => h) (Or.inl ⟨by rfl, ?_⟩) hHeld ?_
    rotate_left
    · intro w hSw
      go_simp
      with_reducible rfl
    try simp only [Act.put, List.getElem_toArray, List.getElem_cons_zero, List.getElem_cons_succ, List.setIfInBounds_toArray, List.set_cons_zero, List.set_cons_succ]
    refine wpAnyH_take (i := 5) (v := ?_) rfl (by kernel_rfl) (by kernel_rfl) (by kernel_rfl) (fun _ _ _ h => h) (Or.inl ⟨by rfl, ?_⟩) hHeld ?_
    rotate_left
    · intro w hSw
      go_simp
      with_reducible rfl
    try simp only [Act.put, List.getElem_toArray, List.getElem_cons_zero, List.getElem_cons_succ, List.setIfInBounds_toArray, List.set_cons_zero, List.set_cons_succ]
    refine wpAnyH_ready (rs := [6]) (by kernel_rfl) (by simp) ?_
    refine AllReadyH.cons rfl (fun K hK => ?_) AllReadyH.nil
    rw [if_pos (by rfl)]
    go_simp
    refine (HBK.out wz (HRW.out.no HF2.out)).mono ?_
    rintro e w3 ⟨rfl, hF⟩
    have HF3 := hid (HF2.out.trans hF)
    refine hK.out _ _ ((hF.block q (lt_of_block hHeld) id).trans hHeld) (fun hHeld => ?_)
    clear hK K hF
    try simp only [Act.put, List.getElem_toArray, List.getElem_cons_zero, List.getElem_cons_succ, List.setIfInBounds_toArray, List.set_cons_zero, List.set_cons_succ]
    refine wpAnyH_take (i := 7) (v := ?_) rfl (by kernel_rfl) (by kernel_rfl) (by kernel_rfl) (fun _ _ _ h => h) (Or.inl ⟨by rfl, ?_⟩) hHeld ?_
    rotate_left
    · intro w hSw
      go_simp
      with_reducible rfl
    try simp only [Act.put, List.getElem_toArray, List.getElem_cons_zero, List.getElem_cons_succ, List.setIfInBounds_toArray, List.set_cons_zero, List.set_cons_succ]
    refine wpAnyH_take (i := 8) (v := ?_) rfl (by kernel_rfl) (by kernel_rfl) (by kernel_rfl) (fun _ _ _ h => h) (Or.inl ⟨by rfl, ?_⟩) hHeld ?_
    rotate_left
    · intro w hSw
      go_simp
      with_reducible rfl
    try simp only [Act.put, List.getElem_toArray, List.getElem_cons_zero, List.getElem_cons_succ, List.setIfInBounds_toArray, List.set_cons_zero, List.set_cons_succ]
    refine wpAnyH_take (i := 9) (v := ?_) rfl (by kernel_rfl) (by kernel_rfl) (by kernel_rfl) (fun _ _ _ h => h) (Or.inl ⟨by rfl, ?_⟩) hHeld ?_
    rotate_left
    · intro w hSw
      go_simp
      with_reducible rfl
    try simp only [Act.put, List.getElem_toArray, List.getElem_cons_zero, List.getElem_cons_succ, List.setIfInBounds_toArray, List.set_cons_zero, List.set_cons_succ]
    refine wpAnyH_done (by kernel_rfl) ?_ _
    go_wp2_with fail
    go_ret
    exact ⟨rfl, HF3.out⟩
end Go.Proofs.YtpifiamafgaadaaDoor
