/- forms: the reference's numbers. -/
import Derived.Test.YtpifiamafgaadaaDoorFmY
namespace Go.Proofs.YtpifiamafgaadaaDoor
open Go.RowKit Go.Shelf
set_option maxRecDepth 1000000 in
set_option maxHeartbeats 4000000 in
theorem rf6_Block (w : World) (K : Nat) (hK : K < 256) (v : Value) (l : List NumI) (B : Nat) (h : Refs w v l B) (hl : 0 < l.length) (hl2 : l.length ≤ 1000) (hok : okAll l = true) (hL : ∀ x ∈ l, 1 ≤ x.size ∧ x.size ≤ 7 ∧ 0 ≤ x.n ∧ x.n ≤ 9223372036854775807) (hlen : (bytesN l).length ≤ 59) :
    Calls Tryd.prog 18 #[.int .i64 K, v] w fun e w' => e = .returned (.agg (blkA (sealB (pad (K :: bytesN l))))) ∧ Fr No w w' := by
  obtain ⟨i0, hi, hz0, hz1, hz2⟩ := info_parts u8_info
  obtain ⟨g, cap, rfl⟩ := refs_form h hl
  have HR := hid h
  have HL := hid hL
  have HLN := hid hlen
  have hK' : (K : Int) % 256 = K := by omega
  have hgw : g < w.heap.size := (refs_cells h 0 hl).2.2.2.2
  clear h hok hL hlen
  go_enter Tryd.func18, Tryd.ntmps18
  go_wp2_with fail
  rw [show (#[.int .u8 0, .int .u8 0, .int .u8 0, .int .u8 0, .int .u8 0, .int .u8 0, .int .u8 0, .int .u8 0, .int .u8 0, .int .u8 0, .int .u8 0, .int .u8 0, .int .u8 0, .int .u8 0, .int .u8 0, .int .u8 0, .int .u8 0, .int .u8 0, .int .u8 0, .int .u8 0, .int .u8 0, .int .u8 0, .int .u8 0, .int .u8 0, .int .u8 0, .int .u8 0, .int .u8 0, .int .u8 0, .int .u8 0, .int .u8 0, .int .u8 0, .int .u8 0, .int .u8 0, .int .u8 0, .int .u8 0, .int .u8 0, .int .u8 0, .int .u8 0, .int .u8 0, .int .u8 0, .int .u8 0, .int .u8 0, .int .u8 0, .int .u8 0, .int .u8 0, .int .u8 0, .int .u8 0, .int .u8 0, .int .u8 0, .int .u8 0, .int .u8 0, .int .u8 0, .int .u8 0, .int .u8 0, .int .u8 0, .int .u8 0, .int .u8 0, .int .u8 0, .int .u8 0, .int .u8 0, .int .u8 0, .int .u8 0, .int .u8 0, .int .u8 0] : Array Value) = blkA zeros from rfl]
  have a0 := heap_more (o' := .cells #[.int .u8 (K : Int)] 5) (heap_new w (.cells (blkA zeros) 27))
  have b0 := heap_new (w.alloc (.cells (blkA zeros) 27)) (.cells #[.int .u8 (K : Int)] 5)
  rw [World.size_alloc] at b0
  have HF2 := hid (((Fr.refl No w).alloc (.cells (blkA zeros) 27)).alloc (.cells #[.int .u8 (K : Int)] 5))
  obtain ⟨w2, hw2⟩ : ∃ W, (w.alloc (.cells (blkA zeros) 27)).alloc (.cells #[.int .u8 (K : Int)] 5) = W := ⟨_, rfl⟩
  rw [hw2] at a0 b0 HF2 ⊢
  clear hw2
  have HB2 := hid a0
  have HO2 := hid (show w2.ownsRow (w.heap.size + 1) 5 1 (.slice (some ⟨w.heap.size + 1, 0, none⟩) 1 1) 1 [byte K] from ⟨rfl, .inr ⟨w.heap.size + 1, 1, _, rfl, Nat.le_refl _, b0, Nat.le_refl _, by unfold maxLen; omega, rfl, rfl⟩⟩)
  have HS2 := hid (show w.heap.size + 1 < w2.heap.size from lt_of_block b0)
  clear a0 b0
  obtain ⟨RB, hRB⟩ : ∃ b, w.heap.size = b := ⟨_, rfl⟩
  have HRB := hid hRB
  rw [hRB] at HB2 HO2 HS2 ⊢
  clear hRB
  go_loopg [5, 6] l.length (fun gk v i wr => ∃ k : Nat, k + gk = l.length ∧ i = .int .i64 k ∧ Hid (wr.ownsRow (RB + 1) 5 1 v (K :: bytesN (l.take k)).length ((K :: bytesN (l.take k)).map byte)) ∧ Hid (Fr No w wr) ∧ Hid (wr.heap[RB]? = some (.cells (blkA zeros) 27 (0, 0))) ∧ Hid (RB + 1 < wr.heap.size))
  case atStart => exact ⟨0, by omega, rfl, HO2.out, HF2.out, HB2.out, HS2.out⟩
  case round =>
    obtain ⟨k, hk, rfl, HO, HF, HB, HS⟩ := hrel
    cases gk with
    | succ gk =>
      have hkl : k < l.length := by omega
      obtain ⟨c0, c1, _, _, _⟩ := refs_cells (HR.out.no HF.out) k hkl
      have HTK := hid (bytesN_take l k hkl)
      have HLK := hid (HL.out l[k] (List.getElem_mem hkl))
      obtain ⟨⟨n, sz, lo, hi'⟩, hx⟩ : ∃ x, l[k] = x := ⟨_, rfl⟩
      rw [hx] at c0 c1 HTK HLK
      have hn0 : 0 ≤ n := HLK.out.2.2.1
      obtain ⟨n, rfl⟩ := Int.eq_ofNat_of_zero_le hn0
      have HN9 := hid (show n ≤ 9223372036854775807 from by have h : (n : Int) ≤ 9223372036854775807 := HLK.out.2.2.2; omega)
      have HS7 := hid (show sz ≤ 7 ∧ 1 ≤ sz from ⟨HLK.out.2.1, HLK.out.1⟩)
      have HTK : Hid (bytesN (l.take (k + 1)) = bytesN (l.take k) ++ digs sz n) := HTK
      have hle := bytesN_take_le l (k + 1)
      have HLE := hid (show (bytesN (l.take k)).length + sz ≤ 59 from by have := HLN.out; rw [HTK.out, List.length_append, digs_len] at hle; omega)
      clear hx hn0 hle
      go_wp2_with fail
      refine wp_region_held_drew (S := fun W => W.cell? ⟨g, k * 4, none⟩ = some (.int .i64 n) ∧ W.cell? ⟨g, k * 4 + 1, none⟩ = some (.int .i64 sz)) (by kernel_rfl) ⟨c0, c1⟩ (fun hHeld => ?_)
      have HO := hid (own_frk HO.out (Fr.refl No wr).drew (fun _ _ => id))
      have HF := hid HF.out.drew
      have HB : Hid (wr.drew.heap[RB]? = some (.cells (blkA zeros) 27 (0, 0))) := HB.out
      have HS : Hid (RB + 1 < wr.drew.heap.size) := HS.out
      obtain ⟨wz, hwz⟩ : ∃ z, wr.drew = z := ⟨_, rfl⟩
      rw [hwz] at HO HF HB HS hHeld ⊢
      clear hwz c0 c1
      refine wpAnyH_take (i := 0) (v := ?_) rfl (by kernel_rfl) (by kernel_rfl) (by kernel_rfl) (fun _ _ _ h => h) (Or.inl ⟨by rfl, ?_⟩) hHeld ?_
      rotate_left
      · intro w hSw; obtain ⟨g0, g1⟩ := hSw
        go_simp
        with_reducible rfl
      try simp only [Act.put, List.getElem_toArray, List.getElem_cons_zero, List.getElem_cons_succ, List.setIfInBounds_toArray, List.set_cons_zero, List.set_cons_succ]
      refine wpAnyH_take (i := 1) (v := ?_) rfl (by kernel_rfl) (by kernel_rfl) (by kernel_rfl) (fun _ _ _ h => h) (Or.inl ⟨by rfl, ?_⟩) hHeld ?_
      rotate_left
      · intro w hSw; obtain ⟨g0, g1⟩ := hSw
        go_simp
        with_reducible rfl
      try simp only [Act.put, List.getElem_toArray, List.getElem_cons_zero, List.getElem_cons_succ, List.setIfInBounds_toArray, List.set_cons_zero, List.set_cons_succ]
      refine wpAnyH_take (i := 2) (v := ?_) rfl (by kernel_rfl) (by kernel_rfl) (by kernel_rfl) (fun _ _ _ h => h) (Or.inl ⟨by rfl, ?_⟩) hHeld ?_
      rotate_left
      · intro w hSw; obtain ⟨g0, g1⟩ := hSw
        go_simp
        with_reducible rfl
      try simp only [Act.put, List.getElem_toArray, List.getElem_cons_zero, List.getElem_cons_succ, List.setIfInBounds_toArray, List.set_cons_zero, List.set_cons_succ]
      refine wpAnyH_take (i := 3) (v := ?_) rfl (by kernel_rfl) (by kernel_rfl) (by kernel_rfl) (fun _ _ _ h => h) (Or.inl ⟨by rfl, ?_⟩) hHeld ?_
      rotate_left
      · intro w hSw; obtain ⟨g0, g1⟩ := hSw
        go_simp
        with_reducible rfl
      try simp only [Act.put, List.getElem_toArray, List.getElem_cons_zero, List.getElem_cons_succ, List.setIfInBounds_toArray, List.set_cons_zero, List.set_cons_succ]
      refine wpAnyH_take (i := 4) (v := ?_) rfl (by kernel_rfl) (by kernel_rfl) (by kernel_rfl) (fun _ _ _ h => h) (Or.inl ⟨by rfl, ?_⟩) hHeld ?_
      rotate_left
      · intro w hSw; obtain ⟨g0, g1⟩ := hSw
        go_simp
        with_reducible rfl
      try simp only [Act.put, List.getElem_toArray, List.getElem_cons_zero, List.getElem_cons_succ, List.setIfInBounds_toArray, List.set_cons_zero, List.set_cons_succ]
      refine wpAnyH_take (i := 5) (v := ?_) rfl (by kernel_rfl) (by kernel_rfl) (by kernel_rfl) (fun _ _ _ h => h) (Or.inl ⟨by rfl, ?_⟩) hHeld ?_
      rotate_left
      · intro w hSw; obtain ⟨g0, g1⟩ := hSw
        go_simp
        with_reducible rfl
      try simp only [Act.put, List.getElem_toArray, List.getElem_cons_zero, List.getElem_cons_succ, List.setIfInBounds_toArray, List.set_cons_zero, List.set_cons_succ]
      refine wpAnyH_take (i := 6) (v := ?_) rfl (by kernel_rfl) (by kernel_rfl) (by kernel_rfl) (fun _ _ _ h => h) (Or.inl ⟨by rfl, ?_⟩) hHeld ?_
      rotate_left
      · intro w hSw; obtain ⟨g0, g1⟩ := hSw
        go_simp
        with_reducible rfl
      try simp only [Act.put, List.getElem_toArray, List.getElem_cons_zero, List.getElem_cons_succ, List.setIfInBounds_toArray, List.set_cons_zero, List.set_cons_succ]
      refine wpAnyH_take (i := 7) (v := ?_) rfl (by kernel_rfl) (by kernel_rfl) (by kernel_rfl) (fun _ _ _ h => h) (Or.inl ⟨by rfl, ?_⟩) hHeld ?_
      rotate_left
      · intro w hSw; obtain ⟨g0, g1⟩ := hSw
        go_simp
        with_reducible rfl
      try simp only [Act.put, List.getElem_toArray, List.getElem_cons_zero, List.getElem_cons_succ, List.setIfInBounds_toArray, List.set_cons_zero, List.set_cons_succ]
      refine wpAnyH_take (i := 8) (v := ?_) rfl (by kernel_rfl) (by kernel_rfl) (by kernel_rfl) (fun _ _ _ h => h) (Or.inl ⟨by rfl, ?_⟩) hHeld ?_
      rotate_left
      · intro w hSw; obtain ⟨g0, g1⟩ := hSw
        go_simp
        with_reducible rfl
      try simp only [Act.put, List.getElem_toArray, List.getElem_cons_zero, List.getElem_cons_succ, List.setIfInBounds_toArray, List.set_cons_zero, List.set_cons_succ]
      refine wpAnyH_take (i := 9) (v := ?_) rfl (by kernel_rfl) (by kernel_rfl) (by kernel_rfl) (fun _ _ _ h => h) (Or.inl ⟨by rfl, ?_⟩) hHeld ?_
      rotate_left
      · intro w hSw; obtain ⟨g0, g1⟩ := hSw
        go_simp
        with_reducible rfl
      try simp only [Act.put, List.getElem_toArray, List.getElem_cons_zero, List.getElem_cons_succ, List.setIfInBounds_toArray, List.set_cons_zero, List.set_cons_succ]
      refine wpAnyH_ready (rs := [10]) (by kernel_rfl) (by simp) ?_
      refine AllReadyH.cons rfl (fun K hK => ?_) AllReadyH.nil
      rw [if_pos (by rfl)]
      go_simp
      refine (rf_Bytes n sz HS7.out.1 HN9.out wz).mono ?_
      rintro e w3 ⟨vx, rfl, hX, hF3, _⟩
      refine hK.out _ _ ⟨(hF3.cell (p := ⟨g, k * 4, none⟩) (lt_of_cell hHeld.1) id).trans hHeld.1, (hF3.cell (p := ⟨g, k * 4 + 1, none⟩) (lt_of_cell hHeld.2) id).trans hHeld.2⟩ (fun hHeld => ?_)
      have HO3 := hid (own_frk HO.out hF3 (fun _ _ => id))
      have HF3 := hid (HF.out.trans hF3)
      have HB3 := hid ((hF3.block RB (lt_of_block HB.out) id).trans HB.out)
      have HS3 := hid (Nat.lt_of_lt_of_le HS.out hF3.size)
      obtain ⟨b, ob, cx, hvx, hbl, hnews⟩ := hX.news (by intro e; have h := digs_len sz n; rw [e] at h; have h : 0 = sz := h; have := HS7.out; omega)
      rw [digs_len] at hvx
      subst hvx
      have HNW := hid hnews
      clear hK K hX hnews HO HF HB HS
      try simp only [Act.put, List.getElem_toArray, List.getElem_cons_zero, List.getElem_cons_succ, List.setIfInBounds_toArray, List.set_cons_zero, List.set_cons_succ]
      refine wpAnyH_take (i := 11) (v := ?_) rfl (by kernel_rfl) (by kernel_rfl) (by kernel_rfl) (fun _ _ _ h => h) (Or.inl ⟨by rfl, ?_⟩) hHeld ?_
      rotate_left
      · intro w hSw
        go_simp
        with_reducible rfl
      try simp only [Act.put, List.getElem_toArray, List.getElem_cons_zero, List.getElem_cons_succ, List.setIfInBounds_toArray, List.set_cons_zero, List.set_cons_succ]
      refine wpAnyH_take (i := 12) (v := ?_) rfl (by kernel_rfl) (by kernel_rfl) (by kernel_rfl) (fun _ _ _ h => h) (Or.inl ⟨by rfl, ?_⟩) hHeld ?_
      rotate_left
      · intro w hSw
        go_simp
        with_reducible rfl
      try simp only [Act.put, List.getElem_toArray, List.getElem_cons_zero, List.getElem_cons_succ, List.setIfInBounds_toArray, List.set_cons_zero, List.set_cons_succ]
      refine wpAnyH_take (i := 13) (v := ?_) rfl (by kernel_rfl) (by kernel_rfl) (by kernel_rfl) (fun _ _ _ h => h) (Or.inl ⟨by rfl, ?_⟩) hHeld ?_
      rotate_left
      · intro w hSw
        go_simp
        with_reducible rfl
      try simp only [Act.put, List.getElem_toArray, List.getElem_cons_zero, List.getElem_cons_succ, List.setIfInBounds_toArray, List.set_cons_zero, List.set_cons_succ]
      refine wpAnyH_take (i := 14) (v := ?_) rfl (by kernel_rfl) (by kernel_rfl) (by kernel_rfl) (fun _ _ _ h => h) (Or.inl ⟨by rfl, ?_⟩) hHeld ?_
      rotate_left
      · intro w hSw
        go_simp
        with_reducible rfl
      try simp only [Act.put, List.getElem_toArray, List.getElem_cons_zero, List.getElem_cons_succ, List.setIfInBounds_toArray, List.set_cons_zero, List.set_cons_succ]
      refine wpAnyH_take (i := 15) (v := ?_) rfl (by kernel_rfl) (by kernel_rfl) (by kernel_rfl) (fun _ _ _ h => h) (Or.inl ⟨by rfl, ?_⟩) hHeld ?_
      rotate_left
      · intro w hSw
        go_simp
        with_reducible rfl
      try simp only [Act.put, List.getElem_toArray, List.getElem_cons_zero, List.getElem_cons_succ, List.setIfInBounds_toArray, List.set_cons_zero, List.set_cons_succ]
      refine wpAnyH_done (by kernel_rfl) ?_ _
      clear hHeld
      have hll : (K :: bytesN (l.take k)).length + sz ≤ 60 := by have := HLE.out; simp only [List.length_cons]; omega
      have hszp : 0 < sz := HS7.out.2
      have hwr : ∀ r, u5.ownBlock = some r → RB + 1 ≤ r := fun r hr => (World.ownsRow.lt HO3.out r hr).1
      go_wp2_with (at_builtin; go_loud (refine wpList_append_lies _ rfl (.tmp 32) (.tmp 33) 97 rfl (RB + 1) 5 i0 (.int .u8 0) 1 1 Tryd.underlying97 hi hz0 hz1 hz2 rfl (by decide) _ _ _ rfl HO3.out ⟨b, ob, none⟩ sz cx ((digs sz n).map byte) rfl (by simp [digs_len]) HNW.out (byte_ones _) hszp (by unfold maxLen; omega) (by omega) (Nat.le_of_lt HS3.out) _ rfl ?_; intro G cp w4 hown hgrow hG hGs; have hF4 := grown_fr hgrow; have HF4 := hid (HF3.out.then hF4 (fun i hi e => by have := hwr i e; have := HRB.out; omega)); have HB4 := hid ((hF4.block RB (lt_of_block HB3.out) (fun e => by have := hwr RB e; omega)).trans HB3.out); have HS4 := hid (Nat.lt_of_lt_of_le HS3.out hF4.size); have HO4 := hid hown; clear hF4 hown hgrow hG hGs))
      have HO5 : Hid (w4.ownsRow (RB + 1) 5 1 (.slice (some ⟨G, 0, none⟩) ((K :: bytesN (l.take k)).length + sz) cp) (K :: bytesN (l.take (k + 1))).length ((K :: bytesN (l.take (k + 1))).map byte)) := by
        have h := HO4.out
        unfold Hid
        rw [HTK.out]
        have e1 : (K :: (bytesN (l.take k) ++ digs sz n)).length = (K :: bytesN (l.take k)).length + sz := by simp only [List.length_cons, List.length_append, digs_len]; omega
        rw [e1, ← List.cons_append, List.map_append]
        exact h
      go_roundg gk
      case measure => omega
      case rel => exact ⟨k + 1, by omega, by go_num, HO5.out, HF4, HB4, HS4⟩
    | zero =>
      obtain rfl : k = l.length := by omega
      rw [List.take_length] at HO
      have hbl : ∀ x ∈ bytesN l, x < 256 := fun x hx => by
        obtain ⟨y, _, hy⟩ := List.mem_flatMap.1 hx
        exact digs_lt _ _ x hy
      have hlt : ∀ x ∈ K :: bytesN l, x < 256 := fun x hx => by
        rcases List.mem_cons.1 hx with rfl | hx
        · exact hK
        · exact hbl x hx
      have hll : (K :: bytesN l).length ≤ 60 := by have := HLN.out; simp only [List.length_cons]; omega
      have HWB := hid (show WB wr u5 (K :: bytesN l) from .inr ⟨by simp, IsB.own HO.out hlt (by unfold maxLen; omega)⟩)
      have HLT := hid hlt
      have HLL := hid hll
      clear hlt hll hbl
      go_wp2_with fail
      refine (rf_Block wr _ _ HWB.out HLT.out HLL.out).mono ?_
      rintro e w3 ⟨rfl, hF3⟩
      have HF3 := hid (HF.out.trans hF3)
      have HB3 := hid ((hF3.block RB (lt_of_block HB.out) id).trans HB.out)
      clear hF3
      have HSL := hid (sealB_len (pad (K :: bytesN l)) (pad_len _ (by have := HLN.out; simp only [List.length_cons]; omega)))
      obtain ⟨SB, hSB⟩ : ∃ b, sealB (pad (K :: bytesN l)) = b := ⟨_, rfl⟩
      have HSB := hid hSB
      rw [hSB] at HSL ⊢
      clear hSB
      have HIS := hid (info64b SB HSL.out)
      have H1S := hid (blkA_one SB)
      have HSZ2 := hid (show (blkA zeros).size = (blkA SB).size from by rw [blkA_size, blkA_size, HSL.out]; rfl)
      go_wp2_with (refine wpList_store_row rfl 27 _ _ rfl RB (blkA SB) rfl rfl 27 (blkA zeros) HB3.out HIS.out HSZ2.out H1S.out ?_)
      exact bodyPost_ret (v := .agg (blkA SB)) (results_cell_row (fn := Tryd.f18) (p := 4) rfl _ _ RB 27 (blkA SB) (0, 0) _ rfl (setRow_heap _ _ _ _ _ _ HB3.out) Tryd.underlying27 rfl HIS.out) rfl ⟨by rw [HSB.out], HF3.out.setRow _ _ (fun h => absurd h (by have := HRB.out; omega))⟩
end Go.Proofs.YtpifiamafgaadaaDoor
