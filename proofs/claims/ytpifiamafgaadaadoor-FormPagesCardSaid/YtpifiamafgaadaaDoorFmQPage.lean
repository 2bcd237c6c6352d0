/- forms: PutPage -/
import Derived.Test.YtpifiamafgaadaaDoorFmQ
import Derived.Test.YtpifiamafgaadaaDoorFmG
import Derived.Test.YtpifiamafgaadaaDoorFmK
import Derived.Test.YtpifiamafgaadaaDoorFmPPage
namespace Go.Proofs.YtpifiamafgaadaaDoor
open Go.RowKit Go.Shelf
set_option maxRecDepth 1000000 in
set_option maxHeartbeats 4000000 in
theorem fm_PutPage (w : World) (CS : Array Value) (L : List NumI) (fits : Bool) (hCS : (Tryd.prog.info? 42).map (·.size) = some CS.size) (h1 : CS.all (·.oneCell') = true)
    (hn : ∀ (W : World) (X : Nat), W.heap[X]? = some (.cells CS 42 (0, 0)) → Calls Tryd.prog 46 #[.pointer (some ⟨X, 0, none⟩)] W fun e w' => ∃ v, e = .returned v ∧ Nums w' v L (fun q => q = X) W.heap.size ∧ Fr No W w')
    (hf : okAll L = true → ∀ W : World, Calls Tryd.prog 47 #[.agg CS] W fun e w' => e = .returned (.bool fits) ∧ Fr No W w')
    (hL : ∀ x ∈ L, 1 ≤ x.size ∧ x.size ≤ 7 ∧ 0 ≤ x.lo ∧ x.hi < 256 ^ x.size) (hlen : (bytesN L).length ≤ 59) (hL0 : 0 < L.length ∧ L.length ≤ 1000) (hLd : Laid w) :
    Calls Tryd.prog 11 #[.agg CS] w fun e w' =>
      e = .returned (.tuple #[.agg (blkA (putN 3 L fits).1), .int .i64 (((putN 3 L fits).2 : Nat) : Int)]) ∧ Fr No w w' := by
  have HCS := hid hCS
  have HPUT := hid (fun W hW => fm_putPage W CS L fits hCS h1 hn hf hL hlen hL0 hW)
  have HPL := hid (putN_len 3 L fits hlen)
  have HLD := hid hLd
  obtain ⟨⟨PB, PE⟩, hP⟩ : ∃ P, putN 3 L fits = P := ⟨_, rfl⟩
  rw [hP] at HPUT HPL ⊢
  have HPUT := hid (show ∀ W, Laid W → Calls Tryd.prog 23 #[.agg #[.int .i64 3, .func (.func 46) #[] #[], .func (.func 47) #[] #[]], .agg CS] W fun e w' => e = .returned (.tuple #[.agg (blkA PB), .int .i64 (PE : Int)]) ∧ Fr No W w' from HPUT.out)
  have HPL : Hid (PB.length = 64) := HPL
  have HIS := hid (info64b PB HPL.out)
  have H1S := hid (blkA_one PB)
  have HSZ2 := hid (show (blkA zeros).size = (blkA PB).size from by rw [blkA_size, blkA_size, HPL.out]; rfl)
  clear hCS h1 hn hf hL hlen hL0 hLd hP
  go_enter Tryd.func11, Tryd.ntmps11
  go_wp2_with fail
  rw [show (#[.int .u8 0, .int .u8 0, .int .u8 0, .int .u8 0, .int .u8 0, .int .u8 0, .int .u8 0, .int .u8 0, .int .u8 0, .int .u8 0, .int .u8 0, .int .u8 0, .int .u8 0, .int .u8 0, .int .u8 0, .int .u8 0, .int .u8 0, .int .u8 0, .int .u8 0, .int .u8 0, .int .u8 0, .int .u8 0, .int .u8 0, .int .u8 0, .int .u8 0, .int .u8 0, .int .u8 0, .int .u8 0, .int .u8 0, .int .u8 0, .int .u8 0, .int .u8 0, .int .u8 0, .int .u8 0, .int .u8 0, .int .u8 0, .int .u8 0, .int .u8 0, .int .u8 0, .int .u8 0, .int .u8 0, .int .u8 0, .int .u8 0, .int .u8 0, .int .u8 0, .int .u8 0, .int .u8 0, .int .u8 0, .int .u8 0, .int .u8 0, .int .u8 0, .int .u8 0, .int .u8 0, .int .u8 0, .int .u8 0, .int .u8 0, .int .u8 0, .int .u8 0, .int .u8 0, .int .u8 0, .int .u8 0, .int .u8 0, .int .u8 0, .int .u8 0] : Array Value) = blkA zeros from rfl]
  have a0 := heap_more (o' := .cells (blkA zeros) 27) (heap_new w (.cells CS 42))
  have b0 := heap_new (w.alloc (.cells CS 42)) (.cells (blkA zeros) 27)
  rw [World.size_alloc] at b0
  have HF := hid (((Fr.refl No w).alloc (.cells CS 42)).alloc (.cells (blkA zeros) 27))
  obtain ⟨wa, hwa⟩ : ∃ W, (w.alloc (.cells CS 42)).alloc (.cells (blkA zeros) 27) = W := ⟨_, rfl⟩
  rw [hwa] at a0 b0 HF ⊢
  clear hwa
  obtain ⟨X, hX⟩ : ∃ b, w.heap.size = b := ⟨_, rfl⟩
  have HXW := hid hX
  rw [hX] at a0 b0 ⊢
  have HB := hid b0
  clear hX b0
  refine wp_region_held_drew (S := fun W => W.heap[X]? = some (.cells CS 42 (0, 0))) (by kernel_rfl) a0 (fun hHeld => ?_)
  have HF := hid HF.out.drew
  have HB : Hid (wa.drew.heap[X + 1]? = some (.cells (blkA zeros) 27 (0, 0))) := HB.out
  obtain ⟨wz, hwz⟩ : ∃ z, wa.drew = z := ⟨_, rfl⟩
  rw [hwz] at HF HB hHeld ⊢
  clear hwz a0
  refine wpAnyH_take (i := 1) (v := .agg CS) rfl (by kernel_rfl) (by kernel_rfl) (by kernel_rfl) (fun _ _ _ h => h) (yields_whole (by rfl) 42 _ rfl X rfl 42 CS (0, 0) _ (fun _ h => h) Tryd.underlying42 rfl HCS.out) hHeld ?_
  try simp only [Act.put, List.getElem_toArray, List.getElem_cons_zero, List.getElem_cons_succ, List.setIfInBounds_toArray, List.set_cons_zero, List.set_cons_succ]
  refine wpAnyH_ready (rs := [0]) (by kernel_rfl) (by simp) ?_
  refine AllReadyH.cons rfl (fun K hK => ?_) AllReadyH.nil
  rw [if_pos (by rfl)]
  go_simp
  refine (fm_pages wz).mono ?_
  rintro e w1 ⟨rfl, hF⟩
  refine hK.out _ _ ((hF.block X (lt_of_block hHeld) id).trans hHeld) (fun hHeld => ?_)
  have HF1 := hid (HF.out.trans hF)
  have HB1 := hid ((hF.block (X + 1) (lt_of_block HB.out) id).trans HB.out)
  clear hK K hF HF HB
  try simp only [Act.put, List.getElem_toArray, List.getElem_cons_zero, List.getElem_cons_succ, List.setIfInBounds_toArray, List.set_cons_zero, List.set_cons_succ]
  refine wpAnyH_ready (rs := [2]) (by kernel_rfl) (by simp) ?_
  refine AllReadyH.cons rfl (fun K hK => ?_) AllReadyH.nil
  rw [if_pos (by rfl)]
  go_simp
  refine (HPUT.out w1 (HLD.out.no HF1.out)).mono ?_
  rintro e w2 ⟨rfl, hF⟩
  refine hK.out _ _ ((hF.block X (lt_of_block hHeld) id).trans hHeld) (fun hHeld => ?_)
  have HF2 := hid (HF1.out.trans hF)
  have HB2 := hid ((hF.block (X + 1) (lt_of_block HB1.out) id).trans HB1.out)
  clear hK K hF HF1 HB1
  try simp only [Act.put, List.getElem_toArray, List.getElem_cons_zero, List.getElem_cons_succ, List.setIfInBounds_toArray, List.set_cons_zero, List.set_cons_succ]
  refine wpAnyH_take (i := 3) (v := ?_) rfl (by kernel_rfl) (by kernel_rfl) (by kernel_rfl) (fun _ _ _ h => h) (Or.inl ⟨by rfl, ?_⟩) hHeld ?_
  rotate_left
  · intro w hSw
    go_simp
    with_reducible rfl
  try simp only [Act.put, List.getElem_toArray, List.getElem_cons_zero, List.getElem_cons_succ, List.setIfInBounds_toArray, List.set_cons_zero, List.set_cons_succ]
  refine wpAnyH_take (i := 4) (v := ?_) rfl (by kernel_rfl) (by kernel_rfl) (by kernel_rfl) (fun _ _ _ h => h) (Or.inl ⟨by rfl, ?_⟩) hHeld ?_
  rotate_left
  · intro w hSw
    go_simp
    with_reducible rfl
  try simp only [Act.put, List.getElem_toArray, List.getElem_cons_zero, List.getElem_cons_succ, List.setIfInBounds_toArray, List.set_cons_zero, List.set_cons_succ]
  refine wpAnyH_ready (rs := [5]) (by kernel_rfl) (by simp) ?_
  refine AllReadyH.cons rfl (fun K hK => ?_) AllReadyH.nil
  rw [if_pos (by rfl)]
  refine wp_store_row 27 _ _ rfl (X + 1) (blkA PB) rfl rfl 27 (blkA zeros) HB2.out HIS.out HSZ2.out H1S.out ?_
  refine hK.out _ _ ((setRow_other w2 (X + 1) X (blkA PB) (by omega)).trans hHeld) (fun hHeld => ?_)
  clear hK K
  try simp only [Act.put, List.getElem_toArray, List.getElem_cons_zero, List.getElem_cons_succ, List.setIfInBounds_toArray, List.set_cons_zero, List.set_cons_succ]
  refine wpAnyH_take (i := 6) (v := ?_) rfl (by kernel_rfl) (by kernel_rfl) (by kernel_rfl) (fun _ _ _ h => h) (Or.inl ⟨by rfl, ?_⟩) hHeld ?_
  rotate_left
  · intro w hSw
    go_simp
    with_reducible rfl
  try simp only [Act.put, List.getElem_toArray, List.getElem_cons_zero, List.getElem_cons_succ, List.setIfInBounds_toArray, List.set_cons_zero, List.set_cons_succ]
  refine wpAnyH_done (by kernel_rfl) ?_ _
  go_wp2_with fail
  exact bodyPost_ret (v := .tuple #[.agg (blkA PB), .int .i64 (PE : Int)]) (results_block2 (fn := Tryd.f11) (p := 2) (u := 3) rfl _ _ _ (X + 1) 27 (blkA PB) (0, 0) _ _ rfl (setRow_heap _ _ _ _ _ _ HB2.out) Tryd.underlying27 HIS.out) rfl ⟨rfl, HF2.out.setRow _ _ (fun h => absurd h (by have := HXW.out; omega))⟩
end Go.Proofs.YtpifiamafgaadaaDoor
