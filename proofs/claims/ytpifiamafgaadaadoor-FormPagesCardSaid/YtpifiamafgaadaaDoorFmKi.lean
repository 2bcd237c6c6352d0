/- forms: Kind of a sealed sector of an intent -/
import Derived.Test.YtpifiamafgaadaaDoorFmF
import Derived.Test.YtpifiamafgaadaaDoorFmR
namespace Go.Proofs.YtpifiamafgaadaaDoor
open Go.RowKit Go.Shelf
set_option maxRecDepth 1000000 in
set_option maxHeartbeats 4000000 in
theorem fm_Kind (w : World) (bs : List Nat) (hl : bs.length = 64) (hlt : ∀ x ∈ bs, x < 256) (hs : sealB bs = bs) (h0 : bs[0]? = some 4) (hLd : Laid w) : Calls Tryd.prog 22 #[.agg (blkA bs)] w fun e w' => e = .returned (.tuple #[.int .i64 4, .int .i64 0]) ∧ Fr No w w' := by
  have HB := hid (heap_new w (.cells (blkA bs) 27))
  have HF := hid ((Fr.refl No w).alloc (.cells (blkA bs) 27))
  have HI := hid (info64b bs hl)
  have HL := hid hl
  have HLT := hid hlt
  have HLD := hid hLd
  have HS := hid hs
  have HT : Hid ((takeF bs 0 0 1).1 = 4) := by
    unfold Hid takeF
    rw [if_neg (by simp), if_neg (by omega), if_neg (by decide)]
    show numOf ((bs.drop 0).take 1) = 4
    cases bs with
    | nil => cases h0
    | cons x r =>
      have h0 : x = 4 := by simpa using h0
      subst h0
      rfl
  clear hl hlt hs h0 hLd
  go_enter Tryd.func22, Tryd.ntmps22
  go_wp2_with (first
    | (go_at_call 45; refine (fd_Take w2 p 0 0 bs 1 HR.out).mono ?_; rw [HT.out]; rintro e w3 ⟨rfl, _, hF3⟩; have HF3 := hid (HF2.out.then hF3 (fun i hi e => by have e : i = p := e; have := HP.out; omega)); clear hF3)
    | (go_at_call 44; refine (fd_Read w1 bs HL.out HLT.out).mono ?_; rintro e w2 ⟨rfl, hR, hF2⟩; have HF2 := hid (HF1.out.trans hF2); have HP := hid (show w.heap.size < w1.heap.size + 1 from by have := HF1.out.size; omega); obtain ⟨p, hp⟩ : ∃ p, w1.heap.size + 1 = p := ⟨_, rfl⟩; rw [hp] at hR HP ⊢; have HR := hid hR; clear hF2 hR hp)
    | (go_at_call 43; refine (fd_Sealed _ bs HL.out HLT.out (HLD.out.no HF.out)).mono ?_; rw [HS.out, beq_self_eq_true]; rintro e w1 ⟨rfl, hF1⟩; have HF1 := hid (HF.out.trans hF1); have HB1 := hid ((hF1.block w.heap.size (lt_of_block HB.out) id).trans HB.out); clear hF1)
    | (refine wpList_load_row_w (by rfl) 27 _ rfl w.heap.size rfl 27 (blkA bs) (0, 0) _ _ HB1.out Tryd.underlying27 HI.out ?_)
    | (refine wpList_load_row_w (by rfl) 27 _ rfl w.heap.size rfl 27 (blkA bs) (0, 0) _ _ HB.out Tryd.underlying27 HI.out ?_))
  go_ret2
  exact ⟨rfl, HF3.out⟩
end Go.Proofs.YtpifiamafgaadaaDoor
