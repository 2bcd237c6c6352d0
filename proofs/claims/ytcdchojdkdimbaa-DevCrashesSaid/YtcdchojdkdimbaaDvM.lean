/- lavabolaw05: mark. -/
import Derived.Test.YtcdchojdkdimbaaDvO
import Derived.Deep.DeepCutAuto
namespace Go.Proofs.Ytcdchojdkdimbaa
open Go.RowKit

/-- a sector of one byte -/
def markB (n : Int) : List Nat := (n % 256).toNat :: List.replicate 63 0
theorem markB_len (n : Int) : (markB n).length = 64 := by simp [markB]
theorem wrap_mod (n : Int) : IntKind.u8.wrap (Int.tmod n 256) = (((n % 256).toNat : Nat) : Int) := by
  rw [IntKind.wrap_u8]
  have h1 : Int.tmod n 256 % 256 = n % 256 := by
    rw [Int.tmod_eq_emod]
    split <;> omega
  omega
set_option maxRecDepth 100000 in
theorem dv_mark (w : World) (n : Int) : Calls Try.prog 22 #[.int .i64 n] w fun e w' => e = .returned (.agg (blkA (markB n))) ∧ Fr No w w' := by
  have hw := wrap_mod n
  have hlen := markB_len n
  obtain ⟨m, hm⟩ : ∃ m : Nat, (n % 256).toNat = m := ⟨_, rfl⟩
  have hM : markB n = m :: List.replicate 63 0 := by unfold markB; rw [hm]
  rw [hM] at hlen ⊢
  rw [hm] at hw
  clear hm hM
  go_enter Try.func22, Try.ntmps22
  go_upto_region 3 with fail
  change Code.wp _ _ _ _ ((w.alloc (.cells (blkA zeros) 42)).alloc (.cells (blkA (m :: List.replicate 63 0)) 42))
  obtain ⟨B, hB⟩ : ∃ B, m :: List.replicate 63 0 = B := ⟨_, rfl⟩
  have HF := hid (((Fr.refl No w).alloc (.cells (blkA zeros) 42)).alloc (.cells (blkA B) 42))
  have H2 : Hid (((w.alloc (.cells (blkA zeros) 42)).alloc (.cells (blkA B) 42)).heap[w.heap.size + 1]? = some (.cells (blkA B) 42 (0, 0))) := by
    have := heap_new (w.alloc (.cells (blkA zeros) 42)) (.cells (blkA B) 42)
    rw [World.size_alloc] at this
    exact this
  have H1 : Hid (((w.alloc (.cells (blkA zeros) 42)).alloc (.cells (blkA B) 42)).heap[w.heap.size]? = some (.cells (blkA zeros) 42 (0, 0))) := by
    unfold Hid
    rw [Below.heap_alloc _ _ _ (by simp)]
    exact heap_new w _
  rw [hB] at hlen ⊢
  have HB := hid hB
  have HI := hid (info64b B hlen)
  have H1b := hid (blkA_one B)
  have HSZ : Hid ((blkA zeros).size = (blkA B).size) := by unfold Hid; rw [blkA_zeros_size, blkA_size, hlen]
  clear hB
  obtain ⟨w2, hw2⟩ : ∃ w2, ((w.alloc (.cells (blkA zeros) 42)).alloc (.cells (blkA B) 42)) = w2 := ⟨_, rfl⟩
  rw [hw2] at HF H1 H2 ⊢
  clear hw2 hw
  go_wp2_with (first
    | (refine wpList_load_row rfl 42 _ rfl (w.heap.size + 1) rfl 42 (blkA B) (0, 0) _ H2.out Try.underlying42 rfl HI.out ?_)
    | (refine wpList_store_row rfl 42 _ _ rfl w.heap.size (blkA B) rfl rfl 42 (blkA zeros) H1.out HI.out HSZ.out H1b.out ?_))
  refine bodyPost_ret (v := .agg (blkA B)) ((results_cell_row (fn := Try.f22) (p := 2) rfl _ _ w.heap.size 42 (blkA B) (0, 0) _ rfl (setRow_heap _ _ _ _ _ _ H1.out) Try.underlying42 rfl HI.out)) rfl ⟨by rw [HB.out], HF.out.setRow _ _ (fun h => absurd h (Nat.lt_irrefl _))⟩
end Go.Proofs.Ytcdchojdkdimbaa
