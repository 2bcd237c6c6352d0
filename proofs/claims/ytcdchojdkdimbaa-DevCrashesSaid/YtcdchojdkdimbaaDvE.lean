/- dev: Read where there is no sector. -/
import Derived.Test.YtcdchojdkdimbaaDvN
import Derived.Test.YtcdchojdkdimbaaDvP
namespace Go.Proofs.Ytcdchojdkdimbaa
open Go.RowKit

set_option maxRecDepth 100000 in
theorem dv_Read_bad (w : World) (a : Option Addr) (s : Int) (k : Int) (hk : (k != 0) = true) (hf : ∀ W : World, Fr No w W → Calls Try.prog 34 #[.pointer a, .int .i64 s] W fun e w' => e = .returned (.int .i64 k) ∧ w' = W) :
    Calls Try.prog 24 #[.pointer a, .int .i64 s] w fun e w' => e = .returned (.tuple #[.agg (blkA zeros), .int .i64 k]) ∧ Fr No w w' := by
  obtain ⟨_, _, k3, kF⟩ := three_new w (.cells #[.pointer a] 24) (.cells #[.int .i64 s] 3) (.cells (blkA zeros) 42)
  have HFI := hid (hf _ kF)
  have HF := hid kF
  have H3 := hid k3
  obtain ⟨Z, hZ⟩ : ∃ Z, Z = zeros := ⟨_, rfl⟩
  have hZL : Z.length = 64 := by rw [hZ, zeros_len]
  have HZB : Hid (∀ W, (Instr.build 42 #[]).run Try.prog W = .ok (.agg (blkA Z)) W) := by unfold Hid; rw [hZ]; exact zeros_build
  have HIZ := hid (info64b Z hZL)
  have H1Z := hid (blkA_one Z)
  have HSZ : Hid ((blkA zeros).size = (blkA Z).size) := by unfold Hid; rw [blkA_zeros_size, blkA_size, hZL]
  have HZ := hid hZ
  clear hf kF k3 hZ
  go_enter Try.func24, Try.ntmps24
  go_wp2_with fail
  refine HFI.out.mono ?_
  rintro e w' ⟨rfl, rfl⟩
  go_wp2_with (first
    | (refine list_val rfl _ (exec_build _ _ rfl _ (by simp [Act.eval]) _ (HZB.out _)) ?_)
    | (refine wpList_store_row rfl 42 _ _ rfl (w.heap.size + 1 + 1) (blkA Z) rfl rfl 42 (blkA zeros) H3.out HIZ.out HSZ.out H1Z.out ?_))
  refine bodyPost_ret (v := .tuple #[.agg (blkA Z), .int .i64 k]) (results_block2 (fn := Try.f24) (p := 4) (u := 5) rfl _ _ _ (w.heap.size + 1 + 1) 42 (blkA Z) (0, 0) _ _ rfl (setRow_heap _ _ _ _ _ _ H3.out) Try.underlying42 HIZ.out) rfl ⟨by rw [HZ.out], HF.out.setRow _ _ (fun h => absurd h (by omega))⟩
end Go.Proofs.Ytcdchojdkdimbaa
