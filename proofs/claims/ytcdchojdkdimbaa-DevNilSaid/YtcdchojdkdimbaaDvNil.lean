/- The law DevNil. -/
import Derived.Test.YtcdchojdkdimbaaDvE
namespace Go.Proofs.Ytcdchojdkdimbaa
open Go.RowKit

set_option maxRecDepth 100000 in
set_option maxHeartbeats 2000000 in
theorem law_DevNil (w : World) (s : Int) (_ws : (Lit.int .i64 s).wf = true) (n : Int) (_wn : (Lit.int .i64 n).wf = true) :
    Calls Try.prog 8 #[.int .i64 s, .int .i64 n] w fun e w' => e = .returned (.bool true) ∧ Fr No w w' := by
  obtain ⟨Z, hZ⟩ : ∃ Z, Z = zeros := ⟨_, rfl⟩
  have hZL : Z.length = 64 := by rw [hZ, zeros_len]
  have HIZ := hid (info64b Z hZL)
  have H1Z := hid (blkA_one Z)
  have HSZ : Hid ((blkA zeros).size = (blkA Z).size) := by unfold Hid; rw [blkA_zeros_size, blkA_size, hZL]
  have HZ := hid hZ
  clear hZ hZL
  go_enter Try.func8, Try.ntmps8
  go_wp2_with fail
  refine (dv_Read_bad w none s 2 (by decide) (fun W _ => dv_find_nil W s)).mono ?_
  rintro e w1 ⟨rfl, hF1⟩
  rw [← HZ.out]
  have HN1 := hid (heap_new w1 (.cells (blkA zeros) 42))
  have HP1 := put_blk w1 (blkA zeros) Z
  go_wp2_with (refine wpList_store_row rfl 42 _ _ rfl w1.heap.size (blkA Z) rfl rfl 42 (blkA zeros) HN1.out HIZ.out HSZ.out H1Z.out ?_)
  change Calls _ _ _ ((w1.alloc (.cells (blkA zeros) 42)).setRow w1.heap.size (blkA Z)) _
  obtain ⟨w2, hw2⟩ : ∃ w2, (w1.alloc (.cells (blkA zeros) 42)).setRow w1.heap.size (blkA Z) = w2 := ⟨_, rfl⟩
  rw [hw2] at HP1 ⊢
  have HF2 := hid (hF1.trans HP1.2)
  clear hw2 HP1 HN1 hF1
  refine (dv_Firm_bad w2 (.pointer none) s 2 (by decide) (fun W _ => dv_find_nil W s)).mono ?_
  rintro e w3 ⟨rfl, hF3⟩
  rw [← HZ.out]
  have HF3 := hid (HF2.out.trans hF3)
  have HN3 := hid (heap_new w3 (.cells (blkA zeros) 42))
  have HP3 := put_blk w3 (blkA zeros) Z
  clear hF3
  go_wp2_with (refine wpList_store_row rfl 42 _ _ rfl w3.heap.size (blkA Z) rfl rfl 42 (blkA zeros) HN3.out HIZ.out HSZ.out H1Z.out ?_)
  change Calls _ _ _ ((w3.alloc (.cells (blkA zeros) 42)).setRow w3.heap.size (blkA Z)) _
  obtain ⟨w4, hw4⟩ : ∃ w4, (w3.alloc (.cells (blkA zeros) 42)).setRow w3.heap.size (blkA Z) = w4 := ⟨_, rfl⟩
  rw [hw4] at HP3 ⊢
  have HF4 := hid (HF3.out.trans HP3.2)
  clear hw4 HP3 HN3 HF3 HF2
  refine (dv_Crash_nil w4 none 0 0).mono ?_
  rintro e w5 ⟨rfl, rfl⟩
  go_wp2_with fail
  refine (dv_New_ok 3 w5 (by decide) (by decide)).mono ?_
  rintro e w6 ⟨pa, Sa, rfl, hA6, hF6, hSa⟩
  have HA6 := hid hA6
  have HF6 := hid (HF4.out.trans hF6)
  clear hA6 hF6
  go_wp2_with fail
  refine (dv_New_ok 4 w6 (by decide) (by decide)).mono ?_
  rintro e w7 ⟨pb, Sb, rfl, hB7, hF7, hSb⟩
  have HA7 := hid (HA6.out.no hF7)
  have HB7 := hid hB7
  have HF7 := hid (HF6.out.trans hF7)
  clear hB7 hF7
  go_wp2_with fail
  refine (dv_mark w7 n).mono ?_
  rintro e w8 ⟨rfl, hF8⟩
  go_wp2_with fail
  refine (dv_Write_bad w8 none s _ 2 (by decide) (fun W _ => dv_find_nil W s)).mono ?_
  rintro e w9 ⟨rfl, hF9⟩
  go_wp2_with fail
  refine (dv_Flush_nil w9).mono ?_
  rintro e w10 ⟨rfl, hF10⟩
  have hF710 := (hF8.trans hF9).trans hF10
  have HA10 := hid (HA7.out.no hF710)
  have HB10 := hid (HB7.out.no hF710)
  have HF10 := hid (HF7.out.trans hF710)
  clear hF8 hF9 hF10 hF710 HA7 HB7 HF7 HA6 HF6 HF4
  go_wp2_with fail
  refine (dv_Plan_nil w10 none 0 0).mono ?_
  rintro e w11 ⟨rfl, rfl⟩
  go_wp2_with fail
  refine (dv_Size_nil w11).mono ?_
  rintro e w12 ⟨rfl, rfl⟩
  go_wp2_with fail
  refine (dv_Open_nil w12).mono ?_
  rintro e w13 ⟨rfl, rfl⟩
  go_wp2_with fail
  refine (dv_Planned_nil w13).mono ?_
  rintro e w14 ⟨rfl, rfl⟩
  go_wp2_with fail
  refine (dv_Copy_nil w14).mono ?_
  rintro e w15 ⟨rfl, rfl⟩
  go_wp2_with fail
  refine (dv_Copy w15 pa Sa (newD 3) HA10.out (by show 0 ≤ 100000; decide) (by show 0 ≤ 100000; decide)).mono ?_
  rintro e w16 ⟨px, Sx, rfl, hX16, hF16, hSx⟩
  have HX16 := hid hX16
  have HA16 := hid (HA10.out.no hF16)
  have HB16 := hid (HB10.out.no hF16)
  have HF16 := hid (HF10.out.trans hF16)
  have hXA : ∀ k, Sa k → ¬ Sx k := fun k hk hx => by have := HA10.out.lt k hk; have := hSx k hx; omega
  have hXB : ∀ k, Sb k → ¬ Sx k := fun k hk hx => by have := HB10.out.lt k hk; have := hSx k hx; omega
  have hXw : ∀ k, Sx k → w.heap.size ≤ k := fun k hx => by have := hSx k hx; have := HF10.out.size; omega
  clear hX16 hF16 HA10 HB10 HF10 hSx
  go_wp2_with fail
  refine (dv_Same w16 px pa Sx Sa (newD 3) HX16.out HA16.out (by show 0 ≤ 100000; decide) (by show 0 ≤ 100000; decide)).mono ?_
  rintro e w17 ⟨rfl, hF17⟩
  go_wp2_with fail
  refine (dv_mark w17 1).mono ?_
  rintro e w18 ⟨rfl, hF18⟩
  have hF1618 := hF17.trans hF18
  have HX18 := hid (HX16.out.no hF1618)
  have HA18 := hid (HA16.out.no hF1618)
  have HB18 := hid (HB16.out.no hF1618)
  have HF18 := hid (HF16.out.trans hF1618)
  clear hF17 hF18 hF1618 HX16 HA16 HB16 HF16
  go_wp2_with fail
  refine (dv_Write w18 px Sx (newD 3) HX18.out 1 (by decide) (markB 1) (markB_len 1) (by decide)).mono ?_
  rintro e w19 ⟨rfl, Sy, hX19, hF19, _⟩
  have HX19 := hid hX19
  have HA19 := hid (HA18.out.fr hF19 hXA)
  have HB19 := hid (HB18.out.fr hF19 hXB)
  have HF19 := hid (HF18.out.then hF19 (fun i hi e => absurd hi (by have := hXw i e; omega)))
  clear hX19 hF19 HX18 HA18 HB18 HF18
  go_wp2_with fail
  refine (dv_Same_nn w19).mono ?_
  rintro e w20 ⟨rfl, rfl⟩
  go_wp2_with fail
  refine (dv_Same_an w20 pa).mono ?_
  rintro e w21 ⟨rfl, rfl⟩
  go_wp2_with fail
  refine (dv_Same_firm w21 pa pb Sa Sb (newD 3) (newD 4) HA19.out HB19.out (by decide)).mono ?_
  rintro e w22 ⟨rfl, hF22⟩
  have HX22 := hid (HX19.out.no hF22)
  have HA22 := hid (HA19.out.no hF22)
  have HF22 := hid (HF19.out.trans hF22)
  clear hF22 HX19 HA19 HB19 HF19
  go_wp2_with fail
  refine (dv_Same_opn w22 pa px Sa Sy (newD 3) _ HA22.out HX22.out rfl (by decide)).mono ?_
  rintro e w23 ⟨rfl, hF23⟩
  have HA23 := hid (HA22.out.no hF23)
  have HF23 := hid (HF22.out.trans hF23)
  clear hF23 HX22 HA22 HF22
  go_wp2_with fail
  refine (dv_Open w23 pa Sa (newD 3) HA23.out).mono ?_
  rintro e w24 ⟨rfl, rfl⟩
  rw [show ((newD 3).opn.length : Int) = 0 from rfl]
  go_wp2_with fail
  refine (dv_awake w24).mono ?_
  rintro e w25 ⟨rfl, hF25⟩
  go_wp2_with fail
  go_ret
  exact ⟨rfl, HF23.out.trans hF25⟩
end Go.Proofs.Ytcdchojdkdimbaa
