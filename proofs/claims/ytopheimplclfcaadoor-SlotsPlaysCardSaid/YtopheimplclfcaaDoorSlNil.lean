/- The law SlotsNil. -/
import Derived.Test.YtopheimplclfcaaDoorSlAwake
import Derived.Test.YtopheimplclfcaaDoorSlCount
import Derived.Test.YtopheimplclfcaaDoorSlLawAll
import Derived.Test.YtopheimplclfcaaDoorSlCopy
namespace Go.Proofs.YtopheimplclfcaaDoor
open Go.RowKit

theorem lawAll_c (a : Option Addr) (st : Int) (xs : List Nat) (hlen : xs.length ≤ 1024) (w : World) (h : SlR w No a xs) :
    Calls Tryd.prog 32 #[.pointer a, .int .i64 st] w fun e W' => ∃ ra cap, e = .returned (.tuple #[.slice ra (which xs st).length cap, .bool true]) ∧ Nums W' w.heap.size ra (which xs st) ∧ Fr No w W' :=
  (callsIn_wide (n := 8)).1 (lawAll_in 8 (by omega) a st xs hlen w h)
theorem count_at (p q : Nat) (st : Int) (l : List Nat) (w : World) (h : SlAt w p q l) (k : Nat) (hk : (which l st).length = k) :
    Calls Tryd.prog 35 #[slv p, .int .i64 st] w fun e W' => e = .returned (i64v k) ∧ Fr No w W' := by
  subst hk; exact count_c (some ⟨p, 0, none⟩) st l h.len w (.at h id id)

set_option linter.unusedVariables false in
set_option maxHeartbeats 2000000 in
theorem law_SlotsNil (w : World) (x : Int) (wx : (Lit.int .i64 x).wf = true) (y : Int) (wy : (Lit.int .i64 y).wf = true) (hL : SLaid w) :
    Calls Tryd.prog 12 #[.int .i64 x, .int .i64 y] w fun e w' => e = .returned (.bool true) ∧ Fr No w w' := by
  have HL := hid hL
  have hg0 := hL.2
  clear hL wx wy
  go_enter Tryd.func12, Tryd.ntmps12
  go_wp2_with fail
  refine (lawAll_c none y [] (by decide) w .nil).mono ?_; rintro e w1 ⟨ra, cap, rfl, -, hF1⟩
  rw [show (which [] y).length = 0 from rfl]
  have HF1 := hid hF1
  clear hF1
  go_wp2_with fail
  refine (slalloc_nil w1).mono ?_; rintro e w1 ⟨rfl, rfl⟩
  go_wp2_with fail
  refine (slstate_nil x w1).mono ?_; rintro e w1 ⟨rfl, rfl⟩
  go_wp2_with fail
  refine (slnew_ok 2 w1 (by omega) (by omega)).mono ?_; rintro e w2 ⟨rfl, hS2, hF2⟩
  have hz1 := HF1.out.size
  have HF2 := hid (HF1.out.trans hF2)
  have HS2 := hid hS2
  clear hF2 hS2
  generalize hp : w1.heap.size + 1 = p at *
  generalize hq : w1.heap.size = q at *
  have hpq : q < p := by omega
  go_wp2_with fail
  refine (slcopy_at w2 p q _ HS2.out (by decide)).mono ?_; rintro e w3 ⟨p3, q3, rfl, hp3, hq3, hS3, hF3⟩
  have HF3 := hid (HF2.out.trans hF3)
  have HS3 := hid hS3
  have HA3 := hid (HS2.out.no hF3)
  have hpl := HS2.out.ltp
  have hql := HS2.out.ltq
  clear hF3 hS3
  unfold slv
  go_wp2_with fail
  refine (slturn_nil x y w3).mono ?_; rintro e w3 ⟨rfl, rfl⟩
  go_wp2_with fail
  refine (count_c none y [] (by decide) w3 .nil).mono ?_; rintro e w4 ⟨rfl, hF4⟩
  rw [show (which [] y).length = 0 from rfl]
  have HF4 := hid (HF3.out.trans hF4)
  have HS4 := hid (HS3.out.no hF4)
  have HA4 := hid (HA3.out.no hF4)
  clear hF4
  go_wp2_with fail
  refine (sllen_nil w4).mono ?_; rintro e w4 ⟨rfl, rfl⟩
  go_wp2_with fail
  refine (slcopy_nil w4).mono ?_; rintro e w4 ⟨rfl, rfl⟩
  go_wp2_with fail
  refine (slalloc_at w4 p3 q3 0 _ HS4.out (by decide)).mono ?_; rintro e w5 ⟨rfl, hS5, hF5, hz5⟩
  have HS5 := hid hS5
  have HA5 := hid (HA4.out.fr hF5 (by omega) (by omega))
  have HF5 := hid (HF4.out.then hF5 (fun i hi e => by have := HF2.out.size; omega))
  clear hS5 hF5 hz5
  go_wp2_with fail
  refine (count_at p q 0 _ w5 HA5.out 2 (by decide)).mono ?_; rintro e w6 ⟨rfl, hF6⟩
  have HF6 := hid (HF5.out.trans hF6)
  have HS6 := hid (HS5.out.no hF6)
  clear hF6
  go_wp2_with fail
  refine (count_at p3 q3 0 _ w6 HS6.out 1 (by decide)).mono ?_; rintro e w7 ⟨rfl, hF7⟩
  have HF7 := hid (HF6.out.trans hF7)
  have HS7 := hid (HS6.out.no hF7)
  clear hF7
  go_wp2_with fail
  refine (count_at p3 q3 1 _ w7 HS7.out 1 (by decide)).mono ?_; rintro e w8 ⟨rfl, hF8⟩
  have HF8 := hid (HF7.out.trans hF8)
  clear hF8
  go_wp2_with fail
  refine (sl_awake w8 (HL.out.no HF8.out)).mono ?_; rintro e w9 ⟨rfl, hF9⟩
  have HF9 := hid (HF8.out.trans hF9)
  clear hF9
  go_wp2_with fail
  go_ret
  exact ⟨rfl, HF9.out⟩
end Go.Proofs.YtopheimplclfcaaDoor
