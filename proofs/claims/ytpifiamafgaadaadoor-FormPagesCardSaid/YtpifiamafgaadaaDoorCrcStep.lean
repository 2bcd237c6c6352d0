/- The walks of crc.stepper and of the closure that it makes. -/
import Derived.Test.YtpifiamafgaadaaDoorCrcMath
import Derived.Test.YtpifiamafgaadaaDoorFr
import Derived.Test.YtpifiamafgaadaaDoorRows
import Derived.Outline
import Derived.BigQuiet
import Derived.Deep.QuietTactic
import Derived.Laws.BitsAllLaws
namespace Go.Proofs.YtpifiamafgaadaaDoor
open Go.RowKit

def TabAt (w : World) : Prop := ∀ i, i < 16 → w.cell? ⟨0, i, none⟩ = some (.int .u32 ((Crc.T.getD i 0 : Nat) : Int))
theorem TabAt.fr {S : Nat → Prop} {w w' : World} (h : TabAt w) (f : Fr S w w') (h0 : 0 < w.heap.size) (hS : ¬ S 0) : TabAt w' := fun i hi => (f.cell (p := ⟨0, i, none⟩) h0 hS).trans (h i hi)

theorem x32 (a b : Nat) (ha : a < 4294967296) (hb : b < 4294967296) : bits .xor .u32 (a : Int) (b : Int) = ((a ^^^ b : Nat) : Int) := u32_xor_nat a b ha hb
theorem and15 (a : Nat) (ha : a < 4294967296) : bits .and .u32 (a : Int) 15 = ((a % 16 : Nat) : Int) := by
  have := u32_and_nat a 15 ha (by omega)
  rw [show (15 : Int) = ((15 : Nat) : Int) from rfl, this, Nat.and_two_pow_sub_one_eq_mod a 4]

theorem shx (v d : Nat) (hv : v < 4294967296) (hd : d < 4294967296) : bits .xor .u32 (v : Int) ((d : Int) / 16) = ((v ^^^ (d / 16) : Nat) : Int) := by
  rw [show ((d : Int) / 16) = ((d / 16 : Nat) : Int) from by simp]
  exact x32 v (d / 16) hv (by omega)
theorem T_lt (k : Nat) : Crc.T.getD k 0 < 4294967296 := by
  rcases Nat.lt_or_ge k 16 with h | h
  · revert k; decide
  · rw [List.getD_eq_getElem?_getD, List.getElem?_eq_none (by simpa [Crc.T] using h)]; decide

set_option maxHeartbeats 400000 in
theorem step_any (x c : Nat) (b : Nat) (w : World) (h1 : x < 256) (c1 : c < 4294967296) 
    (hN : TabAt w) (hB : w.heap[b]? = some (.cells #[.int .u32 c] 132 (0, 0))) (hb : 0 < b) :
    Calls Tryd.prog 66 #[.int .u8 x, .pointer (some ⟨b, 0, none⟩)] w fun e w' => e = .returned (.int .u32 (Crc.stepB c x)) ∧
      w'.heap[b]? = some (.cells #[.int .u32 (Crc.stepB c x)] 132 (0, 0)) ∧ w'.heap.size = w.heap.size ∧ Fr (fun k => k = b) w w' := by
  have hlt := lt_of_block hB
  have e1 := x32 c x c1 (by omega)
  have hc := cell_of_one hB
  have hf := free_of_one hB
  have HB := hid hB
  have Hgoal : Hid (Crc.stepB c x = Crc.nib (Crc.nib (c ^^^ x))) := rfl
  clear hB
  go_enter Tryd.func66, Tryd.ntmps66
  go_wp2_with fail
  clear e1
  generalize hd : c ^^^ x = d at *
  have d1 : d < 4294967296 := hd ▸ Crc.xor_lt c x c1 (by omega)
  clear hd hc hf
  have hB1 := one_setCell (u := .int .u32 (d : Int)) HB.out
  have hF1 : Fr (fun k => k = b) w (w.setCell ⟨b, 0, none⟩ (.int .u32 (d : Int))) := (Fr.refl (fun k => k = b) w).setCell (p := ⟨b, 0, none⟩) (fun _ => rfl) _
  have hz1 : (w.setCell ⟨b, 0, none⟩ (.int .u32 (d : Int))).heap.size = w.heap.size := size_set _ _ _
  generalize w.setCell ⟨b, 0, none⟩ (.int .u32 (d : Int)) = w1 at *
  have hN1 := hN.fr hF1 (by omega) (by omega)
  have HF1 := hid hF1
  have HZ1 := hid hz1
  have HB1 := hid hB1
  have hc := cell_of_one hB1
  have hf := free_of_one hB1
  have e2 := and15 d d1
  have hT := hN1 (d % 16) (by omega)
  have e3 := shx (Crc.T.getD (d % 16) 0) d (T_lt _) d1
  have d2 : Crc.T.getD (d % 16) 0 ^^^ (d / 16) < 4294967296 := Crc.nib_lt d d1
  generalize hk : d % 16 = k at e2 hT e3 d2
  have k1 : k < 16 := by omega
  have Hk := hid hk
  clear hF1 hz1 hB1 hk
  generalize hv : Crc.T.getD k 0 = v at hT e3 d2
  have Hn : Hid (Crc.nib d = v ^^^ (d / 16)) := by rw [← hv, ← Hk.out]; rfl
  clear hv Hk
  generalize v ^^^ (d / 16) = n1 at e3 d2 Hn
  go_region
  go_wp2_with fail
  clear hc hf hT e2 e3 k1
  have hB2 := one_setCell (u := .int .u32 (n1 : Int)) HB1.out
  have hF2 : Fr (fun k => k = b) w (w1.setCell ⟨b, 0, none⟩ (.int .u32 (n1 : Int))).drew := (HF1.out.setCell (p := ⟨b, 0, none⟩) (fun _ => rfl) _).drew
  have hz2 : (w1.setCell ⟨b, 0, none⟩ (.int .u32 (n1 : Int))).drew.heap.size = w.heap.size := (size_set _ _ _).trans HZ1.out
  clear HF1 HZ1 HB1 hN1
  rw [← heap_drew] at hB2
  generalize (w1.setCell ⟨b, 0, none⟩ (.int .u32 (n1 : Int))).drew = w2 at *
  have hN2 := hN.fr hF2 (by omega) (by omega)
  have HF2 := hid hF2
  have HZ2 := hid hz2
  have HB2 := hid hB2
  have hc := cell_of_one hB2
  have hf := free_of_one hB2
  have e2 := and15 n1 d2
  have hT := hN2 (n1 % 16) (by omega)
  have e3 := shx (Crc.T.getD (n1 % 16) 0) n1 (T_lt _) d2
  have d3 : Crc.T.getD (n1 % 16) 0 ^^^ (n1 / 16) < 4294967296 := Crc.nib_lt n1 d2
  generalize hk : n1 % 16 = k2 at e2 hT e3 d3
  have k2b : k2 < 16 := by omega
  have Hk := hid hk
  clear hF2 hz2 hB2 hk
  generalize hv : Crc.T.getD k2 0 = v2 at hT e3 d3
  have Hn2 : Hid (Crc.nib n1 = v2 ^^^ (n1 / 16)) := by rw [← hv, ← Hk.out]; rfl
  clear hv Hk
  generalize v2 ^^^ (n1 / 16) = n2 at e3 d3 Hn2
  go_region
  go_wp2
  go_ret
  have ef : Crc.stepB c x = n2 := by rw [Hgoal.out, Hn.out, Hn2.out]
  rw [ef]
  refine ⟨rfl, ?_, ?_, ?_⟩
  · rw [heap_drew]; exact one_setCell HB2.out
  · exact (size_set _ _ _).trans HZ2.out
  · exact (HF2.out.setCell (p := ⟨b, 0, none⟩) (fun _ => rfl) _).drew

theorem stepper_any (s : Nat) (w : World) :
    Calls Tryd.prog 64 #[.int .u32 s] w fun e w' => e = .returned (.func (.func 66) #[] #[.pointer (some ⟨w.heap.size, 0, none⟩)]) ∧
      w'.heap[w.heap.size]? = some (.cells #[.int .u32 s] 132 (0, 0)) ∧ w'.heap.size = w.heap.size + 1 ∧ Fr No w w' := by
  go_enter Tryd.func64, Tryd.ntmps64
  go_wp2
  go_ret
  exact ⟨rfl, heap_new _ _, by simp, (Fr.refl _ _).alloc _⟩
end Go.Proofs.YtpifiamafgaadaaDoor
