/- spans: awake. -/
import Derived.Test.YtdehojhipiklmaaSpY
namespace Go.Proofs.Ytdehojhipiklmaa
open Go.RowKit

theorem isp_flat_get (l : List ISp) (i : Nat) (hi : i < l.length) (j : Nat) (hj : j < 2) : (l.flatMap ispV)[i * 2 + j]? = some ((ispV l[i]).getD j undef) := by
  rw [flat_get ispV 2 l (fun x _ => ispV_len x) i hi j hj]
  have h : j < (ispV l[i]).length := hj
  rw [List.getElem?_eq_getElem h]; simp [List.getD_eq_getElem?_getD, h]
theorem elems_new (w : World) (l : List ISp) (cs : Array Value) (h : cs = (l.flatMap ispV).toArray) : Elems ispV 2 (w.alloc (.cells cs 24)) (some ⟨w.heap.size, 0, none⟩) l := by
  subst h
  have hb := heap_new w (.cells (l.flatMap ispV).toArray 24)
  refine .inr ⟨w.heap.size, 0, rfl, lt_of_block hb, fun i j hi hj => ?_⟩
  rw [Nat.zero_add, cell_blk hb, List.getElem?_toArray]
  exact isp_flat_get l i hi j hj
theorem elems_new_sp (w : World) (l : List Sp) (cs : Array Value) (h : cs = (l.flatMap spV).toArray) : Elems spV 2 (w.alloc (.cells cs 24)) (some ⟨w.heap.size, 0, none⟩) l := by
  subst h
  have hb := heap_new w (.cells (l.flatMap spV).toArray 24)
  refine .inr ⟨w.heap.size, 0, rfl, lt_of_block hb, fun i j hi hj => ?_⟩
  rw [Nat.zero_add, cell_blk hb, List.getElem?_toArray, flat_get spV 2 l (fun x _ => spV_len x) i hi j hj]
  have h : j < (spV l[i]).length := hj
  rw [List.getElem?_eq_getElem h]; simp [List.getD_eq_getElem?_getD, h]
theorem Spn.elems {w w' : World} {v : Value} {L : List Sp} (h : Spn w w' v L) : ∃ a c, v = .slice a L.length c ∧ L.length ≤ c ∧ Elems spV 2 w' a L := own_elems h.1
theorem own_el {w : World} {base n c : Nat} {a : Option Addr} {L : List Sp} (h : w.ownsRow base 24 2 (.slice a n c) L.length (L.flatMap spV)) : Elems spV 2 w a L := by
  obtain ⟨a', c', e, _, hE⟩ := own_elems h
  injection e with e1 _ _
  rw [e1]; exact hE
set_option maxRecDepth 100000 in
set_option maxHeartbeats 1000000 in
theorem sp_awake (w : World) : Calls Try.prog 11 #[] w fun e w' => e = .returned (.bool true) ∧ Fr No w w' := by
  go_enter Try.func11, Try.ntmps11
  go_wp2_with fail
  refine (sp_New _ (some ⟨w.heap.size, 0, none⟩) 2 [((0 : Int), (3 : Int)), (5, 2)] (by decide) (elems_new w _ _ rfl)).mono ?_
  rintro e w1 (⟨_, v, rfl, p, S, rfl, hS, hS0, hF⟩ | ⟨h, _⟩)
  case inr => exact absurd h (by decide)
  have HF := hid (((Fr.refl No w).alloc _).trans hF)
  have HS0 : Hid (∀ k, S k → w.heap.size ≤ k) := fun k hk => Nat.le_trans ((Fr.refl No w).alloc (.cells _ 24)).size (hS0 k hk)
  have e1 : newL [((0 : Int), (3 : Int)), (5, 2)] = [(0, 3), (5, 2)] := by decide
  rw [e1] at hS
  clear hF hS0 e1
  go_wp2_with fail
  refine (sp_Add w1 p S _ hS 3 2 (by decide)).mono ?_
  rintro e w2 ⟨rfl, S2, hS2, hq2, hF2⟩
  have e2 : addL [(0, 3), (5, 2)] 3 2 = [(0, 7)] := by decide
  rw [e2] at hS2
  have HS2 : Hid (∀ k, S2 k → w.heap.size ≤ k) := fun k hk => (hq2 k hk).elim (HS0.out k) (fun e => Nat.le_trans HF.out.size e)
  have HF2 := hid (HF.out.then hF2 (fun i hi h => absurd (HS0.out i h) (by omega)))
  clear hq2 hF2 e2 hS HS0 HF
  go_wp2_with fail
  refine (sp_lawAll w2 p S2 _ hS2 (by decide)).mono ?_
  rintro e w3 ⟨v3, rfl, hv3, hF3⟩
  obtain ⟨a3, c3, rfl, _, _⟩ := hv3.elems
  have HF3 := hid (HF2.out.trans hF3)
  have hS3 := hS2.no hF3
  have HL2 := hid hS2.lt
  have HV3 := hid hv3
  clear hF3 hv3 hS2 HF2
  go_wp2_with fail
  refine (sp_Cut w3 p S2 _ hS3 1 1 (by decide)).mono ?_
  rintro e w4 ⟨rfl, S4, hS4, hq4, hF4⟩
  have e4 : cutL [(0, 7)] 1 1 = [(0, 1), (2, 5)] := by decide
  rw [e4] at hS4
  have HF4 := hid (HF3.out.then hF4 (fun i hi h => absurd (HS2.out i h) (by omega)))
  have HO4 : Hid (w4.ownsRow 0 24 2 (.slice a3 [((0 : Nat), (7 : Nat))].length c3) [((0 : Nat), (7 : Nat))].length ([((0 : Nat), (7 : Nat))].flatMap spV)) :=
    own_frk HV3.out.1 hF4 (fun k hk h => by have := HV3.out.2 k hk; have := HL2.out k h; omega)
  clear hF4 e4 hq4 hS3 HF3 HV3 HL2 HS2
  go_wp2_with fail
  refine (sp_lawAll w4 p S4 _ hS4 (by decide)).mono ?_
  rintro e w5 ⟨v5, rfl, hv5, hF5⟩
  obtain ⟨a5, c5, rfl, _, _⟩ := hv5.elems
  have HF5 := hid (HF4.out.trans hF5)
  have HO5 := hid (own_frk HO4.out hF5 (fun _ _ => id))
  have HV5 := hid hv5.1
  clear hF5 hv5 HF4 HO4 hS4
  go_wp2_with fail
  have hn1 : Fr No w5 (w5.alloc (.cells #[.int .i64 0, .int .i64 7] 24)) := (Fr.refl No w5).alloc _
  have hE6 := own_el (own_frk HO5.out hn1 (fun _ _ => id))
  refine (sp_Spans _ a3 (some ⟨w5.heap.size, 0, none⟩) c3 1 [(0, 7)] [(0, 7)] (by decide) hE6 (elems_new_sp w5 [(0, 7)] _ rfl)).mono ?_
  rintro e w6 ⟨rfl, hF6⟩
  have HF6 := hid (HF5.out.trans (hn1.trans hF6))
  have HV6 := hid (own_frk HV5.out (hn1.trans hF6) (fun _ _ => id))
  clear hF6 hE6 hn1
  go_wp2_with fail
  have hn2 : Fr No w6 (w6.alloc (.cells #[.int .i64 0, .int .i64 1, .int .i64 2, .int .i64 5] 24)) := (Fr.refl No w6).alloc _
  have hE7 := own_el (own_frk HV6.out hn2 (fun _ _ => id))
  refine (sp_Spans _ a5 (some ⟨w6.heap.size, 0, none⟩) c5 2 [(0, 1), (2, 5)] [(0, 1), (2, 5)] (by decide) hE7 (elems_new_sp w6 [(0, 1), (2, 5)] _ rfl)).mono ?_
  rintro e w7 ⟨rfl, hF7⟩
  have HF7 := hid (HF6.out.trans (hn2.trans hF7))
  clear hF7 hE7 hn2
  go_wp2_with fail
  go_ret
  exact ⟨rfl, HF7.out⟩
end Go.Proofs.Ytdehojhipiklmaa
