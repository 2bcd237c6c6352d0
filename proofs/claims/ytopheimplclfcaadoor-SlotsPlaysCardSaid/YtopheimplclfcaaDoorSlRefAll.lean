/- lavaboref08.All and lavabolaw02.Ints. -/
import Derived.Test.YtopheimplclfcaaDoorSlRef
import Derived.StillTailTactics
namespace Go.Proofs.YtopheimplclfcaaDoor
open Go.RowKit

theorem Fr.appd {w wr w1 : World} {e : TypeId} {v : Value} {n : Nat} {xs : List Value} {o : Obj} (h : Fr No w wr) (ho : wr.ownsRow w.heap.size e 1 v n xs) (hg : (wr.alloc o).grownBy w1 v.ownBlock) : Fr No w w1 :=
  (h.alloc o).grown hg (fun k hk hlt => by
    rcases ho.2 with ⟨rfl, _⟩ | ⟨g, cap, cur, rfl, hb, _⟩
    · cases hk
    · cases hk
      exact absurd hlt (by simpa using hb))

set_option maxRecDepth 100000 in
set_option maxHeartbeats 1000000 in
theorem rfall (w : World) (b p : Nat) (l : List Nat) (st : Int) (h : RfAt w b p l) : Calls Tryd.prog 34 #[.pointer (some ⟨p, 0, none⟩), .int .i64 st] w fun e w' =>
    ∃ ra cap, e = .returned (.slice ra (which l st).length cap) ∧ Nums w' w.heap.size ra (which l st) ∧ Fr No w w' := by
  obtain ⟨i0, hi, hz0, hz1, hz2⟩ := info_parts infoInt
  have hl := h.len
  have hpl := h.ltp
  obtain ⟨q, c, hc0, hq, hcells, -, -⟩ := h.open
  have HC := hid hcells
  have H0 := hid hc0
  clear h hcells hc0
  go_enter Tryd.func34, Tryd.ntmps34
  go_wp2
  go_loopg [5, 6] l.length (fun g v i wr => ∃ k : Nat, k + g = l.length ∧ i = .int .i64 k ∧ Hid (wr.ownsRow w.heap.size 3 1 v (upTo l st k).length ((upTo l st k).map i64v)) ∧ Hid (Fr No w wr))
  case atStart => exact ⟨0, by omega, rfl, World.ownsRow_nil _ _ _ _, Fr.refl No w⟩
  case round =>
    obtain ⟨k, hk, rfl, HO, HF⟩ := hrel
    have hs := (HF.out.cell (p := ⟨p, 0, none⟩) hpl id).trans H0.out
    cases gk with
    | zero =>
      obtain rfl : k = l.length := by omega
      obtain ⟨ra, cap, rfl, hcs⟩ := own_cells HO.out
      have HCS := hid hcs
      clear hcs
      go_wp2
      go_ret
      exact ⟨ra, cap, rfl, fun j hj => HCS.out j hj, HF.out⟩
    | succ g =>
      have hlt : k < l.length := by omega
      have hc := HC.out k hlt
      have hsz := HF.out.size
      have hcq := (HF.out.cell (p := ⟨q, k, none⟩) (lt_of_cell hc) id).trans hc
      have HY : Hid ((((l[k] : Nat) : Int) == st) = true → upTo l st (k + 1) = upTo l st k ++ [k]) := fun h => upTo_yes (by simpa [hlt] using h)
      have HN : Hid ((((l[k] : Nat) : Int) == st) = false → upTo l st (k + 1) = upTo l st k) := fun h => upTo_no (by simpa [hlt] using h)
      have hul := upTo_len l st k
      clear hc
      generalize l[k] = x at *
      generalize upTo l st k = u at *
      cases hxs : (((x : Nat) : Int) == st) with
      | true =>
        rw [hxs] at HY
        have HE := hid (HY.out rfl)
        clear HY HN
        have HX : Hid (u.map i64v ++ [Value.int .i64 (k : Int)] = (upTo l st (k + 1)).map i64v) := by rw [HE.out, List.map_append]; rfl
        have HU : Hid ((upTo l st (k + 1)).length = u.length + 1) := by show (upTo l st (k + 1)).length = _; rw [HE.out]; simp
        clear HE
        go_wp2_with (at_builtin; refine wpList_append_own _ rfl (.tmp 25) (.tmp 27) 41 rfl w.heap.size 3 i0 (.int .i64 0) 1 8 Tryd.underlying41 hi hz0 hz1 hz2 rfl (by decide) _ u.length _ rfl (HO.out.alloc _) ⟨wr.heap.size, 0, none⟩ 1 1 [.int .i64 (k : Int)] rfl rfl (cell_one_new _ _ _) (by simp [Value.oneCell']) (by unfold maxLen; omega) (by omega) (by simp; omega) ?_; intro v' w1 hown' hgrow _; rw [HX.out, ← HU.out] at hown'; have HO1 := hid hown'; have HG := hid (HF.out.appd HO.out hgrow); clear hown' hgrow)
        go_roundg g
        case measure => omega
        case rel => exact ⟨k + 1, by omega, by go_num, HO1, HG⟩
      | false =>
        rw [hxs] at HN
        have HE := hid (HN.out rfl)
        clear HY HN
        go_wp2
        go_roundg g
        case measure => omega
        case rel => exact ⟨k + 1, by omega, by go_num, by rw [HE.out]; exact HO, HF⟩

set_option maxRecDepth 100000 in
theorem ints_same (w : World) (a b : Option Addr) (c c' : Nat) (xs : List Nat) (hl : xs.length ≤ 1024) (ha : ∀ j (hj : j < xs.length), ∃ g, a = some ⟨g, 0, none⟩ ∧ w.cell? ⟨g, j, none⟩ = some (i64v xs[j])) (hb : ∀ j (hj : j < xs.length), ∃ g, b = some ⟨g, 0, none⟩ ∧ w.cell? ⟨g, j, none⟩ = some (i64v xs[j])) :
    Calls Tryd.prog 33 #[.slice a xs.length c, .slice b xs.length c'] w fun e w' => e = .returned (.bool true) ∧ Fr No w w' := by
  have HA := hid ha
  have HB := hid hb
  clear ha hb
  go_enter Tryd.func33, Tryd.ntmps33
  go_wp2
  go_loopg [5] xs.length (fun g i wr => ∃ k : Nat, k + g = xs.length ∧ i = .int .i64 k ∧ Hid (Fr No w wr))
  case atStart => exact ⟨0, by omega, rfl, Fr.refl No w⟩
  case round =>
    obtain ⟨k, hk, rfl, HF⟩ := hrel
    cases gk with
    | zero =>
      obtain rfl : k = xs.length := by omega
      go_wp2
      go_ret
      exact ⟨rfl, HF.out⟩
    | succ g =>
      have hlt : k < xs.length := by omega
      obtain ⟨g1, rfl, hc1⟩ := HA.out k hlt
      obtain ⟨g2, rfl, hc2⟩ := HB.out k hlt
      have h1 := (HF.out.cell (p := ⟨g1, k, none⟩) (lt_of_cell hc1) id).trans hc1
      have h2 := (HF.out.cell (p := ⟨g2, k, none⟩) (lt_of_cell hc2) id).trans hc2
      clear hc1 hc2
      generalize xs[k] = x at *
      go_wp2
      go_region
      all_goals go_wp2
      go_roundg g
      case measure => omega
      case rel => exact ⟨k + 1, by omega, by go_num, HF.out.drew⟩
end Go.Proofs.YtopheimplclfcaaDoor
