/- The ring of ints: Drain; the law's Ints. -/
import Derived.Test.YtndljmkdgakfcaaRgOps
import Derived.Maps.AppendAt
import Derived.Laws.AppendOwnNone
import Derived.WalkMore
import Derived.Deep.LoopGhost
import Derived.BigQuiet
import Derived.Deep.QuietTactic
namespace Go.Proofs.Ytndljmkdgakfcaa
open Go.RowKit

def iv (x : Int) : Value := .int .i64 x
theorem int_info : (Try.prog.info? 3).map (fun i => (i.zero, i.size, i.bytes)) = some (some (.int .i64 0), 1, 8) := by kernel_rfl
theorem info_parts {P : Program} {t : TypeId} {z : Value} {n m : Nat} (h : (P.info? t).map (fun i => (i.zero, i.size, i.bytes)) = some (some z, n, m)) : ∃ i, P.info? t = some i ∧ i.zero = some z ∧ i.size = n ∧ i.bytes = m := by
  obtain ⟨i, hi, he⟩ := Option.map_eq_some_iff.1 h
  simp only [Prod.mk.injEq] at he
  exact ⟨i, hi, he.1, he.2.1, he.2.2⟩
theorem own_ge {w : World} {base n r : Nat} {e : TypeId} {v : Value} {xs : List Value} (h : w.ownsRow base e 1 v n xs) (hr : v.ownBlock = some r) : base ≤ r := by
  obtain ⟨_, ⟨hv, _⟩ | ⟨g, cap, cur, hv, hg, _⟩⟩ := h
  · rw [hv] at hr; simp [Value.ownBlock] at hr
  · rw [hv] at hr; simp [Value.ownBlock] at hr; omega
/-- a slice of the call's own as a row -/
theorem own_row {w : World} {base n : Nat} {e : TypeId} {v : Value} {xs : List Value} (h : w.ownsRow base e 1 v n xs) : ∃ a cap, v = .slice a n cap ∧ Row w a xs := by
  rcases Nat.eq_zero_or_pos n with h0 | h0
  · subst h0
    have hx : xs = [] := by
      have := h.1; exact List.eq_nil_of_length_eq_zero this
    subst hx
    obtain ⟨_, ⟨hv, _⟩ | ⟨g, cap, cur, h1, _⟩⟩ := h
    · exact ⟨none, 0, hv, .nil _ _⟩
    · exact ⟨_, cap, h1, .nil _ _⟩
  · obtain ⟨g, cap, cur, rfl, _, hb, hc, _, hs, ht⟩ := own_block h h0
    exact ⟨_, cap, rfl, Row.of_blk hb ht (by omega)⟩
theorem own_fr {S : Nat → Prop} {w w' : World} {base n : Nat} {e : TypeId} {v : Value} {xs : List Value} (h : w.ownsRow base e 1 v n xs) (f : Fr S w w') (hS : ∀ k, base ≤ k → ¬ S k) : w'.ownsRow base e 1 v n xs := by
  obtain ⟨h1, h2 | ⟨g, cap, cur, hv, hg, hb, h3⟩⟩ := h
  · exact ⟨h1, .inl h2⟩
  · exact ⟨h1, .inr ⟨g, cap, cur, hv, hg, (f.block g (lt_of_block hb) (hS g hg)).trans hb, h3⟩⟩
theorem grown_fr {w w1 : World} {o : Obj} {v : Value} (g : (w.alloc o).grownBy w1 v.ownBlock) : Fr (fun k => v.ownBlock = some k) w w1 := ((Fr.refl _ w).alloc o).grown g (fun _ hk _ => hk)

set_option maxRecDepth 100000 in
set_option maxHeartbeats 1000000 in
theorem rg_Drain (w : World) (p c most : Nat) (xs : List Int) (shut : Bool) (h : Rg w p c most (xs.map iv) shut) (hl : xs.length ≤ 1024) : Calls Try.prog 27 #[.pointer (some ⟨p, 0, none⟩)] w fun e w' => ∃ v, e = .returned v ∧ w'.ownsRow w.heap.size 3 1 v xs.length (xs.map iv) ∧ Rg w' p c most [] shut ∧ Fr (fun k => k = c) w w' := by
  obtain ⟨i0, hi, hz0, hz1, hz2⟩ := info_parts int_info
  have hpz := h.ltp
  have hcz := h.ltc
  have HR := hid h
  clear h
  go_enter Try.func27, Try.ntmps27
  go_wp2_with fail
  go_step3
  go_wp2_with fail
  go_step3
  go_wp2_with fail
  go_loopg [3] xs.length (fun g v wr => ∃ (k : Nat) (vv : Value), k + g = xs.length ∧ vv = v ∧ Hid (wr.ownsRow w.heap.size 3 1 vv k ((xs.take k).map iv)) ∧ Hid (Rg wr p c most ((xs.drop k).map iv) shut) ∧ Hid (Fr (fun k => k = c) w wr))
  case atStart => exact ⟨0, _, by omega, rfl, own_nil w _ _, HR, Fr.refl _ w⟩
  case round =>
    obtain ⟨k, v, hk, rfl, HO, HR, HF⟩ := hrel
    cases gk with
    | zero =>
      obtain rfl : k = xs.length := by omega
      rw [List.drop_length, List.map_nil] at HR
      rw [List.take_length] at HO
      have HT := hid (rg_Take0 wr p c most shut HR.out)
      go_wp2_with (refine HT.out.mono ?_; rintro e w2 ⟨rfl, hR2, hF2⟩)
      rw [Exit.noGoto_ret]
      go_ret
      exact ⟨_, rfl, own_fr HO.out hF2 (fun k hk e => by omega), hR2, HF.out.trans hF2⟩
    | succ g =>
      have hkl : k < xs.length := by omega
      have HX : Hid ((xs.take k).map iv ++ [iv xs[k]] = (xs.take (k + 1)).map iv) := by unfold Hid; rw [List.take_succ_eq_append_getElem hkl, List.map_append]; rfl
      rw [List.drop_eq_getElem_cons hkl, List.map_cons] at HR
      obtain ⟨x, hx⟩ : ∃ x, xs[k] = x := ⟨_, rfl⟩
      rw [hx] at HR HX
      clear hx
      have HT := hid (rg_Take1 wr p c most _ _ shut HR.out)
      rw [show iv x = Value.int .i64 x from rfl] at HT
      go_wp2_with (first
        | (refine HT.out.mono ?_; rintro e w2 ⟨rfl, hR2, hF2⟩; have HO2 := hid (own_fr HO.out hF2 (fun k hk e => by omega)); have HF2 := hid (HF.out.trans hF2); have HR2 := hid hR2; have hsz := HF2.out.size; clear hF2 hR2 HT HO HF HR)
        | (at_builtin; (refine wpList_append_own _ rfl (.tmp 13) (.tmp 15) 29 rfl w.heap.size 3 i0 (.int .i64 0) 1 8 Try.underlying29 hi hz0 hz1 hz2 rfl (by decide) v k _ rfl (HO2.out.alloc _) ⟨w2.heap.size, 0, none⟩ 1 1 [.int .i64 x] rfl rfl (cell_one_new _ _ _) (by simp [Value.oneCell']) (by unfold maxLen; omega) (by omega) (by simp; omega) ?_); intro v' w3 hown' hgrow _))
      rw [show Value.int .i64 x = iv x from rfl, HX.out] at hown'
      have HO' := hid hown'
      have HG := hid (grown_fr hgrow)
      have HR3 := hid (HR2.out.fr HG.out (fun h => by have := own_ge HO2.out h; omega) (fun h => by have := own_ge HO2.out h; omega))
      have HF3 := hid (HF2.out.then HG.out (fun i hi h => by have := own_ge HO2.out h; omega))
      clear hown' hgrow HG
      go_roundg g
      case measure => omega
      case rel => exact ⟨k + 1, _, by omega, rfl, HO', HR3, HF3⟩

set_option maxRecDepth 100000 in
theorem ints_same (w : World) (a b : Option Addr) (c c' : Nat) (xs : List Int) (hl : xs.length ≤ 2048) (ha : Row w a (xs.map iv)) (hb : Row w b (xs.map iv)) :
    Calls Try.prog 19 #[.slice a xs.length c, .slice b xs.length c'] w fun e w' => e = .returned (.bool true) ∧ Fr No w w' := by
  have HA := hid ha
  have HB := hid hb
  clear ha hb
  go_enter Try.func19, Try.ntmps19
  go_wp2
  go_loopg [5] xs.length (fun g i wr => ∃ k : Nat, k + g = xs.length ∧ i = .int .i64 k ∧ Hid (Fr No w wr))
  case atStart => exact ⟨0, by omega, rfl, Fr.refl No w⟩
  case round =>
    obtain ⟨k, hk, rfl, HF⟩ := hrel
    cases gk with
    | zero =>
      obtain rfl : k = xs.length := by omega
      go_wp2
      go_ret
      exact ⟨rfl, HF.out⟩
    | succ g =>
      have hlt : k < xs.length := by omega
      obtain ⟨g1, o1, rfl, hb1, h1⟩ := (HA.out.no HF.out).at (i := k) (by simpa using hlt)
      obtain ⟨g2, o2, rfl, hb2, h2⟩ := (HB.out.no HF.out).at (i := k) (by simpa using hlt)
      rw [getD_map iv xs 0 k hlt] at h1 h2
      obtain ⟨x, hx⟩ : ∃ x, xs.getD k 0 = x := ⟨_, rfl⟩
      rw [hx] at h1 h2
      replace h1 : wr.cell? ⟨g1, o1 + k, none⟩ = some (.int .i64 x) := h1
      replace h2 : wr.cell? ⟨g2, o2 + k, none⟩ = some (.int .i64 x) := h2
      clear hx
      go_wp2
      go_region
      all_goals go_wp2
      go_roundg g
      case measure => omega
      case rel => exact ⟨k + 1, by omega, by go_num, HF.out.drew⟩
end Go.Proofs.Ytndljmkdgakfcaa
