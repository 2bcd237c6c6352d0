/- The ring at pair: Drain. -/
import Derived.Test.YtndljmkdgakfcaaRkpO
import Derived.Test.YtndljmkdgakfcaaRgSep
namespace Go.Proofs.Ytndljmkdgakfcaa
open Go.RowKit

def pcs (x : Int × ByteArray) : List Value := [.int .i64 x.1, .string x.2]
theorem pair_info : (Try.prog.info? 49).map (fun i => (i.zero, i.size, i.bytes)) = some (some (.agg #[.int .i64 0, .string ⟨#[]⟩]), 2, 24) := by kernel_rfl
theorem own_geS {w : World} {base n r z : Nat} {e : TypeId} {v : Value} {xs : List Value} (h : w.ownsRow base e z v n xs) (hr : v.ownBlock = some r) : base ≤ r := by
  obtain ⟨_, ⟨hv, _⟩ | ⟨g, cap, cur, hv, hg, _⟩⟩ := h
  · rw [hv] at hr; simp [Value.ownBlock] at hr
  · rw [hv] at hr; simp [Value.ownBlock] at hr; omega
theorem own_frS {S : Nat → Prop} {w w' : World} {base n z : Nat} {e : TypeId} {v : Value} {xs : List Value} (h : w.ownsRow base e z v n xs) (f : Fr S w w') (hS : ∀ k, base ≤ k → k < w.heap.size → ¬ S k) : w'.ownsRow base e z v n xs := by
  obtain ⟨h1, h2 | ⟨g, cap, cur, hv, hg, hb, h3⟩⟩ := h
  · exact ⟨h1, .inl h2⟩
  · exact ⟨h1, .inr ⟨g, cap, cur, hv, hg, (f.block g (lt_of_block hb) (hS g hg (lt_of_block hb))).trans hb, h3⟩⟩
theorem two_new (w : World) (a b : Value) (t : TypeId) : ∀ j u, [a, b][j]? = some u → (w.alloc (.cells #[a, b] t)).cell? ((⟨w.heap.size, 0, none⟩ : Addr).add j) = some u := fun j u hu => by
  rw [add_off, cell_blk (heap_new w _)]
  match j, hu with
  | 0, hu => simpa using hu
  | 1, hu => simpa using hu
  | j + 2, hu => simp at hu

set_option maxRecDepth 100000 in
set_option maxHeartbeats 1000000 in
theorem kp_Drain (w : World) (p c most : Nat) (xs : List (Int × ByteArray)) (h : RP w p c most (xs.map pv) false) (hl : xs.length ≤ 1024) : Calls Try.prog 24 #[.pointer (some ⟨p, 0, none⟩)] w fun e w' => ∃ v, e = .returned v ∧ w'.ownsRow w.heap.size 49 2 v xs.length (xs.flatMap pcs) ∧ RP w' p c most [] false ∧ Fr (fun k => k = c) w w' := by
  obtain ⟨i0, hi, hz0, hz1, hz2⟩ := info_parts pair_info
  have hpz := h.ltp
  have hcz := h.ltc
  have HR := hid h
  clear h
  go_enter Try.func24, Try.ntmps24
  go_wp2_with fail
  go_step3
  go_wp2_with fail
  go_step3
  go_wp2_with fail
  go_loopg [3] xs.length (fun g v wr => ∃ (k : Nat) (vv : Value), k + g = xs.length ∧ vv = v ∧ Hid (wr.ownsRow w.heap.size 49 2 vv k ((xs.take k).flatMap pcs)) ∧ Hid (RP wr p c most ((xs.drop k).map pv) false) ∧ Hid (Fr (fun k => k = c) w wr))
  case atStart => exact ⟨0, _, by omega, rfl, ⟨rfl, .inl ⟨rfl, rfl⟩⟩, HR, Fr.refl _ w⟩
  case round =>
    obtain ⟨k, v, hk, rfl, HO, HR, HF⟩ := hrel
    cases gk with
    | zero =>
      obtain rfl : k = xs.length := by omega
      rw [List.drop_length, List.map_nil] at HR
      rw [List.take_length] at HO
      have HT := hid (kp_Take0 wr p c most HR.out)
      go_wp2_with fail
      refine HT.out.mono ?_; rintro e w2 ⟨rfl, hR2, hF2⟩
      have hx := heap_new w2 (.cells #[.int .i64 0, .string ⟨#[]⟩] 49)
      have y0 := cell_blk hx 0
      have y1 := cell_blk hx 1
      have f0 := free_blk hx 0
      have f1 := free_blk hx 1
      simp only [List.getElem?_toArray, List.getElem?_cons_zero, List.getElem?_cons_succ] at y0 y1
      go_wp2_with fail
      rw [Exit.noGoto_ret]
      go_ret
      have hF3 := (hF2.alloc (.cells #[.int .i64 0, .string ⟨#[]⟩] 49))
      exact ⟨_, rfl, own_frS HO.out hF3 (fun _ _ _ => id), hR2.fr ((Fr.refl No w2).alloc _) id id, HF.out.trans (hF3.mono (fun _ _ h => h.elim))⟩
    | succ g =>
      have hkl : k < xs.length := by omega
      have HX : Hid ((xs.take k).flatMap pcs ++ pcs xs[k] = (xs.take (k + 1)).flatMap pcs) := by unfold Hid; rw [List.take_succ_eq_append_getElem hkl, List.flatMap_append]; simp
      rw [List.drop_eq_getElem_cons hkl, List.map_cons] at HR
      obtain ⟨x, hxx⟩ : ∃ x, xs[k] = x := ⟨_, rfl⟩
      rw [hxx] at HR HX
      clear hxx
      obtain ⟨n, s⟩ := x
      have HT := hid (kp_Take1 wr p c most (n, s) _ false HR.out)
      go_wp2_with fail
      refine HT.out.mono ?_; rintro e w2 ⟨rfl, hR2, hF2⟩
      have hx := heap_new w2 (.cells #[.int .i64 0, .string ⟨#[]⟩] 49)
      have y0 := cell_blk hx 0
      have y1 := cell_blk hx 1
      have f0 := free_blk hx 0
      have f1 := free_blk hx 1
      simp only [List.getElem?_toArray, List.getElem?_cons_zero, List.getElem?_cons_succ] at y0 y1
      have HW := hid ((Fr.refl No w2).alloc (.cells #[.int .i64 n, .string s] 49))
      have HO5 := hid ((own_frS (own_frS HO.out hF2 (fun k hk _ e => by omega)) HW.out (fun _ _ _ => id)))
      have HR5 := hid (hR2.fr HW.out id id)
      have HF5 := hid ((HF.out.trans hF2).trans (HW.out.mono (fun _ _ h => h.elim)))
      have hsz := HF5.out.size
      have HTW := hid (two_new (w2.alloc (.cells #[.int .i64 n, .string s] 49)) (.int .i64 n) (.string s) 49)
      rw [World.size_alloc] at HTW
      clear hR2 hF2 HO HR HF HT
      go_wp2_with (at_builtin; (refine wpList_append_own _ rfl (.tmp 13) (.tmp 15) 56 rfl w.heap.size 49 i0 (.agg #[.int .i64 0, .string ⟨#[]⟩]) 2 24 Try.underlying56 hi hz0 hz1 hz2 rfl (by decide) v k _ rfl (HO5.out.alloc _) ⟨_, 0, none⟩ 1 1 [.int .i64 n, .string s] rfl rfl HTW.out (by simp [Value.oneCell']) (by unfold maxLen; omega) (by omega) (by simp at hsz ⊢; omega) ?_); intro v' w3 hown' hgrow _)
      rw [show ([.int .i64 n, .string s] : List Value) = pcs (n, s) from rfl, HX.out] at hown'
      have HO' := hid hown'
      have HGr := hid (grown_fr hgrow)
      have HR3 := hid (HR5.out.fr HGr.out (fun h => by have := own_geS HO5.out h; omega) (fun h => by have := own_geS HO5.out h; omega))
      have HF3 := hid (HF5.out.then HGr.out (fun i hi h => absurd hi (by have := own_geS HO5.out h; omega)))
      clear hown' hgrow HGr
      go_roundg g
      case measure => omega
      case rel => exact ⟨k + 1, _, by omega, rfl, HO', HR3, HF3⟩
end Go.Proofs.Ytndljmkdgakfcaa
