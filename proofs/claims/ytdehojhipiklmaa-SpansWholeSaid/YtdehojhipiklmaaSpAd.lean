/- spans: Add. -/
import Derived.Test.YtdehojhipiklmaaSpX
import Derived.Test.YtdehojhipiklmaaSpN
import Derived.Great.BuildSlice
import Derived.BigRegion
namespace Go.Proofs.Ytdehojhipiklmaa
open Go.RowKit

/-- what a turn of a set leaves: its own blocks grow by new ones only -/
def St2 (w w' : World) (p : Nat) (S : Nat → Prop) (L : List Sp) : Prop := ∃ S', St w' p S' L ∧ (∀ k, S' k → S k ∨ w.heap.size ≤ k) ∧ Fr S w w'
theorem own_new1 (w : World) (x : Sp) : (w.alloc (.cells #[.int .i64 x.1, .int .i64 x.2] 24)).ownsRow 0 24 2 (.slice (some ⟨w.heap.size, 0, none⟩) 1 1) [x].length ([x].flatMap spV) := by
  refine ⟨rfl, .inr ⟨w.heap.size, 1, #[.int .i64 x.1, .int .i64 x.2], rfl, Nat.zero_le _, heap_new w _, Nat.le_refl _, by unfold maxLen; decide, rfl, rfl⟩⟩
theorem put_blk {w2 W w' : World} {p : Nat} {S : Nat → Prop} {L X : List Sp} {v v' : Value} (hV : StV w2 p S L v) (hW : Fr No w2 W) (hp : Put2 W w' v v' X) : w'.heap[p]? = some (.cells #[v] 59 (0, 0)) ∧ ∀ k, v'.ownBlock = some k → k ≠ p := by
  have hpz := lt_of_block hV.blk
  have hne : v.ownBlock ≠ some p := fun e => by
    obtain ⟨cs, hc⟩ := own_ty hV.row e
    exact ne_ty hc hV.blk (by decide) rfl
  refine ⟨(hp.2.1.block p (hW.lt hpz) hne).trans ((hW.block p hpz id).trans hV.blk), fun k hk e => ?_⟩
  subst e
  rcases hp.2.2 k hk with h | h
  · exact hne h
  · have := hW.lt hpz; omega
theorem put_close {w w2 W w' : World} {p : Nat} {S : Nat → Prop} {L X : List Sp} {v v' : Value} (hV : StV w2 p S L v) (hS : ∀ k, S k → k < w.heap.size) (h2 : Fr No w w2) (hW : Fr No w2 W) (hp : Put2 W w' v v' X) (hX : GoodB X) : St2 w (w'.setCell ⟨p, 0, none⟩ v') p S X := by
  obtain ⟨hb, hne⟩ := put_blk hV hW hp
  have hf : Fr S w w' := (h2.trans hW).mono (fun _ _ e => e.elim) |>.trans (hp.2.1.mono (fun k _ e => hV.sv k e))
  have hl : ∀ k, v'.ownBlock = some k → k < w'.heap.size := fun k hk => by
    obtain ⟨cs, hc⟩ := own_ty hp.1 hk
    exact lt_of_block hc
  refine ⟨fun k => S k ∨ v'.ownBlock = some k, ⟨hX, v', ?_⟩, fun k hk => hk.elim .inl (fun e => ?_), hf.setCell (p := ⟨p, 0, none⟩) (fun _ => hV.sp) _⟩
  · refine ⟨by rw [set_blk hb]; rfl, own_frk hp.1 (Fr.set1 w' p 0 v') (fun k hk => hne k hk), .inl hV.sp, fun k hk => .inr hk, fun k hk => ?_⟩
    rw [size_set]
    exact hk.elim (fun e => hf.lt (hS k e)) (hl k)
  · rcases hp.2.2 k e with h | h
    · exact .inl (hV.sv k h)
    · exact .inr (by have := (h2.trans hW).size; omega)
theorem mayB_nat {a n : Nat} (h : a + n ≤ 1048576) : mayB a n = true := mayB_iff.2 ⟨by omega, by omega, by omega⟩
set_option maxRecDepth 100000 in
theorem sp_Add_bad (w : World) (p : Nat) (a n : Int) (hb : mayB a n = false) : Calls Try.prog 26 #[.pointer (some ⟨p, 0, none⟩), .agg #[.int .i64 a, .int .i64 n]] w fun e w' => e = .returned (.int .i64 10) ∧ Fr No w w' := by
  have hb0 := heap_new w (.cells #[.int .i64 a, .int .i64 n] 24)
  have HF := hid ((Fr.refl No w).alloc (.cells #[.int .i64 a, .int .i64 n] 24))
  have b0 := cell_blk hb0 0
  have b1 := cell_blk hb0 1
  simp only [List.getElem?_toArray, List.getElem?_cons_zero, List.getElem?_cons_succ] at b0 b1
  clear hb0
  have HE : Hid (takesE a n = 10) := by unfold Hid takesE; rw [if_neg (by rw [hb]; decide)]
  clear hb
  go_enter Try.func26, Try.ntmps26
  go_wp2_with fail
  refine (sp_takes _ p a n).mono ?_
  rw [HE.out]
  rintro e w1 ⟨rfl, hF⟩
  have HF2 := hid (HF.out.trans hF)
  clear hF
  go_wp2_with fail
  try rw [Exit.noGoto_ret]
  go_ret
  exact ⟨rfl, HF2.out⟩
set_option maxRecDepth 100000 in
set_option maxHeartbeats 1000000 in
theorem sp_Add (w : World) (p : Nat) (S : Nat → Prop) (L : List Sp) (h : St w p S L) (a n : Nat) (han : a + n ≤ 1048576) : Calls Try.prog 26 #[.pointer (some ⟨p, 0, none⟩), .agg #[.int .i64 a, .int .i64 n]] w fun e w' => e = .returned (.int .i64 0) ∧ St2 w w' p S (addL L a n) := by
  have hb0 := heap_new w (.cells #[.int .i64 a, .int .i64 n] 24)
  have hbk : w.heap.size < (w.alloc (.cells #[.int .i64 a, .int .i64 n] 24)).heap.size := lt_of_block hb0
  have HF := hid ((Fr.refl No w).alloc (.cells #[.int .i64 a, .int .i64 n] 24))
  have b0 := cell_blk hb0 0
  have b1 := cell_blk hb0 1
  simp only [List.getElem?_toArray, List.getElem?_cons_zero, List.getElem?_cons_succ] at b0 b1
  clear hb0
  have HE : Hid (takesE a n = 0) := by unfold Hid takesE; rw [if_pos (mayB_nat han)]
  have ha' : (a : Int) ≤ 1048576 := by omega
  have hn' : (n : Int) ≤ 1048576 := by omega
  have han' : (a : Int) + (n : Int) ≤ 1048576 := by omega
  have HH := hid h
  clear h
  go_enter Try.func26, Try.ntmps26
  go_wp2_with fail
  refine (sp_takes _ p a n).mono ?_
  rw [HE.out]
  rintro e w1 ⟨rfl, hF⟩
  have HF1 := hid (HF.out.trans hF)
  have c0 := (hF.cell (p := ⟨w.heap.size, 0, none⟩) hbk id).trans b0
  have c1 := (hF.cell (p := ⟨w.heap.size, 1, none⟩) hbk id).trans b1
  have hbk1 := hF.lt hbk
  clear hF b0 b1 hbk
  by_cases hn : n = 0
  · subst hn
    have HL : Hid (addL L a 0 = L) := rfl
    go_wp2_with fail
    try rw [Exit.noGoto_ret]
    go_ret
    exact ⟨rfl, S, by rw [HL.out]; exact HH.out.no HF1.out, fun k hk => .inl hk, HF1.out.mono (fun _ _ e => e.elim)⟩
  have hn0 : ((n : Int) == 0) = false := by simp; omega
  go_wp2_with fail
  refine (sp_around w1 p S L (HH.out.no HF1.out) ((a : Int) - 1) ((a : Int) + (n : Int)) (by omega) (by omega)).mono ?_
  rintro e w2 ⟨rfl, hF⟩
  have HF2 := hid (HF1.out.trans hF)
  have d0 := (hF.cell (p := ⟨w.heap.size, 0, none⟩) hbk1 id).trans c0
  have d1 := (hF.cell (p := ⟨w.heap.size, 1, none⟩) hbk1 id).trans c1
  have hbk2 := hF.lt hbk1
  clear hF c0 c1 hbk1
  have hH2 := HH.out.no HF2.out
  have hfl := firstOf_le L ((a : Int) - 1)
  have htl := lastOf_le L ((a : Int) - 1) ((a : Int) + n)
  have hft := first_le_last L ((a : Int) - 1) ((a : Int) + n)
  have HA : Hid (addL L a n = spI L (firstOf L ((a : Int) - 1)) [addS L a n] (lastOf L ((a : Int) - 1) ((a : Int) + n))) := by unfold Hid addL; rw [if_neg hn]; rfl
  have HS : Hid (addS L a n = if firstOf L ((a : Int) - 1) < lastOf L ((a : Int) - 1) ((a : Int) + n) then (min a (L.getD (firstOf L ((a : Int) - 1)) (0, 0)).1, max (a + n) ((L.getD (lastOf L ((a : Int) - 1) ((a : Int) + n) - 1) (0, 0)).1 + (L.getD (lastOf L ((a : Int) - 1) ((a : Int) + n) - 1) (0, 0)).2) - min a (L.getD (firstOf L ((a : Int) - 1)) (0, 0)).1) else (a, n)) := rfl
  have HG := hid (addL_good L hH2.1 a n han).1
  obtain ⟨f, hf⟩ : ∃ f, firstOf L ((a : Int) - 1) = f := ⟨_, rfl⟩
  obtain ⟨t, ht⟩ : ∃ t, lastOf L ((a : Int) - 1) ((a : Int) + n) = t := ⟨_, rfl⟩
  rw [hf] at hfl hft HA HS ⊢
  rw [ht] at htl hft HA HS ⊢
  clear hf ht
  obtain ⟨hGB, v, hV⟩ := hH2
  have HGB := hid hGB
  have hlen := hGB.len
  obtain ⟨av, cv, rfl, hlc, hE⟩ := own_elems hV.row
  have HV := hid hV
  have e0 := cell_blk hV.blk 0
  simp only [List.getElem?_toArray, List.getElem?_cons_zero] at e0
  have hpz := lt_of_block hV.blk
  clear hV hGB
  obtain ⟨A, hA⟩ : ∃ A, addS L a n = A := ⟨_, rfl⟩
  rw [hA] at HA HS
  clear hA
  by_cases hlt : f < t
  case neg =>
    have hlt' : (t : Int) ≤ (f : Int) := by omega
    obtain rfl : A = (a, n) := by rw [HS.out, if_neg hlt]
    clear hE
    go_wp2_with fail
    go_region
    go_wp2_with fail
    have en : (a : Int) + (n : Int) - (a : Int) = (n : Int) := by omega
    rw [en]
    have hW : Fr No w2 (w2.alloc (.cells #[.int .i64 a, .int .i64 n] 24)).drew := ((Fr.refl No w2).alloc _).drew
    refine (sp_replace _ _ L (own_frk HV.out.row hW (fun _ _ => id)) f t hft htl (by omega) _ [(a, n)] (own_new1 w2 (a, n)).drew (by simp) (fun k hk e => ?_)).mono ?_
    · have hk2 : w2.heap.size = k := by simpa [Value.ownBlock] using e
      have := HV.out.lt k (HV.out.sv k hk)
      omega
    rintro e w3 ⟨v3, rfl, hP⟩
    rw [← HA.out] at hP
    have HQ := hid (put_close HV.out HH.out.lt HF2.out hW hP HG.out)
    have hb := (put_blk HV.out hW hP).1
    have g0 := cell_blk hb 0
    have g1 := free_blk hb 0
    simp only [List.getElem?_toArray, List.getElem?_cons_zero] at g0
    obtain ⟨a3, c3, rfl⟩ := own_form hP.1
    clear hP hb hW d0 d1 e0
    go_wp2_with fail
    try rw [Exit.noGoto_ret]
    go_ret
    exact ⟨rfl, HQ.out⟩
  case pos =>
    have hlt' : (f : Int) < (t : Int) := by omega
    have hfL : f < L.length := by omega
    have htL : t - 1 < L.length := by omega
    obtain ⟨b, o, rfl, hbz, x0, x1⟩ := hE.sp2 f hfL
    obtain ⟨b', o', hbo, _, y0, y1⟩ := hE.sp2 (t - 1) htL
    obtain ⟨rfl, rfl⟩ : b = b' ∧ o = o' := by injection hbo with e; injection e with e1 e2; exact ⟨e1, e2⟩
    have hx := HGB.out.2 _ (List.getElem_mem hfL)
    have hy := HGB.out.2 _ (List.getElem_mem htL)
    have HS2 : Hid (A = (min a L[f].1, max (a + n) (L[t - 1].1 + L[t - 1].2) - min a L[f].1)) := by unfold Hid; rw [HS.out, if_pos hlt, getD_at hfL, getD_at htL]
    obtain ⟨x, hxe⟩ : ∃ x, L[f] = x := ⟨_, rfl⟩
    obtain ⟨y, hye⟩ : ∃ y, L[t - 1] = y := ⟨_, rfl⟩
    rw [hxe] at x0 x1 hx HS2
    rw [hye] at y0 y1 hy HS2
    obtain ⟨u, hu⟩ : ∃ u, t - 1 = u := ⟨_, rfl⟩
    rw [hu] at y0 y1
    have htu : (t : Int) = (u : Int) + 1 := by omega
    have huL : (u : Int) < (L.length : Int) := by omega
    have hfL' : (f : Int) < (L.length : Int) := by omega
    clear hE HS hxe hye hbo hu
    obtain ⟨xa, xn⟩ := x
    obtain ⟨ya, yn⟩ := y
    have hx' : (xa : Int) + (xn : Int) ≤ 1048576 := by have : xa + xn ≤ 1048576 := hx; omega
    have hy' : (ya : Int) + (yn : Int) ≤ 1048576 := by have : ya + yn ≤ 1048576 := hy; omega
    clear hx hy
    rw [htu]
    rw [htu] at hlt'
    go_wp2_with fail
    go_region
    go_wp2_with fail
    go_region
    go_wp2_with fail
    obtain ⟨lo, hlo⟩ : ∃ lo, min a xa = lo := ⟨_, rfl⟩
    obtain ⟨dd, hdd⟩ : ∃ dd, max (a + n) (ya + yn) - lo = dd := ⟨_, rfl⟩
    have e1 : min (a : Int) (xa : Int) = (lo : Int) := by omega
    have e2 : max ((a : Int) + (n : Int)) ((ya : Int) + (yn : Int)) - (lo : Int) = (dd : Int) := by omega
    rw [e1, e2]
    obtain rfl : A = (lo, dd) := by rw [HS2.out]; show (min a xa, max (a + n) (ya + yn) - min a xa) = _; rw [hlo, hdd]
    clear e1 e2 hlo hdd HS2
    rw [← htu]
    have hW : Fr No w2 (w2.alloc (.cells #[.int .i64 lo, .int .i64 dd] 24)).drew.drew := ((Fr.refl No w2).alloc _).drew.drew
    refine (sp_replace _ _ L (own_frk HV.out.row hW (fun _ _ => id)) f t hft htl (by omega) _ [(lo, dd)] (own_new1 w2 (lo, dd)).drew.drew (by simp) (fun k hk e => ?_)).mono ?_
    · have hk2 : w2.heap.size = k := by simpa [Value.ownBlock] using e
      have := HV.out.lt k (HV.out.sv k hk)
      omega
    rintro e w3 ⟨v3, rfl, hP⟩
    rw [← HA.out] at hP
    have HQ := hid (put_close HV.out HH.out.lt HF2.out hW hP HG.out)
    have hb := (put_blk HV.out hW hP).1
    have g0 := cell_blk hb 0
    have g1 := free_blk hb 0
    simp only [List.getElem?_toArray, List.getElem?_cons_zero] at g0
    obtain ⟨a3, c3, rfl⟩ := own_form hP.1
    clear hP hb hW d0 d1 e0 x0 x1 y0 y1
    go_wp2_with fail
    try rw [Exit.noGoto_ret]
    go_ret
    exact ⟨rfl, HQ.out⟩
end Go.Proofs.Ytdehojhipiklmaa
