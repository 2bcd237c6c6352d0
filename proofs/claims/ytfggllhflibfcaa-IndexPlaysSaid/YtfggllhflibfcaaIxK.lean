/- index: the iterator over a span. -/
import Derived.Test.YtfggllhflibfcaaIxJ
import Derived.Test.YtfggllhflibfcaaRound
namespace Go.Proofs.Ytfggllhflibfcaa
open Go.RowKit Go.Maps Go.Shelf
attribute [local go_sem] Oper.semAt_some
/-- what the iterator gives of the first k places -/
def giv (E : List Pl) (a : Int) (k : Nat) : List (Int × Pl) := ((List.range k).filter fun i : Nat => (E.getD i none).isSome).map fun i : Nat => (a + (i : Int), E.getD i none)
theorem giv_yes {E : List Pl} {a : Int} {k : Nat} (h : (E.getD k none).isSome = true) : giv E a (k + 1) = giv E a k ++ [(a + (k : Int), E.getD k none)] := by
  unfold giv
  rw [List.range_succ, List.filter_append, List.map_append]
  have e : ([k].filter fun i : Nat => (E.getD i none).isSome) = [k] := by simp only [List.filter, h]
  rw [e]; rfl
theorem giv_no {E : List Pl} {a : Int} {k : Nat} (h : (E.getD k none).isSome = false) : giv E a (k + 1) = giv E a k := by
  unfold giv
  rw [List.range_succ, List.filter_append, List.map_append]
  have e : ([k].filter fun i : Nat => (E.getD i none).isSome) = [] := by simp only [List.filter, h]
  rw [e]; simp
theorem giv_pre (E : List Pl) (a : Int) {k n : Nat} (h : k ≤ n) : giv E a k <+: giv E a n := by
  obtain ⟨d, rfl⟩ : ∃ d, n = k + d := ⟨n - k, by omega⟩
  induction d with
  | zero => exact List.prefix_refl _
  | succ d ih =>
    refine (ih (by omega)).trans ?_
    show _ <+: giv E a (k + d + 1)
    cases h' : (E.getD (k + d) none).isSome with
    | true => rw [giv_yes h']; exact List.prefix_append _ _
    | false => rw [giv_no h']; exact List.prefix_refl _
theorem Fr.grownBy {A B : World} (f : Fr No A B) : A.grownBy B none := ⟨f.os, f.tape, f.output, f.size, fun k hk _ => f.block k hk id⟩
set_option maxRecDepth 100000 in
set_option maxHeartbeats 2000000 in
theorem all_calm (n : Nat) (Bp Bs : Nat) (T : Nat → Prop) (a m : Int) (E : List Pl) (b b' : Nat) (hlen : E.length ≤ 4096) (ha : 0 ≤ a ∧ a ≤ 4096) (w : World) (h : IterAt w Bp Bs a m E b b') (hT : ∀ k, b ≤ k → k < b' → ¬ T k) :
    CalmN n Try.prog 35 #[.pointer (some ⟨Bp, 0, none⟩), .pointer (some ⟨Bs, 0, none⟩)] (fun x : Int × Pl => #[.int .i64 x.1, plA x.2]) T (giv E a E.length) w := by
  intro l J W hbw hJ hY h0
  obtain ⟨hs, hbs, _, v, hp, ho, hb⟩ := h
  have hBs := hT Bs hbs.1 hbs.2
  have fW := Fr.of_below (S := No) hbw
  obtain ⟨va, vc, rfl⟩ := own_form ho
  have HS := hid (blk_no fW hs)
  have hp0 := (cell_blk (blk_no fW hp) 0).trans (show _ = some (Value.slice va E.length vc) from rfl)
  have HO := hid (own_frk ho fW (fun _ _ => id))
  have HBL := hid (show ∀ k, (Value.slice va E.length vc).ownBlock = some k → ¬ T k from fun k hk => hT k (hb k hk).1 (hb k hk).2)
  have HJ := hid hJ
  have HY := hid hY
  have HBS := hid hBs
  have hlen' : (E.length : Int) ≤ 4096 := by omega
  have HSL := hid (lt_of_block HS.out)
  clear hJ hY hbw hs hp ho hb fW hT hBs
  refine callsIn_of_wp Try.func35 rfl trivial ?_ rfl
  simp only [Try.ntmps35, List.size_toArray, List.length_cons, List.length_nil, Nat.reduceAdd, Nat.reduceSub, Array.replicate_succ, Array.replicate_zero, List.push_toArray, List.append_toArray, List.nil_append, List.cons_append]
  refine wpIn_wide.2 ?_
  go_wp2_with fail
  go_step3
  go_wp2_with fail
  go_step3
  go_wp2_with fail
  go_loopg [8] E.length (fun g i wr => ∃ k : Nat, k + g = E.length ∧ i = .int .i64 k ∧ Hid (J (giv E a k) wr) ∧ Hid (Fr T W wr))
  case atStart => exact ⟨0, by omega, rfl, h0, Fr.refl _ _⟩
  case round =>
    obtain ⟨k, hk, rfl, HJS, HNX⟩ := hrel
    cases gk with
    | zero =>
      obtain rfl : k = E.length := by omega
      go_wp2_with fail
      rw [Exit.noGoto_normal]
      go_end0
      exact ⟨⟨_, rfl⟩, HJS.out⟩
    | succ gk =>
      have hkE : k < E.length := by omega
      have hki : (k : Int) < (E.length : Int) := by omega
      obtain ⟨g, cp, hv, _, hgl, hr, _⟩ := own_at HO.out (fun x _ => plV_len x) k hkE
      obtain ⟨rfl, rfl⟩ : va = some ⟨g, 0, none⟩ ∧ vc = cp := by injection hv with e1 _ e3; exact ⟨e1, e3⟩
      have hgT := HBL.out g rfl
      obtain ⟨q, hq⟩ : ∃ q : Pl, E[k]'hkE = q := ⟨_, rfl⟩
      have hgd : E.getD k none = q := by rw [List.getD_eq_getElem?_getD, List.getElem?_eq_getElem hkE, hq]; rfl
      have a0 : W.cell? ⟨g, k * 2, none⟩ = some (.int .i64 (plS q)) := by have := hr 0 (.int .i64 (plS E[k])) (by rw [plV_eq]; rfl); rw [hq] at this; simpa using this
      have a1 : W.cell? ⟨g, k * 2 + 1, none⟩ = some (.bool (plD q)) := by have := hr 1 (.bool (plD E[k])) (by rw [plV_eq]; rfl); rw [hq] at this; exact this
      have e0 := (HNX.out.cell (p := ⟨g, k * 2, none⟩) hgl hgT).trans a0
      have e1 := (HNX.out.cell (p := ⟨g, k * 2 + 1, none⟩) hgl hgT).trans a1
      have HS1 := hid ((HNX.out.block Bs HSL.out HBS.out).trans HS.out)
      have HYES := hid (@giv_yes E a k)
      have HNO := hid (@giv_no E a k)
      rw [hgd] at HYES HNO
      have HPRE := hid (giv_pre E a (show k + 1 ≤ E.length by omega))
      clear hr hv a0 a1 hq hgd
      cases q with
      | none =>
        simp only [plS, plD] at e0 e1
        have hno := HNO.out rfl
        go_wp2_with fail
        have HP := hid (heap_new wr (.cells #[.int .i64 (-1), .bool false] 44))
        obtain ⟨s0, s1, _, _⟩ := blk2 HP.out
        refine wp_region_held_drew (S := fun W => W.cell? ⟨wr.heap.size, 0, none⟩ = some (.int .i64 (-1)) ∧ W.cell? ⟨wr.heap.size, 1, none⟩ = some (.bool false)) (by kernel_rfl) ⟨s0, s1⟩ (fun hHeld => ?_)
        clear s0 s1
        refine wpAnyH_take (i := 0) (v := ?_) rfl (by kernel_rfl) (by kernel_rfl) (by kernel_rfl) (fun _ _ _ h => h) (Or.inl ⟨by rfl, ?_⟩) hHeld ?_
        rotate_left
        · intro w hSw; obtain ⟨s0, s1⟩ := hSw
          go_simp
          with_reducible rfl
        try simp only [Act.put, List.getElem_toArray, List.getElem_cons_zero, List.getElem_cons_succ, List.setIfInBounds_toArray, List.set_cons_zero, List.set_cons_succ]
        refine wpAnyH_ready (rs := [1]) (by kernel_rfl) (by simp) ?_
        refine AllReadyH.cons rfl (fun K hK => ?_) AllReadyH.nil
        rw [if_pos (by rfl)]
        go_simp
        refine (ix_nowhere _).mono ?_
        rintro e w2 ⟨rfl, hF⟩
        have HF2 := hid (((Fr.refl No wr).alloc (.cells #[.int .i64 (-1), .bool false] 44)).drew.trans hF)
        have HP2 := hid (blk_no hF HP.out)
        have HJ2 := hid (HJ.out _ _ _ none HJS.out HF2.out.grownBy (fun r e => by cases e))
        have HNX2 := hid (HNX.out.trans (HF2.out.mono (fun _ _ e => e.elim)))
        obtain ⟨s0, s1, _, _⟩ := blk2 HP2.out
        refine hK.out _ _ ⟨s0, s1⟩ (fun hHeld => ?_)
        clear hK K hF
        try simp only [Act.put, List.getElem_toArray, List.getElem_cons_zero, List.getElem_cons_succ, List.setIfInBounds_toArray, List.set_cons_zero, List.set_cons_succ]
        refine wpAnyH_take (i := 2) (v := ?_) rfl (by kernel_rfl) (by kernel_rfl) (by kernel_rfl) (fun _ _ _ h => h) (Or.inl ⟨by rfl, ?_⟩) hHeld ?_
        rotate_left
        · intro w hSw
          go_simp
          with_reducible rfl
        try simp only [Act.put, List.getElem_toArray, List.getElem_cons_zero, List.getElem_cons_succ, List.setIfInBounds_toArray, List.set_cons_zero, List.set_cons_succ]
        refine wpAnyH_done (by kernel_rfl) ?_ _
        go_wp2_with fail
        rw [← hno] at HJ2
        go_roundg gk
        case measure => omega
        case rel => exact ⟨k + 1, by omega, by go_num, HJ2, HNX2⟩
      | some q =>
        obtain ⟨x, d⟩ := q
        simp only [plS, plD] at e0 e1
        have hxne : ((x : Int) == -1) = false := by simp
        have hyes := HYES.out rfl
        go_wp2_with fail
        have HP := hid (heap_new wr (.cells #[.int .i64 (x : Int), .bool d] 44))
        obtain ⟨s0, s1, _, _⟩ := blk2 HP.out
        refine wp_region_held_drew (S := fun W => W.cell? ⟨wr.heap.size, 0, none⟩ = some (.int .i64 (x : Int)) ∧ W.cell? ⟨wr.heap.size, 1, none⟩ = some (.bool d)) (by kernel_rfl) ⟨s0, s1⟩ (fun hHeld => ?_)
        clear s0 s1
        refine wpAnyH_take (i := 0) (v := ?_) rfl (by kernel_rfl) (by kernel_rfl) (by kernel_rfl) (fun _ _ _ h => h) (Or.inl ⟨by rfl, ?_⟩) hHeld ?_
        rotate_left
        · intro w hSw; obtain ⟨s0, s1⟩ := hSw
          go_simp
          with_reducible rfl
        try simp only [Act.put, List.getElem_toArray, List.getElem_cons_zero, List.getElem_cons_succ, List.setIfInBounds_toArray, List.set_cons_zero, List.set_cons_succ]
        refine wpAnyH_ready (rs := [1]) (by kernel_rfl) (by simp) ?_
        refine AllReadyH.cons rfl (fun K hK => ?_) AllReadyH.nil
        rw [if_pos (by rfl)]
        go_simp
        refine (ix_nowhere _).mono ?_
        rintro e w2 ⟨rfl, hF⟩
        have HF2 := hid (((Fr.refl No wr).alloc (.cells #[.int .i64 (x : Int), .bool d] 44)).drew.trans hF)
        have HP2 := hid (blk_no hF HP.out)
        have HJ2 := hid (HJ.out _ _ _ none HJS.out HF2.out.grownBy (fun r e => by cases e))
        have HNX2 := hid (HNX.out.trans (HF2.out.mono (fun _ _ e => e.elim)))
        obtain ⟨s0, s1, _, _⟩ := blk2 HP2.out
        refine hK.out _ _ ⟨s0, s1⟩ (fun hHeld => ?_)
        clear hK K hF
        try simp only [Act.put, List.getElem_toArray, List.getElem_cons_zero, List.getElem_cons_succ, List.setIfInBounds_toArray, List.set_cons_zero, List.set_cons_succ]
        refine wpAnyH_take (i := 2) (v := ?_) rfl (by kernel_rfl) (by kernel_rfl) (by kernel_rfl) (fun _ _ _ h => h) (Or.inl ⟨by rfl, ?_⟩) hHeld ?_
        rotate_left
        · intro w hSw
          go_simp
          with_reducible rfl
        try simp only [Act.put, List.getElem_toArray, List.getElem_cons_zero, List.getElem_cons_succ, List.setIfInBounds_toArray, List.set_cons_zero, List.set_cons_succ]
        refine wpAnyH_done (by kernel_rfl) ?_ _
        have hw1 : IntKind.i64.wrap (a + (k : Int)) = a + k := by rw [IntKind.wrap_i64]; omega
        have hb0 := (cell_blk (blk_no HF2.out HS1.out) 0).trans (show _ = some (Value.int .i64 a) from rfl)
        obtain ⟨fn, tmps, assign, body, hy, hR⟩ := HY.out _ (a + (k : Int), some (x, d)) _ HJ2.out (by rw [← hyes]; exact HPRE.out)
        rw [← hyes] at hR
        simp only [plA, plS, plD] at hy
        refine (‹∀ (a : Act) (w : World), Code.wp _ _ _ a w → _›) _ _ ?_
        refine (wpIn_wide (n := n)).1 ?_
        gi_wp2
        refine (wpIn_wide (n := n)).1 ?_
        gi_wp2
        refine ⟨(fun h => by cases h), hR.mono ?_⟩
        rintro e W3 ⟨rfl, hJ3, hk3⟩
        gi_wp2
        go_wp2_with fail
        have HJ3 := hid hJ3
        have HN3 := hid (HNX2.out.trans hk3)
        go_roundg gk
        case measure => omega
        case rel => exact ⟨k + 1, by omega, by go_num, HJ3, HN3⟩
theorem none_calmN (n : Nat) (T : Nat → Prop) (w : World) : CalmN n Try.prog 33 #[] (fun x : Int × Pl => #[.int .i64 x.1, plA x.2]) T [] w := by
  intro l J W hbw hJ hY h0
  refine callsIn_of_wp Try.func33 rfl trivial ?_ rfl
  simp only [Try.ntmps33, List.size_toArray, List.length_cons, List.length_nil, Nat.reduceAdd, Nat.reduceSub, Array.replicate_succ, Array.replicate_zero, List.push_toArray, List.append_toArray, List.nil_append, List.cons_append]
  first
    | (gi_wp2; go_end0)
    | go_end0
  exact ⟨⟨_, rfl⟩, h0⟩
/-- what an iterator over these places gives -/
def gv : List Pl → Int → List (Int × Pl)
  | [], _ => []
  | none :: E, a => gv E (a + 1)
  | some q :: E, a => (a, some q) :: gv E (a + 1)
theorem gv_append : ∀ (E F : List Pl) (a : Int), gv (E ++ F) a = gv E a ++ gv F (a + (E.length : Int))
  | [], F, a => by simp [gv]
  | none :: E, F, a => by
    simp only [List.cons_append, gv, List.length_cons]
    rw [gv_append E F]; congr 2; omega
  | some q :: E, F, a => by
    simp only [List.cons_append, gv, List.length_cons]
    rw [gv_append E F]; congr 3; omega
theorem giv_gv (E : List Pl) (a : Int) : ∀ k, k ≤ E.length → giv E a k = gv (E.take k) a
  | 0, _ => by simp [giv, gv]
  | k + 1, hk => by
    have hk' : k < E.length := by omega
    have hgd : E.getD k none = E[k] := by rw [List.getD_eq_getElem?_getD, List.getElem?_eq_getElem hk']; rfl
    have ih := giv_gv E a k (by omega)
    have hl : (E.take k).length = k := by rw [List.length_take]; omega
    rw [List.take_succ_eq_append_getElem hk', gv_append, hl]
    cases e : E[k] with
    | none =>
      rw [giv_no (by rw [hgd, e]; rfl), ih]
      simp [gv]
    | some q =>
      rw [giv_yes (by rw [hgd, e]; rfl), ih, hgd, e]
      simp [gv]
theorem giv_all (E : List Pl) (a : Int) : giv E a E.length = gv E a := by rw [giv_gv E a _ (Nat.le_refl _), List.take_length]
/-- an iterator: what it gives, wherever what was made between b and b' is as it was -/
def IterV (w : World) (fv : Value) (xs : List (Int × Pl)) (b b' : Nat) : Prop := ∃ gf lb, fv = .func (.func gf) #[] lb ∧ (∀ args w, (callFunc gf args).run Try.prog w = .ok (.enter gf args) w) ∧ (∀ W, (binOp .eql 38 fv .nilFunc).run Try.prog W = .ok (.bool false) W) ∧
  ∀ (S T : Nat → Prop) (w' : World) (n : Nat), Fr S w w' → (∀ k, b ≤ k → k < b' → ¬ S k) → (∀ k, b ≤ k → k < b' → ¬ T k) → CalmN n Try.prog gf lb (fun x : Int × Pl => #[.int .i64 x.1, plA x.2]) T xs w'
/-- what All of a span gives -/
def allX (L : List Pl) (a n : Int) : List (Int × Pl) := if allOk L a n then gv (cutI L a.toNat (widthI L a n)) a else []
theorem cutI_len (L : List Pl) (a k : Nat) : (cutI L a k).length ≤ L.length := by unfold cutI; rw [List.length_take, List.length_drop]; omega
theorem ix_AllV (w : World) (p m c : Nat) (S : Nat → Prop) (L : List Pl) (h : Ix w p S L m c) (a n : Int) (hn63 : n ≤ 9223372036854775807) : Calls Try.prog 14 #[.pointer (some ⟨p, 0, none⟩), .agg #[.int .i64 a, .int .i64 n]] w fun e w' => ∃ fv, e = .returned fv ∧ IterV w' fv (allX L a n) w.heap.size w'.heap.size ∧ Fr No w w' := by
  have hlen := h.len
  cases hk : allOk L a n with
  | false =>
    refine (ix_All_bad w p m c S L h a n hk).mono ?_
    rintro e w' ⟨rfl, hF⟩
    refine ⟨_, rfl, ⟨_, _, rfl, enters_of Try.func33 (by kernel_rfl) rfl, fun _ => rfl, fun S T w'' n' _ _ _ => ?_⟩, hF⟩
    unfold allX; rw [hk]
    exact none_calmN n' T w''
  | true =>
    have hk' : 0 ≤ a ∧ 0 ≤ n ∧ a ≤ L.length := by simpa [allOk] using hk
    refine (ix_All w p m c S L h a n hk hn63).mono ?_
    rintro e w' ⟨Bp, Bs, rfl, hI, hF⟩
    refine ⟨_, rfl, ⟨_, _, rfl, enters_of Try.func35 (by kernel_rfl) rfl, fun _ => rfl, fun S T w'' n' hf hS hT => ?_⟩, hF⟩
    unfold allX; rw [hk, if_pos rfl, ← giv_all]
    exact all_calm n' Bp Bs T a n _ _ _ (by have := cutI_len L a.toNat (widthI L a n); omega) (by omega) w'' (hI.fr hf hS) hT
end Go.Proofs.Ytfggllhflibfcaa
