/- lavaboref02: the reference's ring: a list that is cut in front. -/
import Derived.Test.YtndljmkdgakfcaaRgSep
import Derived.Lib.JoinLaws
import Derived.ArgAppend
namespace Go.Proofs.Ytndljmkdgakfcaa
open Go.RowKit

/-- a slice in a block of the call's own, maybe behind the block's head -/
def OffRow (w : World) (base : Nat) (v : Value) (l : List Int) : Prop :=
  (v = .slice none 0 0 ∧ l = []) ∨ ∃ g o cap cs, v = .slice (some ⟨g, o, none⟩) l.length cap ∧ base ≤ g ∧ w.heap[g]? = some (.cells cs 3 (0, 0)) ∧ o + cap ≤ cs.size ∧ l.length ≤ cap ∧ ∀ j (hj : j < l.length), cs[o + j]? = some (iv l[j])
theorem OffRow.fr {w w' : World} {base : Nat} {v : Value} {l : List Int} (h : OffRow w base v l) {S : Nat → Prop} (f : Fr S w w') (hS : ∀ k, base ≤ k → v.ownBlock = some k → ¬ S k) : OffRow w' base v l := by
  rcases h with h | ⟨g, o, cap, cs, hv, hg, hb, h4⟩
  · exact .inl h
  · exact .inr ⟨g, o, cap, cs, hv, hg, (f.block g (lt_of_block hb) (hS g hg (by rw [hv]; rfl))).trans hb, h4⟩
theorem OffRow.ge {w : World} {base r : Nat} {v : Value} {l : List Int} (h : OffRow w base v l) (hr : v.ownBlock = some r) : base ≤ r := by
  rcases h with ⟨rfl, _⟩ | ⟨g, o, cap, cs, rfl, hg, _⟩
  · simp [Value.ownBlock] at hr
  · simp [Value.ownBlock] at hr; omega
theorem OffRow.ty {w : World} {base r : Nat} {v : Value} {l : List Int} (h : OffRow w base v l) (hr : v.ownBlock = some r) : ∃ cs, w.heap[r]? = some (.cells cs 3 (0, 0)) := by
  rcases h with ⟨rfl, _⟩ | ⟨g, o, cap, cs, rfl, hg, hb, _⟩
  · simp [Value.ownBlock] at hr
  · have e : g = r := by simpa [Value.ownBlock] using hr
    subst e
    exact ⟨cs, hb⟩
/-- the blocks that the reference's Put may write -/
def RS (w : World) (base px : Nat) (k : Nat) : Prop := k = px ∨ (base ≤ k ∧ ∃ cs, w.heap[k]? = some (.cells cs 3 (0, 0)))
theorem OffRow.len {w : World} {base : Nat} {v : Value} {l : List Int} (h : OffRow w base v l) : ∃ a c, v = .slice a l.length c := by
  rcases h with ⟨rfl, rfl⟩ | ⟨g, o, cap, cs, rfl, _⟩
  · exact ⟨_, _, rfl⟩
  · exact ⟨_, _, rfl⟩
theorem OffRow.own {w : World} {base b2 : Nat} {v : Value} {l : List Int} (h : w.ownsRow b2 3 1 v l.length (l.map iv)) (hb : base ≤ b2) : OffRow w base v l := by
  obtain ⟨_, ⟨hv, hn⟩ | ⟨g, cap, cur, hv, hg, hb2, h4, h5, h6, h7⟩⟩ := h
  · exact .inl ⟨hv, List.eq_nil_of_length_eq_zero hn⟩
  · refine .inr ⟨g, 0, cap, cur, hv, by omega, hb2, by omega, h4, fun j hj => ?_⟩
    rw [Nat.mul_one] at h7
    have h8 : (cur.toList.take l.length)[j]? = (l.map iv)[j]? := by rw [h7]
    rw [List.getElem?_take, if_pos hj, List.getElem?_map, List.getElem?_eq_getElem hj] at h8
    rw [Nat.zero_add]; simpa using h8
theorem wpList_append_off {P : Program} (w : World) {ops : Array Oper} {rest : List Oper} {o : Oper} {a : Act} {Q : Exit → Act → World → Prop} (hgd : o.guard = none) (s x : Operand) (t : TypeId)
    (ho : o.op = .call { callee := .builtin .append, args := #[s, x], argTypes := #[t, t] })
    (ht : P.underlying t = some (.slice 3)) (hinfo : (P.info? 3).map (fun i => (i.zero, i.size, i.bytes)) = some (some (.int .i64 0), 1, 8))
    (base : Nat) (hbase : base ≤ w.heap.size) (v : Value) (l : List Int) (hs : a.eval s = v) (h : OffRow w base v l)
    (ad : Addr) (y : Int) (hx : a.eval x = .slice (some ad) 1 1) (hc : ∀ j u, [iv y][j]? = some u → w.cell? (ad.add j) = some u) (hlen : l.length ≤ 100000)
    (hK : ∀ v' w', OffRow w' base v' (l ++ [y]) → Fr (fun k => v.ownBlock = some k) w w' → wpList P ops Q rest (a.put o.dst v') w') : wpList P ops Q (o :: rest) a w := by
  obtain ⟨i, hi, hz, hsz, hby⟩ := info_parts hinfo
  have hgrow : ∀ (ao : Option Addr) (cap : Nat), v = .slice ao l.length cap → (ao = none → l.length = 0 ∧ cap = 0) → (∀ b, ao = some b → ∀ j u, (l.map iv)[j]? = some u → w.cell? (b.add j) = some u) → cap < l.length + 1 → wpList P ops Q (o :: rest) a w := by
    intro ao cap hv hn hcs hfull
    refine wpList_append_grows w hgd s x t ho 3 i (.int .i64 0) 1 8 ht hi hz hsz hby rfl (by decide) ao l.length cap (l.map iv) (by rw [hs, hv]) hn (by simp) hcs ad 1 1 [iv y] hx rfl hc (by intro u hu; simp at hu; subst hu; rfl) hfull (by unfold maxLen; omega) (by omega) ?_
    intro v' w' hown hgr
    have hown' : w'.ownsRow w.heap.size 3 1 v' (l ++ [y]).length ((l ++ [y]).map iv) := by rw [List.length_append, List.map_append]; exact hown
    exact hK v' w' (OffRow.own hown' hbase) ((Fr.refl _ w).grown hgr (fun k e _ => by cases e))
  rcases h with ⟨rfl, rfl⟩ | ⟨g, o', cap, cs, rfl, hg, hb, hcap, hlc, hel⟩
  · exact hgrow none 0 rfl (fun _ => ⟨rfl, rfl⟩) (fun b e => by cases e) (by simp)
  · by_cases hroom : l.length + 1 ≤ cap
    · refine wpList_append_room1 w hgd s x t t ho 3 (.int .i64 0) 8 ht hinfo g o' l.length cap hs (.slice (some ad) 1 1) hx 1 [iv y] (Src.ofSlice (size := 1) w ht ad 1 1 [iv y] rfl hc (by intro u hu; simp at hu; subst hu; rfl)) hroom (fun j hj => ?_) (fun j hj => free_blk hb _) ?_
      · rw [cell_blk hb]; simp at hj; subst hj; rw [Array.getElem?_eq_getElem (by omega)]; rfl
      · have hb2 := set_blk hb (o' + l.length) (iv y)
        refine hK _ _ (.inr ⟨g, o', cap, cs.setIfInBounds (o' + l.length) (iv y), by simp, hg, hb2, by simp; omega, by simp; omega, fun j hj => ?_⟩) ((Fr.refl (fun k => Value.ownBlock (.slice (some ⟨g, o', none⟩) l.length cap) = some k) w).setCell (p := ⟨g, o' + l.length, none⟩) (fun _ => rfl) (iv y))
        rw [List.length_append, List.length_singleton] at hj
        by_cases hjl : j = l.length
        · subst hjl; rw [Array.getElem?_setIfInBounds_self_of_lt (by omega)]; simp
        · rw [Array.getElem?_setIfInBounds_ne (by omega), hel j (by omega)]
          simp [List.getElem_append, show j < l.length by omega]
    · refine hgrow (some ⟨g, o', none⟩) cap rfl (fun e => by cases e) (fun b e j u hu => ?_) (by omega)
      injection e with e; subst e
      have hj : j < l.length := by have := (List.getElem?_eq_some_iff.1 hu).1; simpa using this
      rw [add_off, cell_blk hb, hel j hj]
      rw [List.getElem?_map, List.getElem?_eq_getElem hj] at hu
      simpa using hu

/-- the reference's ring at block px -/
structure RR (w : World) (base px most : Nat) (l : List Int) (shut : Bool) : Prop where
  at_ : ∃ v, w.heap[px]? = some (.cells #[v, .int .i64 most, .bool shut] 31 (0, 0)) ∧ OffRow w base v l
  px : base ≤ px
def putI (most : Nat) (l : List Int) (shut : Bool) (x : Int) : List Int × Nat := if shut then (l, 16) else if l.length < most then (l ++ [x], 0) else (l, 17)
theorem OffRow.ne {w : World} {base px : Nat} {v u0 u1 u2 : Value} {l : List Int} (h : OffRow w base v l) (hb : w.heap[px]? = some (.cells #[u0, u1, u2] 31 (0, 0))) : v.ownBlock ≠ some px := by
  rcases h with ⟨rfl, _⟩ | ⟨g, o, cap, cs, rfl, hg, hb2, _⟩
  · simp [Value.ownBlock]
  · intro e
    have e : g = px := by simpa [Value.ownBlock] using e
    subst e
    rw [hb] at hb2
    injection hb2 with hb2
    injection hb2 with _ ht _
    exact absurd ht (by decide)
set_option maxRecDepth 100000 in
theorem rr_Put (w : World) (base px most : Nat) (l : List Int) (shut : Bool) (x : Int) (h : RR w base px most l shut) (hbase : base ≤ w.heap.size) (hlen : l.length ≤ 100000) : Calls Try.prog 28 #[.pointer (some ⟨px, 0, none⟩), .int .i64 x] w fun e w' => e = .returned (.int .i64 (((putI most l shut x).2 : Nat) : Int)) ∧ RR w' base px most (putI most l shut x).1 shut ∧ Fr (RS w base px) w w' := by
  have HRR := hid h
  obtain ⟨⟨v, hb, hO⟩, hpx⟩ := h
  have c0 := cell_blk hb 0
  have c1 := cell_blk hb 1
  have c2 := cell_blk hb 2
  simp only [List.getElem?_toArray, List.getElem?_cons_zero, List.getElem?_cons_succ] at c0 c1 c2
  unfold putI
  cases shut
  · rw [if_neg (by simp)]
    obtain ⟨av, cv, rfl⟩ := hO.len
    have HO := hid hO
    have HB := hid hb
    have HNE := hid (hO.ne hb)
    clear hO hb
    by_cases hr : l.length < most
    · rw [if_pos hr]
      have hr1 : (l.length : Int) < (most : Int) := by omega
      go_enter Try.func28, Try.ntmps28
      go_wp2_with fail
      go_region
      have d0 : w.drew.cell? ⟨px, 0, none⟩ = some (.slice av l.length cv) := c0
      have HA2 := hid (HO.out.fr ((Fr.refl No w).drew.alloc (.cells #[.int .i64 x] 3)) (fun _ _ _ => id))
      have HF2 := hid ((Fr.refl No w).drew.alloc (.cells #[.int .i64 x] 3))
      have hsz2 : base ≤ (w.drew.alloc (.cells #[.int .i64 x] 3)).heap.size := Nat.le_trans hbase HF2.out.size
      go_wp2_with (at_builtin; refine wpList_append_off _ rfl (.tmp 23) (.tmp 25) 29 rfl Try.underlying29 int_info base hsz2 (.slice av l.length cv) l rfl HA2.out ⟨w.heap.size, 0, none⟩ x rfl (cell_one_new _ _ _) hlen ?_; intro v3 w3 hO3 hF3; obtain ⟨av3, cv3, hv3⟩ := hO3.len; rw [List.length_append, List.length_singleton] at hv3; subst hv3; have HB3 := hid ((hF3.block px (lt_of_block ((HF2.out.block px (lt_of_block HB.out) id).trans HB.out)) HNE.out).trans ((HF2.out.block px (lt_of_block HB.out) id).trans HB.out)); have c3 := cell_blk HB3.out 0; have f3 := free_blk HB3.out 0; have HS3 := hid (set_blk HB3.out 0 (.slice av3 (l.length + 1) cv3)); have HNE3 := hid (hO3.ne HB3.out); simp only [List.getElem?_toArray, List.getElem?_cons_zero] at c3)
      go_ret
      have HFS := Fr.set1 w3 px 0 (.slice av3 (l.length + 1) cv3)
      refine ⟨rfl, ⟨⟨_, HS3.out, hO3.fr HFS (fun k _ hk e => HNE3.out (hk.trans (congrArg some e)))⟩, hpx⟩, ?_⟩
      refine ((HF2.out.mono (T := RS w base px) (fun _ _ h => h.elim)).trans (hF3.mono (fun k _ hk => ?_))).trans (HFS.mono (fun k _ e => .inl e))
      exact .inr ⟨HO.out.ge hk, HO.out.ty hk⟩
    · rw [if_neg hr]
      have hr1 : (most : Int) ≤ (l.length : Int) := by omega
      go_enter Try.func28, Try.ntmps28
      go_wp2_with fail
      go_region
      go_wp2_with fail
      go_ret
      exact ⟨rfl, ⟨⟨_, HB.out, HO.out.fr (Fr.refl No w).drew (fun _ _ _ => id)⟩, hpx⟩, (Fr.refl _ w).drew⟩
  · rw [if_pos rfl]
    go_enter Try.func28, Try.ntmps28
    go_wp2_with fail
    go_ret
    exact ⟨rfl, HRR.out, Fr.refl _ w⟩
def takeI (l : List Int) : (Int × Nat) × List Int := match l with
  | [] => ((0, 14), [])
  | x :: t => ((x, 0), t)
theorem rr_Take0 (w : World) (base px most : Nat) (shut : Bool) (h : RR w base px most [] shut) : Calls Try.prog 29 #[.pointer (some ⟨px, 0, none⟩)] w fun e w' => e = .returned (.tuple #[.int .i64 0, .int .i64 14]) ∧ w' = w := by
  obtain ⟨⟨v, hb, hO⟩, hpx⟩ := h
  have c0 := cell_blk hb 0
  simp only [List.getElem?_toArray, List.getElem?_cons_zero, List.getElem?_cons_succ] at c0
  obtain ⟨av, cv, rfl⟩ := hO.len
  go_enter Try.func29, Try.ntmps29
  go_wp2_with fail
  go_ret2
  exact ⟨rfl, rfl⟩
set_option maxRecDepth 100000 in
theorem rr_Take1 (w : World) (base px most : Nat) (x : Int) (l : List Int) (shut : Bool) (h : RR w base px most (x :: l) shut) : Calls Try.prog 29 #[.pointer (some ⟨px, 0, none⟩)] w fun e w' => e = .returned (.tuple #[.int .i64 x, .int .i64 0]) ∧ RR w' base px most l shut ∧ Fr (fun k => base ≤ k) w w' := by
  obtain ⟨⟨v, hb, hO⟩, hpx⟩ := h
  have c0 := cell_blk hb 0
  have f0 := free_blk hb 0
  have HNE := hid (hO.ne hb)
  have HB := hid hb
  simp only [List.getElem?_toArray, List.getElem?_cons_zero, List.getElem?_cons_succ] at c0
  rcases hO with ⟨_, h0⟩ | ⟨g, o, cap, cs, rfl, hg, hb2, hcap, hlc, hel⟩
  · cases h0
  have hgpx : g ≠ px := fun e => HNE.out (by subst e; rfl)
  have cx : w.cell? ⟨g, o, none⟩ = some (.int .i64 x) := by
    rw [cell_blk hb2]; exact hel 0 (by simp)
  have hl1 : (x :: l).length = l.length + 1 := rfl
  rw [hl1] at c0 HNE HB hlc
  have HEL := hid hel
  clear hel hb hl1
  go_enter Try.func29, Try.ntmps29
  have HG2 := hid hb2
  have HGZ := hid (lt_of_block hb2)
  clear hb2
  go_wp2_with fail
  all_goals
    go_ret2
    refine ⟨rfl, ⟨⟨_, set_blk HB.out 0 _, ?_⟩, hpx⟩, (Fr.set1 w px 0 _).mono (fun k _ e => by subst e; exact hpx)⟩
  · refine .inr ⟨g, o, 0, cs, rfl, hg, ((Fr.set1 w px 0 _).block g HGZ.out hgpx).trans HG2.out, by omega, by omega, fun j hj => ?_⟩
    omega
  · refine .inr ⟨g, o + 1, cap - 1, cs, rfl, hg, ((Fr.set1 w px 0 _).block g HGZ.out hgpx).trans HG2.out, by omega, by omega, fun j hj => ?_⟩
    have := HEL.out (j + 1) (by simp; omega)
    rw [show o + 1 + j = o + (j + 1) by omega, this]; rfl
theorem rr_Room (w : World) (base px most : Nat) (l : List Int) (shut : Bool) (h : RR w base px most l shut) (hl : l.length ≤ most) (hm : most ≤ 1024) : Calls Try.prog 14 #[.pointer (some ⟨px, 0, none⟩)] w fun e w' => e = .returned (.int .i64 ((roomR most (l.map iv) shut : Nat) : Int)) ∧ Fr No w w' := by
  obtain ⟨⟨v, hb, hO⟩, hpx⟩ := h
  have c0 := cell_blk hb 0
  have c1 := cell_blk hb 1
  have c2 := cell_blk hb 2
  simp only [List.getElem?_toArray, List.getElem?_cons_zero, List.getElem?_cons_succ] at c0 c1 c2
  obtain ⟨av, cv, rfl⟩ := hO.len
  clear hO hb
  have hr : ((roomR most (l.map iv) false : Nat) : Int) = (most : Int) - (l.length : Int) := by unfold roomR; simp; omega
  have hl' : (l.length : Int) ≤ 1024 := by omega
  have hl2 : (l.length : Int) ≤ most := by omega
  cases shut
  · go_enter Try.func14, Try.ntmps14
    go_wp2_with fail
    go_region
    go_wp2_with fail
    go_ret
    exact ⟨by rw [hr]; rfl, (Fr.refl _ w).drew⟩
  · go_enter Try.func14, Try.ntmps14
    go_wp2_with fail
    go_ret
    exact ⟨rfl, Fr.refl _ w⟩
end Go.Proofs.Ytndljmkdgakfcaa
