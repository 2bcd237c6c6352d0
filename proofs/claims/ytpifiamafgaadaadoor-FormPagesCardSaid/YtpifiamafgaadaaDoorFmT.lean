/- forms: the reference's rows of numbers. -/
import Derived.Test.YtpifiamafgaadaaDoorFmS
import Derived.Test.YtpifiamafgaadaaDoorFmR
namespace Go.Proofs.YtpifiamafgaadaaDoor
open Go.RowKit Go.Shelf
def refL (x : NumI) : List Value := [.int .i64 x.n, .int .i64 (x.size : Int), .int .i64 x.lo, .int .i64 x.hi]
def refT (x : NumI) : Value := .agg #[.int .i64 x.n, .int .i64 (x.size : Int), .int .i64 x.lo, .int .i64 x.hi]
theorem refL_len (x : NumI) : (refL x).length = 4 := rfl
theorem refL_one (x : NumI) : ∀ u ∈ refL x, u.oneCell' = true := fun u hu => by
  simp only [refL, List.mem_cons, List.not_mem_nil, or_false] at hu
  rcases hu with rfl | rfl | rfl | rfl <;> rfl
theorem ref_info : (Tryd.prog.info? 96).map (fun i => (i.zero.map (·.cells.size), i.size, i.bytes)) = some (some 4, 4, 32) := by kernel_rfl
set_option maxRecDepth 100000 in
theorem ref_slice (l : List NumI) (hl : 0 < l.length) (hl2 : l.length ≤ 1000) (w : World) (ps : Array (Nat × Value)) (hps : ps.toList = (l.zipIdx).map fun x => (x.2, refT x.1)) :
    (Instr.buildSlice 33 l.length ps).run Tryd.prog w = .ok (.slice (some ⟨w.heap.size, 0, none⟩) l.length l.length) (w.alloc (.cells (l.flatMap refL).toArray 96)) := by
  obtain ⟨ie, hie, he⟩ := Option.map_eq_some_iff.1 ref_info
  simp only [Prod.mk.injEq] at he
  obtain ⟨hz', hs, _⟩ := he
  obtain ⟨z, hz, hzs⟩ := Option.map_eq_some_iff.1 hz'
  have hfl := flat_len refL 4 l (fun x _ => refL_len x)
  refine run_buildSlice w 33 96 l.length ps _ ie z Tryd.underlying33 hie hz (by rw [hs]; omega) (by rw [hs]; omega) ?_
  rw [hs]
  obtain ⟨r, hr, hsz, hk⟩ := Great.fill_dense (s := 4) (by decide) (l.map refT) 0 ((Array.range (l.length * 4)).map (z.cells[· % z.cells.size]!)) (fun v hv => by obtain ⟨x, _, rfl⟩ := List.mem_map.1 hv; rfl) (by simp)
  have hps' : ps.toList = ((l.map refT).zipIdx 0).map fun x => (x.2, x.1) := by rw [hps, List.zipIdx_map, List.map_map]; rfl
  rw [hps', hr]
  congr 1
  apply Array.ext_getElem?
  intro k
  rw [hk k]
  simp only [List.length_map, Nat.zero_add, Nat.zero_mul, Nat.zero_le, true_and, Nat.sub_zero, List.getElem?_toArray]
  by_cases h : k < l.length * 4
  · rw [if_pos h]
    have h1 : k / 4 < l.length := by omega
    have := flat_get refL 4 l (fun x _ => refL_len x) (k / 4) h1 (k % 4) (by omega)
    rw [show k / 4 * 4 + k % 4 = k by omega] at this
    rw [this, List.getElem?_map, List.getElem?_eq_getElem h1, Option.map_some, Option.bind_some]
    show ((refL l[k / 4]).toArray)[k % 4]? = _
    exact List.getElem?_toArray
  · rw [if_neg h, List.getElem?_eq_none (by rw [hfl]; omega)]
    simp; omega
/-- a row of the reference's, of the call's own -/
def Refs (w : World) (v : Value) (l : List NumI) (B : Nat) : Prop := w.ownsRow B 96 4 v l.length (l.flatMap refL)
theorem Refs.no {w w' : World} {v : Value} {l : List NumI} {B : Nat} (h : Refs w v l B) (f : Fr No w w') : Refs w' v l B := own_frk h f (fun _ _ => id)
theorem Refs.frk {S : Nat → Prop} {w w' : World} {v : Value} {l : List NumI} {B : Nat} (h : Refs w v l B) (f : Fr S w w') (hS : ∀ k, v.ownBlock = some k → ¬ S k) : Refs w' v l B := own_frk h f hS
theorem Refs.lower {w : World} {v : Value} {l : List NumI} {B B' : Nat} (h : Refs w v l B) (hB : B' ≤ B) : Refs w v l B' := by
  obtain ⟨h1, h2 | ⟨g, cap, cur, hv, hg, h3⟩⟩ := h
  · exact ⟨h1, .inl h2⟩
  · exact ⟨h1, .inr ⟨g, cap, cur, hv, Nat.le_trans hB hg, h3⟩⟩
theorem refs_new (l : List NumI) (hl2 : l.length ≤ 1000) (w : World) (B : Nat) (hB : B ≤ w.heap.size) : Refs (w.alloc (.cells (l.flatMap refL).toArray 96)) (.slice (some ⟨w.heap.size, 0, none⟩) l.length l.length) l B := by
  have hfl := flat_len refL 4 l (fun x _ => refL_len x)
  exact ⟨hfl, .inr ⟨w.heap.size, l.length, _, rfl, hB, heap_new w _, Nat.le_refl _, by unfold maxLen; omega, by rw [List.size_toArray, hfl], List.take_of_length_le (by rw [← hfl]; exact Nat.le_refl _)⟩⟩
set_option maxRecDepth 100000 in
/-- a row is appended to a row -/
theorem wp_append_refs {o : Oper} {a : Act} {w : World} {K : Act → World → Prop} {Q : Exit → Act → World → Prop} (s x : Operand)
    (ho : o.op = .call { callee := .builtin .append, args := #[s, x], argTypes := #[33, 33] })
    (v u : Value) (hs : a.eval s = v) (hx : a.eval x = u) (l r : List NumI) (B B' : Nat) (hl : Refs w v l B) (hr : Refs w u r B') (hr0 : 0 < r.length) (hlen : l.length + r.length ≤ 1000) (hBw : B ≤ w.heap.size)
    (h : ∀ v' w', Refs w' v' (l ++ r) B → Fr (fun k => B ≤ k) w w' → K (a.put o.dst v') w') : o.wp Tryd.prog a w K Q := by
  obtain ⟨ie, hie, he⟩ := Option.map_eq_some_iff.1 ref_info
  simp only [Prod.mk.injEq] at he
  obtain ⟨hz', hsz, hby⟩ := he
  obtain ⟨z, hz, hzs⟩ := Option.map_eq_some_iff.1 hz'
  have hfl := flat_len refL 4 r (fun x _ => refL_len x)
  obtain ⟨e0, ⟨_, e1⟩ | ⟨g, cap, cur, hu, hg, hb, k4, k5, k6, k7⟩⟩ := hr
  · omega
  have hwi : ∀ k, v.ownBlock = some k → B ≤ k := fun k hk => (World.ownsRow.lt hl k hk).1
  refine wp_append_lies w s x 33 ho B 96 ie z 4 32 Tryd.underlying33 hie hz hsz hby hzs (by decide) v l.length _ hs hl ⟨g, 0, none⟩ r.length cap (r.flatMap refL) (hx.trans hu) (by rw [hfl]) (fun j y hy => ?_) (fun y hy => ?_) hr0 (by unfold maxLen; omega) (by omega) hBw w.heap.size rfl ?_
  · have hj : j < (r.flatMap refL).length := (List.getElem?_eq_some_iff.1 hy).1
    have : cur[j]? = some y := by
      rw [← hy, ← k7, List.getElem?_take, if_pos (by rw [hfl] at hj; omega)]
      simp
    have hadd : (⟨g, 0, none⟩ : Addr).add j = ⟨g, j, none⟩ := by unfold Addr.add; split <;> simp_all
    rw [hadd, cell_blk hb j, this]
  · obtain ⟨q, hq, hqy⟩ := List.mem_flatMap.1 hy
    exact refL_one q y hqy
  · intro G cp w' hown hgrow hG hGs
    exact h _ w' (by unfold Refs; rw [List.length_append, List.flatMap_append]; exact hown) ((grown_fr hgrow).mono (fun k _ hk => hwi k hk))
set_option maxRecDepth 100000 in
theorem wpList_append_refs {ops : Array Oper} {rest : List Oper} {o : Oper} {a : Act} {w : World} {Q : Exit → Act → World → Prop} (hgd : o.guard = none) (s x : Operand)
    (ho : o.op = .call { callee := .builtin .append, args := #[s, x], argTypes := #[33, 33] })
    (v u : Value) (hs : a.eval s = v) (hx : a.eval x = u) (l r : List NumI) (B B' : Nat) (hl : Refs w v l B) (hr : Refs w u r B') (hr0 : 0 < r.length) (hlen : l.length + r.length ≤ 1000) (hBw : B ≤ w.heap.size)
    (h : ∀ v' w', Refs w' v' (l ++ r) B → Fr (fun k => B ≤ k) w w' → wpList Tryd.prog ops Q rest (a.put o.dst v') w') : wpList Tryd.prog ops Q (o :: rest) a w :=
  wpList_plain hgd fun _ hK => wp_append_refs s x ho v u hs hx l r B B' hl hr hr0 hlen hBw (fun v' w' h1 h2 => hK _ _ (h v' w' h1 h2))
theorem ref_size : (Tryd.prog.info? 96).map (·.size) = some 4 := by kernel_rfl
set_option maxRecDepth 100000 in
theorem rf_seq (w : World) (n lo : Int) : Calls Tryd.prog 39 #[.int .i64 n, .int .i64 lo] w fun e w' => e = .returned (refT ⟨n, 6, lo, 1099511627776⟩) ∧ Fr No w w' := by
  go_enter Tryd.func39, Tryd.ntmps39
  go_wp2_with fail
  exact bodyPost_ret (v := refT ⟨n, 6, lo, 1099511627776⟩) (results_cell_row (fn := Tryd.f39) (p := 4) rfl _ _ w.heap.size 96 _ (0, 0) _ rfl (heap_new w _) Tryd.underlying96 rfl ref_size) rfl ⟨rfl, (Fr.refl No w).alloc _⟩
set_option maxRecDepth 100000 in
theorem rf_two (w : World) (n lo hi : Int) : Calls Tryd.prog 40 #[.int .i64 n, .int .i64 lo, .int .i64 hi] w fun e w' => e = .returned (refT ⟨n, 2, lo, hi⟩) ∧ Fr No w w' := by
  go_enter Tryd.func40, Tryd.ntmps40
  go_wp2_with fail
  exact bodyPost_ret (v := refT ⟨n, 2, lo, hi⟩) (results_cell_row (fn := Tryd.f40) (p := 6) rfl _ _ w.heap.size 96 _ (0, 0) _ rfl (heap_new w _) Tryd.underlying96 rfl ref_size) rfl ⟨rfl, (Fr.refl No w).alloc _⟩
theorem rf_bit (w : World) (d : Bool) : Calls Tryd.prog 48 #[.bool d] w fun e w' => e = .returned (.int .i64 (bitI d)) ∧ w' = w := by
  cases d
  all_goals
    go_enter Tryd.func48, Tryd.ntmps48
    go_wp2_with fail
    go_ret
    exact ⟨rfl, rfl⟩
end Go.Proofs.YtpifiamafgaadaaDoor
