/- forms: rows of numbers as they lie in memory. -/
import Derived.Test.YtpifiamafgaadaaDoorFmA
import Derived.Test.YtpifiamafgaadaaDoorOwn
import Derived.Test.YtpifiamafgaadaaDoorStl
import Derived.Great.BuildSlice
import Derived.Deep.AppendLies
namespace Go.Proofs.YtpifiamafgaadaaDoor
open Go.RowKit Go.Shelf
theorem Laid.no {w w' : World} (h : Laid w) (f : Fr No w w') : Laid w' := ⟨h.1.fr f h.2 id, f.lt h.2⟩
theorem exec_load_whole {P : Program} {o : Oper} {a : Act} {w : World} (ty : TypeId) (x : Operand) (ho : o.op = .load ty x) (g : Nat) (hx : a.eval x = .pointer (some ⟨g, 0, none⟩)) (t : TypeId) (cs : Array Value) (fr : Nat × Nat) (d : TypeDesc)
    (hg : w.heap[g]? = some (.cells cs t fr)) (hu : P.underlying ty = some d) (hd : (match d with | .struct _ | .array _ _ => true | _ => false) = true) (hi : (P.info? ty).map (·.size) = some cs.size) : (execOp a.eval o).run P w = .ok (.value (.agg cs)) w := by
  unfold execOp
  simp only [ho, hx, Instr.loadAt, Instr.sureAddr, Sem.run_bind, Sem.run_pure, Result.andThen_ok, run_loadVar_row w g t ty cs fr _ hg hu hd hi]
theorem bytesN_take_le (l : List NumI) (k : Nat) : (bytesN (l.take k)).length ≤ (bytesN l).length := by
  have h : bytesN (l.take k) ++ bytesN (l.drop k) = bytesN l := by rw [← bytesN_append, List.take_append_drop]
  rw [← h, List.length_append]; omega
theorem okAll_at {l : List NumI} (k : Nat) (hk : k < l.length) (h : l[k].ok = false) : okAll l = false := by
  rw [Bool.eq_false_iff]
  intro hh
  have := List.all_eq_true.1 hh l[k] (List.getElem_mem hk)
  rw [h] at this; cases this
theorem okAll_of {l : List NumI} (h : ∀ (j : Nat) (hj : j < l.length), l[j].ok = true) : okAll l = true := by
  refine List.all_eq_true.2 (fun x hx => ?_)
  obtain ⟨j, hj, rfl⟩ := List.getElem_of_mem hx
  exact h j hj
/-- a number with what tells it and what sets it -/
abbrev NumT := NumI × Value × Value
def numL (x : NumT) : List Value := [.int .i64 (x.1.size : Int), .int .i64 x.1.lo, .int .i64 x.1.hi, x.2.1, x.2.2]
def numT (x : NumT) : Value := numV x.1 x.2.1 x.2.2
theorem numL_len (x : NumT) : (numL x).length = 5 := rfl
theorem numT_eq (x : NumT) : numT x = .agg (numL x).toArray := rfl
theorem num_info : (Tryd.prog.info? 87).map (fun i => (i.zero.map (·.cells.size), i.size)) = some (some 5, 5) := by kernel_rfl
set_option maxRecDepth 100000 in
theorem num_slice (l : List NumT) (hl : 0 < l.length) (hl2 : l.length ≤ 1000) (w : World) (ps : Array (Nat × Value)) (hps : ps.toList = (l.zipIdx).map fun x => (x.2, numT x.1)) :
    (Instr.buildSlice 82 l.length ps).run Tryd.prog w = .ok (.slice (some ⟨w.heap.size, 0, none⟩) l.length l.length) (w.alloc (.cells (l.flatMap numL).toArray 87)) := by
  obtain ⟨ie, hie, he⟩ := Option.map_eq_some_iff.1 num_info
  simp only [Prod.mk.injEq] at he
  obtain ⟨hz', hs⟩ := he
  obtain ⟨z, hz, hzs⟩ := Option.map_eq_some_iff.1 hz'
  have hfl := flat_len numL 5 l (fun x _ => numL_len x)
  refine run_buildSlice w 82 87 l.length ps _ ie z Tryd.underlying82 hie hz (by rw [hs]; omega) (by rw [hs]; omega) ?_
  rw [hs]
  obtain ⟨r, hr, hsz, hk⟩ := Great.fill_dense (s := 5) (by decide) (l.map numT) 0 ((Array.range (l.length * 5)).map (z.cells[· % z.cells.size]!)) (fun v hv => by obtain ⟨x, _, rfl⟩ := List.mem_map.1 hv; rfl) (by simp)
  have hps' : ps.toList = ((l.map numT).zipIdx 0).map fun x => (x.2, x.1) := by rw [hps, List.zipIdx_map, List.map_map]; rfl
  rw [hps', hr]
  congr 1
  apply Array.ext_getElem?
  intro k
  rw [hk k]
  simp only [List.length_map, Nat.zero_add, Nat.zero_mul, Nat.zero_le, true_and, Nat.sub_zero, List.getElem?_toArray]
  by_cases h : k < l.length * 5
  · rw [if_pos h]
    have h1 : k / 5 < l.length := by omega
    have := flat_get numL 5 l (fun x _ => numL_len x) (k / 5) h1 (k % 5) (by omega)
    rw [show k / 5 * 5 + k % 5 = k by omega] at this
    rw [this, List.getElem?_map, List.getElem?_eq_getElem h1, Option.map_some, Option.bind_some, numT_eq]
    show ((numL l[k / 5]).toArray)[k % 5]? = _
    exact List.getElem?_toArray
  · rw [if_neg h, List.getElem?_eq_none (by rw [hfl]; omega)]
    simp; omega
theorem num_info3 : (Tryd.prog.info? 87).map (fun i => (i.zero.map (·.cells.size), i.size, i.bytes)) = some (some 5, 5, 40) := by kernel_rfl
theorem Tells.more {w : World} {fv : Value} {n : Int} {R R' : Nat → Prop} (h : Tells w fv n R) (hR : ∀ k, R k → R' k) : Tells w fv n R' := by
  obtain ⟨gf, lb, rfl, he, hc⟩ := h
  exact ⟨gf, lb, rfl, he, fun S w' f h' => hc S w' f (fun k hk => h' k (hR k hk))⟩
/-- a row of numbers, of the call's own: what they tell is there as long as X and the blocks of C, that are new since B, are as they are -/
def Nums (w : World) (v : Value) (l : List NumI) (X : Nat → Prop) (B : Nat) : Prop :=
  ∃ (ts : List NumT) (C : Nat → Prop), ts.map (·.1) = l ∧ w.ownsRow B 87 5 v l.length (ts.flatMap numL) ∧ (∀ k, C k → B ≤ k ∧ k < w.heap.size ∧ v.ownBlock ≠ some k) ∧ (∀ x ∈ ts, Tells w x.2.1 x.1.n (fun k => X k ∨ C k)) ∧ ∀ x ∈ ts, IsF x.2.2
theorem Nums.no {w w' : World} {v : Value} {l : List NumI} {X : Nat → Prop} {B : Nat} (h : Nums w v l X B) (f : Fr No w w') : Nums w' v l X B := by
  obtain ⟨ts, C, h1, h2, h3, h4, h5⟩ := h
  exact ⟨ts, C, h1, own_frk h2 f (fun _ _ => id), fun k hk => ⟨(h3 k hk).1, f.lt (h3 k hk).2.1, (h3 k hk).2.2⟩, fun x hx => (h4 x hx).no f, h5⟩
theorem Nums.lt {w : World} {v : Value} {l : List NumI} {X : Nat → Prop} {B : Nat} (h : Nums w v l X B) : ∀ k, v.ownBlock = some k → k < w.heap.size := by
  intro k hk
  obtain ⟨ts, C, h1, h2, h3, h4⟩ := h
  obtain ⟨cs, hc⟩ := own_ty h2 hk
  exact lt_of_block hc
theorem nums_new (ts : List NumT) (hl : 0 < ts.length) (hl2 : ts.length ≤ 1000) (w : World) (B : Nat) (hB : B ≤ w.heap.size) (X : Nat → Prop) (hT : ∀ x ∈ ts, Tells w x.2.1 x.1.n (fun k => X k ∨ (B ≤ k ∧ k < w.heap.size))) (h1 : ∀ x ∈ ts, IsF x.2.2) (l : List NumI) (he : ts.map (·.1) = l) :
    Nums (w.alloc (.cells (ts.flatMap numL).toArray 87)) (.slice (some ⟨w.heap.size, 0, none⟩) ts.length ts.length) l X B := by
  have hfl := flat_len numL 5 ts (fun x _ => numL_len x)
  have hn : l.length = ts.length := by rw [← he]; simp
  refine ⟨ts, fun k => B ≤ k ∧ k < w.heap.size, he, ?_, fun k hk => ⟨hk.1, by rw [World.size_alloc]; omega, fun e => ?_⟩, fun x hx => (hT x hx).no ((Fr.refl No w).alloc _), h1⟩
  · rw [hn]
    exact ⟨hfl, .inr ⟨w.heap.size, ts.length, _, rfl, hB, heap_new w _, Nat.le_refl _, by unfold maxLen; omega, by rw [List.size_toArray, hfl], List.take_of_length_le (by rw [← hfl]; exact Nat.le_refl _)⟩⟩
  · have e : w.heap.size = k := by simpa [Value.ownBlock] using e
    omega
/-- what tells, as long as block X and all that is new since B are as they were -/
def TellB (w : World) (fv : Value) (n : Int) (X B : Nat) : Prop := Tells w fv n (fun k => k = X ∨ (B ≤ k ∧ k < w.heap.size))
theorem TellB.no {w w' : World} {fv : Value} {n : Int} {X B : Nat} (h : TellB w fv n X B) (f : Fr No w w') : TellB w' fv n X B :=
  (Tells.no h f).more (fun k hk => hk.imp id (fun h => ⟨h.1, f.lt h.2⟩))
theorem TellB.of {w' : World} {fv : Value} {n : Int} {X B m : Nat} (h : Tells w' fv n (fun k => k = X ∨ k = m)) (hB : B ≤ m) (hm : m < w'.heap.size) : TellB w' fv n X B := h.more (fun k hk => hk.imp id (fun h => by subst h; exact ⟨hB, hm⟩))
theorem fm_wholeB (w : World) (X o : Nat) (size : Nat) (lo hi n : Int) (hb : w.cell? ⟨X, o, none⟩ = some (.int .i64 n)) (B : Nat) (hB : B ≤ w.heap.size) : Calls Tryd.prog 32 #[.pointer (some ⟨X, o, none⟩), .int .i64 (size : Int), .int .i64 lo, .int .i64 hi] w fun e w' =>
    ∃ ft fs, e = .returned (numT (⟨n, size, lo, hi⟩, ft, fs)) ∧ TellB w' ft n X B ∧ IsF fs ∧ Fr No w w' := (fm_whole w X o size lo hi n hb).mono fun e w' ⟨ft, fs, h1, h2, h3, h4, h5⟩ => ⟨ft, fs, h1, TellB.of h2 hB h5, h4, h3⟩
theorem fm_flagB (w : World) (X o : Nat) (d : Bool) (hb : w.cell? ⟨X, o, none⟩ = some (.bool d)) (B : Nat) (hB : B ≤ w.heap.size) : Calls Tryd.prog 54 #[.pointer (some ⟨X, o, none⟩)] w fun e w' =>
    ∃ ft fs, e = .returned (numT (⟨bitI d, 1, 0, 1⟩, ft, fs)) ∧ TellB w' ft (bitI d) X B ∧ IsF fs ∧ Fr No w w' := (fm_flag w X o d hb).mono fun e w' ⟨ft, fs, h1, h2, h3, h4, h5⟩ => ⟨ft, fs, h1, TellB.of h2 hB h5, h4, h3⟩
theorem Tells.one {w : World} {fv : Value} {n : Int} {R : Nat → Prop} (h : Tells w fv n R) : fv.oneCell' = true := by
  obtain ⟨gf, lb, rfl, _⟩ := h
  rfl
theorem numL_one (x : NumT) (h1 : x.2.1.oneCell' = true) (h2 : x.2.2.oneCell' = true) : ∀ u ∈ numL x, u.oneCell' = true := by
  intro u hu
  simp only [numL, List.mem_cons, List.not_mem_nil, or_false] at hu
  rcases hu with rfl | rfl | rfl | rfl | rfl
  · rfl
  · rfl
  · rfl
  · exact h1
  · exact h2
set_option maxRecDepth 100000 in
/-- a row is appended to a row -/
theorem wp_append_nums {o : Oper} {a : Act} {w : World} {K : Act → World → Prop} {Q : Exit → Act → World → Prop} (s x : Operand)
    (ho : o.op = .call { callee := .builtin .append, args := #[s, x], argTypes := #[82, 82] })
    (v u : Value) (hs : a.eval s = v) (hx : a.eval x = u) (l r : List NumI) (X : Nat → Prop) (B B' : Nat) (hl : Nums w v l X B) (hr : Nums w u r X B') (hr0 : 0 < r.length) (hlen : l.length + r.length ≤ 1000)
    (hB : B ≤ B') (hBw : B' ≤ w.heap.size) (hv : ∀ k, v.ownBlock = some k → k < B') (hX : ∀ k, X k → k < B)
    (h : ∀ v' w', Nums w' v' (l ++ r) X B → Fr (fun k => B ≤ k) w w' → K (a.put o.dst v') w') : o.wp Tryd.prog a w K Q := by
  obtain ⟨ts, C, h1, h2, h3, h4, h5⟩ := hl
  obtain ⟨ts', C', g1, g2, g3, g4, g5⟩ := hr
  obtain ⟨ie, hie, he⟩ := Option.map_eq_some_iff.1 num_info3
  simp only [Prod.mk.injEq] at he
  obtain ⟨hz', hsz, hby⟩ := he
  obtain ⟨z, hz, hzs⟩ := Option.map_eq_some_iff.1 hz'
  have hrl : r.length = ts'.length := by rw [← g1]; simp
  have hfl := flat_len numL 5 ts' (fun x _ => numL_len x)
  obtain ⟨e0, ⟨_, e1⟩ | ⟨g, cap, cur, hu, hg, hb, k4, k5, k6, k7⟩⟩ := g2
  · omega
  have hwi : ∀ k, v.ownBlock = some k → B ≤ k := fun k hk => (h2.lt k hk).1
  refine wp_append_lies w s x 82 ho B 87 ie z 5 40 Tryd.underlying82 hie hz hsz hby hzs (by decide) v l.length _ hs h2 ⟨g, 0, none⟩ r.length cap (ts'.flatMap numL) (hx.trans hu) (by rw [hfl, hrl]) (fun j y hy => ?_) (fun y hy => ?_) hr0 (by unfold maxLen; omega) (by omega) (Nat.le_trans hB hBw) w.heap.size rfl ?_
  · have hj : j < (ts'.flatMap numL).length := (List.getElem?_eq_some_iff.1 hy).1
    have : cur[j]? = some y := by
      rw [← hy, ← k7, List.getElem?_take, if_pos (by rw [hfl] at hj; omega)]
      simp
    have hadd : (⟨g, 0, none⟩ : Addr).add j = ⟨g, j, none⟩ := by unfold Addr.add; split <;> simp_all
    rw [hadd, cell_blk hb j, this]
  · obtain ⟨q, hq, hqy⟩ := List.mem_flatMap.1 hy
    exact numL_one q (g4 q hq).one (g5 q hq).one y hqy
  · intro G cp w' hown hgrow hG hGs
    have hF : Fr (fun k => v.ownBlock = some k) w w' := grown_fr hgrow
    refine h _ w' ⟨ts ++ ts', fun k => C k ∨ C' k, by rw [List.map_append, h1, g1], by rw [List.length_append, List.flatMap_append]; exact hown, fun k hk => ?_, fun y hy => ?_, fun y hy => ?_⟩ (hF.mono (fun k _ hk => hwi k hk))
    · have hlt : k < w.heap.size := hk.elim (fun c => (h3 k c).2.1) (fun c => (g3 k c).2.1)
      refine ⟨hk.elim (fun c => (h3 k c).1) (fun c => Nat.le_trans hB (g3 k c).1), hF.lt hlt, fun e => ?_⟩
      have e : G = k := by simpa [Value.ownBlock] using e
      subst e
      rcases hG with hG | hG
      · exact hk.elim (fun c => (h3 G c).2.2 hG) (fun c => by have := (g3 G c).1; have := hv G hG; omega)
      · omega
    · have hx : ∀ k, X k ∨ C k ∨ C' k → ¬ v.ownBlock = some k := fun k hk e => by
        rcases hk with c | c | c
        · have := hX k c; have := hwi k e; omega
        · exact (h3 k c).2.2 e
        · have := (g3 k c).1; have := hv k e; omega
      rcases List.mem_append.1 hy with hy | hy
      · exact ((h4 y hy).more (R' := fun k => X k ∨ C k ∨ C' k) (fun k hk => hk.elim .inl (fun c => .inr (.inl c)))).fr hF hx
      · exact ((g4 y hy).more (R' := fun k => X k ∨ C k ∨ C' k) (fun k hk => hk.elim .inl (fun c => .inr (.inr c)))).fr hF hx
    · rcases List.mem_append.1 hy with hy | hy
      · exact h5 y hy
      · exact g5 y hy
end Go.Proofs.YtpifiamafgaadaaDoor
