/- The law's own All: what slots.All gives, as a slice. -/
import Derived.Test.YtopheimplclfcaaDoorSlAll
namespace Go.Proofs.YtopheimplclfcaaDoor
open Go.RowKit Go.Shelf
attribute [local go_sem] Oper.semAt_some

/-- a slice of the numbers xs, in a block made since base -/
def Nums (w : World) (base : Nat) (ra : Option Addr) (xs : List Nat) : Prop := ∀ j (hj : j < xs.length), ∃ g, ra = some ⟨g, 0, none⟩ ∧ base ≤ g ∧ g < w.heap.size ∧ w.cell? ⟨g, j, none⟩ = some (i64v xs[j])
theorem Nums.fr {S : Nat → Prop} {w w' : World} {base : Nat} {ra : Option Addr} {xs : List Nat} (h : Nums w base ra xs) (f : Fr S w w') (hS : ∀ k, k < w.heap.size → base ≤ k → ¬ S k) : Nums w' base ra xs := fun j hj =>
  let ⟨g, h1, h2, h3, h4⟩ := h j hj
  ⟨g, h1, h2, Nat.lt_of_lt_of_le h3 f.size, (f.cell (p := ⟨g, j, none⟩) h3 (hS g h3 h2)).trans h4⟩

theorem fn_not_nil (W : World) (B : Nat) : (binOp .eql 86 (.func (.func 59) #[] #[.pointer (some ⟨B, 0, none⟩)]) .nilFunc).run Tryd.prog W = .ok (.bool false) W := rfl

set_option maxRecDepth 100000 in
set_option maxHeartbeats 2000000 in
theorem lawAll_in (n : Nat) (hn : 8 ≤ n) (a : Option Addr) (st : Int) (xs : List Nat) (hlen : xs.length ≤ 1024) (w : World) (h : SlR w No a xs) :
    CallsIn Fence.wide n Tryd.prog 32 #[.pointer a, .int .i64 st] w fun e W' => ∃ ra cap, e = .returned (.tuple #[.slice ra (which xs st).length cap, .bool true]) ∧ Nums W' w.heap.size ra (which xs st) ∧ Fr No w W' := by
  have h1 : 1 ≤ n := by omega
  obtain ⟨i0, hi, hz0, hzs1, hzs2⟩ := info_parts infoInt
  have hwl : (which xs st).length ≤ 1024 := Nat.le_trans (upTo_len _ _ _) hlen
  have hr0 := Boxed.new w 41 (.slice none 0 0)
  obtain ⟨wa, hwa⟩ : ∃ wa, w.alloc (.cells #[.slice none 0 0] 41) = wa := ⟨_, rfl⟩
  have hza : wa.heap.size = w.heap.size + 1 := by rw [← hwa]; simp
  have hr1 := Boxed.new wa 4 (.bool false)
  obtain ⟨wb, hwb⟩ : ∃ wb, wa.alloc (.cells #[.bool false] 4) = wb := ⟨_, rfl⟩
  have hzb : wb.heap.size = w.heap.size + 2 := by rw [← hwb]; simp [hza]
  have hBb : Below w.heap.size w wb := by rw [← hwb, ← hwa]; exact ((Below.refl _ w).alloc (Nat.le_refl _) _).alloc (by simp) _
  rw [hwa] at hr0
  rw [hza, hwb] at hr1
  have hr0 : Boxed wb w.heap.size 41 (.slice none 0 0) := by rw [← hwb]; exact hr0.alloc _
  have hR : SlR wb No a xs := h.fr (Fr.of_below (S := No) hBb) (fun _ _ => id) (fun _ _ => id)
  have HA := hid (slall_in (n - 1) (by omega) a st xs hlen wb hR)
  have HW : Hid ((w.alloc (.cells #[.slice none 0 0] 41)).alloc (.cells #[.bool false] 4) = wb) := by rw [hwa]; exact hwb
  have HBb := hid hBb
  have H0 := hid hr0
  have H1 := hid hr1
  clear hr0 hr1 hR hBb hwa hwb hza h
  refine callsIn_of_wp_marks Tryd.func32 rfl trivial ?_ rfl
  simp only [Tryd.ntmps32, List.size_toArray, List.length_cons, List.length_nil, Nat.reduceAdd, Nat.reduceSub, Array.replicate_succ, Array.replicate_zero, List.push_toArray, List.append_toArray, List.nil_append, List.cons_append]
  gi_wp2_with (refine ⟨trivial, ?_⟩; gi_at_call 49; rw [HW.out]; refine HA.out.mono ?_; rintro e w1 ⟨B, sa, cap, rfl, hBl, hBc, hcs, hB1⟩; have HBc := hid hBc; have HCS := hid hcs; have HB1 := hid hB1; have hne := fun W => fn_not_nil W B; clear hBc hcs hB1)
  have hz1 := HB1.out.size
  have bO := Boxed.new w1 41 (.slice none 0 0)
  obtain ⟨w2, hw2⟩ : ∃ w2, w1.alloc (.cells #[.slice none 0 0] 41) = w2 := ⟨_, rfl⟩
  have hz2 : w2.heap.size = w1.heap.size + 1 := by rw [← hw2]; simp
  have hB2 : Below w1.heap.size w1 w2 := by rw [← hw2]; exact (Below.refl _ w1).alloc (Nat.le_refl _) _
  rw [hw2] at bO ⊢
  have hG : Gives w1.heap.size 59 #[.pointer (some ⟨B, 0, none⟩)] (n - 1) (which xs st) (which xs st).length w2 := fun l J Jx W hW _ _ hY h0 => by
    have hBW : Below w1.heap.size w1 W := hB2.trans (hW.mono (by omega))
    refine values1_in Fence.wide (n - 1) trivial rfl (by omega) l B w1.heap.size sa cap (which xs st) hwl J Jx hY W ((hBW.cell (p := ⟨B, 0, none⟩) hBl).trans HBc.out) (fun j hj => ?_) h0
    obtain ⟨g, hg, hgl, hgc⟩ := HCS.out j hj
    exact ⟨g, hg, hgl, (hBW.cell (p := ⟨g, j, none⟩) hgl).trans hgc⟩
  refine wpIn_rangeFunc_ownG rfl h1 (gf := 59) (lb := #[.pointer (some ⟨B, 0, none⟩)]) rfl trivial (enters_of Tryd.func59 (by kernel_rfl) rfl) hG frK_t (frK_b (fun k hk => by omega)) (Below.refl _ _) (fun _ => rfl)
    (fun pre W => (∃ v, Boxed W w1.heap.size 41 v ∧ W.ownsRow w1.heap.size 3 1 v pre.length (pre.map i64v) ∧ True) ∧ Below w1.heap.size w1 W)
    (fun _ _ _ => False)
    (OwnFrom.and (Own.from (holdsRow_own w1.heap.size w1.heap.size 41 3 1 (fun pre : List Nat => pre.length) (fun pre => pre.map i64v) (fun _ _ => True)) _) (ownFrom_below (Nat.le_refl _) (by omega)))
    (fun _ _ _ _ _ hs _ _ => hs)
    ⟨⟨_, bO, World.ownsRow_nil _ _ _ _, trivial⟩, hB2⟩
    (fun x => { tmps := #[.pointer a, .int .i64 st, undef, undef, .pointer (some ⟨w.heap.size, 0, none⟩), .pointer (some ⟨w.heap.size + 1, 0, none⟩), .func (.func 59) #[] #[.pointer (some ⟨B, 0, none⟩)], .pointer (some ⟨w1.heap.size, 0, none⟩), i64v x, .pointer a, .int .i64 st, .func (.func 59) #[] #[.pointer (some ⟨B, 0, none⟩)], .func (.func 59) #[] #[.pointer (some ⟨B, 0, none⟩)], .bool false, .func (.func 59) #[] #[.pointer (some ⟨B, 0, none⟩)], i64v x, undef, undef, undef, undef, undef, undef, undef, undef], defers := [] }) ?assign ?body ?done ?stop
  case assign =>
    intro l x W K hK
    gi_wp2
    exact hK
  case body =>
    clear HA HW HBb H0 H1 HBc HCS HB1 hG hne
    rintro l pre x W ⟨⟨v, hv, hrow, -⟩, hB⟩ hlt
    have hc := hv.cell
    have hlt2 : pre.length + 1 ≤ 1024 := by omega
    gi_wp2_with (gi_at_builtin; refine wpListIn_append_own _ rfl _ _ 41 rfl w1.heap.size 3 i0 (.int .i64 0) 1 8 Tryd.underlying41 hi hz0 hzs1 hzs2 rfl (by decide) _ _ _ rfl (hrow.alloc _) ⟨W.heap.size, 0, none⟩ 1 1 [i64v x] rfl rfl (cell_one_new _ _ _) (by simp [Value.oneCell']) (by unfold maxLen; omega) (by omega) (by have := hB.size; simp; omega) ?_; intro v' w1 hown' hgrow _; obtain ⟨g', cap', rfl⟩ := ownsRow_succ hown'; obtain ⟨hv1, hv2, hr2, hk2, hb2⟩ := hv.appended (by decide) hrow hB.size (Nat.le_refl _) hown' hgrow; have hc1 := hv1.cell; have hf1 := hv1.frozen)
    exact ⟨hk2.from _, Fr.from_below hb2, ⟨_, hv2, by simpa using hr2, trivial⟩, hB.trans hb2⟩
  case done =>
    rintro D ys W hD rfl ⟨⟨v, hv, hrow, -⟩, hB⟩ hK
    have hc := hv.cell
    have hBlk : ∀ k, k < wb.heap.size → W.heap[k]? = wb.heap[k]? := fun k hk => (hB.block k (by omega)).trans (HB1.out.block k hk)
    have b0 : Boxed W w.heap.size 41 (.slice none 0 0) := (hBlk _ (by omega)).trans H0.out
    have b1 : Boxed W (w.heap.size + 1) 4 (.bool false) := (hBlk _ (by omega)).trans H1.out
    obtain ⟨ra, cp, rfl, hcs⟩ := own_cells hrow
    have c0 := b0.cell
    have f0 := b0.frozen
    have c1 := b1.cell
    have f1 := b1.frozen
    gi_wp2
    obtain ⟨W3, hW3⟩ : ∃ W3, (W.setCell ⟨w.heap.size, 0, none⟩ (.slice ra (which xs st).length cp)).setCell ⟨w.heap.size + 1, 0, none⟩ (.bool true) = W3 := ⟨_, rfl⟩
    have d0 : Boxed W3 w.heap.size 41 (.slice ra (which xs st).length cp) := by
      rw [← hW3]; exact (Below.heap_setCell _ _ _ _ (by simp)).trans (b0.set _)
    have d1 : Boxed W3 (w.heap.size + 1) 4 (.bool true) := by
      rw [← hW3]; exact Boxed.set (v := .bool false) _ ((Below.heap_setCell _ _ _ _ (by simp)).trans b1)
    have hK3 : W3.heap[D]? = some (.deferred (some [])) := by
      rw [← hW3]; exact (KeepsOthers.setCell _ _ _).same D _ ((KeepsOthers.setCell _ _ _).same D _ hK rfl) rfl
    have hF3 : Fr (fun k => k = w.heap.size ∨ k = w.heap.size + 1) W W3 := by
      rw [← hW3]; exact ((Fr.refl _ W).setCell (p := ⟨w.heap.size, 0, none⟩) (fun _ => .inl rfl) _).setCell (p := ⟨w.heap.size + 1, 0, none⟩) (fun _ => .inr rfl) _
    have hBw : Below w.heap.size w W := HBb.out.trans ((HB1.out.mono (by omega)).trans (hB.mono (by omega)))
    rw [hW3]
    refine ⟨by simp, .inl ⟨_, _, rfl, run_takeDeferred hK3, ?_⟩⟩
    have hg4 := grownBy_putObj' W3 D (.deferred none)
    have e0 := cell_kept d0.cell hg4 (fun r e => by cases e; exact ⟨_, hK3, rfl⟩)
    have e1 := cell_kept d1.cell hg4 (fun r e => by cases e; exact ⟨_, hK3, rfl⟩)
    have hnums : Nums W w1.heap.size ra (which xs st) := fun j hj => by
      obtain ⟨g, hg, hgb, hgl, hgc⟩ := hcs j hj
      exact ⟨g, hg, hgb, hgl, hgc⟩
    refine ⟨.tuple #[.slice ra (which xs st).length cp, .bool true], ?_, ra, cp, rfl, ?_, ?_⟩
    · simp [results, Tryd.f32, go_sem, e0, e1]
    · have h3 := hnums.fr hF3 (fun k _ hb hs => by omega)
      refine fun j hj => ?_
      obtain ⟨g, hg, hgb, hgl, hgc⟩ := h3 j hj
      exact ⟨g, hg, by omega, by simpa using hgl, cell_kept hgc hg4 (fun r e => by cases e; exact ⟨_, hK3, rfl⟩)⟩
    · rw [← hW3]
      exact (((Fr.of_below hBw).setCell (p := ⟨w.heap.size, 0, none⟩) (fun h => absurd h (Nat.lt_irrefl _)) _).setCell (p := ⟨w.heap.size + 1, 0, none⟩) (fun h => absurd h (by simp)) _).put D _ (fun h => absurd h (by omega))
  case stop =>
    rintro D c pre W _ _ h _
    exact h.elim
end Go.Proofs.YtopheimplclfcaaDoor
