/- spans: the law's own All. -/
import Derived.Test.YtdehojhipiklmaaSpI
namespace Go.Proofs.Ytdehojhipiklmaa
open Go.RowKit Go.Shelf
attribute [local go_sem] Oper.semAt_some

theorem fn_not_nil (W : World) (B : Nat) : (binOp .eql 61 (.func (.func 42) #[] #[.pointer (some ⟨B, 0, none⟩)]) .nilFunc).run Try.prog W = .ok (.bool false) W := rfl
theorem Fr.from_below {n : Nat} {a w : World} (h : Below n a w) : Fr (fun k => n ≤ k) a w := ⟨h.os, h.tape, h.output, h.size, fun k _ hs => h.block k (by omega)⟩
/-- a row of the call's own, spans, in a block of its own time -/
def Spn (w w' : World) (v : Value) (L : List Sp) : Prop := w'.ownsRow 0 24 2 v L.length (L.flatMap spV) ∧ (∀ k, v.ownBlock = some k → w.heap.size ≤ k)
theorem block_own {β : Type} (B : Nat) (o : β → Obj) (ho : ∀ s, (o s).isCells = true) : Own (fun s W => W.heap[B]? = some (o s)) := fun s X Y row hs hg hrow => by
  refine (hg.block B (lt_of_block hs) (fun e => ?_)).trans hs
  obtain ⟨o', h1, h2⟩ := hrow B e.symm
  rw [hs] at h1; cases h1; rw [ho] at h2; cases h2
set_option maxRecDepth 100000 in
set_option maxHeartbeats 2000000 in
theorem lawAll_in (n : Nat) (hn : 3 ≤ n) (w : World) (p : Nat) (S : Nat → Prop) (L : List Sp) (h : St w p S L) (hlen : L.length ≤ 300) :
    CallsIn Fence.wide n Try.prog 15 #[.pointer (some ⟨p, 0, none⟩)] w fun e W' => ∃ v, e = .returned (.tuple #[v, .bool true]) ∧ Spn w W' v L ∧ Fr No w W' := by
  have h1 : 1 ≤ n := by omega
  obtain ⟨i0, hi, hz0, hzs1, hzs2⟩ := info_parts sp_info
  have hr0 := Boxed.new w 39 (.slice none 0 0)
  obtain ⟨wa, hwa⟩ : ∃ wa, w.alloc (.cells #[.slice none 0 0] 39) = wa := ⟨_, rfl⟩
  have hza : wa.heap.size = w.heap.size + 1 := by rw [← hwa]; simp
  have hr1 := Boxed.new wa 4 (.bool false)
  obtain ⟨wb, hwb⟩ : ∃ wb, wa.alloc (.cells #[.bool false] 4) = wb := ⟨_, rfl⟩
  have hzb : wb.heap.size = w.heap.size + 2 := by rw [← hwb]; simp [hza]
  have hBb : Below w.heap.size w wb := by rw [← hwb, ← hwa]; exact ((Below.refl _ w).alloc (Nat.le_refl _) _).alloc (by simp) _
  rw [hwa] at hr0
  rw [hza, hwb] at hr1
  have hr0 : Boxed wb w.heap.size 39 (.slice none 0 0) := by rw [← hwb]; exact hr0.alloc _
  have HA := hid ((callsIn_wide (n := n - 1)).2 (sp_All wb p S L (h.fr (Fr.of_below (S := No) hBb) (fun _ _ => id))))
  have HW : Hid ((w.alloc (.cells #[.slice none 0 0] 39)).alloc (.cells #[.bool false] 4) = wb) := by rw [hwa]; exact hwb
  have HBb := hid hBb
  have H0 := hid hr0
  have H1 := hid hr1
  clear hr0 hr1 hBb hwa hwb hza h
  refine callsIn_of_wp_marks Try.func15 rfl trivial ?_ rfl
  simp only [Try.ntmps15, List.size_toArray, List.length_cons, List.length_nil, Nat.reduceAdd, Nat.reduceSub, Array.replicate_succ, Array.replicate_zero, List.push_toArray, List.append_toArray, List.nil_append, List.cons_append]
  gi_wp2_with (refine ⟨trivial, ?_⟩; gi_at_call 27; rw [HW.out]; refine HA.out.mono ?_; rintro e w1 ⟨B, sa, cap, rfl, hBl, hBc, hcs, hB1⟩; have HBc := hid hBc; have HCS := hid hcs; have HB1 := hid hB1.below; have hne := fun W => fn_not_nil W B; clear hBc hcs hB1)
  have hz1 := HB1.out.size
  have bO := Boxed.new w1 39 (.slice none 0 0)
  obtain ⟨w2, hw2⟩ : ∃ w2, w1.alloc (.cells #[.slice none 0 0] 39) = w2 := ⟨_, rfl⟩
  have hz2 : w2.heap.size = w1.heap.size + 1 := by rw [← hw2]; simp
  have hB2 : Below w1.heap.size w1 w2 := by rw [← hw2]; exact (Below.refl _ w1).alloc (Nat.le_refl _) _
  rw [hw2] at bO ⊢
  have hG : SeqStopsK Fence.wide (n - 1) Try.prog 42 #[.pointer (some ⟨B, 0, none⟩)] (fun x : Sp => #[spA x]) (Fr fun k => w1.heap.size ≤ k) (fun ys => ys = L) (fun pre => pre <+: L) L.length w2 := fun l J Jx W hW hJ _ hY h0 => by
    have hBW : Below w1.heap.size w1 W := hB2.trans (hW.mono (by omega))
    exact spvals_in Fence.wide (n - 1) trivial rfl (by omega) l B w1.heap.size sa cap L (by omega) J Jx W hJ hY ((hBW.cell (p := ⟨B, 0, none⟩) hBl).trans HBc.out) (Elems.no HCS.out (Fr.of_below hBW))
      (fun hp b o e => by
        rcases HCS.out with h | ⟨b', o', e', hb, _⟩
        · subst h; simp at hp
        · rw [e'] at e; injection e with e; injection e with e; omega) h0
  have hIo : OwnFrom w2.heap.size (fun (pre : List Sp) W => (∃ v, Boxed W w1.heap.size 39 v ∧ W.ownsRow w1.heap.size 24 2 v pre.length (pre.flatMap spV) ∧ True) ∧ Below w1.heap.size w1 W) :=
    OwnFrom.and (Own.from (holdsRow_own w1.heap.size w1.heap.size 39 24 2 (fun pre : List Sp => pre.length) (fun pre => pre.flatMap spV) (fun _ _ => True)) _) (ownFrom_below (Nat.le_refl _) (by omega))
  refine wpIn_rangeFunc_ownH rfl h1 (gf := 42) (lb := #[.pointer (some ⟨B, 0, none⟩)]) rfl trivial (enters_of Try.func42 (by kernel_rfl) rfl) hG frK_t (frK_b (fun k hk => by omega)) (Below.refl _ _) (fun _ => rfl)
    (fun pre W => (∃ v, Boxed W w1.heap.size 39 v ∧ W.ownsRow w1.heap.size 24 2 v pre.length (pre.flatMap spV) ∧ True) ∧ Below w1.heap.size w1 W)
    (fun _ _ _ => False)
    hIo
    (fun _ _ _ _ _ hs _ _ => hs)
    ⟨⟨_, bO, World.ownsRow_nil _ _ _ _, trivial⟩, hB2⟩
    (fun x a' W => ∃ B', W.heap[B']? = some (.cells #[.int .i64 x.1, .int .i64 x.2] 24 (0, 0)) ∧ a' = { tmps := #[.pointer (some ⟨p, 0, none⟩), undef, .pointer (some ⟨w.heap.size, 0, none⟩), .pointer (some ⟨w.heap.size + 1, 0, none⟩), .func (.func 42) #[] #[.pointer (some ⟨B, 0, none⟩)], .pointer (some ⟨w1.heap.size, 0, none⟩), .pointer (some ⟨B', 0, none⟩), .pointer (some ⟨p, 0, none⟩), .func (.func 42) #[] #[.pointer (some ⟨B, 0, none⟩)], .func (.func 42) #[] #[.pointer (some ⟨B, 0, none⟩)], .bool false, .func (.func 42) #[] #[.pointer (some ⟨B, 0, none⟩)], spA x, undef, undef, undef, undef, undef, undef, undef, undef], defers := [] })
    (fun x a' s X Y row hs hg hrow => by
      obtain ⟨B', hB', e⟩ := hs
      exact ⟨B', Own.from (block_own (β := Unit) B' (fun _ => .cells #[.int .i64 x.1, .int .i64 x.2] 24 (0, 0)) (fun _ => rfl)) w2.heap.size () X Y row hB' hg hrow, e⟩) ?assign ?body ?done ?stop
  case assign =>
    intro l pre x W K hI hK
    have hK2 := hid (fun a' e => hK a' (W.alloc (.cells #[.int .i64 x.1, .int .i64 x.2] 24)) ((KeepsOthers.alloc W _).from _) ((Fr.refl _ W).alloc _) (hIo.alloc _ hI) ⟨W.heap.size, heap_new W _, e⟩)
    clear hI hK hG HA HW HBb H0 H1 HBc HCS HB1 hne hIo
    obtain ⟨x1, x2⟩ := x
    gi_wp2
    exact hK2.out _ rfl
  case body =>
    clear HA HW HBb H0 H1 HBc HCS HB1 hG hne hIo
    rintro l pre x a' W hl hloop ⟨⟨v, hv, hrow, -⟩, hB⟩ ⟨B', hB', rfl⟩ hlt
    have hc := hv.cell
    have hlt2 : pre.length + 1 ≤ 300 := by omega
    have hlt3 : (pre.length : Int) + 1 ≤ 300 := by omega
    have x0 := cell_blk hB' 0
    have x1 := cell_blk hB' 1
    simp only [List.getElem?_toArray, List.getElem?_cons_zero, List.getElem?_cons_succ] at x0 x1
    gi_wp2_with (gi_at_builtin; refine wpListIn_append_own _ rfl _ _ 39 rfl w1.heap.size 24 i0 (.agg #[.int .i64 0, .int .i64 0]) 2 16 Try.underlying39 hi hz0 hzs1 hzs2 (by kernel_rfl) (by decide) _ _ _ rfl (hrow.alloc _) ⟨W.heap.size, 0, none⟩ 1 1 [.int .i64 _, .int .i64 _] rfl rfl (cells2 _ _ _ _ rfl) (one2 _ _) (by unfold maxLen; omega) (by omega) (by have := hB.size; simp; omega) ?_; intro v' w4 hown' hgrow _; obtain ⟨g', cap', rfl⟩ := ownsRow_succ hown'; obtain ⟨hv1, hv2, hr2, hk2, hb2⟩ := hv.appended (by decide) hrow hB.size (Nat.le_refl _) hown' hgrow; have hc1 := hv1.cell; have hf1 := hv1.frozen; have hc2 := hv2.cell)
    refine ⟨hk2.from _, Fr.from_below hb2, ⟨_, hv2, ?_, trivial⟩, hB.trans hb2⟩
    rw [List.length_append, List.flatMap_append]
    simpa [spV] using hr2
  case done =>
    rintro D ys W hD rfl ⟨⟨v, hv, hrow, -⟩, hB⟩ hK
    have hc := hv.cell
    have hBlk : ∀ k, k < wb.heap.size → W.heap[k]? = wb.heap[k]? := fun k hk => (hB.block k (by omega)).trans (HB1.out.block k hk)
    have b0 : Boxed W w.heap.size 39 (.slice none 0 0) := (hBlk _ (by omega)).trans H0.out
    have b1 : Boxed W (w.heap.size + 1) 4 (.bool false) := (hBlk _ (by omega)).trans H1.out
    obtain ⟨ra, cp, rfl⟩ := own_form hrow
    have c0 := b0.cell
    have f0 := b0.frozen
    have c1 := b1.cell
    have f1 := b1.frozen
    have HROW := hid hrow
    clear hrow
    gi_wp2
    obtain ⟨W3, hW3⟩ : ∃ W3, (W.setCell ⟨w.heap.size, 0, none⟩ (.slice ra ys.length cp)).setCell ⟨w.heap.size + 1, 0, none⟩ (.bool true) = W3 := ⟨_, rfl⟩
    have d0 : Boxed W3 w.heap.size 39 (.slice ra ys.length cp) := by
      rw [← hW3]; exact (Below.heap_setCell _ _ _ _ (by simp)).trans (b0.set _)
    have d1 : Boxed W3 (w.heap.size + 1) 4 (.bool true) := by
      rw [← hW3]; exact Boxed.set (v := .bool false) _ ((Below.heap_setCell _ _ _ _ (by simp)).trans b1)
    have hK3 : W3.heap[D]? = some (.deferred (some [])) := by
      rw [← hW3]; exact (KeepsOthers.setCell _ _ _).same D _ ((KeepsOthers.setCell _ _ _).same D _ hK rfl) rfl
    have hF3 : Fr (fun k => k = w.heap.size ∨ k = w.heap.size + 1) W W3 := by
      rw [← hW3]; exact ((Fr.refl _ W).setCell (p := ⟨w.heap.size, 0, none⟩) (fun _ => .inl rfl) _).setCell (p := ⟨w.heap.size + 1, 0, none⟩) (fun _ => .inr rfl) _
    have hBw : Below w.heap.size w W := HBb.out.trans ((HB1.out.mono (by omega)).trans (hB.mono (by omega)))
    rw [hW3]
    refine ⟨by simp, .inl ⟨_, _, rfl, run_takeDeferred hK3, ?_⟩⟩
    have hg4 := grownBy_putObj' W3 D (.deferred none)
    have e0 := cell_kept d0.cell hg4 (fun r e => by cases e; exact ⟨_, hK3, rfl⟩)
    have e1 := cell_kept d1.cell hg4 (fun r e => by cases e; exact ⟨_, hK3, rfl⟩)
    have hge : ∀ k, (Value.slice ra ys.length cp).ownBlock = some k → w1.heap.size ≤ k := fun k hk => own_ge2 HROW.out hk
    refine ⟨.tuple #[.slice ra ys.length cp, .bool true], ?_, .slice ra ys.length cp, rfl, ⟨?_, fun k hk => ?_⟩, ?_⟩
    · simp [results, Try.f15, go_sem, e0, e1]
    · exact ownsRow_putObj (own_frk (own_mono HROW.out) hF3 (fun k hk hs => by have := hge k hk; omega)) _ hK3 rfl
    · have := hge k hk; omega
    · rw [← hW3]
      exact (((Fr.of_below hBw).setCell (p := ⟨w.heap.size, 0, none⟩) (fun h => absurd h (Nat.lt_irrefl _)) _).setCell (p := ⟨w.heap.size + 1, 0, none⟩) (fun h => absurd h (by simp)) _).put D _ (fun h => absurd h (by omega))
  case stop =>
    rintro D c pre W _ _ h _
    exact h.elim
theorem sp_lawAll (w : World) (p : Nat) (S : Nat → Prop) (L : List Sp) (h : St w p S L) (hlen : L.length ≤ 300) :
    Calls Try.prog 15 #[.pointer (some ⟨p, 0, none⟩)] w fun e W' => ∃ v, e = .returned (.tuple #[v, .bool true]) ∧ Spn w W' v L ∧ Fr No w W' :=
  (callsIn_wide (n := 3)).1 (lawAll_in 3 (by omega) w p S L h hlen)
end Go.Proofs.Ytdehojhipiklmaa
