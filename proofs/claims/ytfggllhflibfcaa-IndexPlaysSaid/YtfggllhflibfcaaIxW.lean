/- index: the law's all. -/
import Derived.Test.YtfggllhflibfcaaIxN
namespace Go.Proofs.Ytfggllhflibfcaa
open Go.RowKit Go.Shelf Go.Maps
attribute [local go_sem] Oper.semAt_some
theorem use_act9 {P : Act → Prop} (a : Act) (h : ∀ A, A = a → P A) : P a := h a rfl
set_option maxRecDepth 1000000 in
set_option maxHeartbeats 8000000 in
theorem ix_all (w : World) (p q m m' c : Nat) (S T : Nat → Prop) (L : List Pl) (h : Ix w p S L m c) (hr : Rf w q T L m') (a n : Int) (ha : 0 ≤ a) (ha63 : a ≤ 9223372036854775807) (hn : 0 ≤ n) (hn63 : n ≤ 9223372036854775807) :
    Calls Try.prog 15 #[.pointer (some ⟨p, 0, none⟩), .pointer (some ⟨q, 0, none⟩), .agg #[.int .i64 a, .int .i64 n]] w fun e w' => e = .returned (.bool true) ∧ Fr No w w' := by
  have hl4 := h.len
  have HI := hid h
  have HRF := hid hr
  have HF0 := hid ((((Fr.refl No w).alloc (.cells #[.pointer (some ⟨q, 0, none⟩)] 31)).alloc (.cells #[.int .i64 a, .int .i64 n] 25)).alloc (.cells #[.bool false] 4))
  have HRB0 : Hid ((((w.alloc (.cells #[.pointer (some ⟨q, 0, none⟩)] 31)).alloc (.cells #[.int .i64 a, .int .i64 n] 25)).alloc (.cells #[.bool false] 4)).heap[w.heap.size]? = some (.cells #[.pointer (some ⟨q, 0, none⟩)] 31 (0, 0))) := heap_more (heap_more (heap_new w (.cells #[.pointer (some ⟨q, 0, none⟩)] 31)))
  have HSB0 : Hid ((((w.alloc (.cells #[.pointer (some ⟨q, 0, none⟩)] 31)).alloc (.cells #[.int .i64 a, .int .i64 n] 25)).alloc (.cells #[.bool false] 4)).heap[w.heap.size + 1]? = some (.cells #[.int .i64 a, .int .i64 n] 25 (0, 0))) := by unfold Hid; have := heap_new (w.alloc (.cells #[.pointer (some ⟨q, 0, none⟩)] 31)) (.cells #[.int .i64 a, .int .i64 n] 25); rw [World.size_alloc] at this; exact heap_more this
  have HBB0 : Hid ((((w.alloc (.cells #[.pointer (some ⟨q, 0, none⟩)] 31)).alloc (.cells #[.int .i64 a, .int .i64 n] 25)).alloc (.cells #[.bool false] 4)).heap[w.heap.size + 1 + 1]? = some (.cells #[.bool false] 4 (0, 0))) := by unfold Hid; have := heap_new ((w.alloc (.cells #[.pointer (some ⟨q, 0, none⟩)] 31)).alloc (.cells #[.int .i64 a, .int .i64 n] 25)) (.cells #[.bool false] 4); rw [World.size_alloc, World.size_alloc] at this; exact this
  refine (callsIn_wide (n := 5)).1 (callsIn_of_wp_marks Try.func15 rfl trivial (wpIn_wide.2 ?_) rfl)
  simp only [Try.ntmps15, List.size_toArray, List.length_cons, List.length_nil, Nat.reduceAdd, Nat.reduceSub, Array.replicate_succ, Array.replicate_zero, List.push_toArray, List.append_toArray, List.nil_append, List.cons_append]
  have hs0 := HSB0.out
  obtain ⟨s0, s1, _, _⟩ := blk2 hs0
  go_wp2_with (go_at_call 14; refine (ix_AllV _ p m c S L (HI.out.no HF0.out) a n hn63).mono ?_; rintro e w1 ⟨fv, rfl, hV, hF⟩; obtain ⟨gf, lb, rfl, hen, hnn, hcm⟩ := hV; have HEN := hid hen; have HCM := hid hcm; have HF1 := hid (HF0.out.trans hF); have HRB := hid (blk_no hF HRB0.out); have HSB := hid (blk_no hF HSB0.out); have HBB := hid (blk_no hF HBB0.out); have HR1 := hid (HRF.out.no (HF0.out.trans hF)); clear hF s0 s1 hen hcm hs0)
  have hzz : ((w1.alloc (.cells #[.int .i64 0] 3)).alloc (.cells #[.int .i64 (-1)] 3)).heap.size = w1.heap.size + 2 := by simp
  have hz1 : ((w1.alloc (.cells #[.int .i64 0] 3)).alloc (.cells #[.int .i64 (-1)] 3)).heap[w1.heap.size]? = some (.cells #[.int .i64 (([] : List (Int × Pl)).length : Int)] 3 (0, 0)) := heap_more (heap_new w1 (.cells #[.int .i64 0] 3))
  have hz2 : ((w1.alloc (.cells #[.int .i64 0] 3)).alloc (.cells #[.int .i64 (-1)] 3)).heap[w1.heap.size + 1]? = some (.cells #[.int .i64 (lastB [])] 3 (0, 0)) := by have := heap_new (w1.alloc (.cells #[.int .i64 0] 3)) (.cells #[.int .i64 (-1)] 3); rw [World.size_alloc] at this; exact this
  have hX0 := ((Fr.refl No w1).alloc (.cells #[.int .i64 0] 3)).alloc (.cells #[.int .i64 (-1)] 3)
  obtain ⟨w2, hw2⟩ : ∃ w2, (w1.alloc (.cells #[.int .i64 0] 3)).alloc (.cells #[.int .i64 (-1)] 3) = w2 := ⟨_, rfl⟩
  rw [hw2] at hzz hz1 hz2 hX0
  rw [hw2]
  clear hw2
  have HX0 := hid hX0
  have hIo : OwnFrom w2.heap.size (fun (pre : List (Int × Pl)) W => W.heap[w1.heap.size]? = some (.cells #[.int .i64 (pre.length : Int)] 3 (0, 0)) ∧ W.heap[w1.heap.size + 1]? = some (.cells #[.int .i64 (lastB pre)] 3 (0, 0)) ∧ Fr (fun k => No k ∨ w1.heap.size ≤ k) w1 W) :=
    OwnFrom.and (Own.from (block_own w1.heap.size (fun pre : List (Int × Pl) => .cells #[.int .i64 (pre.length : Int)] 3 (0, 0)) (fun _ => rfl)) _) (OwnFrom.and (Own.from (block_own (w1.heap.size + 1) (fun pre : List (Int × Pl) => .cells #[.int .i64 (lastB pre)] 3 (0, 0)) (fun _ => rfl)) _) (own_fr w1.heap.size _ (by omega) w1 No))
  have HIO := hid hIo
  have HSZ := hid hzz
  refine use_act9 (P := fun A => Code.wp _ _ _ A _) _ (fun A0 hA0 => ?_)
  refine wpIn_wide.1 (rangeFunc_calmN (n := 5) (gf := gf) (lb := lb) (by rw [hA0]; rfl) HEN.out (HCM.out No (fun k => w1.heap.size ≤ k) w2 (5 - 1) HX0.out (fun _ _ _ => id) (fun k h1 h2 h3 => by omega)) (by show w1.heap.size ≤ _; omega) (by intro _; rfl)
    (fun pre W => W.heap[w1.heap.size]? = some (.cells #[.int .i64 (pre.length : Int)] 3 (0, 0)) ∧ W.heap[w1.heap.size + 1]? = some (.cells #[.int .i64 (lastB pre)] 3 (0, 0)) ∧ Fr (fun k => No k ∨ w1.heap.size ≤ k) w1 W) HIO.out ⟨hz1, hz2, hX0.mono (fun _ _ e => e.elim)⟩
    (fun x a' W => ∃ B', W.heap[B']? = some (.cells #[.int .i64 (plS x.2), .bool (plD x.2)] 44 (0, 0)) ∧ a' = ⟨(((A0.tmps.setIfInBounds 20 (.int .i64 x.1)).setIfInBounds 21 (plA x.2)).setIfInBounds 10 (.int .i64 x.1)).setIfInBounds 11 (.pointer (some ⟨B', 0, none⟩)), []⟩)
    (fun x a' s X Y row hs hg hrow => by
      obtain ⟨B', hB', e⟩ := hs
      exact ⟨B', Own.from (block_own (β := Unit) B' (fun _ => .cells #[.int .i64 (plS x.2), .bool (plD x.2)] 44 (0, 0)) (fun _ => rfl)) w2.heap.size () X Y row hB' hg hrow, e⟩) ?assign ?body ?done)
  case assign =>
    intro l pre x W K hI hK
    have hK2 := hid (fun a' e => hK a' (W.alloc (.cells #[.int .i64 (plS x.2), .bool (plD x.2)] 44)) ((KeepsOthers.alloc W _).from _) ((Fr.refl _ W).alloc _) (HIO.out.alloc _ hI) ⟨W.heap.size, heap_new W _, e⟩)
    clear hI hK
    obtain ⟨x1, x2⟩ := x
    subst hA0
    simp only [plA] at hK2 ⊢
    gi_wp2
    refine hK2.out _ ?_
    simp only [List.setIfInBounds_toArray, List.set_cons_zero, List.set_cons_succ]
  case body =>
    rintro l pre x a' W ⟨hz1, hz2, hFW⟩ ⟨B', hB', rfl⟩ hpre
    obtain ⟨i, hi, s, d, hx, hLi, hai, hni, hlast⟩ := allX_elem L a n pre x hpre
    subst hx
    subst hA0
    simp only [plS, plD] at hB'
    simp only [plA, plS, plD, List.setIfInBounds_toArray, List.set_cons_zero, List.set_cons_succ]
    have HRW := hid (HR1.out.fr hFW (fun k hk h => h.elim id (by have := HR1.out.lt k hk; omega)))
    obtain ⟨vs, vd, hRV⟩ := HRW.out
    obtain ⟨gs, cs, hvs, _, gs0, _⟩ := hRV.at i hi
    obtain ⟨gd, cd, hvd, _, gd0, _⟩ := hRV.dat i hi
    subst hvs
    subst hvd
    rw [hLi] at gs0 gd0
    simp only [plS, plD] at gs0 gd0
    obtain ⟨q0, q1, _, _⟩ := hRV.cells
    have hold : ∀ (k : Nat) (o : Obj), w1.heap[k]? = some o → W.heap[k]? = some o := fun k o h => (hFW.block k (lt_of_block h) (fun h' => h'.elim id (by have := lt_of_block h; omega))).trans h
    have rb0 := (cell_blk (hold _ _ HRB.out) 0).trans (show _ = some (Value.pointer (some ⟨q, 0, none⟩)) from rfl)
    obtain ⟨sb0, sb1, _, _⟩ := blk2 (hold _ _ HSB.out)
    obtain ⟨p0, p1, _, _⟩ := blk2 hB'
    have hRight : Hid (rightI L i = true) := by unfold Hid rightI; exact decide_eq_true ⟨by omega, by omega⟩
    have hl4' := hl4.2
    obtain ⟨l0, hl0⟩ : ∃ l0, L.length = l0 := ⟨_, rfl⟩
    rw [hl0] at q0 q1 hi hl4'
    have hil : (i : Int) < (l0 : Int) := by omega
    obtain ⟨ℓ, hℓ⟩ : ∃ ℓ, lastB pre = ℓ := ⟨_, rfl⟩
    have c2 := (cell_blk hz2 0).trans (show _ = some (Value.int .i64 (lastB pre)) from rfl)
    rw [hℓ] at c2 hlast
    have c2f := free_blk hz2 0
    obtain ⟨k, hk⟩ : ∃ k, pre.length = k := ⟨_, rfl⟩
    have c1 := (cell_blk hz1 0).trans (show _ = some (Value.int .i64 (pre.length : Int)) from rfl)
    rw [hk] at c1
    have c1f := free_blk hz1 0
    have hklen : k + 1 ≤ 4096 := by
      have := hpre.length_le
      rw [List.length_append, List.length_singleton, hk] at this
      have := allX_len L a n
      omega
    have HZ1 := hid hz1
    have HZ2 := hid hz2
    have HFW := hid hFW
    have HK := hid hk
    have hd1 : decide ((i : Int) ≤ ℓ) = false := by simp; omega
    have hd2 : decide ((i : Int) < a) = false := by simp; omega
    have hd3 : decide (n ≤ (i : Int) - a) = false := by simp; omega
    have hw1 : IntKind.i64.wrap ((i : Int) - a) = (i : Int) - a := by rw [IntKind.wrap_i64]; omega
    clear hz1 hz2 hFW hk hRV hold hpre hℓ hB' hLi
    gi_wp2
    refine wpIn_region_round (S := fun W => W.cell? ⟨w1.heap.size + 1, 0, none⟩ = some (.int .i64 ℓ) ∧ W.cell? ⟨w.heap.size, 0, none⟩ = some (.pointer (some ⟨q, 0, none⟩)) ∧ W.cell? ⟨w.heap.size + 1, 0, none⟩ = some (.int .i64 a) ∧ W.cell? ⟨w.heap.size + 1, 1, none⟩ = some (.int .i64 n) ∧ W.cell? ⟨B', 0, none⟩ = some (.int .i64 (s : Int)) ∧ W.cell? ⟨B', 1, none⟩ = some (.bool d) ∧ W.cell? ⟨q, 0, none⟩ = some (.slice (some ⟨gs, 0, none⟩) l0 cs) ∧ W.cell? ⟨gs, i, none⟩ = some (.int .i64 (s : Int)) ∧ W.cell? ⟨q, 1, none⟩ = some (.slice (some ⟨gd, 0, none⟩) l0 cd) ∧ W.cell? ⟨gd, i, none⟩ = some (.bool d)) (by kernel_rfl) (by kernel_rfl) ?hQ ⟨c2, rb0, sb0, sb1, p0, p1, q0, gs0, q1, gd0⟩ (fun hHeld => ?_)
    case hQ => rintro ⟨_, _, h⟩; exact Exit.noConfusion h.1
    refine wpAnyH_take (i := 0) (v := ?_) rfl (by kernel_rfl) (by kernel_rfl) (by kernel_rfl) (fun _ _ _ h => h) (Or.inl ⟨by rfl, ?_⟩) hHeld ?_
    rotate_left
    · intro w hSw
      go_simp
      with_reducible rfl
    try simp only [Act.put, List.getElem_toArray, List.getElem_cons_zero, List.getElem_cons_succ, List.setIfInBounds_toArray, List.set_cons_zero, List.set_cons_succ]
    refine wpAnyH_take (i := 1) (v := ?_) rfl (by kernel_rfl) (by kernel_rfl) (by kernel_rfl) (fun _ _ _ h => h) (Or.inl ⟨by rfl, ?_⟩) hHeld ?_
    rotate_left
    · intro w hSw; obtain ⟨u0, u1, u2, u3, u4, u5, u6, u7, u8, u9⟩ := hSw
      go_simp
      with_reducible rfl
    try simp only [Act.put, List.getElem_toArray, List.getElem_cons_zero, List.getElem_cons_succ, List.setIfInBounds_toArray, List.set_cons_zero, List.set_cons_succ]
    refine wpAnyH_take (i := 2) (v := ?_) rfl (by kernel_rfl) (by kernel_rfl) (by kernel_rfl) (fun _ _ _ h => h) (Or.inl ⟨by rfl, ?_⟩) hHeld ?_
    rotate_left
    · intro w hSw
      go_simp
      with_reducible rfl
    try simp only [Act.put, List.getElem_toArray, List.getElem_cons_zero, List.getElem_cons_succ, List.setIfInBounds_toArray, List.set_cons_zero, List.set_cons_succ]
    refine wpAnyH_take (i := 3) (v := ?_) rfl (by kernel_rfl) (by kernel_rfl) (by kernel_rfl) (fun _ _ _ h => h) (Or.inl ⟨by rfl, ?_⟩) hHeld ?_
    rotate_left
    · intro w hSw
      go_simp
      with_reducible rfl
    try simp only [Act.put, List.getElem_toArray, List.getElem_cons_zero, List.getElem_cons_succ, List.setIfInBounds_toArray, List.set_cons_zero, List.set_cons_succ]
    refine wpAnyH_take (i := 4) (v := ?_) rfl (by kernel_rfl) (by kernel_rfl) (by kernel_rfl) (fun _ _ _ h => h) (Or.inl ⟨by rfl, ?_⟩) hHeld ?_
    rotate_left
    · intro w hSw; obtain ⟨u0, u1, u2, u3, u4, u5, u6, u7, u8, u9⟩ := hSw
      go_simp
      with_reducible rfl
    try simp only [Act.put, List.getElem_toArray, List.getElem_cons_zero, List.getElem_cons_succ, List.setIfInBounds_toArray, List.set_cons_zero, List.set_cons_succ]
    refine wpAnyH_take (i := 5) (v := ?_) rfl (by kernel_rfl) (by kernel_rfl) (by kernel_rfl) (fun _ _ _ h => h) (Or.inl ⟨by rfl, ?_⟩) hHeld ?_
    rotate_left
    · intro w hSw
      go_simp
      with_reducible rfl
    try simp only [Act.put, List.getElem_toArray, List.getElem_cons_zero, List.getElem_cons_succ, List.setIfInBounds_toArray, List.set_cons_zero, List.set_cons_succ]
    refine wpAnyH_ready (rs := [6]) (by kernel_rfl) (by simp) ?_
    refine AllReadyH.cons rfl (fun K hK => ?_) AllReadyH.nil
    rw [if_pos (by rfl)]
    go_simp
    refine (rf_Right _ q m' T L (HRW.out.no (Fr.refl No _).drew) i).mono ?_
    rw [hRight.out]
    rintro e w9 ⟨rfl, e9⟩
    subst w9
    refine hK.out _ _ hHeld (fun hHeld => ?_)
    clear hK K
    try simp only [Act.put, List.getElem_toArray, List.getElem_cons_zero, List.getElem_cons_succ, List.setIfInBounds_toArray, List.set_cons_zero, List.set_cons_succ]
    refine wpAnyH_take (i := 7) (v := ?_) rfl (by kernel_rfl) (by kernel_rfl) (by kernel_rfl) (fun _ _ _ h => h) (Or.inl ⟨by rfl, ?_⟩) hHeld ?_
    rotate_left
    · intro w hSw
      go_simp
      with_reducible rfl
    try simp only [Act.put, List.getElem_toArray, List.getElem_cons_zero, List.getElem_cons_succ, List.setIfInBounds_toArray, List.set_cons_zero, List.set_cons_succ]
    refine wpAnyH_take (i := 8) (v := ?_) rfl (by kernel_rfl) (by kernel_rfl) (by kernel_rfl) (fun _ _ _ h => h) (Or.inl ⟨by rfl, ?_⟩) hHeld ?_
    rotate_left
    · intro w hSw
      go_simp
      with_reducible rfl
    try simp only [Act.put, List.getElem_toArray, List.getElem_cons_zero, List.getElem_cons_succ, List.setIfInBounds_toArray, List.set_cons_zero, List.set_cons_succ]
    refine wpAnyH_take (i := 9) (v := ?_) rfl (by kernel_rfl) (by kernel_rfl) (by kernel_rfl) (fun _ _ _ h => h) (Or.inl ⟨by rfl, ?_⟩) hHeld ?_
    rotate_left
    · intro w hSw
      go_simp
      with_reducible rfl
    try simp only [Act.put, List.getElem_toArray, List.getElem_cons_zero, List.getElem_cons_succ, List.setIfInBounds_toArray, List.set_cons_zero, List.set_cons_succ]
    refine wpAnyH_take (i := 10) (v := ?_) rfl (by kernel_rfl) (by kernel_rfl) (by kernel_rfl) (fun _ _ _ h => h) (Or.inl ⟨by rfl, ?_⟩) hHeld ?_
    rotate_left
    · intro w hSw
      go_simp
      with_reducible rfl
    try simp only [Act.put, List.getElem_toArray, List.getElem_cons_zero, List.getElem_cons_succ, List.setIfInBounds_toArray, List.set_cons_zero, List.set_cons_succ]
    refine wpAnyH_take (i := 11) (v := ?_) rfl (by kernel_rfl) (by kernel_rfl) (by kernel_rfl) (fun _ _ _ h => h) (Or.inl ⟨by rfl, ?_⟩) hHeld ?_
    rotate_left
    · intro w hSw
      go_simp
      with_reducible rfl
    try simp only [Act.put, List.getElem_toArray, List.getElem_cons_zero, List.getElem_cons_succ, List.setIfInBounds_toArray, List.set_cons_zero, List.set_cons_succ]
    refine wpAnyH_take (i := 12) (v := ?_) rfl (by kernel_rfl) (by kernel_rfl) (by kernel_rfl) (fun _ _ _ h => h) (Or.inl ⟨by rfl, ?_⟩) hHeld ?_
    rotate_left
    · intro w hSw; obtain ⟨u0, u1, u2, u3, u4, u5, u6, u7, u8, u9⟩ := hSw
      go_simp
      with_reducible rfl
    try simp only [Act.put, List.getElem_toArray, List.getElem_cons_zero, List.getElem_cons_succ, List.setIfInBounds_toArray, List.set_cons_zero, List.set_cons_succ]
    refine wpAnyH_take (i := 13) (v := ?_) rfl (by kernel_rfl) (by kernel_rfl) (by kernel_rfl) (fun _ _ _ h => h) (Or.inl ⟨by rfl, ?_⟩) hHeld ?_
    rotate_left
    · intro w hSw
      go_simp
      with_reducible rfl
    try simp only [Act.put, List.getElem_toArray, List.getElem_cons_zero, List.getElem_cons_succ, List.setIfInBounds_toArray, List.set_cons_zero, List.set_cons_succ]
    refine wpAnyH_take (i := 14) (v := ?_) rfl (by kernel_rfl) (by kernel_rfl) (by kernel_rfl) (fun _ _ _ h => h) (Or.inl ⟨by rfl, ?_⟩) hHeld ?_
    rotate_left
    · intro w hSw
      go_simp
      with_reducible rfl
    try simp only [Act.put, List.getElem_toArray, List.getElem_cons_zero, List.getElem_cons_succ, List.setIfInBounds_toArray, List.set_cons_zero, List.set_cons_succ]
    refine wpAnyH_take (i := 15) (v := ?_) rfl (by kernel_rfl) (by kernel_rfl) (by kernel_rfl) (fun _ _ _ h => h) (Or.inl ⟨by rfl, ?_⟩) hHeld ?_
    rotate_left
    · intro w hSw
      go_simp
      with_reducible rfl
    try simp only [Act.put, List.getElem_toArray, List.getElem_cons_zero, List.getElem_cons_succ, List.setIfInBounds_toArray, List.set_cons_zero, List.set_cons_succ]
    refine wpAnyH_take (i := 16) (v := ?_) rfl (by kernel_rfl) (by kernel_rfl) (by kernel_rfl) (fun _ _ _ h => h) (Or.inl ⟨by rfl, ?_⟩) hHeld ?_
    rotate_left
    · intro w hSw
      go_simp
      with_reducible rfl
    try simp only [Act.put, List.getElem_toArray, List.getElem_cons_zero, List.getElem_cons_succ, List.setIfInBounds_toArray, List.set_cons_zero, List.set_cons_succ]
    refine wpAnyH_take (i := 17) (v := ?_) rfl (by kernel_rfl) (by kernel_rfl) (by kernel_rfl) (fun _ _ _ h => h) (Or.inl ⟨by rfl, ?_⟩) hHeld ?_
    rotate_left
    · intro w hSw
      go_simp
      with_reducible rfl
    try simp only [Act.put, List.getElem_toArray, List.getElem_cons_zero, List.getElem_cons_succ, List.setIfInBounds_toArray, List.set_cons_zero, List.set_cons_succ]
    refine wpAnyH_take (i := 18) (v := ?_) rfl (by kernel_rfl) (by kernel_rfl) (by kernel_rfl) (fun _ _ _ h => h) (Or.inl ⟨by rfl, ?_⟩) hHeld ?_
    rotate_left
    · intro w hSw; obtain ⟨u0, u1, u2, u3, u4, u5, u6, u7, u8, u9⟩ := hSw
      go_simp
      with_reducible rfl
    try simp only [Act.put, List.getElem_toArray, List.getElem_cons_zero, List.getElem_cons_succ, List.setIfInBounds_toArray, List.set_cons_zero, List.set_cons_succ]
    refine wpAnyH_take (i := 19) (v := ?_) rfl (by kernel_rfl) (by kernel_rfl) (by kernel_rfl) (fun _ _ _ h => h) (Or.inl ⟨by rfl, ?_⟩) hHeld ?_
    rotate_left
    · intro w hSw
      go_simp
      with_reducible rfl
    try simp only [Act.put, List.getElem_toArray, List.getElem_cons_zero, List.getElem_cons_succ, List.setIfInBounds_toArray, List.set_cons_zero, List.set_cons_succ]
    refine wpAnyH_take (i := 20) (v := ?_) rfl (by kernel_rfl) (by kernel_rfl) (by kernel_rfl) (fun _ _ _ h => h) (Or.inl ⟨by rfl, ?_⟩) hHeld ?_
    rotate_left
    · intro w hSw
      go_simp
      with_reducible rfl
    try simp only [Act.put, List.getElem_toArray, List.getElem_cons_zero, List.getElem_cons_succ, List.setIfInBounds_toArray, List.set_cons_zero, List.set_cons_succ]
    refine wpAnyH_take (i := 21) (v := ?_) rfl (by kernel_rfl) (by kernel_rfl) (by kernel_rfl) (fun _ _ _ h => h) (Or.inl ⟨by rfl, ?_⟩) hHeld ?_
    rotate_left
    · intro w hSw; obtain ⟨u0, u1, u2, u3, u4, u5, u6, u7, u8, u9⟩ := hSw
      go_simp
      with_reducible rfl
    try simp only [Act.put, List.getElem_toArray, List.getElem_cons_zero, List.getElem_cons_succ, List.setIfInBounds_toArray, List.set_cons_zero, List.set_cons_succ]
    refine wpAnyH_take (i := 22) (v := ?_) rfl (by kernel_rfl) (by kernel_rfl) (by kernel_rfl) (fun _ _ _ h => h) (Or.inl ⟨by rfl, ?_⟩) hHeld ?_
    rotate_left
    · intro w hSw
      go_simp
      with_reducible rfl
    try simp only [Act.put, List.getElem_toArray, List.getElem_cons_zero, List.getElem_cons_succ, List.setIfInBounds_toArray, List.set_cons_zero, List.set_cons_succ]
    refine wpAnyH_take (i := 23) (v := ?_) rfl (by kernel_rfl) (by kernel_rfl) (by kernel_rfl) (fun _ _ _ h => h) (Or.inl ⟨by rfl, ?_⟩) hHeld ?_
    rotate_left
    · intro w hSw
      go_simp
      with_reducible rfl
    try simp only [Act.put, List.getElem_toArray, List.getElem_cons_zero, List.getElem_cons_succ, List.setIfInBounds_toArray, List.set_cons_zero, List.set_cons_succ]
    refine wpAnyH_take (i := 24) (v := ?_) rfl (by kernel_rfl) (by kernel_rfl) (by kernel_rfl) (fun _ _ _ h => h) (Or.inl ⟨by rfl, ?_⟩) hHeld ?_
    rotate_left
    · intro w hSw
      go_simp
      with_reducible rfl
    try simp only [Act.put, List.getElem_toArray, List.getElem_cons_zero, List.getElem_cons_succ, List.setIfInBounds_toArray, List.set_cons_zero, List.set_cons_succ]
    refine wpAnyH_take (i := 25) (v := ?_) rfl (by kernel_rfl) (by kernel_rfl) (by kernel_rfl) (fun _ _ _ h => h) (Or.inl ⟨by rfl, ?_⟩) hHeld ?_
    rotate_left
    · intro w hSw
      go_simp
      with_reducible rfl
    try simp only [Act.put, List.getElem_toArray, List.getElem_cons_zero, List.getElem_cons_succ, List.setIfInBounds_toArray, List.set_cons_zero, List.set_cons_succ]
    refine wpAnyH_take (i := 26) (v := ?_) rfl (by kernel_rfl) (by kernel_rfl) (by kernel_rfl) (fun _ _ _ h => h) (Or.inl ⟨by rfl, ?_⟩) hHeld ?_
    rotate_left
    · intro w hSw; obtain ⟨u0, u1, u2, u3, u4, u5, u6, u7, u8, u9⟩ := hSw
      go_simp
      with_reducible rfl
    try simp only [Act.put, List.getElem_toArray, List.getElem_cons_zero, List.getElem_cons_succ, List.setIfInBounds_toArray, List.set_cons_zero, List.set_cons_succ]
    refine wpAnyH_take (i := 27) (v := ?_) rfl (by kernel_rfl) (by kernel_rfl) (by kernel_rfl) (fun _ _ _ h => h) (Or.inl ⟨by rfl, ?_⟩) hHeld ?_
    rotate_left
    · intro w hSw; obtain ⟨u0, u1, u2, u3, u4, u5, u6, u7, u8, u9⟩ := hSw
      go_simp
      with_reducible rfl
    try simp only [Act.put, List.getElem_toArray, List.getElem_cons_zero, List.getElem_cons_succ, List.setIfInBounds_toArray, List.set_cons_zero, List.set_cons_succ]
    refine wpAnyH_take (i := 28) (v := ?_) rfl (by kernel_rfl) (by kernel_rfl) (by kernel_rfl) (fun _ _ _ h => h) (Or.inl ⟨by rfl, ?_⟩) hHeld ?_
    rotate_left
    · intro w hSw
      go_simp
      with_reducible rfl
    try simp only [Act.put, List.getElem_toArray, List.getElem_cons_zero, List.getElem_cons_succ, List.setIfInBounds_toArray, List.set_cons_zero, List.set_cons_succ]
    refine wpAnyH_take (i := 29) (v := ?_) rfl (by kernel_rfl) (by kernel_rfl) (by kernel_rfl) (fun _ _ _ h => h) (Or.inl ⟨by rfl, ?_⟩) hHeld ?_
    rotate_left
    · intro w hSw
      go_simp
      with_reducible rfl
    try simp only [Act.put, List.getElem_toArray, List.getElem_cons_zero, List.getElem_cons_succ, List.setIfInBounds_toArray, List.set_cons_zero, List.set_cons_succ]
    refine wpAnyH_take (i := 30) (v := ?_) rfl (by kernel_rfl) (by kernel_rfl) (by kernel_rfl) (fun _ _ _ h => h) (Or.inl ⟨by rfl, ?_⟩) hHeld ?_
    rotate_left
    · intro w hSw; obtain ⟨u0, u1, u2, u3, u4, u5, u6, u7, u8, u9⟩ := hSw
      go_simp
      with_reducible rfl
    try simp only [Act.put, List.getElem_toArray, List.getElem_cons_zero, List.getElem_cons_succ, List.setIfInBounds_toArray, List.set_cons_zero, List.set_cons_succ]
    refine wpAnyH_take (i := 31) (v := ?_) rfl (by kernel_rfl) (by kernel_rfl) (by kernel_rfl) (fun _ _ _ h => h) (Or.inl ⟨by rfl, ?_⟩) hHeld ?_
    rotate_left
    · intro w hSw
      go_simp
      with_reducible rfl
    try simp only [Act.put, List.getElem_toArray, List.getElem_cons_zero, List.getElem_cons_succ, List.setIfInBounds_toArray, List.set_cons_zero, List.set_cons_succ]
    refine wpAnyH_take (i := 32) (v := ?_) rfl (by kernel_rfl) (by kernel_rfl) (by kernel_rfl) (fun _ _ _ h => h) (Or.inl ⟨by rfl, ?_⟩) hHeld ?_
    rotate_left
    · intro w hSw
      go_simp
      with_reducible rfl
    try simp only [Act.put, List.getElem_toArray, List.getElem_cons_zero, List.getElem_cons_succ, List.setIfInBounds_toArray, List.set_cons_zero, List.set_cons_succ]
    refine wpAnyH_take (i := 33) (v := ?_) rfl (by kernel_rfl) (by kernel_rfl) (by kernel_rfl) (fun _ _ _ h => h) (Or.inl ⟨by rfl, ?_⟩) hHeld ?_
    rotate_left
    · intro w hSw; obtain ⟨u0, u1, u2, u3, u4, u5, u6, u7, u8, u9⟩ := hSw
      go_simp
      with_reducible rfl
    try simp only [Act.put, List.getElem_toArray, List.getElem_cons_zero, List.getElem_cons_succ, List.setIfInBounds_toArray, List.set_cons_zero, List.set_cons_succ]
    refine wpAnyH_take (i := 34) (v := ?_) rfl (by kernel_rfl) (by kernel_rfl) (by kernel_rfl) (fun _ _ _ h => h) (Or.inl ⟨by rfl, ?_⟩) hHeld ?_
    rotate_left
    · intro w hSw
      go_simp
      with_reducible rfl
    try simp only [Act.put, List.getElem_toArray, List.getElem_cons_zero, List.getElem_cons_succ, List.setIfInBounds_toArray, List.set_cons_zero, List.set_cons_succ]
    refine wpAnyH_take (i := 35) (v := ?_) rfl (by kernel_rfl) (by kernel_rfl) (by kernel_rfl) (fun _ _ _ h => h) (Or.inl ⟨by rfl, ?_⟩) hHeld ?_
    rotate_left
    · intro w hSw
      go_simp
      with_reducible rfl
    try simp only [Act.put, List.getElem_toArray, List.getElem_cons_zero, List.getElem_cons_succ, List.setIfInBounds_toArray, List.set_cons_zero, List.set_cons_succ]
    refine wpAnyH_take (i := 36) (v := ?_) rfl (by kernel_rfl) (by kernel_rfl) (by kernel_rfl) (fun _ _ _ h => h) (Or.inl ⟨by rfl, ?_⟩) hHeld ?_
    rotate_left
    · intro w hSw
      go_simp
      with_reducible rfl
    try simp only [Act.put, List.getElem_toArray, List.getElem_cons_zero, List.getElem_cons_succ, List.setIfInBounds_toArray, List.set_cons_zero, List.set_cons_succ]
    refine wpAnyH_take (i := 37) (v := ?_) rfl (by kernel_rfl) (by kernel_rfl) (by kernel_rfl) (fun _ _ _ h => h) (Or.inl ⟨by rfl, ?_⟩) hHeld ?_
    rotate_left
    · intro w hSw
      go_simp
      with_reducible rfl
    try simp only [Act.put, List.getElem_toArray, List.getElem_cons_zero, List.getElem_cons_succ, List.setIfInBounds_toArray, List.set_cons_zero, List.set_cons_succ]
    refine wpAnyH_take (i := 38) (v := ?_) rfl (by kernel_rfl) (by kernel_rfl) (by kernel_rfl) (fun _ _ _ h => h) (Or.inl ⟨by rfl, ?_⟩) hHeld ?_
    rotate_left
    · intro w hSw; obtain ⟨u0, u1, u2, u3, u4, u5, u6, u7, u8, u9⟩ := hSw
      go_simp
      with_reducible rfl
    try simp only [Act.put, List.getElem_toArray, List.getElem_cons_zero, List.getElem_cons_succ, List.setIfInBounds_toArray, List.set_cons_zero, List.set_cons_succ]
    refine wpAnyH_take (i := 39) (v := ?_) rfl (by kernel_rfl) (by kernel_rfl) (by kernel_rfl) (fun _ _ _ h => h) (Or.inl ⟨by rfl, ?_⟩) hHeld ?_
    rotate_left
    · intro w hSw
      go_simp
      with_reducible rfl
    try simp only [Act.put, List.getElem_toArray, List.getElem_cons_zero, List.getElem_cons_succ, List.setIfInBounds_toArray, List.set_cons_zero, List.set_cons_succ]
    refine wpAnyH_take (i := 40) (v := ?_) rfl (by kernel_rfl) (by kernel_rfl) (by kernel_rfl) (fun _ _ _ h => h) (Or.inl ⟨by rfl, ?_⟩) hHeld ?_
    rotate_left
    · intro w hSw
      go_simp
      with_reducible rfl
    try simp only [Act.put, List.getElem_toArray, List.getElem_cons_zero, List.getElem_cons_succ, List.setIfInBounds_toArray, List.set_cons_zero, List.set_cons_succ]
    refine wpAnyH_take (i := 41) (v := ?_) rfl (by kernel_rfl) (by kernel_rfl) (by kernel_rfl) (fun _ _ _ h => h) (Or.inl ⟨by rfl, ?_⟩) hHeld ?_
    rotate_left
    · intro w hSw
      go_simp
      with_reducible rfl
    try simp only [Act.put, List.getElem_toArray, List.getElem_cons_zero, List.getElem_cons_succ, List.setIfInBounds_toArray, List.set_cons_zero, List.set_cons_succ]
    refine wpAnyH_take (i := 42) (v := ?_) rfl (by kernel_rfl) (by kernel_rfl) (by kernel_rfl) (fun _ _ _ h => h) (Or.inl ⟨by rfl, ?_⟩) hHeld ?_
    rotate_left
    · intro w hSw
      go_simp
      with_reducible rfl
    try simp only [Act.put, List.getElem_toArray, List.getElem_cons_zero, List.getElem_cons_succ, List.setIfInBounds_toArray, List.set_cons_zero, List.set_cons_succ]
    refine wpAnyH_take (i := 43) (v := ?_) rfl (by kernel_rfl) (by kernel_rfl) (by kernel_rfl) (fun _ _ _ h => h) (Or.inl ⟨by rfl, ?_⟩) hHeld ?_
    rotate_left
    · intro w hSw; obtain ⟨u0, u1, u2, u3, u4, u5, u6, u7, u8, u9⟩ := hSw
      go_simp
      with_reducible rfl
    try simp only [Act.put, List.getElem_toArray, List.getElem_cons_zero, List.getElem_cons_succ, List.setIfInBounds_toArray, List.set_cons_zero, List.set_cons_succ]
    refine wpAnyH_take (i := 44) (v := ?_) rfl (by kernel_rfl) (by kernel_rfl) (by kernel_rfl) (fun _ _ _ h => h) (Or.inl ⟨by rfl, ?_⟩) hHeld ?_
    rotate_left
    · intro w hSw; obtain ⟨u0, u1, u2, u3, u4, u5, u6, u7, u8, u9⟩ := hSw
      go_simp
      with_reducible rfl
    try simp only [Act.put, List.getElem_toArray, List.getElem_cons_zero, List.getElem_cons_succ, List.setIfInBounds_toArray, List.set_cons_zero, List.set_cons_succ]
    refine wpAnyH_take (i := 45) (v := ?_) rfl (by kernel_rfl) (by kernel_rfl) (by kernel_rfl) (fun _ _ _ h => h) (Or.inl ⟨by rfl, ?_⟩) hHeld ?_
    rotate_left
    · intro w hSw
      go_simp
      with_reducible rfl
    try simp only [Act.put, List.getElem_toArray, List.getElem_cons_zero, List.getElem_cons_succ, List.setIfInBounds_toArray, List.set_cons_zero, List.set_cons_succ]
    refine wpAnyH_take (i := 46) (v := ?_) rfl (by kernel_rfl) (by kernel_rfl) (by kernel_rfl) (fun _ _ _ h => h) (Or.inl ⟨by rfl, ?_⟩) hHeld ?_
    rotate_left
    · intro w hSw
      go_simp
      with_reducible rfl
    try simp only [Act.put, List.getElem_toArray, List.getElem_cons_zero, List.getElem_cons_succ, List.setIfInBounds_toArray, List.set_cons_zero, List.set_cons_succ]
    refine wpAnyH_take (i := 47) (v := ?_) rfl (by kernel_rfl) (by kernel_rfl) (by kernel_rfl) (fun _ _ _ h => h) (Or.inl ⟨by rfl, ?_⟩) hHeld ?_
    rotate_left
    · intro w hSw; obtain ⟨u0, u1, u2, u3, u4, u5, u6, u7, u8, u9⟩ := hSw
      go_simp
      with_reducible rfl
    try simp only [Act.put, List.getElem_toArray, List.getElem_cons_zero, List.getElem_cons_succ, List.setIfInBounds_toArray, List.set_cons_zero, List.set_cons_succ]
    refine wpAnyH_take (i := 48) (v := ?_) rfl (by kernel_rfl) (by kernel_rfl) (by kernel_rfl) (fun _ _ _ h => h) (Or.inl ⟨by rfl, ?_⟩) hHeld ?_
    rotate_left
    · intro w hSw
      go_simp
      with_reducible rfl
    try simp only [Act.put, List.getElem_toArray, List.getElem_cons_zero, List.getElem_cons_succ, List.setIfInBounds_toArray, List.set_cons_zero, List.set_cons_succ]
    refine wpAnyH_take (i := 49) (v := ?_) rfl (by kernel_rfl) (by kernel_rfl) (by kernel_rfl) (fun _ _ _ h => h) (Or.inl ⟨by rfl, ?_⟩) hHeld ?_
    rotate_left
    · intro w hSw
      go_simp
      with_reducible rfl
    try simp only [Act.put, List.getElem_toArray, List.getElem_cons_zero, List.getElem_cons_succ, List.setIfInBounds_toArray, List.set_cons_zero, List.set_cons_succ]
    refine wpAnyH_take (i := 50) (v := ?_) rfl (by kernel_rfl) (by kernel_rfl) (by kernel_rfl) (fun _ _ _ h => h) (Or.inl ⟨by rfl, ?_⟩) hHeld ?_
    rotate_left
    · intro w hSw; obtain ⟨u0, u1, u2, u3, u4, u5, u6, u7, u8, u9⟩ := hSw
      go_simp
      with_reducible rfl
    try simp only [Act.put, List.getElem_toArray, List.getElem_cons_zero, List.getElem_cons_succ, List.setIfInBounds_toArray, List.set_cons_zero, List.set_cons_succ]
    refine wpAnyH_take (i := 51) (v := ?_) rfl (by kernel_rfl) (by kernel_rfl) (by kernel_rfl) (fun _ _ _ h => h) (Or.inl ⟨by rfl, ?_⟩) hHeld ?_
    rotate_left
    · intro w hSw
      go_simp
      with_reducible rfl
    try simp only [Act.put, List.getElem_toArray, List.getElem_cons_zero, List.getElem_cons_succ, List.setIfInBounds_toArray, List.set_cons_zero, List.set_cons_succ]
    refine wpAnyH_take (i := 52) (v := ?_) rfl (by kernel_rfl) (by kernel_rfl) (by kernel_rfl) (fun _ _ _ h => h) (Or.inl ⟨by rfl, ?_⟩) hHeld ?_
    rotate_left
    · intro w hSw
      go_simp
      with_reducible rfl
    try simp only [Act.put, List.getElem_toArray, List.getElem_cons_zero, List.getElem_cons_succ, List.setIfInBounds_toArray, List.set_cons_zero, List.set_cons_succ]
    refine wpAnyH_done (by kernel_rfl) ?_ _
    gi_wp2
    have e1 := set_blk HZ2.out 0 (.int .i64 (i : Int))
    have f1 := Fr.set1 W (w1.heap.size + 1) 0 (.int .i64 (i : Int))
    have z1 := (f1.block _ (lt_of_block HZ1.out) (fun e => by have e' : w1.heap.size = w1.heap.size + 1 := e; omega)).trans HZ1.out
    have e2 := set_blk z1 0 (.int .i64 ((k : Int) + 1))
    have f2 := Fr.set1 (W.setCell ⟨w1.heap.size + 1, 0, none⟩ (.int .i64 (i : Int))) w1.heap.size 0 (.int .i64 ((k : Int) + 1))
    have e3 := (f2.block _ (lt_of_block e1) (fun e => by have e' : w1.heap.size + 1 = w1.heap.size := e; omega)).trans e1
    have hoth : Oth W ((W.setCell ⟨w1.heap.size + 1, 0, none⟩ (.int .i64 (i : Int))).setCell ⟨w1.heap.size, 0, none⟩ (.int .i64 ((k : Int) + 1))).drew := (Oth.of f1 (fun j e => ⟨.cells #[.int .i64 (lastB pre)] 3 (0, 0), by rw [show j = w1.heap.size + 1 from e]; exact HZ2.out, rfl⟩)).trans (Oth.of f2.drew (fun j e => ⟨.cells #[.int .i64 (pre.length : Int)] 3 (0, 0), by rw [show j = w1.heap.size from e]; exact z1, rfl⟩))
    have hT : Fr (fun j => w1.heap.size ≤ j) W ((W.setCell ⟨w1.heap.size + 1, 0, none⟩ (.int .i64 (i : Int))).setCell ⟨w1.heap.size, 0, none⟩ (.int .i64 ((k : Int) + 1))).drew := ((f1.mono (fun j _ e => by have e' : j = w1.heap.size + 1 := e; show w1.heap.size ≤ j; omega)).then f2 (fun j _ e => by have e' : j = w1.heap.size := e; show w1.heap.size ≤ j; omega)).drew
    have hV : Fr (fun j => w1.heap.size ≤ j) w1 ((W.setCell ⟨w1.heap.size + 1, 0, none⟩ (.int .i64 (i : Int))).setCell ⟨w1.heap.size, 0, none⟩ (.int .i64 ((k : Int) + 1))).drew := (HFW.out.mono (fun j _ h => h.elim (fun h => h.elim) id)).then hT (fun j _ h => h)
    refine ⟨hoth.keeps hT.size, hT, ?_, ?_, hV⟩
    · rw [HK.out]; exact e2
    · rw [lastB_snoc]; exact e3
  case done =>
    rintro D W hD ⟨hz1, hz2, hFW⟩ hK
    subst hA0
    have HRW := hid (HR1.out.fr hFW (fun k hk h => h.elim id (by have := HR1.out.lt k hk; omega)))
    have hold : ∀ (k : Nat) (o : Obj), w1.heap[k]? = some o → W.heap[k]? = some o := fun k o h => (hFW.block k (lt_of_block h) (fun h' => h'.elim id (by have := lt_of_block h; omega))).trans h
    have HBB2 := hid (hold _ _ HBB.out)
    have HN2 := hid hz1
    have HD2 := hid hD
    have HK2 := hid hK
    have HFF := hid (HF1.out.then hFW (fun i hi h => h.elim (fun h => h.elim) (by have := HF1.out.size; omega)))
    have hl4' : (L.length : Int) ≤ 4096 := by omega
    obtain ⟨vs, vd, hRV⟩ := HRW.out
    have HRV := hid hRV
    obtain ⟨q0, q1, _, _⟩ := hRV.cells
    obtain ⟨ga, gcap, rfl⟩ := own_form hRV.row
    obtain ⟨gb, gcap2, rfl⟩ := own_form hRV.dir
    have rb0 := (cell_blk (hold _ _ HRB.out) 0).trans (show _ = some (Value.pointer (some ⟨q, 0, none⟩)) from rfl)
    obtain ⟨sb0, sb1, _, _⟩ := blk2 (hold _ _ HSB.out)
    clear hD hz1 hz2 hFW hK hold hRV
    go_wp2_with fail
    go_loopg [12, 13] L.length (fun g x i wr => ∃ k : Nat, k + g = L.length ∧ x = .int .i64 ((wantN L a n k : Nat) : Int) ∧ i = .int .i64 k ∧ wr = W)
    case atStart => exact ⟨0, by omega, by rw [wantN_zero]; rfl, rfl, rfl⟩
    case round =>
      obtain ⟨k, hk, rfl, rfl, rfl⟩ := hrel
      cases gk with
      | zero =>
        obtain rfl : k = L.length := by omega
        rw [want_all L a n ha hn]
        obtain ⟨m, hm⟩ : ∃ m, (allX L a n).length = m := ⟨_, rfl⟩
        have hn2 := HN2.out
        rw [hm] at hn2 ⊢
        have c1 := (cell_blk hn2 0).trans (show _ = some (Value.int .i64 (m : Int)) from rfl)
        have z0 := (cell_blk HBB2.out 0).trans (show _ = some (Value.bool false) from rfl)
        have z1 := free_blk HBB2.out 0
        go_wp2_with fail
        have hset := Fr.set1 wr (w.heap.size + 1 + 1) 0 (.bool true)
        have hk3 := (hset.block D (lt_of_block HK2.out) (fun e => by have e' : D = w.heap.size + 1 + 1 := e; have hh := HK2.out; rw [e', HBB2.out] at hh; cases hh)).trans HK2.out
        have hb := set_blk HBB2.out 0 (.bool true)
        have hfin : Fr No w _ := HFF.out.then hset (fun i hi e => absurd hi (by have e' : i = w.heap.size + 1 + 1 := e; omega))
        have hnb3 : w.heap.size + 1 + 1 ≠ D := fun e => by rw [← e, hb] at hk3; cases hk3
        refine ⟨by simp, .inl ⟨_, _, rfl, run_takeDeferred hk3, ?_⟩⟩
        have hb' := (World.putObj_heap_other (o := Obj.deferred none) hnb3).trans hb
        have hfin' := hfin.put D (Obj.deferred none) (fun h => absurd h (by have := HD2.out; have := HSZ.out; have := HF1.out.size; omega))
        have e0 := (cell_blk hb' 0).trans (show _ = some (Value.bool true) from rfl)
        refine ⟨.bool true, ?_, rfl, hfin'⟩
        simp [results, Try.f15, go_sem, e0]
      | succ gk =>
        have hkm : k < L.length := by omega
        have hki : (k : Int) < (L.length : Int) := by omega
        obtain ⟨g1, cp1, hv1, hgl1, a0, _⟩ := HRV.out.at k hkm
        cases hv1
        have HC := hid (wantN_succ L a n ha hn k hkm)
        have hn1 := wantN_le L a n k
        obtain ⟨cn, hcn⟩ : ∃ c, wantN L a n k = c := ⟨_, rfl⟩
        rw [hcn] at HC hn1 ⊢
        clear hcn
        have hn1' : (cn : Int) ≤ 4096 := by omega
        obtain ⟨o, ho⟩ : ∃ o : Pl, L[k]'hkm = o := ⟨_, rfl⟩
        rw [ho] at HC a0
        clear ho
        cases o with
        | none =>
          simp only [plS] at a0
          go_wp2_with fail
          go_roundg gk
          case measure => omega
          case rel => exact ⟨k + 1, by omega, by rw [HC.out]; simp, by go_num, rfl⟩
        | some o =>
          obtain ⟨x, d⟩ := o
          simp only [plS] at a0
          by_cases h1 : a ≤ (k : Int)
          · have hw1 : IntKind.i64.wrap ((k : Int) - a) = (k : Int) - a := by rw [IntKind.wrap_i64]; omega
            by_cases h2 : (k : Int) - a < n
            · have HC2 := hid (HC.out.trans (by rw [if_pos ⟨rfl, h1, h2⟩]))
              go_wp2_with fail
              go_roundg gk
              case measure => omega
              case rel => exact ⟨k + 1, by omega, by rw [HC2.out]; go_num, by go_num, rfl⟩
            · have HC2 := hid (HC.out.trans (by rw [if_neg (fun h => h2 h.2.2)]))
              go_wp2_with fail
              go_roundg gk
              case measure => omega
              case rel => exact ⟨k + 1, by omega, by rw [HC2.out]; rfl, by go_num, rfl⟩
          · have HC2 := hid (HC.out.trans (by rw [if_neg (fun h => h1 h.2.1)]))
            go_wp2_with fail
            go_roundg gk
            case measure => omega
            case rel => exact ⟨k + 1, by omega, by rw [HC2.out]; rfl, by go_num, rfl⟩
end Go.Proofs.Ytfggllhflibfcaa
