/- The law IndexPlays. -/
import Derived.Test.YtfggllhflibfcaaIxX
namespace Go.Proofs.Ytfggllhflibfcaa
open Go.RowKit Go.Shelf Go.Maps
attribute [local go_sem] Oper.semAt_some
def runN (n m : Nat) (xs : List OpI) (k : Nat) : List Pl := (xs.take k).foldl (fun L o => opI L m o) (List.replicate n none)
theorem runN_succ (n m : Nat) (xs : List OpI) (k : Nat) (hk : k < xs.length) : runN n m xs (k + 1) = opI (runN n m xs k) m xs[k] := by
  unfold runN
  rw [List.take_succ_eq_append_getElem hk, List.foldl_append]; rfl
theorem runN_len (n m : Nat) (xs : List OpI) (k : Nat) : (runN n m xs k).length = n := by
  unfold runN
  have h : ∀ (l : List OpI) (L : List Pl), (l.foldl (fun L o => opI L m o) L).length = L.length := by
    intro l
    induction l with
    | nil => intro L; rfl
    | cons o l ih => intro L; rw [List.foldl_cons, ih, opI_len]
  rw [h]; simp
set_option maxRecDepth 1000000 in
set_option maxHeartbeats 8000000 in
theorem law_IndexPlays (w : World) (x : Int × Int) (_hx : (Lit.int .i64 x.1).wf = true ∧ (Lit.int .i64 x.2).wf = true) (r : SRow) (hr : r.Ok w op9Sh) (sp : Int × Int) (hsp : (Lit.int .i64 sp.1).wf = true ∧ (Lit.int .i64 sp.2).wf = true) :
    Calls Try.prog 3 #[i2v x, r.v, spV9 sp] w fun e w' => e = .returned (.bool true) ∧ Fr No w w' := by
  obtain ⟨xs, hv, hE, hxw⟩ := ops9_of hr
  rw [hv]
  obtain ⟨ra, hra⟩ : ∃ ra, r.a = ra := ⟨_, rfl⟩
  obtain ⟨rc, hrc⟩ : ∃ rc, r.cap = rc := ⟨_, rfl⟩
  rw [hra] at hE
  rw [hra, hrc]
  have HE := hid hE
  have HXW := hid hxw
  obtain ⟨n, m⟩ := x
  obtain ⟨a, b⟩ := sp
  have ha63 : a ≤ 9223372036854775807 := by have wa := hsp.1; unfold Lit.wf at wa; rw [Bool.and_eq_true, decide_eq_true_eq, decide_eq_true_eq] at wa; exact wa.2
  have hb63 : b ≤ 9223372036854775807 := by have wa := hsp.2; unfold Lit.wf at wa; rw [Bool.and_eq_true, decide_eq_true_eq, decide_eq_true_eq] at wa; exact wa.2
  clear hv hr hra hrc hE hxw _hx hsp
  unfold spV9 i2v
  have HF0 := hid ((((Fr.refl No w).alloc (.cells #[.int .i64 n, .int .i64 m] 22)).alloc (.cells #[.int .i64 a, .int .i64 b] 25)).alloc (.cells #[.bool false] 4))
  have HTB0 : Hid ((((w.alloc (.cells #[.int .i64 n, .int .i64 m] 22)).alloc (.cells #[.int .i64 a, .int .i64 b] 25)).alloc (.cells #[.bool false] 4)).heap[w.heap.size]? = some (.cells #[.int .i64 n, .int .i64 m] 22 (0, 0))) := heap_more (heap_more (heap_new w (.cells #[.int .i64 n, .int .i64 m] 22)))
  have HSB0 : Hid ((((w.alloc (.cells #[.int .i64 n, .int .i64 m] 22)).alloc (.cells #[.int .i64 a, .int .i64 b] 25)).alloc (.cells #[.bool false] 4)).heap[w.heap.size + 1]? = some (.cells #[.int .i64 a, .int .i64 b] 25 (0, 0))) := by unfold Hid; have := heap_new (w.alloc (.cells #[.int .i64 n, .int .i64 m] 22)) (.cells #[.int .i64 a, .int .i64 b] 25); rw [World.size_alloc] at this; exact heap_more this
  have HRB0 : Hid ((((w.alloc (.cells #[.int .i64 n, .int .i64 m] 22)).alloc (.cells #[.int .i64 a, .int .i64 b] 25)).alloc (.cells #[.bool false] 4)).heap[w.heap.size + 1 + 1]? = some (.cells #[.bool false] 4 (0, 0))) := by unfold Hid; have := heap_new ((w.alloc (.cells #[.int .i64 n, .int .i64 m] 22)).alloc (.cells #[.int .i64 a, .int .i64 b] 25)) (.cells #[.bool false] 4); rw [World.size_alloc, World.size_alloc] at this; exact this
  refine (callsIn_wide (n := 5)).1 (callsIn_of_wp_marks Try.func3 rfl trivial (wpIn_wide.2 ?_) rfl)
  simp only [Try.ntmps3, List.size_toArray, List.length_cons, List.length_nil, Nat.reduceAdd, Nat.reduceSub, Array.replicate_succ, Array.replicate_zero, List.push_toArray, List.append_toArray, List.nil_append, List.cons_append]
  by_cases hA : (20 < n ∧ n ≤ 4096) ∨ (20 < m ∧ m ≤ 1024)
  · rcases (by omega : (20 < n ∧ n ≤ 4096) ∨ (n ≤ 20 ∧ 20 < m ∧ m ≤ 1024) ∨ (20 < n ∧ 4096 < n ∧ 20 < m ∧ m ≤ 1024)) with ⟨h1, h2⟩ | ⟨h1, h2, h3⟩ | ⟨h1, h2, h3, h4⟩
    all_goals
      clear hA
      go_wp2_with (go_at_call 9; refine (ix_awake _).mono ?_; rintro e w2 ⟨rfl, hF⟩; have HF2 := hid (HF0.out.trans hF); have HRB2 := hid (blk_no hF HRB0.out); have z0 := (cell_blk HRB2.out 0).trans (show _ = some (Value.bool false) from rfl); have z1 := free_blk HRB2.out 0; clear hF)
      try rw [Exit.noGoto_ret]
      refine ⟨.bool true, ?_, rfl, HF2.out.setCell (p := ⟨w.heap.size + 1 + 1, 0, none⟩) (fun h => absurd h (by show ¬ w.heap.size + 1 + 1 < w.heap.size; omega)) _⟩
      have cz : (w2.setCell ⟨w.heap.size + 1 + 1, 0, none⟩ (.bool true)).cell? ⟨w.heap.size + 1 + 1, 0, none⟩ = some (.bool true) := by rw [cell_blk (set_blk HRB2.out 0 _)]; rfl
      simp [results, Try.f3, go_sem, cz]
  by_cases hB : newOk n m = false
  · have hB' : ¬ (1 ≤ n ∧ n ≤ 4096 ∧ 1 ≤ m ∧ m ≤ 1024) := by simpa [newOk] using hB
    have HB := hid hB
    rcases (by omega : (n < 1 ∧ n ≤ 20 ∧ m ≤ 20) ∨ (n < 1 ∧ n ≤ 20 ∧ 20 < m ∧ 1024 < m) ∨ (1 ≤ n ∧ 20 < n ∧ 4096 < n ∧ m ≤ 20) ∨ (1 ≤ n ∧ 20 < n ∧ 4096 < n ∧ 20 < m ∧ 1024 < m) ∨ (1 ≤ n ∧ n ≤ 20 ∧ n ≤ 4096 ∧ m ≤ 20 ∧ m < 1) ∨ (1 ≤ n ∧ n ≤ 20 ∧ n ≤ 4096 ∧ 1 ≤ m ∧ 20 < m ∧ 1024 < m)) with ⟨h1, h2, h3⟩ | ⟨h1, h2, h3, h4⟩ | ⟨h1, h2, h3, h4⟩ | ⟨h1, h2, h3, h4, h5⟩ | ⟨h1, h2, h3, h4, h5⟩ | ⟨h1, h2, h3, h4, h5, h6⟩
    all_goals
      clear hA hB hB'
      go_wp2_with (first
        | (go_at_call 10; refine (ix_New_bad _ n m HB.out).mono ?_; rintro e w1 ⟨rfl, e1⟩; subst w1)
        | (go_at_call 9; refine (ix_awake _).mono ?_; rintro e w2 ⟨rfl, hF⟩; have HF2 := hid (HF0.out.trans hF); have HRB2 := hid (blk_no hF HRB0.out); have z0 := (cell_blk HRB2.out 0).trans (show _ = some (Value.bool false) from rfl); have z1 := free_blk HRB2.out 0; clear hF))
      try rw [Exit.noGoto_ret]
      refine ⟨.bool true, ?_, rfl, HF2.out.setCell (p := ⟨w.heap.size + 1 + 1, 0, none⟩) (fun h => absurd h (by show ¬ w.heap.size + 1 + 1 < w.heap.size; omega)) _⟩
      have cz : (w2.setCell ⟨w.heap.size + 1 + 1, 0, none⟩ (.bool true)).cell? ⟨w.heap.size + 1 + 1, 0, none⟩ = some (.bool true) := by rw [cell_blk (set_blk HRB2.out 0 _)]; rfl
      simp [results, Try.f3, go_sem, cz]
  have hC : 1 ≤ n ∧ n ≤ 20 ∧ 1 ≤ m ∧ m ≤ 20 := by
    have : 1 ≤ n ∧ n ≤ 4096 ∧ 1 ≤ m ∧ m ≤ 1024 := by simpa [newOk] using hB
    omega
  clear hA hB
  obtain ⟨n', rfl⟩ : ∃ n' : Nat, n = n' := ⟨n.toNat, by omega⟩
  obtain ⟨m', rfl⟩ : ∃ m' : Nat, m = m' := ⟨m.toNat, by omega⟩
  obtain ⟨c1, c2, c3, c4⟩ := hC
  have c5 : (n' : Int) ≤ 4096 := by omega
  have c6 : (m' : Int) ≤ 1024 := by omega
  by_cases h80 : xs.length ≤ 80
  case neg =>
    have h80' : 80 < (xs.length : Int) := by omega
    go_wp2_with (first
      | (go_at_call 10; refine (ix_New _ n' m' (by omega) (by omega) (by omega) (by omega)).mono ?_; rintro e w1 ⟨p, S, rfl, -, -, hF⟩; have HF := hid (HF0.out.trans hF); have HRB := hid (blk_no hF HRB0.out); have ht := blk_no hF HTB0.out; clear hF; obtain ⟨t0, t1, _, _⟩ := blk2 ht)
      | (go_at_call 9; refine (ix_awake _).mono ?_; rintro e w2 ⟨rfl, hF⟩; have HF2 := hid (HF.out.trans hF); have HRB2 := hid (blk_no hF HRB.out); have z0 := (cell_blk HRB2.out 0).trans (show _ = some (Value.bool false) from rfl); have z1 := free_blk HRB2.out 0; clear hF))
    try rw [Exit.noGoto_ret]
    refine ⟨.bool true, ?_, rfl, HF2.out.setCell (p := ⟨w.heap.size + 1 + 1, 0, none⟩) (fun h => absurd h (by show ¬ w.heap.size + 1 + 1 < w.heap.size; omega)) _⟩
    have cz : (w2.setCell ⟨w.heap.size + 1 + 1, 0, none⟩ (.bool true)).cell? ⟨w.heap.size + 1 + 1, 0, none⟩ = some (.bool true) := by rw [cell_blk (set_blk HRB2.out 0 _)]; rfl
    simp [results, Try.f3, go_sem, cz]
  have h80' : (xs.length : Int) ≤ 80 := by omega
  go_wp2_with (first
    | (go_at_call 10; refine (ix_New _ n' m' (by omega) (by omega) (by omega) (by omega)).mono ?_; rintro e w1 ⟨p, S, rfl, hI, hS, hF⟩; have HI := hid hI; have HS := hid (show ∀ k, S k → w.heap.size + 3 ≤ k from fun k hk => by have := hS k hk; simp at this; omega); have HF := hid (HF0.out.trans hF); have HSB := hid (blk_no hF HSB0.out); have HRB := hid (blk_no hF HRB0.out); have ht := blk_no hF HTB0.out; clear hI hS hF; obtain ⟨t0, t1, _, _⟩ := blk2 ht)
    | (go_at_call 11; refine (rf_New _ n' m' (by omega)).mono ?_; rintro e w2 ⟨q, T, rfl, hR, hT, hF⟩; have HI2 := hid (HI.out.no hF); have HR2 := hid hR; have HD := hid (show ∀ k, S k → ¬ T k from fun k h1 h2 => by have h3 := HI.out.lt k h1; have h4 := hT k h2; omega); have HT := hid (show ∀ k, T k → w.heap.size + 3 ≤ k from fun k hk => by have h4 := hT k hk; have h5 := lt_of_block HRB.out; omega); have HF2 := hid (HF.out.trans hF); have HSB2 := hid (blk_no hF HSB.out); have HRB2 := hid (blk_no hF HRB.out); clear hR hT hF t0 t1))
  go_loopg [10] xs.length (fun g i wr => ∃ k : Nat, k + g = xs.length ∧ i = .int .i64 k ∧ Hid (Ix wr p S (runN n' m' xs k) m' k) ∧ Hid (Rf wr q T (runN n' m' xs k) m') ∧ Hid (Fr No w wr) ∧ Hid (wr.heap[w.heap.size + 1]? = some (.cells #[.int .i64 a, .int .i64 b] 25 (0, 0))) ∧ Hid (wr.heap[w.heap.size + 1 + 1]? = some (.cells #[.bool false] 4 (0, 0))))
  case atStart => exact ⟨0, by omega, rfl, HI2, HR2, HF2, HSB2, HRB2⟩
  case round =>
    obtain ⟨k, hk, rfl, HI, HR, HF, HSB, HRB⟩ := hrel
    cases gk with
    | succ gk =>
      have hkm : k < xs.length := by omega
      have hki : (k : Int) < (xs.length : Int) := by omega
      obtain ⟨bb, oo, rfl, hb, a0, a1, a2, a3⟩ := HE.out.op9 k hkm
      have hwf := hid (HXW.out _ (List.getElem_mem hkm))
      have HRN := hid (runN_succ n' m' xs k hkm)
      have HLN := hid (runN_len n' m' xs k)
      obtain ⟨op, hop⟩ : ∃ op, xs[k] = op := ⟨_, rfl⟩
      rw [hop] at a0 a1 a2 a3 hwf HRN
      have d0 := (HF.out.cell (p := ⟨bb, oo + k * 4, none⟩) hb id).trans a0
      have d1 := (HF.out.cell (p := ⟨bb, oo + k * 4 + 1, none⟩) hb id).trans a1
      have d2 := (HF.out.cell (p := ⟨bb, oo + k * 4 + 2, none⟩) hb id).trans a2
      have d3 := (HF.out.cell (p := ⟨bb, oo + k * 4 + 3, none⟩) hb id).trans a3
      clear hop a0 a1 a2 a3
      go_wp2_with (first
        | (go_at_call 12; refine (ix_does _ p q m' m' k S T _ _ HI.out HR.out HD.out (by rw [HLN.out]; omega) op hwf.out (by omega)).mono ?_; rintro e w3 ⟨bo, rfl, hI, hR, hF, hq⟩; obtain rfl : bo = true := hq rfl rfl; rw [← HRN.out] at hI hR; have HI3 := hid hI; have HR3 := hid hR; have HF3 := hid (HF.out.then hF (fun i hi h => absurd hi (by rcases h with h | h; have := HS.out i h; omega; have := HT.out i h; omega))); have HSB3 := hid ((hF.block (w.heap.size + 1) (lt_of_block HSB.out) (fun h => by rcases h with h | h; have := HS.out _ h; omega; have := HT.out _ h; omega)).trans HSB.out); have HRB3 := hid ((hF.block (w.heap.size + 1 + 1) (lt_of_block HRB.out) (fun h => by rcases h with h | h; have := HS.out _ h; omega; have := HT.out _ h; omega)).trans HRB.out); clear hI hR hF hq d0 d1 d2 d3)
        | (go_at_call 13; refine (ix_same _ p q m' (k + 1) S T _ HI3.out HR3.out (by omega)).mono ?_; rintro e w4 ⟨rfl, hF⟩; have HI4 := hid (HI3.out.no hF); have HR4 := hid (HR3.out.no hF); have HF4 := hid (HF3.out.trans hF); have HSB4 := hid (blk_no hF HSB3.out); have HRB4 := hid (blk_no hF HRB3.out); clear hF))
      go_roundg gk
      case measure => omega
      case rel => exact ⟨k + 1, by omega, by go_num, HI4, HR4, HF4, HSB4, HRB4⟩
    | zero =>
      obtain rfl : k = xs.length := by omega
      obtain ⟨L, hL⟩ : ∃ L, runN n' m' xs xs.length = L := ⟨_, rfl⟩
      rw [hL] at HI HR
      clear hL HE HXW HI2 HR2 HF2 HSB2 HRB2
      have hs := HSB.out
      obtain ⟨s0, s1, _, _⟩ := blk2 hs
      clear hs
      by_cases hneg : a < 0 ∨ b < 0
      · have HN := hid (show allX L a b = [] from by unfold allX; rw [show allOk L a b = false from decide_eq_false (by omega)]; rfl)
        rcases (by omega : a < 0 ∨ (0 ≤ a ∧ b < 0)) with h1 | ⟨h1, h2⟩
        all_goals
          clear hneg
          go_wp2_with (go_at_call 14; refine (ix_AllV _ p m' _ S L HI.out a b hb63).mono ?_; rw [HN.out]; rintro e w5 ⟨fv, rfl, hV, hF⟩; obtain ⟨gf, lb, rfl, hen, hnn, hcm⟩ := hV; have HEN := hid hen; have HCM := hid hcm; have HF5 := hid (HF.out.trans hF); have HRB5 := hid (blk_no hF HRB.out); clear hF hen hcm s0 s1)
          refine use_act9 (P := fun A => Code.wp _ _ _ A _) _ (fun A0 hA0 => ?_)
          have hIo : OwnFrom w5.heap.size (fun (_ : List (Int × Pl)) W => W.heap[w.heap.size + 1 + 1]? = some (.cells #[.bool false] 4 (0, 0)) ∧ Fr (fun k => No k ∨ w5.heap.size ≤ k) w5 W) :=
            OwnFrom.and (Own.from (block_own (w.heap.size + 1 + 1) (fun _ : List (Int × Pl) => (.cells #[.bool false] 4)) (fun _ => rfl)) _) (own_fr w5.heap.size _ (Nat.le_refl _) w5 No)
          refine wpIn_wide.1 (rangeFunc_calmN (α := Int × Pl) (n := 5) (gf := gf) (lb := lb) (by rw [hA0]; rfl) HEN.out (HCM.out No (fun k => w5.heap.size ≤ k) w5 (5 - 1) (Fr.refl No w5) (fun _ _ _ => id) (fun k h1 h2 h3 => by omega)) (by show w5.heap.size ≤ _; omega) (by intro _; rfl)
            (fun _ W => W.heap[w.heap.size + 1 + 1]? = some (.cells #[.bool false] 4 (0, 0)) ∧ Fr (fun k => No k ∨ w5.heap.size ≤ k) w5 W) hIo ⟨HRB5.out, Fr.refl _ w5⟩ (fun _ _ _ => True) (fun _ _ _ _ _ _ _ _ _ => trivial) ?assign ?body ?done)
          case assign =>
            intro l pre x W K hI hK
            have hK2 := hid (fun a' => hK a' W ⟨Nat.le_refl _, fun _ _ _ h _ => h⟩ (Fr.refl _ W) hI trivial)
            clear hK
            subst hA0
            gi_wp2
            exact hK2.out _
          case body =>
            intro l pre x a' W _ _ hpre
            exact absurd hpre (by simp)
          case done =>
            rintro D W hD ⟨hz, hFW⟩ hK
            subst hA0
            have HDD := hid hD
            have HKD := hid hK
            have HRB6 := hid hz
            have HF6 := hid (HF5.out.then hFW (fun i hi h => h.elim (fun h => h.elim) (by have := HF5.out.size; omega)))
            clear hD hz hFW hK
            go_wp2_with (go_at_call 9; refine (ix_awake _).mono ?_; rintro e w9 ⟨rfl, hF⟩; have HF9 := hid (HF6.out.trans hF); have HRB9 := hid (blk_no hF HRB6.out); have HK9 := hid (blk_no hF HKD.out); have z0 := (cell_blk HRB9.out 0).trans (show _ = some (Value.bool false) from rfl); have z1 := free_blk HRB9.out 0; clear hF)
            have hset := Fr.set1 w9 (w.heap.size + 1 + 1) 0 (.bool true)
            have hk3 := (hset.block D (lt_of_block HK9.out) (fun e => by have e' : D = w.heap.size + 1 + 1 := e; have hh := HK9.out; rw [e', HRB9.out] at hh; cases hh)).trans HK9.out
            have hb := set_blk HRB9.out 0 (.bool true)
            have hfin : Fr No w _ := HF9.out.then hset (fun i hi e => absurd hi (by have e' : i = w.heap.size + 1 + 1 := e; omega))
            have hnb3 : w.heap.size + 1 + 1 ≠ D := fun e => by rw [← e, hb] at hk3; cases hk3
            refine ⟨by simp, .inl ⟨_, _, rfl, run_takeDeferred hk3, ?_⟩⟩
            have hb' := (World.putObj_heap_other (o := Obj.deferred none) hnb3).trans hb
            have hfin' := hfin.put D (Obj.deferred none) (fun h => absurd h (by have := HDD.out; have := HF5.out.size; omega))
            have e0 := (cell_blk hb' 0).trans (show _ = some (Value.bool true) from rfl)
            refine ⟨.bool true, ?_, rfl, hfin'⟩
            simp [results, Try.f3, go_sem, e0]
      · have h1 : 0 ≤ a := by omega
        have h2 : 0 ≤ b := by omega
        clear hneg
        go_wp2_with (first
          | (go_at_call 15; refine (ix_all _ p q m' m' _ S T L HI.out HR.out a b h1 ha63 h2 hb63).mono ?_; rintro e w5 ⟨rfl, hF⟩; have HF5 := hid (HF.out.trans hF); have HRB5 := hid (blk_no hF HRB.out); clear hF s0 s1)
          | (go_at_call 9; refine (ix_awake _).mono ?_; rintro e w2 ⟨rfl, hF⟩; have HF2 := hid (HF5.out.trans hF); have HRB2 := hid (blk_no hF HRB5.out); have z0 := (cell_blk HRB2.out 0).trans (show _ = some (Value.bool false) from rfl); have z1 := free_blk HRB2.out 0; clear hF))
        try rw [Exit.noGoto_ret]
        refine ⟨.bool true, ?_, rfl, HF2.out.setCell (p := ⟨w.heap.size + 1 + 1, 0, none⟩) (fun h => absurd h (by show ¬ w.heap.size + 1 + 1 < w.heap.size; omega)) _⟩
        have cz : (w2.setCell ⟨w.heap.size + 1 + 1, 0, none⟩ (.bool true)).cell? ⟨w.heap.size + 1 + 1, 0, none⟩ = some (.bool true) := by rw [cell_blk (set_blk HRB2.out 0 _)]; rfl
        simp [results, Try.f3, go_sem, cz]
end Go.Proofs.Ytfggllhflibfcaa
