/- index: Repeat, New. -/
import Derived.Test.YtfggllhflibfcaaIxE
import Derived.Test.YtfggllhflibfcaaSpE
import Derived.WalkSmall
namespace Go.Proofs.Ytfggllhflibfcaa
open Go.RowKit Go.Maps
theorem and32 (n : Nat) (hn : n < 4294967296) : bits .and .u64 (n : Int) 4294967295 = (n : Int) := by
  have h := bits_and_u64_nat n 4294967295 (by omega) (by omega)
  rw [show (4294967295 : Nat) = 2 ^ 32 - 1 from rfl, Nat.and_two_pow_sub_one_eq_mod, Nat.mod_eq_of_lt hn] at h
  exact h
theorem ix_Mul64 (w : World) (n : Nat) (hn : n ≤ 4096) : Calls Try.prog 45 #[.int .u64 1, .int .u64 (n : Int)] w fun e w' => e = .returned (.tuple #[.int .u64 0, .int .u64 (n : Int)]) ∧ w' = w := by
  have h1 : bits .and .u64 1 4294967295 = 1 := and32 1 (by omega)
  have h2 := and32 n (by omega)
  have h3 : (n : Int) / 4294967296 = 0 := by omega
  have h4 : IntKind.u64.wrap (n : Int) = n := by rw [IntKind.wrap_u64]; omega
  have h5 : bits .and .u64 0 4294967295 = 0 := and32 0 (by omega)
  have h6 : IntKind.u64.wrap 0 = 0 := by decide
  go_enter Try.func45, Try.ntmps45
  go_wp2_with fail
  go_ret2
  exact ⟨rfl, rfl⟩
theorem ix_Mul (w : World) (n : Nat) (hn : n ≤ 4096) : Calls Try.prog 42 #[.int .u64 1, .int .u64 (n : Int)] w fun e w' => e = .returned (.tuple #[.int .u64 0, .int .u64 (n : Int)]) ∧ w' = w := by
  go_enter Try.func42, Try.ntmps42
  go_wp2_with (go_at_call 45; refine (ix_Mul64 _ n hn).mono ?_; rintro e w2 ⟨rfl, e2⟩; subst e2)
  go_ret2
  exact ⟨rfl, rfl⟩
def repL (n k : Nat) : List Pl := List.replicate k none ++ List.replicate (n - k) (some (0, false))
theorem rep_len (n k : Nat) (h : k ≤ n) : (repL n k).length = n := by simp [repL]; omega
theorem flatP_l (L : List Pl) : (L.flatMap plV).length = L.length * 2 := flat_len plV 2 L (fun x _ => plV_len x)
theorem rep_step (n k j : Nat) (h : k + j ≤ n) : setsL ((repL n k).flatMap plV) (k * 2) ((List.replicate j none).flatMap plV) = (repL n (k + j)).flatMap plV := by
  rw [setsL_eq _ _ _ (by rw [flatP_l, flatP_l, rep_len n k (by omega), List.length_replicate]; omega), flatP_l, List.length_replicate]
  have e1 : (repL n k).flatMap plV = (List.replicate k none).flatMap plV ++ ((List.replicate j (some (0, false))).flatMap plV ++ (List.replicate (n - (k + j)) (some (0, false))).flatMap plV) := by
    unfold repL
    rw [List.flatMap_append, show n - k = j + (n - (k + j)) by omega, ← List.replicate_append_replicate, List.flatMap_append]
  have l1 : ((List.replicate k (none : Pl)).flatMap plV).length = k * 2 := by rw [flatP_l, List.length_replicate]
  have l2 : ((List.replicate j (some (0, false) : Pl)).flatMap plV).length = j * 2 := by rw [flatP_l, List.length_replicate]
  rw [e1]
  have t1 : ((List.replicate k (none : Pl)).flatMap plV ++ ((List.replicate j (some (0, false))).flatMap plV ++ (List.replicate (n - (k + j)) (some (0, false))).flatMap plV)).take (k * 2) = (List.replicate k none).flatMap plV := List.take_left' l1
  have t2 : ((List.replicate k (none : Pl)).flatMap plV ++ ((List.replicate j (some (0, false))).flatMap plV ++ (List.replicate (n - (k + j)) (some (0, false))).flatMap plV)).drop (k * 2 + j * 2) = (List.replicate (n - (k + j)) (some (0, false))).flatMap plV := by
    rw [← List.append_assoc]; exact List.drop_left' (by rw [List.length_append, l1, l2])
  rw [t1, t2]
  unfold repL
  rw [← List.flatMap_append, List.replicate_append_replicate, ← List.flatMap_append]
theorem pl_info : (Try.prog.info? 44).map (fun i => (i.zero, i.size, i.bytes)) = some (some (.agg #[.int .i64 0, .bool false]), 2, 16) := by kernel_rfl
theorem made_pl (n : Nat) : (madeCells #[.int .i64 0, .bool false] (n * 2)).toList = (repL n 0).flatMap plV := by
  unfold repL
  rw [List.replicate_zero, List.nil_append, Nat.sub_zero]
  have hl : ((List.replicate n (some (0, false) : Pl)).flatMap plV).length = n * 2 := by rw [flatP_l, List.length_replicate]
  apply List.ext_getElem?
  intro j
  by_cases hj : j < n * 2
  · have h1 := flat_get plV 2 (List.replicate n (some (0, false))) (fun x _ => plV_len x) (j / 2) (by rw [List.length_replicate]; omega) (j % 2) (Nat.mod_lt _ (by omega))
    rw [show j / 2 * 2 + j % 2 = j by omega] at h1
    rw [h1, List.getElem_replicate]
    have h2 : j % 2 < 2 := Nat.mod_lt _ (by omega)
    rcases (by omega : j % 2 = 0 ∨ j % 2 = 1) with h3 | h3 <;> simp [madeCells, hj, plV, h3]
  · rw [List.getElem?_eq_none (by simp [size_madeCells]; omega), List.getElem?_eq_none (by rw [hl]; omega)]
theorem mk_pl (n : Nat) (hn : n ≤ 4096) (W : World) : (Instr.makeSlice 58 (.int .i64 (n : Int)) (.int .i64 (n : Int))).run Try.prog W = .ok (.slice (some ⟨W.heap.size, 0, none⟩) n n) (W.alloc (.cells (madeCells #[.int .i64 0, .bool false] (n * 2)) 44)) := by
  obtain ⟨i0, hi, hz0, hz1, hz2⟩ := info_parts pl_info
  have := run_make (P := Try.prog) W 58 44 i0 (.agg #[.int .i64 0, .bool false]) Try.underlying58 hi hz0 .i64 .i64 (n : Int) (n : Int) (by omega) (by omega) (by rw [hz2]; omega) (by omega)
  rw [this, hz1]
  simp only [Int.toNat_natCast]
  rfl
theorem run_copy_n {P : Program} (w : World) (dT sT ty elem : TypeId) (z : Nat) (b o dLen dCap : Nat) (a : Addr) (sLen sCap : Nat) (cs : List Value)
    (hu : P.underlying dT = some (.slice elem)) (hs : (P.info? elem).map (·.size) = some z) (hn : cs.length = Nat.min sLen dLen * z)
    (hsrc : ∀ j v, cs[j]? = some v → w.cell? (a.add j) = some v) (hc : ∀ j, j < cs.length → (w.cell? ⟨b, o + j, none⟩).isSome = true) (hf : ∀ j, j < cs.length → w.frozen? ⟨b, o + j, none⟩ = false) (h1 : ∀ v ∈ cs, v.oneCell' = true) :
    (Builtin.copy_ #[dT, sT] ty #[.slice (some ⟨b, o, none⟩) dLen dCap, .slice (some a) sLen sCap]).run P w = .ok (goInt (Nat.min sLen dLen)) (w.setCells b o cs) := by
  have hl := run_loadCells_list (P := P) w a cs hsrc
  have hst := run_storeCells_cells (P := P) b o cs 0 w (by simpa using hc) (by simpa using hf) h1
  cases hq : P.info? elem with
  | none => simp [hq] at hs
  | some i =>
    have hi : i.size = z := by simpa [hq] using hs
    simp [Builtin.copy_, run_underlying hu, Builtin.lenOf, Builtin.firstCells, sizeOf, typeInfo, hq, hi, ← hn, hl, hst]
theorem wpList_copy_run' {P : Program} {w : World} {ops : Array Oper} {rest : List Oper} {o : Oper} {a : Act} {Q : Exit → Act → World → Prop} (hgd : o.guard = none) (d s : Operand) (t t' : TypeId)
    (ho : o.op = .call { callee := .builtin .copy, args := #[d, s], argTypes := #[t, t'] }) (v u : Value) (hd : a.eval d = v) (hs : a.eval s = u) {w' : World} {v' : Value}
    (hr : (Builtin.copy_ #[t, t'] o.type #[v, u]).run P w = .ok v' w') (h : wpList P ops Q rest (a.put o.dst v') w') : wpList P ops Q (o :: rest) a w := by
  refine wpList_plain hgd fun _ hK => ?_
  unfold Oper.wp execOp
  simp only [ho, resolve, invoke, builtin, Sem.run_bind, Sem.run_pure, Result.andThen_ok, List.map_toArray, List.map_cons, List.map_nil, hd, hs, hr]
  exact hK _ _ h
theorem wp_copy_run' {P : Program} {w : World} {o : Oper} {a : Act} {K : Act → World → Prop} {Q : Exit → Act → World → Prop} (d s : Operand) (t t' : TypeId)
    (ho : o.op = .call { callee := .builtin .copy, args := #[d, s], argTypes := #[t, t'] }) (v u : Value) (hd : a.eval d = v) (hs : a.eval s = u) {w' : World} {v' : Value}
    (hr : (Builtin.copy_ #[t, t'] o.type #[v, u]).run P w = .ok v' w') (h : K (a.put o.dst v') w') : o.wp P a w K Q := by
  unfold Oper.wp execOp
  simp only [ho, resolve, invoke, builtin, Sem.run_bind, Sem.run_pure, Result.andThen_ok, List.map_toArray, List.map_cons, List.map_nil, hd, hs, hr]
  exact h
/-- one of Repeat's copies -/
theorem rep_copy (w : World) (G n k j b0 o0 sL sC dL dC : Nat) (h : w.ownsRow 0 44 2 (.slice (some ⟨G, 0, none⟩) n n) n ((repL n k).flatMap plV)) (hj : k + j ≤ n) (hm : j = Nat.min sL dL)
    (hs : ∀ i v, ((List.replicate j (none : Pl)).flatMap plV)[i]? = some v → w.cell? ⟨b0, o0 + i, none⟩ = some v) :
    ∃ W, (∀ ty, (Builtin.copy_ #[58, 58] ty #[.slice (some ⟨G, k * 2, none⟩) dL dC, .slice (some ⟨b0, o0, none⟩) sL sC]).run Try.prog w = .ok (.int .i64 (j : Int)) W) ∧
    W.ownsRow 0 44 2 (.slice (some ⟨G, 0, none⟩) n n) n ((repL n (k + j)).flatMap plV) ∧ Fr (fun q => q = G) w W := by
  have hl : ((List.replicate j (none : Pl)).flatMap plV).length = j * 2 := by rw [flatP_l, List.length_replicate]
  have hc := own_cells h
  have h2 := own_sets ((List.replicate j (none : Pl)).flatMap plV) (k * 2) w _ h
  rw [rep_step n k j hj] at h2
  refine ⟨_, fun ty => ?_, h2⟩
  rw [run_copy_n w _ _ ty 44 2 G (k * 2) dL dC ⟨b0, o0, none⟩ sL sC _ Try.underlying58 (by kernel_rfl) (by rw [hl, ← hm]) (fun i v hi => by rw [Addr.add_mid]; exact hs i v hi)
    (fun i hi => (hc.2 (k * 2 + i) (by rw [hl] at hi; omega)).1) (fun i hi => (hc.2 (k * 2 + i) (by rw [hl] at hi; omega)).2) (flat_one plV_one _), ← hm]
  rfl
set_option maxRecDepth 100000 in
set_option maxHeartbeats 1000000 in
theorem ix_Repeat (w : World) (g0 n : Nat) (hg : w.heap[g0]? = some (.cells #[.int .i64 (-1), .bool false] 44 (0, 0))) (h0 : 1 ≤ n) (h1 : n ≤ 4096) : Calls Try.prog 24 #[.slice (some ⟨g0, 0, none⟩) 1 1, .int .i64 (n : Int)] w fun e w' => ∃ G, e = .returned (.slice (some ⟨G, 0, none⟩) n n) ∧ w.heap.size ≤ G ∧ w'.ownsRow 0 44 2 (.slice (some ⟨G, 0, none⟩) n n) n ((List.replicate n (none : Pl)).flatMap plV) ∧ Fr No w w' := by
  have hmk := mk_pl n h1
  have hw1 : IntKind.u64.wrap (n : Int) = n := by rw [IntKind.wrap_u64]; omega
  have hw2 : IntKind.i64.wrap (n : Int) = n := by rw [IntKind.wrap_i64]; omega
  have hA : ((w.alloc (.cells (madeCells #[.int .i64 0, .bool false] (n * 2)) 44))).ownsRow 0 44 2 (.slice (some ⟨w.heap.size, 0, none⟩) n n) n ((repL n 0).flatMap plV) := by
    have h := World.ownsRow_lit (base := 0) (e := 44) (size := 2) w (madeCells #[.int .i64 0, .bool false] (n * 2)) n (by omega) (by unfold maxLen; omega) (size_madeCells _ _)
    rw [made_pl] at h
    exact h
  have HFA := hid ((Fr.refl No w).alloc (.cells (madeCells #[.int .i64 0, .bool false] (n * 2)) 44))
  have hga := heap_more (o' := .cells (madeCells #[.int .i64 0, .bool false] (n * 2)) 44) hg
  have hcp := rep_copy (w.alloc (.cells (madeCells #[.int .i64 0, .bool false] (n * 2)) 44)) w.heap.size n 0 1 g0 0 1 1 n n hA (by omega) (by simp only [Nat.min_def]; split <;> omega) (fun i v hi => by
    obtain ⟨q0, q1, _, _⟩ := blk2 hga
    match i, hi with
    | 0, hi => rw [Nat.zero_add]; simp [plV] at hi; rw [← hi]; exact q0
    | 1, hi => simp [plV] at hi; rw [← hi]; exact q1
    | i + 2, hi => simp [plV] at hi)
  simp only [Nat.zero_mul, Nat.zero_add] at hcp
  obtain ⟨W0, hcp, ho0, hf0⟩ := hcp
  have HCP := hid hcp
  have HO0 := hid ho0
  have HF0 := hid (HFA.out.then hf0 (fun i hi e => absurd hi (by rw [e]; omega)))
  clear hA hga hcp ho0 hf0
  go_enter Try.func24, Try.ntmps24
  go_wp2_with (first | (go_at_call 42; refine (ix_Mul _ n h1).mono ?_; rintro e w2 ⟨rfl, e2⟩; subst w2) | (refine wpList_copy_run' rfl (.tmp 31) (.tmp 32) 58 58 rfl _ _ rfl rfl (HCP.out _) ?_))
  obtain ⟨G, hG⟩ : ∃ G, w.heap.size = G := ⟨_, rfl⟩
  rw [hG] at HO0 ⊢
  have HG := hid hG
  clear HCP hmk HFA hg hG
  go_loopg [8] (n - 1) (fun g x wr => ∃ k : Nat, k + g = n ∧ 1 ≤ k ∧ x = .int .i64 k ∧ Hid (Fr No w wr) ∧ Hid (wr.ownsRow 0 44 2 (.slice (some ⟨G, 0, none⟩) n n) n ((repL n k).flatMap plV)))
  case atStart => exact ⟨1, by omega, by omega, rfl, HF0, HO0⟩
  case round =>
    obtain ⟨k, hk, hk1, rfl, HF, HO⟩ := hrel
    cases gk with
    | zero =>
      obtain rfl : k = n := by omega
      go_wp2_with fail
      try rw [Exit.noGoto_ret]
      go_ret
      refine ⟨G, rfl, by rw [HG.out]; exact Nat.le_refl _, ?_, HF.out⟩
      have := HO.out
      unfold repL at this
      rw [Nat.sub_self, List.replicate_zero, List.append_nil] at this
      exact this
    | succ gk =>
      have hkn : (k : Int) < (n : Int) := by omega
      obtain ⟨j, hj⟩ : ∃ j, j = Nat.min k (n - k) := ⟨_, rfl⟩
      have hjk : k + j ≤ n ∧ 1 ≤ j := by rw [hj]; simp only [Nat.min_def]; split <;> omega
      obtain ⟨W1, hcp, ho1, hf1⟩ := rep_copy wr.drew G n k j G 0 k n (n - k) (n - k) HO.out.drew hjk.1 hj (fun i v hi => by
        refine (own_cells HO.out.drew).1 _ v ?_
        rw [Nat.zero_add, repL, List.flatMap_append, List.getElem?_append_left]
        · have e1 : List.replicate k (none : Pl) = List.replicate j none ++ List.replicate (k - j) none := by rw [List.replicate_append_replicate]; congr 1; rw [hj]; simp only [Nat.min_def]; split <;> omega
          rw [e1, List.flatMap_append, List.getElem?_append_left (List.getElem?_eq_some_iff.1 hi).1]
          exact hi
        · have := (List.getElem?_eq_some_iff.1 hi).1
          rw [flatP_l, List.length_replicate] at this ⊢
          have : j ≤ k := by rw [hj]; exact Nat.min_le_left _ _
          omega)
      have HCP := hid hcp
      have HO1 := hid ho1
      have HF1 := hid (HF.out.drew.then hf1 (fun i hi e => absurd hi (by rw [e, ← HG.out]; omega)))
      clear hcp hj ho1 hf1
      have hkn2 : k ≤ n := by omega
      have hkn3 : ¬ n = k := by omega
      have hw3 : IntKind.i64.wrap ((k : Int) + (j : Int)) = (k : Int) + (j : Int) := by rw [IntKind.wrap_i64]; omega
      go_wp2_with fail
      refine wp_region_held_drew (S := fun _ => True) (by kernel_rfl) trivial (fun hHeld => ?_)
      refine wpAnyH_take (i := 0) (v := ?_) rfl (by kernel_rfl) (by kernel_rfl) (by kernel_rfl) (fun _ _ _ h => h) (Or.inl ⟨by rfl, ?_⟩) hHeld ?_
      rotate_left
      · intro w hSw
        go_simp
        with_reducible rfl
      try simp only [Act.put, List.getElem_toArray, List.getElem_cons_zero, List.getElem_cons_succ, List.setIfInBounds_toArray, List.set_cons_zero, List.set_cons_succ]
      refine wpAnyH_take (i := 1) (v := ?_) rfl (by kernel_rfl) (by kernel_rfl) (by kernel_rfl) (fun _ _ _ h => h) (Or.inl ⟨by rfl, ?_⟩) hHeld ?_
      rotate_left
      · intro w hSw
        go_simp
        with_reducible rfl
      try simp only [Act.put, List.getElem_toArray, List.getElem_cons_zero, List.getElem_cons_succ, List.setIfInBounds_toArray, List.set_cons_zero, List.set_cons_succ]
      refine wpAnyH_take (i := 2) (v := ?_) rfl (by kernel_rfl) (by kernel_rfl) (by kernel_rfl) (fun _ _ _ h => h) (Or.inl ⟨by rfl, ?_⟩) hHeld ?_
      rotate_left
      · intro w hSw
        go_simp
        with_reducible rfl
      try simp only [Act.put, List.getElem_toArray, List.getElem_cons_zero, List.getElem_cons_succ, List.setIfInBounds_toArray, List.set_cons_zero, List.set_cons_succ]
      refine wpAnyH_take (i := 3) (v := ?_) rfl (by kernel_rfl) (by kernel_rfl) (by kernel_rfl) (fun _ _ _ h => h) (Or.inl ⟨by rfl, ?_⟩) hHeld ?_
      rotate_left
      · intro w hSw
        go_simp
        with_reducible rfl
      try simp only [Act.put, List.getElem_toArray, List.getElem_cons_zero, List.getElem_cons_succ, List.setIfInBounds_toArray, List.set_cons_zero, List.set_cons_succ]
      refine wpAnyH_take (i := 4) (v := ?_) rfl (by kernel_rfl) (by kernel_rfl) (by kernel_rfl) (fun _ _ _ h => h) (Or.inl ⟨by rfl, ?_⟩) hHeld ?_
      rotate_left
      · intro w hSw
        go_simp
        with_reducible rfl
      try simp only [Act.put, List.getElem_toArray, List.getElem_cons_zero, List.getElem_cons_succ, List.setIfInBounds_toArray, List.set_cons_zero, List.set_cons_succ]
      refine wpAnyH_take (i := 5) (v := ?_) rfl (by kernel_rfl) (by kernel_rfl) (by kernel_rfl) (fun _ _ _ h => h) (Or.inl ⟨by rfl, ?_⟩) hHeld ?_
      rotate_left
      · intro w hSw
        go_simp
        with_reducible rfl
      try simp only [Act.put, List.getElem_toArray, List.getElem_cons_zero, List.getElem_cons_succ, List.setIfInBounds_toArray, List.set_cons_zero, List.set_cons_succ]
      refine wpAnyH_take (i := 6) (v := ?_) rfl (by kernel_rfl) (by kernel_rfl) (by kernel_rfl) (fun _ _ _ h => h) (Or.inl ⟨by rfl, ?_⟩) hHeld ?_
      rotate_left
      · intro w hSw
        go_simp
        with_reducible rfl
      try simp only [Act.put, List.getElem_toArray, List.getElem_cons_zero, List.getElem_cons_succ, List.setIfInBounds_toArray, List.set_cons_zero, List.set_cons_succ]
      refine wpAnyH_ready (rs := [7]) (by kernel_rfl) (by simp) ?_
      refine AllReadyH.cons rfl (fun K hK => ?_) AllReadyH.nil
      rw [if_pos (by rfl)]
      refine wp_copy_run' (.tmp 41) (.tmp 44) 58 58 rfl _ _ rfl rfl (HCP.out _) ?_
      refine hK.out _ _ trivial (fun hHeld => ?_)
      clear hK K
      try simp only [Act.put, List.getElem_toArray, List.getElem_cons_zero, List.getElem_cons_succ, List.setIfInBounds_toArray, List.set_cons_zero, List.set_cons_succ]
      refine wpAnyH_take (i := 8) (v := ?_) rfl (by kernel_rfl) (by kernel_rfl) (by kernel_rfl) (fun _ _ _ h => h) (Or.inl ⟨by rfl, ?_⟩) hHeld ?_
      rotate_left
      · intro w hSw
        go_simp
        with_reducible rfl
      try simp only [Act.put, List.getElem_toArray, List.getElem_cons_zero, List.getElem_cons_succ, List.setIfInBounds_toArray, List.set_cons_zero, List.set_cons_succ]
      refine wpAnyH_take (i := 9) (v := ?_) rfl (by kernel_rfl) (by kernel_rfl) (by kernel_rfl) (fun _ _ _ h => h) (Or.inl ⟨by rfl, ?_⟩) hHeld ?_
      rotate_left
      · intro w hSw
        go_simp
        with_reducible rfl
      try simp only [Act.put, List.getElem_toArray, List.getElem_cons_zero, List.getElem_cons_succ, List.setIfInBounds_toArray, List.set_cons_zero, List.set_cons_succ]
      refine wpAnyH_done (by kernel_rfl) ?_ _
      go_wp2_with fail
      go_roundg (n - k - j)
      case measure => omega
      case rel => exact ⟨k + j, by omega, by omega, by go_num, HF1, HO1⟩
end Go.Proofs.Ytfggllhflibfcaa
