/- index: Drop, Clean. -/
import Derived.Test.YtfggllhflibfcaaIxC
namespace Go.Proofs.Ytfggllhflibfcaa
open Go.RowKit Go.Maps

theorem getI_cases (L : List Pl) (x : Int) : (∃ (i : Nat) (q : Nat × Bool) (hi : i < L.length), x = i ∧ L[i] = some q ∧ getI L x = (some q, 0)) ∨ ∃ e : Int, (e = 10 ∨ e = 14) ∧ getI L x = (some (0, false), e) := by
  by_cases hx : 0 ≤ x ∧ x < L.length
  · obtain ⟨i, rfl⟩ : ∃ i : Nat, x = i := ⟨x.toNat, by omega⟩
    have hi : i < L.length := by omega
    cases e : L[i] with
    | none => exact .inr ⟨14, .inr rfl, by unfold getI; rw [if_pos hx, Int.toNat_natCast, List.getElem?_eq_getElem hi, e]⟩
    | some q => exact .inl ⟨i, q, hi, rfl, e, by unfold getI; rw [if_pos hx, Int.toNat_natCast, List.getElem?_eq_getElem hi, e]⟩
  · exact .inr ⟨10, .inl rfl, by unfold getI; rw [if_neg hx]⟩
set_option maxHeartbeats 1000000 in
theorem ix_Drop (w : World) (p m c : Nat) (S : Nat → Prop) (L : List Pl) (h : Ix w p S L m c) (x : Int) (hc : c < 100000) : Calls Try.prog 22 #[.pointer (some ⟨p, 0, none⟩), .int .i64 x] w fun e w' => e = .returned (.tuple #[plA (dropI L x).1, .int .i64 (dropI L x).2.1]) ∧ Ix w' p S (dropI L x).2.2 m (c + 1) ∧ Fr S w w' := by
  have HI := hid h
  have HA := hid ((Fr.refl No w).alloc (.cells #[.int .i64 0, .bool false] 44))
  have hlt := h.lt
  have hpl := hlt p h.sp
  have HLT := hid hlt
  rcases getI_cases L x with ⟨i, q, hi, rfl, hq, hg⟩ | ⟨e, he, hg⟩
  · have hT : dropI L i = (some q, 0, L.set i none) := by unfold dropI; rw [hg]; simp
    rw [hT]
    have HG := hid hg
    have HIL := hid hi
    have HQ0 := hid (show ∀ hi : i < L.length, L[i]'hi = some q from fun _ => hq)
    clear hT hg hq hi
    obtain ⟨k, d⟩ := q
    show Calls _ _ _ _ fun e w' => e = .returned (.tuple #[.agg #[.int .i64 (k : Int), .bool d], .int .i64 0]) ∧ Ix w' p S (L.set i none) m (c + 1) ∧ Fr S w w'
    go_enter Try.func22, Try.ntmps22
    go_wp2_with (first | (go_at_call 16; refine (ix_Get _ p m c S L (HI.out.no HA.out) i).mono ?_; rw [HG.out]; rintro e w1 ⟨rfl, hF⟩; simp only [plA, plS, plD]; have HQ := hid (heap_more (o' := .cells #[.int .i64 (k : Int), .bool d] 44) (made2 _ _ _ _ hF)); have HF := hid ((HA.out.trans hF).alloc (.cells #[.int .i64 (k : Int), .bool d] 44)); clear hF) | (go_at_call 25; refine (ix_nowhere _).mono ?_; rintro e w2 ⟨rfl, hF⟩; have HQ2 := hid ((hF.block w.heap.size (lt_of_block HQ.out) id).trans HQ.out); have HF2 := hid (HF.out.trans hF); have HI2 := hid (HI.out.no HF2.out); clear hF) | (go_at_call 41; refine (ix_move _ p m c S L HI2.out i HIL.out none (fun _ _ h => by cases h) (fun _ _ h => by cases h) hc).mono ?_; rw [HQ0.out]; rintro e w3 ⟨rfl, hIX, hF⟩; simp only [plA, plS, plD]; have HIX := hid hIX; have HF3 := hid hF; have HQ3 := hid ((hF.block w.heap.size (lt_of_block HQ2.out) (fun h => absurd (HLT.out _ h) (by omega))).trans HQ2.out); obtain ⟨z0, z1, z2, z3⟩ := blk2 HQ3.out; clear hIX hF))
    have hFT := (Fr.set1 w3 w.heap.size 0 (.int .i64 (k : Int))).trans (Fr.set1 (w3.setCell ⟨w.heap.size, 0, none⟩ (.int .i64 (k : Int))) w.heap.size 1 (.bool d))
    exact bodyPost_ret (res_pl2 rfl rfl (put2 HQ3.out _ _)) rfl ⟨rfl, HIX.out.fr hFT (fun k hk => by have := HLT.out k hk; show ¬ k = w.heap.size; omega), fr_put2 ((HF2.out.mono (fun _ _ e => e.elim)).trans HF3.out) (by omega) _ _⟩
  · have hT : dropI L x = (some (0, false), e, L) := by unfold dropI; rw [hg]; rw [if_neg (by show ¬ e = 0; omega)]
    rw [hT]
    have HG := hid hg
    clear hT hg
    have hne : (e != 0) = true := by simp; omega
    show Calls _ _ _ _ fun e' w' => e' = .returned (.tuple #[.agg #[.int .i64 0, .bool false], .int .i64 e]) ∧ Ix w' p S L m (c + 1) ∧ Fr S w w'
    go_enter Try.func22, Try.ntmps22
    go_wp2_with (go_at_call 16; refine (ix_Get _ p m c S L (HI.out.no HA.out) x).mono ?_; rw [HG.out]; rintro e w1 ⟨rfl, hF⟩; simp only [plA, plS, plD]; have HQ := hid (heap_more (o' := .cells #[.int .i64 0, .bool false] 44) (made2 _ _ _ _ hF)); have HF := hid ((HA.out.trans hF).alloc (.cells #[.int .i64 0, .bool false] 44)); obtain ⟨q0, q1, f0, f1⟩ := blk2 HQ.out; clear hF)
    have hfr := fr_put2 (S := No) HF.out (Nat.le_refl _) (.int .i64 0) (.bool false)
    exact bodyPost_ret (res_pl2 rfl rfl (put2 HQ.out _ _)) rfl ⟨rfl, (HI.out.no hfr).mono (Nat.le_succ c) (by omega), hfr.mono (fun _ _ e => e.elim)⟩
theorem flat_dirty {L : List Pl} {i k : Nat} {d : Bool} (h : L[i]? = some (some (k, d))) : (L.flatMap plV).set (i * 2 + 1) (.bool false) = (L.set i (some (k, false))).flatMap plV := by
  have hi : i < L.length := (List.getElem?_eq_some_iff.1 h).1
  have he : L[i] = some (k, d) := (List.getElem?_eq_some_iff.1 h).2
  have h0 := flat_get plV 2 L (fun x _ => plV_len x) i hi 0 (by omega)
  rw [he] at h0
  rw [← flat_set plV 2 (some (k, false)) rfl L (fun x _ => plV_len x) i hi]
  show _ = ((L.flatMap plV).set (i * 2) (.int .i64 (k : Int))).set (i * 2 + 1) (.bool false)
  congr 1
  apply List.ext_getElem?
  intro j
  rw [List.getElem?_set]
  split
  · rename_i e
    subst e
    rw [Nat.add_zero] at h0
    rw [if_pos (by have := (List.getElem?_eq_some_iff.1 h0).1; exact this), h0]; rfl
  · rfl
theorem dirty_at {w : World} {g cp i k : Nat} {d : Bool} {L : List Pl} (h : w.ownsRow 0 44 2 (.slice (some ⟨g, 0, none⟩) L.length cp) L.length (L.flatMap plV)) (hq : L[i]? = some (some (k, d))) :
    w.cell? ⟨g, i * 2 + 1, none⟩ = some (.bool d) ∧ w.frozen? ⟨g, i * 2 + 1, none⟩ = false := by
  have hi : i < L.length := (List.getElem?_eq_some_iff.1 hq).1
  have he : L[i] = some (k, d) := (List.getElem?_eq_some_iff.1 hq).2
  obtain ⟨gg, cc, hgv, _, _, hrg, hth⟩ := own_at h (fun x _ => plV_len x) i hi
  obtain rfl : g = gg := by injection hgv with e; injection e with e; injection e
  exact ⟨hrg 1 _ (by rw [he]; rfl), (hth 1 (by omega)).2⟩
theorem ix_cleaned {w w5 : World} {p g b cp m c : Nat} {S : Nat → Prop} {L : List Pl} {D : DataW Unit} {i k : Nat} {d : Bool} (h : IxV w p g b cp L m c D) (hSp : S p) (hSg : S g) (hSb : S b) (hSl : ∀ k, S k → k < w.heap.size) (hq : L[i]? = some (some (k, d))) (F5 : Fr No w w5) :
    Ix (w5.setCell ⟨g, i * 2 + 1, none⟩ (.bool false)) p S (L.set i (some (k, false))) m c ∧ Fr S w (w5.setCell ⟨g, i * 2 + 1, none⟩ (.bool false)) := by
  have hrow := own_frk h.row F5 (fun _ _ => id)
  have hpg : ¬ p = g := fun e => by obtain ⟨cs, h1⟩ := own_ty h.row (by rfl); have h2 := h.blk; rw [e, h1] at h2; cases h2
  have hgb : ¬ g = b := fun e => by obtain ⟨cs, h1⟩ := own_ty h.row (by rfl); obtain ⟨es, ck, h2, _⟩ := h.map; rw [e, h2] at h1; cases h1
  have hll : (L.set i (some (k, false))).length = L.length := List.length_set
  have ho := (hrow.stored (i * 2 + 1) (.bool false)).1
  rw [flat_dirty hq] at ho
  have F6 : Fr (fun k => k = g) w5 (w5.setCell ⟨g, i * 2 + 1, none⟩ (.bool false)) := Fr.set1 w5 g _ _
  have F : Fr (fun k => k = g) w (w5.setCell ⟨g, i * 2 + 1, none⟩ (.bool false)) := (F5.mono (fun _ _ e => e.elim)).trans F6
  refine ⟨⟨g, b, cp, D, ⟨?_, by rw [hll]; exact ho, MapIn.blk h.map (F.block b h.map.lt (fun e => hgb e.symm)), h.rep.dirty false hq, h.uniq.dirty false hq, ?_, by rw [hll]; exact h.len, h.most, h.cnt⟩, hSp, hSg, hSb, fun k hk => F.lt (hSl k hk)⟩, F.mono (fun k _ e => by rw [e]; exact hSg)⟩
  · rw [hll]; exact (F.block p (lt_of_block h.blk) hpg).trans h.blk
  · intro j x e hj
    rw [List.getElem?_set] at hj
    split at hj
    · try rw [if_pos (by omega)] at hj
      split at hj
      · simp only [Option.some.injEq, Prod.mk.injEq] at hj
        obtain ⟨rfl, _⟩ := hj
        exact h.slot i _ d hq
      · cases hj
    · exact h.slot j x e hj
set_option maxHeartbeats 1000000 in
theorem ix_Clean (w : World) (p m c : Nat) (S : Nat → Prop) (L : List Pl) (h : Ix w p S L m c) (x : Int) : Calls Try.prog 23 #[.pointer (some ⟨p, 0, none⟩), .int .i64 x] w fun e w' => e = .returned (.int .i64 (cleanI L x).1) ∧ Ix w' p S (cleanI L x).2 m c ∧ Fr S w w' := by
  have HI := hid h
  rcases getI_cases L x with ⟨i, q, hi, rfl, hq, hg⟩ | ⟨e, he, hg⟩
  · have hT : cleanI L i = (0, L.set i (some (q.1, false))) := by unfold cleanI; rw [hg]; simp
    rw [hT]
    obtain ⟨k, d⟩ := q
    obtain ⟨g, b, cp, D, hV, hSp, hSg, hSb, hSl⟩ := h
    have HV := hid hV
    obtain ⟨c0, c1, _⟩ := hV.cells
    have hlen := hV.len.2
    have hpl := lt_of_block hV.blk
    clear hV
    obtain ⟨n, hn⟩ : ∃ n, L.length = n := ⟨_, rfl⟩
    have HN := hid hn
    have HIL := hid hi
    have HQ0 := hid (show L[i]? = some (some (k, d)) by rw [List.getElem?_eq_getElem hi, hq])
    rw [hn] at hlen c0
    have hin : (i : Int) < (n : Int) := by rw [hn] at hi; omega
    have HG := hid hg
    clear hT hg hq hi hn
    show Calls _ _ _ _ fun e w' => e = .returned (.int .i64 0) ∧ Ix w' p S (L.set i (some (k, false))) m c ∧ Fr S w w'
    go_enter Try.func23, Try.ntmps23
    go_wp2_with (go_at_call 16; refine (ix_Get _ p m c S L HI.out i).mono ?_; rw [HG.out]; rintro e w1 ⟨rfl, hF⟩; simp only [plA, plS, plD]; have HF := hid (hF.alloc (.cells #[.int .i64 (k : Int), .bool d] 44)); have d0 := (HF.out.cell (p := ⟨p, 0, none⟩) hpl id).trans c0; have HR := hid (own_frk HV.out.row HF.out (fun _ _ => id)); obtain ⟨t1, f1⟩ := dirty_at HR.out HQ0.out; clear hF)
    trace "CLEAN"
    trace_state
    go_ret
    obtain ⟨r1, r2⟩ := ix_cleaned HV.out hSp hSg hSb hSl HQ0.out HF.out
    exact ⟨rfl, r1, r2⟩
  · have hT : cleanI L x = (e, L) := by unfold cleanI; rw [hg]; rw [if_neg (by show ¬ e = 0; omega)]
    rw [hT]
    have HG := hid hg
    clear hT hg
    have hne : (e != 0) = true := by simp; omega
    show Calls _ _ _ _ fun e' w' => e' = .returned (.int .i64 e) ∧ Ix w' p S L m c ∧ Fr S w w'
    go_enter Try.func23, Try.ntmps23
    go_wp2_with (go_at_call 16; refine (ix_Get _ p m c S L HI.out x).mono ?_; rw [HG.out]; rintro e w1 ⟨rfl, hF⟩; simp only [plA, plS, plD]; have HF := hid (hF.alloc (.cells #[.int .i64 0, .bool false] 44)); clear hF)
    go_ret
    exact ⟨rfl, HI.out.no HF.out, HF.out.mono (fun _ _ e => e.elim)⟩
end Go.Proofs.Ytfggllhflibfcaa
