/- dev: Same. -/
import Derived.Test.YtcdchojdkdimbaaDvY
namespace Go.Proofs.Ytcdchojdkdimbaa
open Go.RowKit

theorem eql_ty : Try.prog.eqGuardType Try.prog.depth 42 = false := by kernel_rfl
theorem blk_eqIn (a b : List Nat) (ha : a.length = 64) (hb : b.length = 64) (w : World) : (Op.equalIn 10000 42 (.agg (blkA a)) (.agg (blkA b))).run Try.prog w = .ok (a == b) w := by
  have := equal_ints (P := Try.prog) Try.underlying42 Try.underlying5 (by kernel_rfl) a b ha hb w
  unfold blkA bk
  rw [show (a.map byte) = a.map (fun x : Nat => Value.int .u8 (x : Int)) from rfl, show (b.map byte) = b.map (fun x : Nat => Value.int .u8 (x : Int)) from rfl, this]
theorem blk_eqIn_same (a : List Nat) (ha : a.length = 64) (w : World) : (Op.equalIn 10000 42 (.agg (blkA a)) (.agg (blkA a))).run Try.prog w = .ok true w := by
  rw [blk_eqIn a a ha ha, beq_self_eq_true]
theorem OffN.at {w : World} {v : Value} {l : List Nat} (h : OffN w v l) (i : Nat) (hi : i < l.length) : ∃ g o cap, v = .slice (some ⟨g, o, none⟩) l.length cap ∧ w.cell? ⟨g, o + i, none⟩ = some (.int .i64 l[i]) := by
  rcases h with ⟨_, rfl⟩ | ⟨g, o, cap, cs, hv, hb, _, _, h6⟩
  · simp at hi
  · exact ⟨g, o, cap, hv, by rw [cell_blk hb]; exact h6 i hi⟩
set_option maxRecDepth 100000 in
theorem equal_same (w : World) (va vb : Value) (l : List Nat) (ha : OffN w va l) (hb : OffN w vb l) (hl : l.length ≤ 1000000) :
    Calls Try.prog 41 #[va, vb] w fun e w' => e = .returned (.bool true) ∧ Fr No w w' := by
  obtain ⟨aa, ca, rfl⟩ := ha.form
  obtain ⟨ab, cb, rfl⟩ := hb.form
  have HA := hid ha
  have HB := hid hb
  have hl' : (l.length : Int) ≤ 1000000 := by omega
  clear ha hb
  go_enter Try.func41, Try.ntmps41
  go_wp2_with fail
  go_loopg [13] l.length (fun g i wr => ∃ k : Nat, k + g = l.length ∧ i = .int .i64 k ∧ Hid (Fr No w wr))
  case atStart => exact ⟨0, by omega, rfl, Fr.refl No w⟩
  case round =>
    obtain ⟨k, hk, rfl, HF⟩ := hrel
    cases gk with
    | zero =>
      obtain rfl : k = l.length := by omega
      go_wp2_with fail
      go_ret
      exact ⟨rfl, HF.out⟩
    | succ g =>
      have hlt : k < l.length := by omega
      obtain ⟨g1, o1, c1, hv1, h1⟩ := (HA.out.fr HF.out (fun _ _ => id)).at k hlt
      obtain ⟨g2, o2, c2, hv2, h2⟩ := (HB.out.fr HF.out (fun _ _ => id)).at k hlt
      obtain ⟨rfl, rfl⟩ : aa = some ⟨g1, o1, none⟩ ∧ ca = c1 := by injection hv1 with h1 _ h3; exact ⟨h1, h3⟩
      obtain ⟨rfl, rfl⟩ : ab = some ⟨g2, o2, none⟩ ∧ cb = c2 := by injection hv2 with h1 _ h3; exact ⟨h1, h3⟩
      obtain ⟨x, hx⟩ : ∃ x, l[k] = x := ⟨_, rfl⟩
      rw [hx] at h1 h2
      clear hx hv1 hv2
      go_wp2_with fail
      go_region
      all_goals go_wp2_with fail
      go_roundg g
      case measure => omega
      case rel => exact ⟨k + 1, by omega, by go_num, HF.out.drew⟩
theorem dv_Same_nn (w : World) : Calls Try.prog 25 #[.pointer none, .pointer none] w fun e w' => e = .returned (.bool true) ∧ w' = w := by
  go_enter Try.func25, Try.ntmps25
  go_wp2
  go_ret
  exact ⟨rfl, rfl⟩
theorem dv_Same_an (w : World) (p : Nat) : Calls Try.prog 25 #[.pointer (some ⟨p, 0, none⟩), .pointer none] w fun e w' => e = .returned (.bool false) ∧ w' = w := by
  go_enter Try.func25, Try.ntmps25
  go_wp2
  go_ret
  exact ⟨rfl, rfl⟩
set_option maxRecDepth 100000 in
theorem dv_Same_firm (w : World) (p q : Nat) (S T : Nat → Prop) (D E : DM) (h : PD w p S D) (k : PD w q T E) (hne : D.firm.length ≠ E.firm.length) : Calls Try.prog 25 #[.pointer (some ⟨p, 0, none⟩), .pointer (some ⟨q, 0, none⟩)] w fun e w' => e = .returned (.bool false) ∧ Fr No w w' := by
  obtain ⟨_, vF, vO, vP, hV⟩ := h
  obtain ⟨_, uF, uO, uP, kV⟩ := k
  obtain ⟨c0, c1, c2, _⟩ := hV.cells
  obtain ⟨d0, d1, d2, _⟩ := kV.cells
  obtain ⟨aF, eF, rfl⟩ := own_form hV.firm
  obtain ⟨aO, eO, rfl⟩ := own_form hV.opn
  obtain ⟨bF, gF, rfl⟩ := own_form kV.firm
  obtain ⟨bO, gO, rfl⟩ := own_form kV.opn
  have hn : ((D.firm.length : Int) != (E.firm.length : Int)) = true := by simp; omega
  clear hV kV hne
  go_enter Try.func25, Try.ntmps25
  go_wp2_with fail
  go_region
  go_wp2_with fail
  go_ret
  exact ⟨rfl, (Fr.refl No w).drew⟩
set_option maxRecDepth 100000 in
theorem dv_Same_opn (w : World) (p q : Nat) (S T : Nat → Prop) (D E : DM) (h : PD w p S D) (k : PD w q T E) (heq : D.firm.length = E.firm.length) (hne : D.opn.length ≠ E.opn.length) : Calls Try.prog 25 #[.pointer (some ⟨p, 0, none⟩), .pointer (some ⟨q, 0, none⟩)] w fun e w' => e = .returned (.bool false) ∧ Fr No w w' := by
  obtain ⟨_, vF, vO, vP, hV⟩ := h
  obtain ⟨_, uF, uO, uP, kV⟩ := k
  obtain ⟨c0, c1, c2, _⟩ := hV.cells
  obtain ⟨d0, d1, d2, _⟩ := kV.cells
  obtain ⟨aF, eF, rfl⟩ := own_form hV.firm
  obtain ⟨aO, eO, rfl⟩ := own_form hV.opn
  obtain ⟨bF, gF, rfl⟩ := own_form kV.firm
  obtain ⟨bO, gO, rfl⟩ := own_form kV.opn
  have hn : ((D.opn.length : Int) != (E.opn.length : Int)) = true := by simp; omega
  rw [← heq] at d0
  clear hV kV hne heq
  go_enter Try.func25, Try.ntmps25
  go_wp2_with fail
  go_region
  go_wp2_with fail
  go_ret
  exact ⟨rfl, (Fr.refl No w).drew⟩
set_option maxRecDepth 100000 in
set_option maxHeartbeats 2000000 in
theorem dv_Same (w : World) (p q : Nat) (S T : Nat → Prop) (D : DM) (h : PD w p S D) (k : PD w q T D) (hlen : D.opn.length ≤ 100000) (hpl : D.plan.length ≤ 100000) :
    Calls Try.prog 25 #[.pointer (some ⟨p, 0, none⟩), .pointer (some ⟨q, 0, none⟩)] w fun e w' => e = .returned (.bool true) ∧ Fr No w w' := by
  have HOK := hid h.1
  obtain ⟨_, vF, vO, vP, hV⟩ := h
  obtain ⟨_, uF, uO, uP, kV⟩ := k
  obtain ⟨c0, c1, c2, _⟩ := hV.cells
  obtain ⟨d0, d1, d2, _⟩ := kV.cells
  obtain ⟨aF, eF, rfl⟩ := own_form hV.firm
  obtain ⟨aO, eO, rfl⟩ := own_form hV.opn
  obtain ⟨bF, gF, rfl⟩ := own_form kV.firm
  obtain ⟨bO, gO, rfl⟩ := own_form kV.opn
  have HV := hid hV
  have KV := hid kV
  have hlen' : (D.opn.length : Int) ≤ 100000 := by omega
  have hfl : (D.firm.length : Int) ≤ 4096 := by have := HOK.out.hi; omega
  clear hV kV
  go_enter Try.func25, Try.ntmps25
  go_wp2_with fail
  go_region
  go_wp2_with fail
  go_loopg [50] D.firm.length (fun g i wr => ∃ k : Nat, k + g = D.firm.length ∧ i = .int .i64 k ∧ Hid (Fr No w wr))
  case atStart => exact ⟨0, by omega, rfl, (Fr.refl No w).drew⟩
  case round =>
    obtain ⟨k, hkg, rfl, HF⟩ := hrel
    have HVr := hid (HV.out.fr HF.out (fun _ _ => id))
    have KVr := hid (KV.out.fr HF.out (fun _ _ => id))
    cases gk with
    | succ g =>
      have hkD : k < D.firm.length := by omega
      obtain ⟨g1, cap1, hv1, hl1, _, hr1, _⟩ := own_at HVr.out.firm HOK.out.firm k hkD
      obtain ⟨g2, cap2, hv2, hl2, _, hr2, _⟩ := own_at KVr.out.firm HOK.out.firm k hkD
      obtain ⟨rfl, rfl⟩ : aF = some ⟨g1, 0, none⟩ ∧ eF = cap1 := by injection hv1 with h1 _ h3; exact ⟨h1, h3⟩
      obtain ⟨rfl, rfl⟩ : bF = some ⟨g2, 0, none⟩ ∧ gF = cap2 := by injection hv2 with h1 _ h3; exact ⟨h1, h3⟩
      have hB := HOK.out.firm _ (List.getElem_mem hkD)
      obtain ⟨B, hx⟩ : ∃ B, D.firm[k] = B := ⟨_, rfl⟩
      rw [hx] at hr1 hr2 hB
      have hB64 : B.length = 64 := by rwa [bk_len] at hB
      have HR1 := hid hr1
      have HIk := hid (info64k B hB64)
      have HIb := hid (info64b B hB64)
      have H1b := hid (blkA_one B)
      have HSZ : Hid ((blkA zeros).size = (blkA B).size) := by unfold Hid; rw [blkA_zeros_size, blkA_size, hB64]
      have HNW := hid (heap_new wr (.cells (blkA zeros) 42))
      have hFA : Fr No wr ((wr.alloc (.cells (blkA zeros) 42)).setRow wr.heap.size (blkA B)) := ((Fr.refl No wr).alloc _).setRow _ _ (fun h => absurd h (Nat.lt_irrefl _))
      have HQA := hid (setRow_heap _ wr.heap.size (blkA zeros) (blkA B) _ _ HNW.out)
      have HRB : Hid (∀ W : World, Fr No wr W → W.rangeAt g2 (k * 64) (bk B)) := fun W f j v hv => (f.cell (p := ⟨g2, k * 64 + j, none⟩) (lt_of_cell (hr2 j v hv)) id).trans (hr2 j v hv)
      clear hr1 hr2 hx hv1 hv2 c0 c1 c2 d0 d1 d2
      go_wp2_with (first
        | (refine wpList_load_mid rfl 42 _ rfl g1 (k * 64) rfl (bk B) _ HR1.out Try.underlying42 rfl HIk.out ?_)
        | (refine wpList_store_row rfl 42 _ _ rfl wr.heap.size (blkA B) rfl rfl 42 (blkA zeros) HNW.out HIb.out HSZ.out H1b.out ?_))
      change Code.wp _ _ _ _ ((wr.alloc (.cells (blkA zeros) 42)).setRow wr.heap.size (blkA B))
      obtain ⟨wa, hwa⟩ : ∃ wa, (wr.alloc (.cells (blkA zeros) 42)).setRow wr.heap.size (blkA B) = wa := ⟨_, rfl⟩
      rw [hwa] at hFA HQA ⊢
      have HFa := hid (HF.out.trans hFA)
      have HRA := hid (HRB.out wa hFA)
      obtain ⟨d0a, _⟩ := (KVr.out.fr hFA (fun _ _ => id)).cells
      clear hwa hFA HRB HSZ HNW HR1 HVr KVr HF
      refine wp_region_still_lit (by kernel_rfl) (by kernel_rfl) ?_
      have HNE := hid (blk_eqIn_same B hB64)
      refine still_val rfl _ (exec_load_row (w := wa.drew) 42 _ rfl wr.heap.size rfl 42 (blkA B) (0, 0) _ _ HQA.out Try.underlying42 HIb.out) ?_
      repeat still_step
      refine still_val rfl (.agg (blkA B)) (exec_load_mid (w := wa.drew) 42 _ rfl g2 (k * 64) rfl (bk B) _ HRA.out Try.underlying42 rfl HIk.out) ?_
      have hne := HNE.out
      have hgu := eql_ty
      change wpStill _ _ wa.drew (fun a' => _) _ _
      still_step
      clear hne hgu
      refine wpStill_nil ?_
      change Exit.then _ _ _ _ wa.drew
      have HFd := hid HFa.out.drew
      go_wp2_with fail
      go_roundg g
      case measure => omega
      case rel => exact ⟨k + 1, by omega, by go_num, HFd⟩
    | zero =>
      obtain rfl : k = D.firm.length := by omega
      obtain ⟨c0, c1, c2, _⟩ := HVr.out.cells
      obtain ⟨d0, d1, d2, _⟩ := KVr.out.cells
      go_wp2_with fail
      go_loopg [70] D.opn.length (fun g i wr => ∃ k : Nat, k + g = D.opn.length ∧ i = .int .i64 k ∧ Hid (Fr No w wr))
      case atStart => exact ⟨0, by omega, rfl, HF⟩
      case round =>
        clear HF
        obtain ⟨k, hkg, rfl, HF⟩ := hrel
        have HVr := hid (HV.out.fr HF.out (fun _ _ => id))
        have KVr := hid (KV.out.fr HF.out (fun _ _ => id))
        cases gk with
        | succ g =>
          have hkD : k < D.opn.length := by omega
          obtain ⟨g1, cap1, hv1, hl1, _, hr1, _⟩ := own_at HVr.out.opn HOK.out.opn k hkD
          obtain ⟨g2, cap2, hv2, hl2, _, hr2, _⟩ := own_at KVr.out.opn HOK.out.opn k hkD
          obtain ⟨rfl, rfl⟩ : aO = some ⟨g1, 0, none⟩ ∧ eO = cap1 := by injection hv1 with h1 _ h3; exact ⟨h1, h3⟩
          obtain ⟨rfl, rfl⟩ : bO = some ⟨g2, 0, none⟩ ∧ gO = cap2 := by injection hv2 with h1 _ h3; exact ⟨h1, h3⟩
          have hx2 := HOK.out.opn _ (List.getElem_mem hkD)
          obtain ⟨x, hx⟩ : ∃ x, D.opn[k] = x := ⟨_, rfl⟩
          rw [hx] at hr1 hr2 hx2
          have hB64 : x.2.length = 64 := by simpa [wk, bk] using hx2
          have HR := hid hr1
          have HX2 : Hid ((Try.prog.info? 68).map (·.size) = some (wk x).length) := by unfold Hid; rw [hx2]; exact info65
          have HX3 : Hid ((Try.prog.info? 68).map (·.size) = some (wk x).toArray.size) := by unfold Hid; rw [List.size_toArray, hx2]; exact info65
          have HX4 : Hid ((wk (0, zeros)).toArray.size = (wk x).toArray.size) := by unfold Hid; rw [List.size_toArray, List.size_toArray, hx2]; rfl
          have HX5 : Hid ((wk x).toArray.all (·.oneCell') = true) := all_oneCell_toArray (wk_one x)
          have HNW := hid (heap_new wr (.cells (wk (0, zeros)).toArray 68))
          have hFA : Fr No wr ((wr.alloc (.cells (wk (0, zeros)).toArray 68)).setRow wr.heap.size (wk x).toArray) := ((Fr.refl No wr).alloc _).setRow _ _ (fun h => absurd h (Nat.lt_irrefl _))
          have HQA := hid (setRow_heap _ wr.heap.size (wk (0, zeros)).toArray (wk x).toArray _ _ HNW.out)
          have HRB : Hid (∀ W : World, Fr No wr W → W.rangeAt g2 (k * 65) (wk x)) := fun W f j v hv => (f.cell (p := ⟨g2, k * 65 + j, none⟩) (lt_of_cell (hr2 j v hv)) id).trans (hr2 j v hv)
          clear hr1 hr2 hx hv1 hv2 c0 c1 c2 d0 d1 d2
          have hz65 := zero65
          go_wp2_with (first
            | (refine wpList_load_mid rfl 68 _ rfl g1 (k * 65) rfl (wk x) _ HR.out Try.underlying68 rfl HX2.out ?_)
            | (refine wpList_store_row rfl 68 _ _ rfl wr.heap.size (wk x).toArray rfl rfl 68 (wk (0, zeros)).toArray HNW.out HX3.out HX4.out HX5.out ?_))
          clear hz65
          change Code.wp _ _ _ _ ((wr.alloc (.cells (wk (0, zeros)).toArray 68)).setRow wr.heap.size (wk x).toArray)
          obtain ⟨wa, hwa⟩ : ∃ wa, (wr.alloc (.cells (wk (0, zeros)).toArray 68)).setRow wr.heap.size (wk x).toArray = wa := ⟨_, rfl⟩
          rw [hwa] at hFA HQA ⊢
          obtain ⟨x1, B⟩ := x
          have hB64 : B.length = 64 := hB64
          have HFd := hid (HF.out.trans hFA).drew
          obtain ⟨_, d1a, _⟩ := (KVr.out.fr hFA (fun _ _ => id)).cells
          obtain ⟨q2, hq2⟩ := range_wk (HRB.out wa hFA)
          have HQ2 := hid hq2
          have q1 : wa.cell? ⟨wr.heap.size, 0, none⟩ = some (.int .i64 x1) := (cell_blk HQA.out 0).trans rfl
          have HQ1 : Hid (wa.rangeAt wr.heap.size 1 (bk B)) := fun j v hv => by
            rw [cell_blk HQA.out, List.getElem?_toArray, show 1 + j = j + 1 by omega]
            exact hv
          have HIk := hid (info64k B hB64)
          have HNE := hid (blk_eqIn_same B hB64)
          clear hwa hFA HRB HX4 HX3 HX2 HX5 HNW HR HVr KVr HF HQA hq2
          refine wp_region_still_lit (by kernel_rfl) (by kernel_rfl) ?_
          repeat still_step
          refine still_valw (by rfl) (.agg (blkA B)) (exec_load_mid (w := wa.drew) 42 _ rfl wr.heap.size 1 rfl (bk B) _ HQ1.out Try.underlying42 rfl HIk.out) ?_
          repeat still_step
          refine still_valw (by rfl) (.agg (blkA B)) (exec_load_mid (w := wa.drew) 42 _ rfl g2 (k * 65 + 1) rfl (bk B) _ HQ2.out Try.underlying42 rfl HIk.out) ?_
          have hne := HNE.out
          have hgu := eql_ty
          change wpStill _ _ wa.drew (fun a' => _) _ _
          repeat still_step
          clear hne hgu
          refine wpStill_nil ?_
          change Exit.then _ _ _ _ wa.drew
          go_wp2_with fail
          go_roundg g
          case measure => omega
          case rel => exact ⟨k + 1, by omega, by go_num, HFd⟩
        | zero =>
          obtain rfl : k = D.opn.length := by omega
          obtain ⟨_, _, c2, _⟩ := HVr.out.cells
          obtain ⟨_, _, d2, _⟩ := KVr.out.cells
          go_wp2_with fail
          refine wp_region_held_drew (S := fun W => W.cell? ⟨p, 2, none⟩ = some vP ∧ W.cell? ⟨q, 2, none⟩ = some uP) (by kernel_rfl) ⟨c2, d2⟩ (fun hHeld => ?_)
          have HE := hid (equal_same wr.drew vP uP D.plan (HVr.out.fr (Fr.refl No wr).drew (fun _ _ => id)).plan (KVr.out.fr (Fr.refl No wr).drew (fun _ _ => id)).plan (by omega))
          have HFd := hid HF.out.drew
          obtain ⟨wd, hwd⟩ : ∃ wd, wr.drew = wd := ⟨_, rfl⟩
          rw [hwd] at HE HFd hHeld ⊢
          clear hwd c0 c1 c2 d0 d1 d2
          refine wpAnyH_take (i := 0) (v := ?_) rfl (by kernel_rfl) (by kernel_rfl) (by kernel_rfl) (fun _ _ _ h => h) (Or.inl ⟨by rfl, ?_⟩) hHeld ?_
          rotate_left
          · intro w hSw; obtain ⟨hA1, hA2⟩ := hSw
            go_simp
            with_reducible rfl
          try simp only [Act.put, List.getElem_toArray, List.getElem_cons_zero, List.getElem_cons_succ, List.setIfInBounds_toArray, List.set_cons_zero, List.set_cons_succ]
          refine wpAnyH_take (i := 1) (v := ?_) rfl (by kernel_rfl) (by kernel_rfl) (by kernel_rfl) (fun _ _ _ h => h) (Or.inl ⟨by rfl, ?_⟩) hHeld ?_
          rotate_left
          · intro w hSw; obtain ⟨hA1, hA2⟩ := hSw
            go_simp
            with_reducible rfl
          try simp only [Act.put, List.getElem_toArray, List.getElem_cons_zero, List.getElem_cons_succ, List.setIfInBounds_toArray, List.set_cons_zero, List.set_cons_succ]
          refine wpAnyH_take (i := 2) (v := ?_) rfl (by kernel_rfl) (by kernel_rfl) (by kernel_rfl) (fun _ _ _ h => h) (Or.inl ⟨by rfl, ?_⟩) hHeld ?_
          rotate_left
          · intro w hSw; obtain ⟨hA1, hA2⟩ := hSw
            go_simp
            with_reducible rfl
          try simp only [Act.put, List.getElem_toArray, List.getElem_cons_zero, List.getElem_cons_succ, List.setIfInBounds_toArray, List.set_cons_zero, List.set_cons_succ]
          refine wpAnyH_take (i := 3) (v := ?_) rfl (by kernel_rfl) (by kernel_rfl) (by kernel_rfl) (fun _ _ _ h => h) (Or.inl ⟨by rfl, ?_⟩) hHeld ?_
          rotate_left
          · intro w hSw; obtain ⟨hA1, hA2⟩ := hSw
            go_simp
            with_reducible rfl
          try simp only [Act.put, List.getElem_toArray, List.getElem_cons_zero, List.getElem_cons_succ, List.setIfInBounds_toArray, List.set_cons_zero, List.set_cons_succ]
          refine wpAnyH_take (i := 4) (v := ?_) rfl (by kernel_rfl) (by kernel_rfl) (by kernel_rfl) (fun _ _ _ h => h) (Or.inl ⟨by rfl, ?_⟩) hHeld ?_
          rotate_left
          · intro w hSw; obtain ⟨hA1, hA2⟩ := hSw
            go_simp
            with_reducible rfl
          try simp only [Act.put, List.getElem_toArray, List.getElem_cons_zero, List.getElem_cons_succ, List.setIfInBounds_toArray, List.set_cons_zero, List.set_cons_succ]
          refine wpAnyH_take (i := 5) (v := ?_) rfl (by kernel_rfl) (by kernel_rfl) (by kernel_rfl) (fun _ _ _ h => h) (Or.inl ⟨by rfl, ?_⟩) hHeld ?_
          rotate_left
          · intro w hSw; obtain ⟨hA1, hA2⟩ := hSw
            go_simp
            with_reducible rfl
          try simp only [Act.put, List.getElem_toArray, List.getElem_cons_zero, List.getElem_cons_succ, List.setIfInBounds_toArray, List.set_cons_zero, List.set_cons_succ]
          refine wpAnyH_take (i := 6) (v := ?_) rfl (by kernel_rfl) (by kernel_rfl) (by kernel_rfl) (fun _ _ _ h => h) (Or.inl ⟨by rfl, ?_⟩) hHeld ?_
          rotate_left
          · intro w hSw; obtain ⟨hA1, hA2⟩ := hSw
            go_simp
            with_reducible rfl
          try simp only [Act.put, List.getElem_toArray, List.getElem_cons_zero, List.getElem_cons_succ, List.setIfInBounds_toArray, List.set_cons_zero, List.set_cons_succ]
          refine wpAnyH_take (i := 7) (v := ?_) rfl (by kernel_rfl) (by kernel_rfl) (by kernel_rfl) (fun _ _ _ h => h) (Or.inl ⟨by rfl, ?_⟩) hHeld ?_
          rotate_left
          · intro w hSw; obtain ⟨hA1, hA2⟩ := hSw
            go_simp
            with_reducible rfl
          try simp only [Act.put, List.getElem_toArray, List.getElem_cons_zero, List.getElem_cons_succ, List.setIfInBounds_toArray, List.set_cons_zero, List.set_cons_succ]
          refine wpAnyH_ready (rs := [8]) (by kernel_rfl) (by simp) ?_
          refine AllReadyH.cons rfl (fun K hK => ?_) AllReadyH.nil
          rw [if_pos (by rfl)]
          go_simp
          refine HE.out.mono ?_
          rintro e w3 ⟨rfl, f3⟩
          refine hK.out _ _ ⟨(f3.cell (World.block_lt_of_cell? _ _ hHeld.1) id).trans hHeld.1, (f3.cell (World.block_lt_of_cell? _ _ hHeld.2) id).trans hHeld.2⟩ (fun hHeld => ?_)
          clear hK K
          try simp only [Act.put, List.getElem_toArray, List.getElem_cons_zero, List.getElem_cons_succ, List.setIfInBounds_toArray, List.set_cons_zero, List.set_cons_succ]
          refine wpAnyH_take (i := 9) (v := ?_) rfl (by kernel_rfl) (by kernel_rfl) (by kernel_rfl) (fun _ _ _ h => h) (Or.inl ⟨by rfl, ?_⟩) hHeld ?_
          rotate_left
          · intro w hSw
            go_simp
            with_reducible rfl
          try simp only [Act.put, List.getElem_toArray, List.getElem_cons_zero, List.getElem_cons_succ, List.setIfInBounds_toArray, List.set_cons_zero, List.set_cons_succ]
          refine wpAnyH_done (by kernel_rfl) ?_ _
          go_wp2_with fail
          go_ret
          exact ⟨rfl, HFd.out.trans f3⟩
end Go.Proofs.Ytcdchojdkdimbaa
