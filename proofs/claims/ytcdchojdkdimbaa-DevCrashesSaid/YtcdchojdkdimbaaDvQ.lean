/- lavaboref05: Shown, Read. -/
import Derived.Test.YtcdchojdkdimbaaDvI
namespace Go.Proofs.Ytcdchojdkdimbaa
open Go.RowKit

theorem two_new (w : World) (o1 o2 : Obj) : ((w.alloc o1).alloc o2).heap[w.heap.size]? = some o1 ∧ ((w.alloc o1).alloc o2).heap[w.heap.size + 1]? = some o2 ∧ Fr No w ((w.alloc o1).alloc o2) := by
  refine ⟨?_, ?_, ((Fr.refl No w).alloc o1).alloc o2⟩
  · exact (((Fr.refl No (w.alloc o1)).alloc o2).block _ (lt_of_block (heap_new w o1)) id).trans (heap_new w o1)
  · have := heap_new (w.alloc o1) o2
    rwa [show (w.alloc o1).heap.size = w.heap.size + 1 by simp] at this
set_option maxRecDepth 100000 in
set_option maxHeartbeats 2000000 in
theorem rf_Shown (w : World) (p : Nat) (S : Nat → Prop) (D : DM) (h : RD w p S D) (s : Nat) (hs : s < D.firm.length) (hlen : D.opn.length ≤ 100000) :
    Calls Try.prog 46 #[.pointer (some ⟨p, 0, none⟩), .int .i64 s] w fun e w' => e = .returned (.agg (blkA (latest D s))) ∧ Fr No w w' := by
  have HH := hid h
  have hok := h.1
  have HOK := hid hok
  have hF4 := (Fr.refl No w).alloc (.cells (blkA zeros) 42)
  obtain ⟨vF, vO, vP, hV⟩ := (h.no hF4).2
  obtain ⟨c0, c1, c2, _⟩ := hV.cells
  obtain ⟨aO, cO, rfl⟩ := own_form hV.opn
  obtain ⟨gF, capF, rfl, hlF, hgF, hr, _⟩ := own_at hV.firm hok.firm s hs
  rw [← firmAt_eq hs] at hr
  have HR := hid hr
  have hB64 := hok.firmAt hs
  obtain ⟨n4, n5, n45⟩ := two_new w (.cells (blkA zeros) 42) (.cells (blkA zeros) 42)
  have HN4 := hid n4
  have HN5 := hid n5
  have HN45 := hid n45
  have hs' : (s : Int) < (D.firm.length : Int) := by omega
  have hlen' : (D.opn.length : Int) ≤ 100000 := by omega
  obtain ⟨n, hn⟩ : ∃ n, D.opn.length = n := ⟨_, rfl⟩
  have HN := hid hn
  obtain ⟨R, hR⟩ : ∃ R, latest D s = R := ⟨_, rfl⟩
  have HL : Hid (latK D s n = R) := by unfold Hid; rw [← hR]; unfold latest; rw [hn]
  have hRl : R.length = 64 := by rw [← hR]; exact latest_len hok hs
  rw [hR]
  clear hR
  obtain ⟨B, hB⟩ : ∃ B, firmAt D s = B := ⟨_, rfl⟩
  have HBE : Hid (latK D s 0 = B) := hB
  rw [hB] at HR hB64
  have HI := hid (info64k B hB64)
  have HI2 := hid (info64b B hB64)
  have H1 := hid (blkA_one B)
  have HSZ : Hid ((blkA zeros).size = (blkA B).size) := by unfold Hid; rw [blkA_zeros_size, blkA_size, hB64]
  have HIR := hid (info64b R hRl)
  have H1R := hid (blkA_one R)
  have HSR : Hid ((blkA zeros).size = (blkA R).size) := by unfold Hid; rw [blkA_zeros_size, blkA_size, hRl]
  have HLL : Hid (∀ k, k ≤ n → (latK D s k).length = 64) := fun k hk => latK_len hok hs k (by omega)
  rw [hn] at hlen' c1
  rw [blkA_zeros] at c0 c1
  clear hV hr hB n4 n5 n45 hok h hn hF4 c2
  go_enter Try.func46, Try.ntmps46
  go_wp2_with (first
    | (refine wpList_load_mid rfl 42 _ rfl gF (s * 64) rfl (bk B) _ HR.out Try.underlying42 rfl HI.out ?_)
    | (refine wpList_store_row rfl 42 _ _ rfl (w.heap.size + 1) (blkA B) rfl rfl 42 (blkA zeros) HN5.out HI2.out HSZ.out H1.out ?_))
  have HF5 := hid (HN45.out.setRow (w.heap.size + 1) (blkA B) (fun h => absurd h (by omega)))
  have HQ5 := hid (setRow_heap _ _ _ (blkA B) _ _ HN5.out)
  have HQ4 := hid (((Fr.refl (fun k => k = w.heap.size + 1) _).setRow (w.heap.size + 1) (blkA B) (fun _ => rfl)).block w.heap.size (lt_of_block HN4.out) (by omega) |>.trans HN4.out)
  go_loopg [6] n (fun g i wr => ∃ k : Nat, k + g = n ∧ i = .int .i64 k ∧ Hid (wr.heap[w.heap.size]? = some (.cells (blkA zeros) 42 (0, 0))) ∧ Hid (wr.heap[w.heap.size + 1]? = some (.cells (blkA (latK D s k)) 42 (0, 0))) ∧ Hid (Fr No w wr))
  case atStart => exact ⟨0, by omega, rfl, HQ4, by rw [HBE.out]; exact HQ5, HF5⟩
  case round =>
    obtain ⟨k, hk, rfl, H4, H5, HF⟩ := hrel
    have HDr := hid (HH.out.no HF.out)
    obtain ⟨_, vF, vO, vP, hV⟩ := HDr.out
    have HV := hid hV
    obtain ⟨aO2, cO2, rfl⟩ := own_form hV.opn
    obtain ⟨d0, d1, _⟩ := hV.cells
    rw [HN.out] at d1
    have hpz := lt_of_block HV.out.blk
    clear c0 c1 hV d0
    cases gk with
    | zero =>
      obtain rfl : k = n := by omega
      rw [HL.out] at H5
      go_wp2_with (first
        | (refine list_val rfl (.agg (blkA R)) (exec_load_row 42 (.tmp 5) rfl (w.heap.size + 1) (by rfl) 42 (blkA R) (0, 0) _ _ H5.out Try.underlying42 HIR.out) ?_)
        | (refine wpList_store_row rfl 42 _ _ rfl w.heap.size (blkA R) rfl rfl 42 (blkA zeros) H4.out HIR.out HSR.out H1R.out ?_))
      refine bodyPost_ret (v := .agg (blkA R)) ((results_cell_row (fn := Try.f46) (p := 4) rfl _ _ w.heap.size 42 (blkA R) (0, 0) _ rfl (setRow_heap _ _ _ _ _ _ H4.out) Try.underlying42 rfl HIR.out)) rfl ⟨rfl, HF.out.setRow _ _ (fun h => absurd h (Nat.lt_irrefl _))⟩
    | succ g =>
      have hkn : k < n := by omega
      have hkD : k < D.opn.length := by rw [HN.out]; exact hkn
      obtain ⟨gO, capO, hv, hlc, hgz, hr0, _⟩ := own_at HV.out.opn HOK.out.opn k hkD
      obtain ⟨rfl, rfl⟩ : aO2 = some ⟨gO, 0, none⟩ ∧ cO2 = capO := by injection hv with h1 _ h3; exact ⟨h1, h3⟩
      have hr : wr.rangeAt gO (k * 65) (wk (opAt D k)) := by rw [opAt_eq hkD]; exact hr0
      have hx2 := HOK.out.opn _ (List.getElem_mem hkD)
      rw [← opAt_eq hkD] at hx2
      have hST : latK D s (k + 1) = if (opAt D k).1 = s then (opAt D k).2 else latK D s k := rfl
      have HST := hid hST
      obtain ⟨x, hx⟩ : ∃ x, opAt D k = x := ⟨_, rfl⟩
      rw [hx] at hr hx2 HST
      obtain ⟨x1, C⟩ := x
      have hC : C.length = 64 := by simpa [wk, bk] using hx2
      obtain ⟨q0, q1⟩ := range_wk hr
      have HQ1 := hid q1
      clear hr0 hr hx hST hv hx2 q1
      by_cases hxs : x1 = s
      · subst hxs
        have HS2 : Hid (latK D x1 (k + 1) = C) := HST.out.trans (if_pos rfl)
        have HIk := hid (info64k C hC)
        have HIb := hid (info64b C hC)
        have H1b := hid (blkA_one C)
        have HSC : Hid ((blkA (latK D x1 k)).size = (blkA C).size) := by unfold Hid; rw [blkA_size, blkA_size, hC]; exact HLL.out k (by omega)
        go_wp2_with (first
          | (refine wpList_load_mid rfl 42 _ rfl gO (k * 65 + 1) rfl (bk C) _ HQ1.out Try.underlying42 rfl HIk.out ?_)
          | (refine wpList_store_row rfl 42 _ _ rfl (w.heap.size + 1) (blkA C) rfl rfl 42 (blkA (latK D x1 k)) H5.out HIb.out HSC.out H1b.out ?_))
        have HF6 := hid (HF.out.setRow (w.heap.size + 1) (blkA C) (fun h => absurd h (by omega)))
        have H56 := hid (setRow_heap _ _ _ (blkA C) _ _ H5.out)
        have H46 := hid (((Fr.refl (fun k => k = w.heap.size + 1) wr).setRow (w.heap.size + 1) (blkA C) (fun _ => rfl)).block w.heap.size (lt_of_block H4.out) (by omega) |>.trans H4.out)
        go_roundg g
        case measure => omega
        case rel => exact ⟨k + 1, by omega, by go_num, H46, by rw [HS2.out]; exact H56, HF6⟩
      · have hne : ((x1 : Int) == (s : Int)) = false := by simp; omega
        have HS2 : Hid (latK D s (k + 1) = latK D s k) := HST.out.trans (if_neg hxs)
        go_wp2_with fail
        go_roundg g
        case measure => omega
        case rel => exact ⟨k + 1, by omega, by go_num, H4, by rw [HS2.out]; exact H5, HF⟩
set_option maxRecDepth 100000 in
set_option maxHeartbeats 2000000 in
theorem rf_Read (w : World) (p : Nat) (S : Nat → Prop) (D : DM) (h : RD w p S D) (s : Nat) (hs : s < D.firm.length) (hlen : D.opn.length ≤ 100000) (hpl : D.plan.length ≤ 100000) :
    Calls Try.prog 30 #[.pointer (some ⟨p, 0, none⟩), .int .i64 s] w fun e w' => e = .returned (.tuple #[.agg (blkA (readB D s)), .int .i64 ((readE D : Nat) : Int)]) ∧ RD w' p S (popD D) ∧ Fr S w w' := by
  have HOK0 := hid h.1
  have hlt := h.lt
  have kF := (Fr.refl No w).alloc (.cells (blkA zeros) 42)
  have HTH := hid (rf_there _ p S D (h.no kF) s)
  have HFA := hid (rf_fate _ p S D (h.no kF) hpl)
  have HKF := hid kF
  have HN := hid (heap_new w (.cells (blkA zeros) 42))
  have htB : thereB D s = true := by unfold thereB; simp; omega
  rw [htB] at HTH
  have hnS : ¬ S w.heap.size := fun e => absurd (hlt _ e) (Nat.lt_irrefl _)
  obtain ⟨Z, hZ⟩ : ∃ Z, Z = zeros := ⟨_, rfl⟩
  have hZL : Z.length = 64 := by rw [hZ, zeros_len]
  have HZB : Hid (∀ W, (Instr.build 42 #[]).run Try.prog W = .ok (.agg (blkA Z)) W) := by unfold Hid; rw [hZ]; exact zeros_build
  have HIZ := hid (info64b Z hZL)
  have H1Z := hid (blkA_one Z)
  have HSZ : Hid ((blkA zeros).size = (blkA Z).size) := by unfold Hid; rw [blkA_zeros_size, blkA_size, hZL]
  have HZ := hid hZ
  clear kF htB hZ
  go_enter Try.func30, Try.ntmps30
  go_wp2_with fail
  refine HTH.out.mono ?_
  rintro e w1 ⟨rfl, rfl⟩
  go_wp2_with fail
  refine HFA.out.mono ?_
  rintro e w2 ⟨rfl, hD2, hF2⟩
  have HN2 := hid ((hF2.block _ (lt_of_block HN.out) hnS).trans HN.out)
  have HF2 := hid ((HKF.out.mono (T := S) (fun _ _ h => h.elim)).trans hF2)
  have h3 : fateD D = 0 ∨ fateD D = 1 ∨ fateD D = 2 := by have := fateD_le HOK0.out; omega
  have HSH := hid (rf_Shown w2 p S (popD D) hD2 s hs hlen)
  rw [latest_pop] at HSH
  have hR0 : fateD D ≠ 1 → readB D s = latest D s ∧ readE D = 0 := fun e => by unfold readB readE; rw [if_neg e, if_neg e]; exact ⟨rfl, rfl⟩
  have hR1 : fateD D = 1 → readB D s = zeros ∧ readE D = 19 := fun e => by unfold readB readE; rw [if_pos e, if_pos e]; exact ⟨rfl, rfl⟩
  have HD2 := hid hD2
  have hRl : (latest D s).length = 64 := latest_len HOK0.out hs
  obtain ⟨R, hR⟩ : ∃ R, latest D s = R := ⟨_, rfl⟩
  rw [hR] at HSH hR0 hRl
  have HIR := hid (info64b R hRl)
  have H1R := hid (blkA_one R)
  have HSR : Hid ((blkA zeros).size = (blkA R).size) := by unfold Hid; rw [blkA_zeros_size, blkA_size, hRl]
  obtain ⟨fa, hfa⟩ : ∃ fa, fateD D = fa := ⟨_, rfl⟩
  rw [hfa] at hR0 hR1 h3 ⊢
  clear hfa hD2 hF2 HKF HTH HFA HN hR
  rcases h3 with rfl | rfl | rfl
  rotate_left
  · obtain ⟨e1, e2⟩ := hR1 rfl
    have HE1 := hid e1
    have HE2 := hid e2
    clear hR0 hR1 e1 e2
    go_wp2_with (first
      | (refine list_val rfl _ (exec_build _ _ rfl _ (by simp [Act.eval]) _ (HZB.out _)) ?_)
      | (refine wpList_store_row rfl 42 _ _ rfl w.heap.size (blkA Z) rfl rfl 42 (blkA zeros) HN2.out HIZ.out HSZ.out H1Z.out ?_))
    refine bodyPost_ret (v := .tuple #[.agg (blkA Z), .int .i64 19]) (results_block2 (fn := Try.f30) (p := 4) (u := 5) rfl _ _ _ w.heap.size 42 (blkA Z) (0, 0) _ _ rfl (setRow_heap _ _ _ _ _ _ HN2.out) Try.underlying42 HIZ.out) rfl ⟨by rw [HE1.out, HE2.out, HZ.out]; rfl, HD2.out.fr ((Fr.refl (fun k => k = w.heap.size) w2).setRow w.heap.size (blkA Z) (fun _ => rfl)) (fun k hk e => hnS (e ▸ hk)), HF2.out.setRow _ _ (fun h => absurd h (Nat.lt_irrefl _))⟩
  all_goals
    obtain ⟨e1, e2⟩ := hR0 (by decide)
    have HE1 := hid e1
    have HE2 := hid e2
    clear hR0 hR1 e1 e2
    go_wp2_with fail
    refine HSH.out.mono ?_
    rintro e w3 ⟨rfl, hF3⟩
    have HN3 := hid ((hF3.block _ (lt_of_block HN2.out) id).trans HN2.out)
    have HD3 := hid (HD2.out.no hF3)
    have HF3 := hid (HF2.out.then hF3 (fun _ _ e => e.elim))
    clear hF3
    go_wp2_with (refine wpList_store_row rfl 42 _ _ rfl w.heap.size (blkA R) rfl rfl 42 (blkA zeros) HN3.out HIR.out HSR.out H1R.out ?_)
    refine bodyPost_ret (v := .tuple #[.agg (blkA R), .int .i64 0]) (results_block2 (fn := Try.f30) (p := 4) (u := 5) rfl _ _ _ w.heap.size 42 (blkA R) (0, 0) _ _ rfl (setRow_heap _ _ _ _ _ _ HN3.out) Try.underlying42 HIR.out) rfl ⟨by rw [HE1.out, HE2.out]; rfl, HD3.out.fr ((Fr.refl (fun k => k = w.heap.size) w3).setRow w.heap.size (blkA R) (fun _ => rfl)) (fun k hk e => hnS (e ▸ hk)), HF3.out.setRow _ _ (fun h => absurd h (Nat.lt_irrefl _))⟩
set_option maxRecDepth 100000 in
theorem rf_Read_bad (w : World) (p : Nat) (S : Nat → Prop) (D : DM) (h : RD w p S D) (s : Int) (hs : ¬ thereB D s = true) :
    Calls Try.prog 30 #[.pointer (some ⟨p, 0, none⟩), .int .i64 s] w fun e w' => e = .returned (.tuple #[.agg (blkA zeros), .int .i64 10]) ∧ Fr No w w' := by
  have kF := (Fr.refl No w).alloc (.cells (blkA zeros) 42)
  have HTH := hid (rf_there _ p S D (h.no kF) s)
  have HKF := hid kF
  have HN := hid (heap_new w (.cells (blkA zeros) 42))
  have htB : thereB D s = false := by simpa using hs
  rw [htB] at HTH
  obtain ⟨Z, hZ⟩ : ∃ Z, Z = zeros := ⟨_, rfl⟩
  have hZL : Z.length = 64 := by rw [hZ, zeros_len]
  have HZB : Hid (∀ W, (Instr.build 42 #[]).run Try.prog W = .ok (.agg (blkA Z)) W) := by unfold Hid; rw [hZ]; exact zeros_build
  have HIZ := hid (info64b Z hZL)
  have H1Z := hid (blkA_one Z)
  have HSZ : Hid ((blkA zeros).size = (blkA Z).size) := by unfold Hid; rw [blkA_zeros_size, blkA_size, hZL]
  have HZ := hid hZ
  clear kF htB hZ
  go_enter Try.func30, Try.ntmps30
  go_wp2_with fail
  refine HTH.out.mono ?_
  rintro e w1 ⟨rfl, rfl⟩
  go_wp2_with (first
    | (refine list_val rfl _ (exec_build _ _ rfl _ (by simp [Act.eval]) _ (HZB.out _)) ?_)
    | (refine wpList_store_row rfl 42 _ _ rfl w.heap.size (blkA Z) rfl rfl 42 (blkA zeros) HN.out HIZ.out HSZ.out H1Z.out ?_))
  refine bodyPost_ret (v := .tuple #[.agg (blkA Z), .int .i64 10]) (results_block2 (fn := Try.f30) (p := 4) (u := 5) rfl _ _ _ w.heap.size 42 (blkA Z) (0, 0) _ _ rfl (setRow_heap _ _ _ _ _ _ HN.out) Try.underlying42 HIZ.out) rfl ⟨by rw [HZ.out], HKF.out.setRow _ _ (fun h => absurd h (Nat.lt_irrefl _))⟩
end Go.Proofs.Ytcdchojdkdimbaa
