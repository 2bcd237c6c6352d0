/- The law's helpers of layer 5: fates, plans, firm. -/
import Derived.Test.YtcdchojdkdimbaaDvQ
namespace Go.Proofs.Ytcdchojdkdimbaa
open Go.RowKit

theorem offN_row {w : World} {a : Option Addr} {n c : Nat} {l : List Nat} (h : OffN w (.slice a n c) l) : Row w a (l.map nv) := by
  rcases h with ⟨_, rfl⟩ | ⟨g, o, cap, cs, hv, hg, h3, h4, h5⟩
  · exact .inl rfl
  · obtain rfl : a = some ⟨g, o, none⟩ := by injection hv
    refine .inr ⟨g, o, rfl, lt_of_block hg, fun i hi => ?_⟩
    have hi' : i < l.length := by simpa using hi
    rw [cell_blk hg, h5 i hi']
    simp [List.getD_eq_getElem?_getD, hi']
theorem tmod4 (x : Int) (hx : 0 < x) : ∃ f : Nat, Int.tmod x 4 = f ∧ f ≤ 3 := by
  refine ⟨(Int.tmod x 4).toNat, ?_, ?_⟩
  · rw [Int.toNat_of_nonneg (Int.tmod_nonneg _ (by omega))]
  · have := Int.tmod_lt_of_pos x (show (0 : Int) < 4 by decide)
    omega
set_option maxRecDepth 100000 in
theorem dv_fates (w : World) (n : Int) : Calls Try.prog 32 #[.int .i64 n] w fun e w' => ∃ v l, e = .returned v ∧ OffN w' v l ∧ (l = [] → v = .slice none 0 0) ∧ l.length ≤ 3 ∧ Fr No w w' ∧ ∀ j, v.ownBlock = some j → w.heap.size ≤ j := by
  go_enter Try.func32, Try.ntmps32
  go_wp2_with fail
  go_loopg [0, 3] 3 (fun g x v wr => ∃ (y : Int) (l : List Nat), x = .int .i64 y ∧ l.length + g = 3 ∧ Hid (OffN wr v l) ∧ Hid (l = [] → v = .slice none 0 0) ∧ Hid (Fr No w wr) ∧ Hid (∀ j, v.ownBlock = some j → w.heap.size ≤ j))
  case atStart => exact ⟨n, [], rfl, rfl, .inl ⟨rfl, rfl⟩, fun _ => rfl, Fr.refl _ _, fun j hj => by simp [Value.ownBlock] at hj⟩
  case round =>
    obtain ⟨y, l, rfl, hl, HO, HE, HF, HB⟩ := hrel
    obtain ⟨a, c, rfl⟩ := HO.out.form
    by_cases hy : 0 < y
    · cases gk with
      | zero =>
        have h3 : (3 : Int) ≤ (l.length : Int) := by omega
        go_wp2_with fail
        go_ret
        exact ⟨_, l, rfl, HO.out, HE.out, by omega, HF.out, HB.out⟩
      | succ g =>
        have h3 : (l.length : Int) < 3 := by omega
        obtain ⟨f, hf, hf3⟩ := tmod4 y hy
        have HN := hid (heap_new wr (.cells #[.int .i64 (f : Int)] 3))
        have hF1 := (Fr.refl No wr).alloc (.cells #[.int .i64 (f : Int)] 3)
        have HRW := hid (show Row (wr.alloc (.cells #[.int .i64 (f : Int)] 3)) (some ⟨wr.heap.size, 0, none⟩) ([f].map nv) from Row.of_blk HN.out (n := 1) rfl (by simp))
        have HO1 := hid (HO.out.fr hF1 (fun _ _ => id))
        have HF1 := hid (HF.out.trans hF1)
        have hsz := hF1.size
        clear hF1
        go_wp2_with (at_builtin; refine wpList_append_offN _ rfl (.tmp 11) (.tmp 14) 37 rfl Try.underlying37 int_info _ l [f] rfl HO1.out (some ⟨wr.heap.size, 0, none⟩) 1 rfl (.inr ⟨by simp, HRW.out⟩) (by rw [List.length_singleton]; omega) ?_; intro v' w1 hO hF hB; obtain ⟨av, cv, rfl⟩ := hO.form; rw [List.length_append, List.length_singleton] at hO hB; have HO2 := hid hO; have HF2 := hid hF; have HB2 := hid hB; clear hO hF hB)
        go_roundg g
        case measure => omega
        case rel => exact ⟨_, l ++ [f], rfl, by rw [List.length_append, List.length_singleton]; omega, HO2.out, fun e => by simp at e, HF1.out.then HF2.out (fun i hi e => absurd hi (by have := HB.out i e; omega)), fun j hj => (HB2.out j hj).elim (fun e => HB.out j e) (fun e => by have := HF1.out.size; omega)⟩
    · have hy' : y ≤ 0 := by omega
      clear hy
      go_wp2_with fail
      go_ret
      exact ⟨_, rfl, l, HO.out, HE.out, by omega, HF.out, HB.out⟩
set_option maxRecDepth 100000 in
theorem dv_plans (w : World) (v : Value) (l : List Nat) (h : OffN w v l) (hl : l.length ≤ 3) : Calls Try.prog 33 #[v] w fun e w' => e = .returned (.bool (l.all fun f => decide (f ≤ 2))) ∧ w' = w := by
  obtain ⟨a, c, rfl⟩ := h.form
  have HR := hid (offN_row h)
  have hli : (l.length : Int) ≤ 3 := by omega
  clear h
  go_enter Try.func33, Try.ntmps33
  go_wp2_with fail
  go_loopg [3] l.length (fun g i wr => ∃ k : Nat, k + g = l.length ∧ i = .int .i64 k ∧ (∀ j (hj : j < l.length), j < k → l[j] ≤ 2) ∧ wr = w)
  case atStart => exact ⟨0, by omega, rfl, fun j hj h => by omega, rfl⟩
  case round =>
    obtain ⟨k, hk, rfl, hall, rfl⟩ := hrel
    cases gk with
    | zero =>
      obtain rfl : k = l.length := by omega
      have hA : (l.all fun f => decide (f ≤ 2)) = true := by
        rw [List.all_eq_true]
        intro f hf
        obtain ⟨j, hj, rfl⟩ := List.mem_iff_getElem.1 hf
        exact decide_eq_true (hall j hj hj)
      have HA := hid hA
      clear hall hA
      go_wp2_with fail
      go_ret
      exact ⟨by rw [HA.out]; rfl, rfl⟩
    | succ g =>
      have hkl : k < l.length := by omega
      obtain ⟨b, o, rfl, hb, hc⟩ := HR.out.natAt k hkl
      have HALL := hid hall
      obtain ⟨f, hf⟩ : ∃ f, l[k] = f := ⟨_, rfl⟩
      rw [hf] at hc
      have HFE := hid hf
      clear hall hf
      by_cases h2 : f ≤ 2
      · have h2' : (f : Int) ≤ 2 := by omega
        go_wp2_with fail
        go_roundg g
        case measure => omega
        case rel =>
          refine ⟨k + 1, by omega, by go_num, fun j hj hjk => ?_, rfl⟩
          rcases Nat.lt_succ_iff_lt_or_eq.1 hjk with e | e
          · exact HALL.out j hj e
          · subst e; rw [HFE.out]; exact h2
      · have h2' : (2 : Int) < (f : Int) := by omega
        have hA : (l.all fun f => decide (f ≤ 2)) = false := by
          rw [List.all_eq_false]
          exact ⟨l[k], List.getElem_mem hkl, by rw [HFE.out]; simpa using h2⟩
        have HA := hid hA
        clear hA
        go_wp2_with fail
        go_ret
        exact ⟨by rw [HA.out]; rfl, rfl⟩
set_option maxRecDepth 100000 in
set_option maxHeartbeats 2000000 in
theorem dv_firm (w : World) (p : Nat) (S : Nat → Prop) (D : DM) (h : PD w p S D) (v : Value) (hv : w.ownsRow 0 42 64 v D.firm.length (D.firm.flatMap bk)) : Calls Try.prog 17 #[.pointer (some ⟨p, 0, none⟩), v] w fun e w' => e = .returned (.bool true) ∧ Fr No w w' := by
  obtain ⟨aL, cL, rfl⟩ := own_form hv
  have HH := hid h
  have HV := hid hv
  have HOK := hid h.1
  have hlen : (D.firm.length : Int) ≤ 4096 := by have := h.1.hi; omega
  obtain ⟨n, hn⟩ : ∃ n, D.firm.length = n := ⟨_, rfl⟩
  have HN := hid hn
  rw [hn] at hlen ⊢
  clear h hv hn
  go_enter Try.func17, Try.ntmps17
  go_wp2_with fail
  refine (dv_Size w p S D HH.out).mono ?_
  rintro e w ⟨rfl, rfl⟩
  rw [HN.out]
  go_wp2_with fail
  go_loopg [5] n (fun g i wr => ∃ k : Nat, k + g = n ∧ i = .int .i64 k ∧ Hid (Fr No w wr))
  case atStart => exact ⟨0, by omega, rfl, Fr.refl _ _⟩
  case round =>
    obtain ⟨k, hk, rfl, HF⟩ := hrel
    cases gk with
    | zero =>
      obtain rfl : k = n := by omega
      go_wp2_with fail
      go_ret
      exact ⟨rfl, HF.out⟩
    | succ g =>
      have hkn : k < n := by omega
      have hkD : k < D.firm.length := by rw [HN.out]; exact hkn
      go_wp2_with fail
      refine (dv_Firm_ok wr p S D (HH.out.no HF.out) k hkD).mono ?_
      rintro e u1 ⟨rfl, hF⟩
      have HF1 := hid (HF.out.trans hF)
      have hb64 := HOK.out.firmAt hkD
      have hrow := own_frk HV.out HF1.out (fun _ _ => id)
      obtain ⟨gL, capL, e, _, hgz, hr, _⟩ := own_at hrow HOK.out.firm k hkD
      rw [HN.out] at e
      obtain ⟨rfl, rfl⟩ : aL = some ⟨gL, 0, none⟩ ∧ cL = capL := by injection e with h1 _ h3; exact ⟨h1, h3⟩
      rw [← firmAt_eq hkD] at hr
      obtain ⟨B, hB⟩ : ∃ B, firmAt D k = B := ⟨_, rfl⟩
      rw [hB] at hr hb64 ⊢
      have HI := hid (info64k B hb64)
      have HIB := hid (info64b B hb64)
      have H1B := hid (blkA_one B)
      have HSB : Hid ((blkA zeros).size = (blkA B).size) := by unfold Hid; rw [blkA_zeros_size, blkA_size, hb64]
      have HN0 := hid (heap_new u1 (.cells (blkA zeros) 42))
      have HP := put_blk u1 (blkA zeros) B
      have HR1 := hid hr
      clear hF hrow hB e hr
      go_wp2_with (
        refine wpList_store_row rfl 42 _ _ rfl u1.heap.size (blkA B) rfl rfl 42 (blkA zeros) HN0.out HIB.out HSB.out H1B.out ?_
        change wpList _ _ _ _ _ ((u1.alloc (.cells (blkA zeros) 42)).setRow u1.heap.size (blkA B))
        obtain ⟨u2, hw⟩ : ∃ u2, ((u1.alloc (.cells (blkA zeros) 42)).setRow u1.heap.size (blkA B)) = u2 := ⟨_, rfl⟩
        rw [hw] at HP ⊢)
      obtain ⟨g6, hg⟩ : ∃ g6, u1.heap.size = g6 := ⟨_, rfl⟩
      rw [hg] at HP ⊢
      obtain ⟨hG, hF⟩ := HP
      have hR2 : u2.rangeAt gL (k * 64) (bk B) := fun j x hx => (hF.cell (p := ⟨gL, k * 64 + j, none⟩) (lt_of_cell (HR1.out j x hx)) id).trans (HR1.out j x hx)
      have HF2 := hid (HF1.out.trans hF)
      have hEB := blk_eqIn_same B hb64
      have hgu := eql_ty
      clear hw hg HN0 hF HF1 HR1
      refine wp_region_held_drew (S := fun W => W.heap[g6]? = some (.cells (blkA B) 42 (0, 0)) ∧ W.rangeAt gL (k * 64) (bk B)) (by kernel_rfl) ⟨hG, hR2⟩ (fun hHeld => ?_)
      have HF3 := hid HF2.out.drew
      obtain ⟨z, hz⟩ : ∃ z, u2.drew = z := ⟨_, rfl⟩
      rw [hz] at HF3 hHeld ⊢
      clear hz HF2 hG hR2
      refine wpAnyH_take (i := 0) (v := .agg (blkA B)) rfl (by kernel_rfl) (by kernel_rfl) (by kernel_rfl) (fun _ _ _ h => h) (yields_row (by rfl) 42 _ rfl g6 rfl 42 (blkA B) (0, 0) _ _ (fun W hW => hW.1) Try.underlying42 HIB.out) hHeld ?_
      try simp only [Act.put, List.getElem_toArray, List.getElem_cons_zero, List.getElem_cons_succ, List.setIfInBounds_toArray, List.set_cons_zero, List.set_cons_succ]
      refine wpAnyH_take (i := 1) (v := ?_) rfl (by kernel_rfl) (by kernel_rfl) (by kernel_rfl) (fun _ _ _ h => h) (Or.inl ⟨by rfl, ?_⟩) hHeld ?_
      rotate_left
      · intro w hSw
        go_simp
        with_reducible rfl
      try simp only [Act.put, List.getElem_toArray, List.getElem_cons_zero, List.getElem_cons_succ, List.setIfInBounds_toArray, List.set_cons_zero, List.set_cons_succ]
      refine wpAnyH_take (i := 2) (v := ?_) rfl (by kernel_rfl) (by kernel_rfl) (by kernel_rfl) (fun _ _ _ h => h) (Or.inl ⟨by rfl, ?_⟩) hHeld ?_
      rotate_left
      · intro w hSw
        go_simp
        with_reducible rfl
      try simp only [Act.put, List.getElem_toArray, List.getElem_cons_zero, List.getElem_cons_succ, List.setIfInBounds_toArray, List.set_cons_zero, List.set_cons_succ]
      refine wpAnyH_take (i := 3) (v := ?_) rfl (by kernel_rfl) (by kernel_rfl) (by kernel_rfl) (fun _ _ _ h => h) (Or.inl ⟨by rfl, ?_⟩) hHeld ?_
      rotate_left
      · intro w hSw
        go_simp
        with_reducible rfl
      try simp only [Act.put, List.getElem_toArray, List.getElem_cons_zero, List.getElem_cons_succ, List.setIfInBounds_toArray, List.set_cons_zero, List.set_cons_succ]
      refine wpAnyH_take (i := 4) (v := .agg (blkA B)) rfl (by kernel_rfl) (by kernel_rfl) (by kernel_rfl) (fun _ _ _ h => h) (.inl ⟨by rfl, fun W hW => exec_load_mid 42 _ rfl gL (k * 64) rfl (bk B) _ hW.2 Try.underlying42 rfl HI.out⟩) hHeld ?_
      try simp only [Act.put, List.getElem_toArray, List.getElem_cons_zero, List.getElem_cons_succ, List.setIfInBounds_toArray, List.set_cons_zero, List.set_cons_succ]
      refine wpAnyH_take (i := 5) (v := ?_) rfl (by kernel_rfl) (by kernel_rfl) (by kernel_rfl) (fun _ _ _ h => h) (Or.inl ⟨by rfl, ?_⟩) hHeld ?_
      rotate_left
      · intro w hSw
        go_simp
        with_reducible rfl
      try simp only [Act.put, List.getElem_toArray, List.getElem_cons_zero, List.getElem_cons_succ, List.setIfInBounds_toArray, List.set_cons_zero, List.set_cons_succ]
      refine wpAnyH_take (i := 6) (v := ?_) rfl (by kernel_rfl) (by kernel_rfl) (by kernel_rfl) (fun _ _ _ h => h) (Or.inl ⟨by rfl, ?_⟩) hHeld ?_
      rotate_left
      · intro w hSw
        go_simp
        with_reducible rfl
      try simp only [Act.put, List.getElem_toArray, List.getElem_cons_zero, List.getElem_cons_succ, List.setIfInBounds_toArray, List.set_cons_zero, List.set_cons_succ]
      refine wpAnyH_take (i := 7) (v := ?_) rfl (by kernel_rfl) (by kernel_rfl) (by kernel_rfl) (fun _ _ _ h => h) (Or.inl ⟨by rfl, ?_⟩) hHeld ?_
      rotate_left
      · intro w hSw
        go_simp
        with_reducible rfl
      try simp only [Act.put, List.getElem_toArray, List.getElem_cons_zero, List.getElem_cons_succ, List.setIfInBounds_toArray, List.set_cons_zero, List.set_cons_succ]
      refine wpAnyH_take (i := 8) (v := ?_) rfl (by kernel_rfl) (by kernel_rfl) (by kernel_rfl) (fun _ _ _ h => h) (Or.inl ⟨by rfl, ?_⟩) hHeld ?_
      rotate_left
      · intro w hSw
        go_simp
        with_reducible rfl
      try simp only [Act.put, List.getElem_toArray, List.getElem_cons_zero, List.getElem_cons_succ, List.setIfInBounds_toArray, List.set_cons_zero, List.set_cons_succ]
      refine wpAnyH_take (i := 9) (v := ?_) rfl (by kernel_rfl) (by kernel_rfl) (by kernel_rfl) (fun _ _ _ h => h) (Or.inl ⟨by rfl, ?_⟩) hHeld ?_
      rotate_left
      · intro w hSw
        go_simp
        with_reducible rfl
      try simp only [Act.put, List.getElem_toArray, List.getElem_cons_zero, List.getElem_cons_succ, List.setIfInBounds_toArray, List.set_cons_zero, List.set_cons_succ]
      refine wpAnyH_done (by kernel_rfl) ?_ _
      go_wp2_with fail
      go_roundg g
      case measure => omega
      case rel => exact ⟨k + 1, by omega, by go_num, HF3⟩
end Go.Proofs.Ytcdchojdkdimbaa
