/- forms: put[T]. -/
import Derived.Test.YtpifiamafgaadaaDoorFmR
import Derived.Laws.EntriesVeiled
namespace Go.Proofs.YtpifiamafgaadaaDoor
open Go.RowKit Go.Shelf
set_option maxRecDepth 1000000 in
set_option maxHeartbeats 4000000 in
theorem fm_putPage (w : World) (CS : Array Value) (L : List NumI) (fits : Bool) (hCS : (Tryd.prog.info? 42).map (·.size) = some CS.size) (h1 : CS.all (·.oneCell') = true)
    (hn : ∀ (W : World) (X : Nat), W.heap[X]? = some (.cells CS 42 (0, 0)) → Calls Tryd.prog 46 #[.pointer (some ⟨X, 0, none⟩)] W fun e w' => ∃ v, e = .returned v ∧ Nums w' v L (fun q => q = X) W.heap.size ∧ Fr No W w')
    (hf : okAll L = true → ∀ W : World, Calls Tryd.prog 47 #[.agg CS] W fun e w' => e = .returned (.bool fits) ∧ Fr No W w')
    (hL : ∀ x ∈ L, 1 ≤ x.size ∧ x.size ≤ 7 ∧ 0 ≤ x.lo ∧ x.hi < 256 ^ x.size) (hlen : (bytesN L).length ≤ 59) (hL0 : 0 < L.length ∧ L.length ≤ 1000) (hLd : Laid w) :
    Calls Tryd.prog 23 #[.agg #[.int .i64 3, .func (.func 46) #[] #[], .func (.func 47) #[] #[]], .agg CS] w fun e w' =>
      e = .returned (.tuple #[.agg (blkA (putN 3 L fits).1), .int .i64 (((putN 3 L fits).2 : Nat) : Int)]) ∧ Fr No w w' := by
  have HCS := hid hCS
  have H1 := hid h1
  have HN := hid hn
  have HFF := hid hf
  have HL := hid hL
  have HLN := hid hlen
  have HL0 := hid hL0
  have HLD := hid hLd
  have HIZ := hid (info64b zeros (by simp [zeros]))
  have H1Z := hid (blkA_one zeros)
  clear hCS h1 hn hf hL hlen hL0 hLd
  go_enter Tryd.func23, Tryd.ntmps23
  go_wp2_with fail
  rw [show (#[.int .u8 0, .int .u8 0, .int .u8 0, .int .u8 0, .int .u8 0, .int .u8 0, .int .u8 0, .int .u8 0, .int .u8 0, .int .u8 0, .int .u8 0, .int .u8 0, .int .u8 0, .int .u8 0, .int .u8 0, .int .u8 0, .int .u8 0, .int .u8 0, .int .u8 0, .int .u8 0, .int .u8 0, .int .u8 0, .int .u8 0, .int .u8 0, .int .u8 0, .int .u8 0, .int .u8 0, .int .u8 0, .int .u8 0, .int .u8 0, .int .u8 0, .int .u8 0, .int .u8 0, .int .u8 0, .int .u8 0, .int .u8 0, .int .u8 0, .int .u8 0, .int .u8 0, .int .u8 0, .int .u8 0, .int .u8 0, .int .u8 0, .int .u8 0, .int .u8 0, .int .u8 0, .int .u8 0, .int .u8 0, .int .u8 0, .int .u8 0, .int .u8 0, .int .u8 0, .int .u8 0, .int .u8 0, .int .u8 0, .int .u8 0, .int .u8 0, .int .u8 0, .int .u8 0, .int .u8 0, .int .u8 0, .int .u8 0, .int .u8 0, .int .u8 0] : Array Value) = blkA zeros from rfl]
  have a0 := heap_new w (.cells #[.int .i64 3, .func (.func 46) #[] #[], .func (.func 47) #[] #[]] 74)
  have b0 := heap_new (w.alloc (.cells #[.int .i64 3, .func (.func 46) #[] #[], .func (.func 47) #[] #[]] 74)) (.cells CS 42)
  have c0 := heap_new ((w.alloc (.cells #[.int .i64 3, .func (.func 46) #[] #[], .func (.func 47) #[] #[]] 74)).alloc (.cells CS 42)) (.cells (blkA zeros) 27)
  simp only [World.size_alloc] at b0 c0
  have HB1 := hid (heap_more (o' := .cells (blkA zeros) 27) (heap_more (o' := .cells CS 42) a0))
  have HB2 := hid (heap_more (o' := .cells (blkA zeros) 27) b0)
  have HB3 := hid c0
  have HF := hid ((((Fr.refl No w).alloc (.cells #[.int .i64 3, .func (.func 46) #[] #[], .func (.func 47) #[] #[]] 74)).alloc (.cells CS 42)).alloc (.cells (blkA zeros) 27))
  clear a0 b0 c0
  obtain ⟨wa, hwa⟩ : ∃ W, ((w.alloc (.cells #[.int .i64 3, .func (.func 46) #[] #[], .func (.func 47) #[] #[]] 74)).alloc (.cells CS 42)).alloc (.cells (blkA zeros) 27) = W := ⟨_, rfl⟩
  rw [hwa] at HB1 HB2 HB3 HF ⊢
  clear hwa
  have HZ := hid (show ∃ FB X RB, w.heap.size = FB ∧ w.heap.size + 1 = X ∧ w.heap.size + 1 + 1 = RB from ⟨_, _, _, rfl, rfl, rfl⟩)
  obtain ⟨FB, X, RB, z1, z2, z3⟩ := HZ.out
  have HZF := hid (show w.heap.size ≤ FB ∧ w.heap.size ≤ X ∧ w.heap.size ≤ RB ∧ FB ≠ X from by omega)
  rw [z3] at HB3
  rw [z2] at HB2
  rw [z1] at HB1
  rw [z3, z2, z1]
  clear z1 z2 z3 HZ
  refine wp_region_held_drew (S := fun W => W.cell? ⟨FB, 0, none⟩ = some (.int .i64 3)) (by kernel_rfl) ((cell_blk HB1.out 0).trans rfl) (fun hHeld => ?_)
  have hFz := (Fr.refl No wa).drew
  obtain ⟨wz, hwz⟩ : ∃ W, wa.drew = W := ⟨_, rfl⟩
  rw [hwz] at hFz hHeld ⊢
  clear hwz
  refine wpAnyH_take (i := 1) (v := ?_) rfl (by kernel_rfl) (by kernel_rfl) (by kernel_rfl) (fun _ _ _ h => h) (Or.inl ⟨by rfl, ?_⟩) hHeld ?_
  rotate_left
  · intro w hSw
    go_simp
    with_reducible rfl
  try simp only [Act.put, List.getElem_toArray, List.getElem_cons_zero, List.getElem_cons_succ, List.setIfInBounds_toArray, List.set_cons_zero, List.set_cons_succ]
  refine wpAnyH_take (i := 2) (v := ?_) rfl (by kernel_rfl) (by kernel_rfl) (by kernel_rfl) (fun _ _ _ h => h) (Or.inl ⟨by rfl, ?_⟩) hHeld ?_
  rotate_left
  · intro w hSw
    go_simp
    with_reducible rfl
  try simp only [Act.put, List.getElem_toArray, List.getElem_cons_zero, List.getElem_cons_succ, List.setIfInBounds_toArray, List.set_cons_zero, List.set_cons_succ]
  refine wpAnyH_ready (rs := [0]) (by kernel_rfl) (by simp) ?_
  refine AllReadyH.cons rfl (fun K hK => ?_) AllReadyH.nil
  rw [if_pos (by rfl)]
  go_simp
  refine (fd_Write' _).mono ?_
  rintro e w1 ⟨rfl, hW, hF1⟩
  have hFa := hFz.trans hF1
  obtain ⟨p, hp⟩ : ∃ p, wz.heap.size = p := ⟨_, rfl⟩
  rw [hp] at hW ⊢
  have HP := hid (show FB < p ∧ X < p ∧ RB < p ∧ w.heap.size ≤ p from ⟨by rw [← hp]; exact hFz.lt (lt_of_block HB1.out), by rw [← hp]; exact hFz.lt (lt_of_block HB2.out), by rw [← hp]; exact hFz.lt (lt_of_block HB3.out), by rw [← hp]; exact Nat.le_trans HF.out.size hFz.size⟩)
  have HA := hid hFa
  have HW := hid hW
  refine hK.out _ _ ((hF1.cell (p := ⟨FB, 0, none⟩) (lt_of_cell hHeld) id).trans hHeld) (fun hHeld => ?_)
  clear hK K hF1 hFz hp hW hFa
  try simp only [Act.put, List.getElem_toArray, List.getElem_cons_zero, List.getElem_cons_succ, List.setIfInBounds_toArray, List.set_cons_zero, List.set_cons_succ]
  refine wpAnyH_ready (rs := [3]) (by kernel_rfl) (by simp) ?_
  refine AllReadyH.cons rfl (fun K hK => ?_) AllReadyH.nil
  rw [if_pos (by rfl)]
  go_simp
  refine (fd_Put _ p 0 [] 3 1 HW.out).mono ?_
  rintro e w2 ⟨rfl, hW, hF2⟩
  rw [show putF [] 0 3 1 = ([3], 0) from by decide] at hW
  refine hK.out _ _ ((hF2.cell (p := ⟨FB, 0, none⟩) (lt_of_cell hHeld) (fun e => by have e : FB = p := e; have := HP.out; omega)).trans hHeld) (fun hHeld => ?_)
  have HW2 := hid hW
  have HA2 := hid ((HA.out.mono (T := fun q => q = p) (fun _ _ h => h.elim)).trans hF2)
  clear hK K hF2 hW HA HW
  try simp only [Act.put, List.getElem_toArray, List.getElem_cons_zero, List.getElem_cons_succ, List.setIfInBounds_toArray, List.set_cons_zero, List.set_cons_succ]
  refine wpAnyH_take (i := 4) (v := ?_) rfl (by kernel_rfl) (by kernel_rfl) (by kernel_rfl) (fun _ _ _ h => h) (Or.inl ⟨by rfl, ?_⟩) hHeld ?_
  rotate_left
  · intro w hSw
    go_simp
    with_reducible rfl
  try simp only [Act.put, List.getElem_toArray, List.getElem_cons_zero, List.getElem_cons_succ, List.setIfInBounds_toArray, List.set_cons_zero, List.set_cons_succ]
  refine wpAnyH_done (by kernel_rfl) ?_ _
  have k1 := (cell_blk ((HA2.out.block FB (lt_of_block HB1.out) (fun e => by have e : FB = p := e; have := HP.out; omega)).trans HB1.out) 1).trans rfl
  have X2 := hid ((HA2.out.block X (lt_of_block HB2.out) (fun e => by have e : X = p := e; have := HP.out; omega)).trans HB2.out)
  go_wp2_with fail
  refine (HN.out w2 X X2.out).mono ?_
  rintro e w3 ⟨v, rfl, hN, hF3⟩
  obtain ⟨ts, C, hts, hown, hC, hT, h1⟩ := hN
  have hw2 := HW2.out.at_.ltp
  have hLt : ts.length = L.length := by rw [← hts]; simp
  obtain ⟨e0, ⟨_, e1⟩ | ⟨g, cap, cur, hv, hg, hb, k4, k5, k6, k7⟩⟩ := hown
  · have := HL0.out; omega
  subst hv
  have HOWN := hid (show w3.ownsRow w2.heap.size 87 5 (.slice (some ⟨g, 0, none⟩) L.length cap) L.length (ts.flatMap numL) from ⟨e0, .inr ⟨g, cap, cur, rfl, hg, hb, k4, k5, k6, k7⟩⟩)
  have HW3 := hid (HW2.out.no hF3)
  have HA3 := hid ((HA2.out).then hF3 (fun _ _ h => h.elim))
  have HGP := hid (show p < g from by omega)
  have HTS := hid hts
  have HLT := hid hLt
  have HFS := hid h1
  have HT := hid (show ∀ x ∈ ts, Tells w3 x.2.1 x.1.n (fun k => k ≠ p) from fun x hx => (hT x hx).more (fun k hk => by
    have := HP.out
    rcases hk with h | h
    · have h : k = X := h; omega
    · have := (hC k h).1; omega))
  clear hts hC hT h1 e0 hg hb k4 k5 k6 k7 hw2 hLt hF3 HW2 HA2 k1 X2
  go_wp2_with fail
  go_loopg [18] L.length (fun gk i wr => ∃ k : Nat, k + gk = L.length ∧ i = .int .i64 k ∧ Hid (Wr wr p (3 :: bytesN (L.take k)) 0) ∧ Hid (Fr (fun q => q = p) w3 wr) ∧ Hid (∀ (j : Nat) (hj : j < L.length), j < k → L[j].ok = true))
  case atStart => exact ⟨0, by omega, rfl, HW3.out, Fr.refl _ _, fun j _ hj => absurd hj (by omega)⟩
  case round =>
    obtain ⟨k, hk, rfl, HW, HR, HO⟩ := hrel
    have HAR := hid (HA3.out.then HR.out (fun _ _ h => h))
    cases gk with
    | succ gk =>
      have hkl : k < L.length := by omega
      have hLn : L.length ≤ 1000 := HL0.out.2
      have hkt : k < ts.length := by rw [HLT.out]; exact hkl
      have hown := own_frk HOWN.out HR.out (fun q h e => by have h : g = q := by simpa [Value.ownBlock] using h
                                                            have e : q = p := e
                                                            have := HGP.out
                                                            omega)
      rw [← HLT.out] at hown
      obtain ⟨g', cap', hv', _, hgs, hrg, _⟩ := own_at hown (fun x _ => numL_len x) k hkt
      have hg' : g' = g := by injection hv' with h; injection h with h; injection h with h; exact h.symm
      subst hg'
      obtain ⟨⟨⟨n, sz, lo, hi⟩, ft, fs⟩, ht⟩ : ∃ t, ts[k] = t := ⟨_, rfl⟩
      have hx : L[k] = ⟨n, sz, lo, hi⟩ := by
        have : (ts.map (·.1))[k]? = L[k]? := by rw [HTS.out]
        rw [List.getElem?_map, List.getElem?_eq_getElem hkt, List.getElem?_eq_getElem hkl, ht] at this
        simpa using this.symm
      have hte := ((HT.out ts[k] (List.getElem_mem hkt)).fr HR.out (fun q h e => h e))
      rw [ht] at hrg hte
      have hte : Tells wr ft n (fun k => k ≠ p) := hte
      have hfs : IsF fs := by have := HFS.out ts[k] (List.getElem_mem hkt); rw [ht] at this; exact this
      obtain ⟨gs, ls, rfl⟩ := hfs
      obtain ⟨gf, lb, rfl, hent, hcall⟩ := hte
      have HRG := hid (show wr.rangeAt g' (k * 5) [.int .i64 (sz : Int), .int .i64 lo, .int .i64 hi, .func (.func gf) #[] lb, .func (.func gs) #[] ls] from hrg)
      have HC := hid hcall
      have HX := hid hx
      have HSZ := hid (HL.out L[k] (List.getElem_mem hkl))
      rw [hx] at HSZ
      clear hown hv' hgs hrg ht hcall hx
      go_wp2_with (refine list_val rfl (.agg #[.int .i64 (sz : Int), .int .i64 lo, .int .i64 hi, .func (.func gf) #[] lb, .func (.func gs) #[] ls]) (exec_load_mid 87 (.tmp 20) rfl g' (k * 5) rfl [.int .i64 (sz : Int), .int .i64 lo, .int .i64 hi, .func (.func gf) #[] lb, .func (.func gs) #[] ls] _ HRG.out Tryd.underlying87 rfl num_size) ?_)
      clear hte
      refine (HC.out No _ ((Fr.refl No wr).alloc _) (fun _ _ => id)).mono ?_
      have HA5 := hid (HAR.out.alloc (.cells #[.int .i64 (sz : Int), .int .i64 lo, .int .i64 hi, .func (.func gf) #[] lb, .func (.func gs) #[] ls] 87))
      have HW5 := hid (HW.out.no ((Fr.refl No wr).alloc (.cells #[.int .i64 (sz : Int), .int .i64 lo, .int .i64 hi, .func (.func gf) #[] lb, .func (.func gs) #[] ls] 87)))
      have HR5 := hid (HR.out.alloc (.cells #[.int .i64 (sz : Int), .int .i64 lo, .int .i64 hi, .func (.func gf) #[] lb, .func (.func gs) #[] ls] 87))
      have HN5 := hid (heap_new wr (.cells #[.int .i64 (sz : Int), .int .i64 lo, .int .i64 hi, .func (.func gf) #[] lb, .func (.func gs) #[] ls] 87))
      obtain ⟨w5, hw5⟩ : ∃ W, wr.alloc (.cells #[.int .i64 (sz : Int), .int .i64 lo, .int .i64 hi, .func (.func gf) #[] lb, .func (.func gs) #[] ls] 87) = W := ⟨_, rfl⟩
      obtain ⟨NB, hNB⟩ : ∃ b, wr.heap.size = b := ⟨_, rfl⟩
      have HNP := hid (show p < NB from by rw [← hNB]; exact HW.out.at_.ltp)
      rw [hw5] at HA5 HW5 HR5 HN5 ⊢
      rw [hNB] at HN5 ⊢
      clear hw5 hNB
      rintro e w5 ⟨rfl, rfl⟩
      have n0 := (cell_blk HN5.out 0).trans rfl
      have n1 := (cell_blk HN5.out 1).trans rfl
      have n2 := (cell_blk HN5.out 2).trans rfl
      by_cases hlo : n < lo
      · have HPN : Hid (putN 3 L fits = (zeros, 10)) := by
          unfold Hid putN; rw [okAll_at k hkl (by rw [HX.out]; simp [NumI.ok]; omega)]; rfl
        have HBR := hid (show w5.heap[RB]? = some (.cells (blkA zeros) 27 (0, 0)) from ((HA5.out).block RB (lt_of_block HB3.out) (fun e => by have e : RB = p := e; have := HP.out; omega)).trans HB3.out)
        go_wp2_with (refine wpList_store_row rfl 27 _ _ rfl RB (blkA zeros) rfl rfl 27 (blkA zeros) HBR.out HIZ.out rfl H1Z.out ?_)
        refine bodyPost_ret (v := .tuple #[.agg (blkA zeros), .int .i64 10]) (results_block2 (fn := Tryd.f23) (p := 4) (u := 5) rfl _ _ _ RB 27 (blkA zeros) (0, 0) _ _ rfl (setRow_heap _ _ _ _ _ _ HBR.out) Tryd.underlying27 HIZ.out) rfl ⟨by rw [HPN.out]; rfl, (HF.out.then HA5.out (fun i hi e => by have e : i = p := e; have := HP.out; omega)).setRow _ _ (fun h => absurd h (by have := HZF.out; omega))⟩
      · by_cases hhi : hi < n
        · have HPN : Hid (putN 3 L fits = (zeros, 10)) := by
            unfold Hid putN; rw [okAll_at k hkl (by rw [HX.out]; simp [NumI.ok]; omega)]; rfl
          have HBR := hid (show w5.heap[RB]? = some (.cells (blkA zeros) 27 (0, 0)) from ((HA5.out).block RB (lt_of_block HB3.out) (fun e => by have e : RB = p := e; have := HP.out; omega)).trans HB3.out)
          go_wp2_with (refine wpList_store_row rfl 27 _ _ rfl RB (blkA zeros) rfl rfl 27 (blkA zeros) HBR.out HIZ.out rfl H1Z.out ?_)
          refine bodyPost_ret (v := .tuple #[.agg (blkA zeros), .int .i64 10]) (results_block2 (fn := Tryd.f23) (p := 4) (u := 5) rfl _ _ _ RB 27 (blkA zeros) (0, 0) _ _ rfl (setRow_heap _ _ _ _ _ _ HBR.out) Tryd.underlying27 HIZ.out) rfl ⟨by rw [HPN.out]; rfl, (HF.out.then HA5.out (fun i hi e => by have e : i = p := e; have := HP.out; omega)).setRow _ _ (fun h => absurd h (by have := HZF.out; omega))⟩
        · have hsz := HSZ.out
          obtain ⟨n, rfl⟩ := Int.eq_ofNat_of_zero_le (show 0 ≤ n by have := hsz.2.2.1; have : 0 ≤ lo := this; omega)
          have hfit : n < 256 ^ sz := by
            have h1 := hsz.2.2.2
            have h1 : hi < 256 ^ sz := h1
            have h2 : ((256 ^ sz : Nat) : Int) = (256 : Int) ^ sz := by simp
            omega
          have HTK := hid (bytesN_take L k hkl)
          rw [HX.out] at HTK
          have hle := bytesN_take_le L (k + 1)
          have HPF : Hid (putF (3 :: bytesN (L.take k)) 0 (n : Int) (sz : Int) = (3 :: bytesN (L.take (k + 1)), 0)) := by
            have hl2 := HLN.out
            rw [HTK.out, List.length_append, digs_len] at hle
            show putF _ _ _ _ = _
            rw [putF_ok _ n sz hsz.1 hsz.2.1 (by have hle : (bytesN (L.take k)).length + sz ≤ (bytesN L).length := hle; simp only [List.length_cons]; omega), if_pos hfit, HTK.out]
            simp
          have HOK : Hid (L[k].ok = true) := by show L[k].ok = true; rw [HX.out]; simp [NumI.ok]; omega
          clear hsz hfit hle
          go_wp2_with (go_at_call 28; refine (fd_Put _ p 0 _ (n : Int) (sz : Int) HW5.out).mono ?_; rintro e w6 ⟨rfl, hW, hF6⟩; rw [HPF.out] at hW; have HW6 := hid hW; have HR6 := hid (HR5.out.trans hF6); clear hW hF6)
          go_roundg gk
          case measure => omega
          case rel => exact ⟨k + 1, by omega, by have := HL0.out; go_num, HW6, HR6, fun j hj hjk => (Nat.lt_succ_iff_lt_or_eq.1 hjk).elim (fun h => HO.out j hj h) (fun h => by subst h; exact HOK.out)⟩
    | zero =>
      obtain rfl : k = L.length := by omega
      have HOA := hid (okAll_of (fun j hj => HO.out j hj hj))
      have HW : Hid (Wr wr p (3 :: bytesN L) 0) := by have := HW.out; rw [List.take_length] at this; exact this
      have k2 := (cell_blk ((HAR.out.block FB (lt_of_block HB1.out) (fun e => by have e : FB = p := e; have := HP.out; omega)).trans HB1.out) 2).trans rfl
      have X3 := hid ((HAR.out.block X (lt_of_block HB2.out) (fun e => by have e : X = p := e; have := HP.out; omega)).trans HB2.out)
      go_wp2_with (refine list_val rfl (.agg CS) (exec_load_whole 42 (.tmp 3) rfl X rfl 42 CS (0, 0) _ X3.out Tryd.underlying42 rfl HCS.out) ?_)
      refine (HFF.out HOA.out wr).mono ?_
      rintro e w5 ⟨rfl, hF5⟩
      have HA5 := hid (HAR.out.then hF5 (fun _ _ h => h.elim))
      have HW5 := hid (HW.out.no hF5)
      clear hF5 k2
      cases fits with
      | false =>
        have HPN : Hid (putN 3 L false = (zeros, 10)) := by unfold Hid putN; rw [Bool.and_false]; rfl
        have HBR := hid (show w5.heap[RB]? = some (.cells (blkA zeros) 27 (0, 0)) from ((HA5.out).block RB (lt_of_block HB3.out) (fun e => by have e : RB = p := e; have := HP.out; omega)).trans HB3.out)
        go_wp2_with (refine wpList_store_row rfl 27 _ _ rfl RB (blkA zeros) rfl rfl 27 (blkA zeros) HBR.out HIZ.out rfl H1Z.out ?_)
        refine bodyPost_ret (v := .tuple #[.agg (blkA zeros), .int .i64 10]) (results_block2 (fn := Tryd.f23) (p := 4) (u := 5) rfl _ _ _ RB 27 (blkA zeros) (0, 0) _ _ rfl (setRow_heap _ _ _ _ _ _ HBR.out) Tryd.underlying27 HIZ.out) rfl ⟨by rw [HPN.out]; rfl, (HF.out.then HA5.out (fun i hi e => by have e : i = p := e; have := HP.out; omega)).setRow _ _ (fun h => absurd h (by have := HZF.out; omega))⟩
      | true =>
        have HPN : Hid (putN 3 L true = (sealB (pad (3 :: bytesN L)), 0)) := by unfold Hid putN; rw [HOA.out]; rfl
        have HF5 := hid (HF.out.then HA5.out (fun i hi e => by have e : i = p := e; have := HP.out; omega))
        have HLD5 := hid (HLD.out.no HF5.out)
        go_wp2_with fail
        refine (fd_Seal w5 p 0 _ HW5.out HLD5.out).mono ?_
        rw [show sealF (3 :: bytesN L) 0 = (sealB (pad (3 :: bytesN L)), 0) from rfl]
        rintro e w6 ⟨rfl, hF6⟩
        have HA6 := hid (HA5.out.then hF6 (fun _ _ h => h.elim))
        clear hF6
        have HSL := hid (sealB_len (pad (3 :: bytesN L)) (pad_len _ (by have := HLN.out; simp only [List.length_cons]; omega)))
        obtain ⟨SB, hSB⟩ : ∃ b, sealB (pad (3 :: bytesN L)) = b := ⟨_, rfl⟩
        rw [hSB] at HSL HPN ⊢
        clear hSB
        have HIS := hid (info64b SB HSL.out)
        have H1S := hid (blkA_one SB)
        have HSZ2 := hid (show (blkA zeros).size = (blkA SB).size from by rw [blkA_size, blkA_size, HSL.out]; rfl)
        have HBR := hid (show w6.heap[RB]? = some (.cells (blkA zeros) 27 (0, 0)) from ((HA6.out).block RB (lt_of_block HB3.out) (fun e => by have e : RB = p := e; have := HP.out; omega)).trans HB3.out)
        go_wp2_with (refine wpList_store_row rfl 27 _ _ rfl RB (blkA SB) rfl rfl 27 (blkA zeros) HBR.out HIS.out HSZ2.out H1S.out ?_)
        refine bodyPost_ret (v := .tuple #[.agg (blkA SB), .int .i64 0]) (results_block2 (fn := Tryd.f23) (p := 4) (u := 5) rfl _ _ _ RB 27 (blkA SB) (0, 0) _ _ rfl (setRow_heap _ _ _ _ _ _ HBR.out) Tryd.underlying27 HIS.out) rfl ⟨by rw [HPN.out]; rfl, (HF.out.then HA6.out (fun i hi e => by have e : i = p := e; have := HP.out; omega)).setRow _ _ (fun h => absurd h (by have := HZF.out; omega))⟩
end Go.Proofs.YtpifiamafgaadaaDoor
