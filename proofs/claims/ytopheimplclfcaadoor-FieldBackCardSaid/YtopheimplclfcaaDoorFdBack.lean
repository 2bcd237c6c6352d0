/- The law FieldBack. -/
import Derived.Test.YtopheimplclfcaaDoorFdBackM
import Derived.Test.YtopheimplclfcaaDoorFdArgs
import Derived.StillTailTactics
import Derived.Deep.DeepCutAuto
namespace Go.Proofs.YtopheimplclfcaaDoor
open Go.RowKit

structure Th (W : World) (q0 : Nat) (A : Array Value) (bs : List Nat) (ay : Option Addr) (ny cy : Nat) : Prop where
  blk : W.heap[q0]? = some (.cells A 43 (0, 0))
  is : A = (bs.map byte ++ [Value.slice ay ny cy]).toArray
  len : bs.length = 64
theorem Th.fr {S : Nat → Prop} {W W' : World} {q0 : Nat} {A : Array Value} {bs : List Nat} {ay : Option Addr} {ny cy : Nat} (h : Th W q0 A bs ay ny cy) (f : Fr S W W') (hq : ¬ S q0) : Th W' q0 A bs ay ny cy := ⟨(f.block q0 (lt_of_block h.blk) hq).trans h.blk, h.is, h.len⟩
theorem Th.cell {W : World} {q0 : Nat} {A : Array Value} {bs : List Nat} {ay : Option Addr} {ny cy : Nat} (h : Th W q0 A bs ay ny cy) : W.cell? ⟨q0, 64, none⟩ = some (.slice ay ny cy) := by
  have hl := h.len
  rw [cell_blk h.blk, h.is]; simp [List.getElem?_append_right, hl]
theorem Th.range {W : World} {q0 : Nat} {A : Array Value} {bs : List Nat} {ay : Option Addr} {ny cy : Nat} (h : Th W q0 A bs ay ny cy) : W.rangeAt q0 0 (bs.map byte) := fun j v hv => by
  rw [cell_blk h.blk, h.is]
  have hj : j < (bs.map byte).length := (List.getElem?_eq_some_iff.1 hv).1
  simp only [List.getElem?_toArray, Nat.zero_add]
  rw [List.getElem?_append_left hj, hv]

set_option maxRecDepth 100000 in
set_option maxHeartbeats 4000000 in
theorem back_in (w : World) (a : Option Addr) (cap : Nat) (xs : List (Int × Int)) (hx : xs.length ≤ 30) (hP : Pairs w a xs) (A : Array Value) (bs : List Nat) (ay : Option Addr) (ys : List Int) (cy : Nat) (hy : ys.length ≤ 30) (hR : Row w ay (ys.map (.int .i64)))
    (hA : A = (bs.map byte ++ [Value.slice ay ys.length cy]).toArray) (hl : bs.length = 64) (hlt : ∀ x ∈ bs, x < 256) (hL : Laid w) :
    Calls Tryd.prog 5 #[.slice a xs.length cap, .agg A] w fun e w' => e = .returned (.bool true) ∧ Fr No w w' := by
  have HL := hid hL
  have HP := hid hP
  have HR := hid hR
  have HLT := hid hlt
  have HT0 : Hid (Th (w.alloc (.cells A 43)) w.heap.size A bs ay ys.length cy) := ⟨heap_new w _, hA, hl⟩
  have HF0 := hid ((Fr.refl No w).alloc (.cells A 43))
  clear hL hP hR hA hl hlt
  go_enter Tryd.func5, Tryd.ntmps5
  go_wp2_with fail
  obtain ⟨w0, hw0⟩ : ∃ w0, w.alloc (.cells A 43) = w0 := ⟨_, rfl⟩
  rw [hw0] at HT0 HF0 ⊢
  obtain ⟨q0, hq0⟩ : ∃ q0, w.heap.size = q0 := ⟨_, rfl⟩
  rw [hq0] at HT0 ⊢
  clear hw0
  refine (fd_Write' w0).mono ?_; rintro e w1 ⟨rfl, hW1, hF1⟩
  have hqp : q0 < w0.heap.size := lt_of_block HT0.out.blk
  have HT1 := hid (HT0.out.fr hF1 id)
  have HF1 := hid (HF0.out.trans hF1)
  have HW1 := hid hW1
  obtain ⟨p, hp⟩ : ∃ p, w0.heap.size = p := ⟨_, rfl⟩
  rw [hp] at HW1 hqp ⊢
  clear hF1 hW1 hp HT0 HF0
  have hc := HT1.out.cell
  go_wp2_with fail
  clear hc
  go_loopg [6] xs.length (fun g i wr => ∃ k : Nat, k + g = xs.length ∧ i = .int .i64 k ∧ Hid (Wr wr p (puts (xs.take k)).1 (puts (xs.take k)).2) ∧ Hid (Th wr q0 A bs ay ys.length cy) ∧ Hid (Fr No w wr))
  case atStart => exact ⟨0, by omega, rfl, HW1, HT1, HF1⟩
  case round =>
    obtain ⟨k, hk, rfl, HWk, HTk, HFk⟩ := hrel
    clear HW1 HT1 HF1
    cases gk with
    | succ g =>
      have hkx : k < xs.length := by omega
      have HPS : Hid (puts (xs.take (k + 1)) = putF (puts (xs.take k)).1 (puts (xs.take k)).2 xs[k].1 xs[k].2) := by unfold Hid; rw [List.take_succ_eq_append_getElem hkx, puts_snoc]
      obtain ⟨b, o, rfl, c0, c1⟩ := (HP.out.no HFk.out).pair k hkx
      generalize xs[k] = x at *
      generalize puts (xs.take k) = r at *
      go_wp2_with fail
      go_still_tail 11, (by kernel_rfl)
      change wpList _ _ _ _ _ wr.drew
      have HF := hid HFk.out.drew
      have HT := hid (HTk.out.fr (Fr.refl No wr).drew id)
      have HW := hid (HWk.out.no (Fr.refl No wr).drew)
      clear HFk HTk HWk c0 c1
      obtain ⟨wd, hwd⟩ : ∃ wd, wr.drew = wd := ⟨_, rfl⟩
      rw [hwd] at HF HT HW ⊢
      clear hwd
      go_wp2_with fail
      refine (fd_Put wd p r.2 r.1 x.1 x.2 HW.out).mono ?_; rintro e w3 ⟨rfl, hW3, hF3⟩
      have HF3 := hid (HF.out.then hF3 (fun i hi e => by omega))
      have HT3 := hid (HT.out.fr hF3 (by omega))
      rw [← HPS.out] at hW3
      have HW3 := hid hW3
      clear hF3 hW3 HF HT HW
      go_wp2_with fail
      go_roundg g
      case measure => omega
      case rel => exact ⟨k + 1, by omega, by go_num, HW3, HT3, HF3⟩
    | zero =>
      obtain rfl : k = xs.length := by omega
      rw [List.take_length] at HWk
      go_wp2_with fail
      refine (fd_Seal wr p _ _ HWk.out (laid_no HL.out HFk.out)).mono ?_; rintro e w4 ⟨rfl, hF4⟩
      have HF4 := hid (HFk.out.trans hF4)
      have HT4 := hid (HTk.out.fr hF4 id)
      have HB := hid (⟨sealF_len _ _ HWk.out.len, sealF_lt _ (puts xs).2 HWk.out.lt⟩ : (sealF (puts xs).1 (puts xs).2).1.length = 64 ∧ ∀ x ∈ (sealF (puts xs).1 (puts xs).2).1, x < 256)
      obtain ⟨s1, hs1⟩ : ∃ s1, sealF (puts xs).1 (puts xs).2 = s1 := ⟨_, rfl⟩
      rw [hs1] at HB ⊢
      have HS1 := hid hs1
      obtain ⟨B, e1⟩ := s1
      replace HB : Hid (B.length = 64 ∧ ∀ x ∈ B, x < 256) := HB
      have HQ := hid (put_blk w4 (#[.int .u8 0, .int .u8 0, .int .u8 0, .int .u8 0, .int .u8 0, .int .u8 0, .int .u8 0, .int .u8 0, .int .u8 0, .int .u8 0, .int .u8 0, .int .u8 0, .int .u8 0, .int .u8 0, .int .u8 0, .int .u8 0, .int .u8 0, .int .u8 0, .int .u8 0, .int .u8 0, .int .u8 0, .int .u8 0, .int .u8 0, .int .u8 0, .int .u8 0, .int .u8 0, .int .u8 0, .int .u8 0, .int .u8 0, .int .u8 0, .int .u8 0, .int .u8 0, .int .u8 0, .int .u8 0, .int .u8 0, .int .u8 0, .int .u8 0, .int .u8 0, .int .u8 0, .int .u8 0, .int .u8 0, .int .u8 0, .int .u8 0, .int .u8 0, .int .u8 0, .int .u8 0, .int .u8 0, .int .u8 0, .int .u8 0, .int .u8 0, .int .u8 0, .int .u8 0, .int .u8 0, .int .u8 0, .int .u8 0, .int .u8 0, .int .u8 0, .int .u8 0, .int .u8 0, .int .u8 0, .int .u8 0, .int .u8 0, .int .u8 0, .int .u8 0] : Array Value) B).1
      have HF5 := hid (HF4.out.trans (put_blk w4 (#[.int .u8 0, .int .u8 0, .int .u8 0, .int .u8 0, .int .u8 0, .int .u8 0, .int .u8 0, .int .u8 0, .int .u8 0, .int .u8 0, .int .u8 0, .int .u8 0, .int .u8 0, .int .u8 0, .int .u8 0, .int .u8 0, .int .u8 0, .int .u8 0, .int .u8 0, .int .u8 0, .int .u8 0, .int .u8 0, .int .u8 0, .int .u8 0, .int .u8 0, .int .u8 0, .int .u8 0, .int .u8 0, .int .u8 0, .int .u8 0, .int .u8 0, .int .u8 0, .int .u8 0, .int .u8 0, .int .u8 0, .int .u8 0, .int .u8 0, .int .u8 0, .int .u8 0, .int .u8 0, .int .u8 0, .int .u8 0, .int .u8 0, .int .u8 0, .int .u8 0, .int .u8 0, .int .u8 0, .int .u8 0, .int .u8 0, .int .u8 0, .int .u8 0, .int .u8 0, .int .u8 0, .int .u8 0, .int .u8 0, .int .u8 0, .int .u8 0, .int .u8 0, .int .u8 0, .int .u8 0, .int .u8 0, .int .u8 0, .int .u8 0, .int .u8 0] : Array Value) B).2)
      have HT5 := hid (HT4.out.fr (put_blk w4 (#[.int .u8 0, .int .u8 0, .int .u8 0, .int .u8 0, .int .u8 0, .int .u8 0, .int .u8 0, .int .u8 0, .int .u8 0, .int .u8 0, .int .u8 0, .int .u8 0, .int .u8 0, .int .u8 0, .int .u8 0, .int .u8 0, .int .u8 0, .int .u8 0, .int .u8 0, .int .u8 0, .int .u8 0, .int .u8 0, .int .u8 0, .int .u8 0, .int .u8 0, .int .u8 0, .int .u8 0, .int .u8 0, .int .u8 0, .int .u8 0, .int .u8 0, .int .u8 0, .int .u8 0, .int .u8 0, .int .u8 0, .int .u8 0, .int .u8 0, .int .u8 0, .int .u8 0, .int .u8 0, .int .u8 0, .int .u8 0, .int .u8 0, .int .u8 0, .int .u8 0, .int .u8 0, .int .u8 0, .int .u8 0, .int .u8 0, .int .u8 0, .int .u8 0, .int .u8 0, .int .u8 0, .int .u8 0, .int .u8 0, .int .u8 0, .int .u8 0, .int .u8 0, .int .u8 0, .int .u8 0, .int .u8 0, .int .u8 0, .int .u8 0, .int .u8 0] : Array Value) B).2 id)
      have HI := hid (info64b B HB.out.1)
      have H1 := hid (blkA_one B)
      have HZ : Hid (((#[.int .u8 0, .int .u8 0, .int .u8 0, .int .u8 0, .int .u8 0, .int .u8 0, .int .u8 0, .int .u8 0, .int .u8 0, .int .u8 0, .int .u8 0, .int .u8 0, .int .u8 0, .int .u8 0, .int .u8 0, .int .u8 0, .int .u8 0, .int .u8 0, .int .u8 0, .int .u8 0, .int .u8 0, .int .u8 0, .int .u8 0, .int .u8 0, .int .u8 0, .int .u8 0, .int .u8 0, .int .u8 0, .int .u8 0, .int .u8 0, .int .u8 0, .int .u8 0, .int .u8 0, .int .u8 0, .int .u8 0, .int .u8 0, .int .u8 0, .int .u8 0, .int .u8 0, .int .u8 0, .int .u8 0, .int .u8 0, .int .u8 0, .int .u8 0, .int .u8 0, .int .u8 0, .int .u8 0, .int .u8 0, .int .u8 0, .int .u8 0, .int .u8 0, .int .u8 0, .int .u8 0, .int .u8 0, .int .u8 0, .int .u8 0, .int .u8 0, .int .u8 0, .int .u8 0, .int .u8 0, .int .u8 0, .int .u8 0, .int .u8 0, .int .u8 0] : Array Value)).size = (blkA B).size) := ((blkA_size B).trans HB.out.1).symm
      clear hF4 HFk HTk HWk HF4 HT4 hs1
      go_upto_if 59 with (refine wpList_store_row rfl 33 _ _ rfl w4.heap.size (blkA B) rfl rfl 33 _ (heap_new w4 _) HI.out HZ.out H1.out ?_)
      obtain ⟨w5, hw5⟩ : ∃ w5, (w4.alloc (.cells (#[.int .u8 0, .int .u8 0, .int .u8 0, .int .u8 0, .int .u8 0, .int .u8 0, .int .u8 0, .int .u8 0, .int .u8 0, .int .u8 0, .int .u8 0, .int .u8 0, .int .u8 0, .int .u8 0, .int .u8 0, .int .u8 0, .int .u8 0, .int .u8 0, .int .u8 0, .int .u8 0, .int .u8 0, .int .u8 0, .int .u8 0, .int .u8 0, .int .u8 0, .int .u8 0, .int .u8 0, .int .u8 0, .int .u8 0, .int .u8 0, .int .u8 0, .int .u8 0, .int .u8 0, .int .u8 0, .int .u8 0, .int .u8 0, .int .u8 0, .int .u8 0, .int .u8 0, .int .u8 0, .int .u8 0, .int .u8 0, .int .u8 0, .int .u8 0, .int .u8 0, .int .u8 0, .int .u8 0, .int .u8 0, .int .u8 0, .int .u8 0, .int .u8 0, .int .u8 0, .int .u8 0, .int .u8 0, .int .u8 0, .int .u8 0, .int .u8 0, .int .u8 0, .int .u8 0, .int .u8 0, .int .u8 0, .int .u8 0, .int .u8 0, .int .u8 0] : Array Value) 33)).setRow w4.heap.size (blkA B) = w5 := ⟨_, rfl⟩
      rw [hw5] at HQ HF5 HT5 ⊢
      clear hw5
      obtain ⟨x, hx⟩ : ∃ x, w4.heap.size = x := ⟨_, rfl⟩
      rw [hx] at HQ ⊢
      clear hx
      go_cut [9, 10] (fun s9 s10 wx => Hid (Th wx q0 A bs ay ys.length cy) ∧ Hid (Fr No w wx))
      case first =>
        by_cases he : e1 = 0
        · have hbe : (((e1 : Nat) : Int) == 0) = true := by simp; exact he
          have hz2 : (puts xs).2 = 0 := by
            have h2 := HS1.out
            unfold sealF at h2
            by_cases h0 : (puts xs).2 = 0
            · exact h0
            · rw [if_neg h0] at h2; exact absurd (congrArg Prod.snd h2) (by show (puts xs).2 ≠ e1; omega)
          obtain ⟨hgd, hcc, hlc⟩ := puts_ok xs.length xs rfl hz2
          have hB : B = sealB (pad (conc xs)) := by
            have h2 := HS1.out
            unfold sealF at h2
            rw [if_pos hz2, hcc] at h2
            exact (congrArg Prod.fst h2).symm
          have HTB := hid (fun k hk => hB ▸ take_back xs hgd hlc k hk : ∀ (k : Nat) (hk : k < xs.length), takeF B (conc (xs.take k)).length 0 xs[k].2 = (xs[k].1.toNat, (conc (xs.take (k + 1))).length, 0))
          have HEB := hid (hB ▸ end_back (conc xs) hlc : endF B (conc xs).length 0 = 0)
          have HSB := hid (hB ▸ sealB_idem _ (pad_len _ (by omega)) : sealB B = B)
          have HGD := hid hgd
          clear hgd hcc hlc hB hz2 he
          go_wp2_with (refine wpList_load_row rfl 33 _ rfl x rfl 33 (blkA B) (0, 0) _ HQ.out Tryd.underlying33 rfl HI.out ?_)
          refine (fd_Read w5 B HB.out.1 HB.out.2).mono ?_; rintro e w6 ⟨rfl, hR6, hF6⟩
          have HF6 := hid (HF5.out.trans hF6)
          have HT6 := hid (HT5.out.fr hF6 id)
          have HQ6 := hid ((hF6.block x (lt_of_block HQ.out) id).trans HQ.out)
          have hwr : w.heap.size ≤ w5.heap.size := HF5.out.size
          have hq5 : q0 < w5.heap.size := lt_of_block HT5.out.blk
          have HR6 := hid hR6
          obtain ⟨pr, hpr⟩ : ∃ pr, w5.heap.size + 1 = pr := ⟨_, rfl⟩
          rw [hpr] at HR6 ⊢
          have hprw : w.heap.size < pr := by omega
          have hqr : q0 < pr := by omega
          clear hF6 hR6 HF5 HT5 HQ hpr
          go_wp2_with (refine wpList_load_row_w (by rfl) 33 _ rfl x rfl 33 (blkA B) (0, 0) _ _ HQ6.out Tryd.underlying33 HI.out ?_)
          refine (fd_Sealed w6 B HB.out.1 HB.out.2 (laid_no HL.out HF6.out)).mono ?_; rintro e w7 ⟨rfl, hF7⟩
          rw [HSB.out, beq_self_eq_true]
          rw [show sumE true = 0 from rfl]
          have HF7 := hid (HF6.out.trans hF7)
          have HT7 := hid (HT6.out.fr hF7 id)
          have HR7 := hid (HR6.out.fr hF7 id)
          clear hF7 HF6 HT6 HQ6 HR6
          go_wp2_with fail
          go_loopg [10] xs.length (fun g i wr => ∃ k : Nat, k + g = xs.length ∧ i = .int .i64 k ∧ Hid (RdAt wr pr B (conc (xs.take k)).length 0) ∧ Hid (Th wr q0 A bs ay ys.length cy) ∧ Hid (Fr No w wr))
          case atStart => exact ⟨0, by omega, rfl, HR7, HT7, HF7⟩
          case round =>
            obtain ⟨k, hk, rfl, HRk, HTk, HFk⟩ := hrel
            clear HR7 HT7 HF7
            cases gk with
            | zero =>
              obtain rfl : k = xs.length := by omega
              rw [List.take_length] at HRk
              go_wp2_with fail
              refine (fd_End wr pr _ _ _ HRk.out).mono ?_; rintro e w8 ⟨rfl, hF8⟩
              rw [HEB.out]
              have HF8 := hid (HFk.out.trans hF8)
              have HT8 := hid (HTk.out.fr hF8 id)
              clear hF8 HFk HTk HRk
              go_wp2_with fail
              go_meet
              exact ⟨HT8, HF8⟩
            | succ g =>
              have hkx : k < xs.length := by omega
              have HTk1 := hid (HTB.out k hkx)
              have hgk := HGD.out xs[k] (List.getElem_mem hkx)
              obtain ⟨b, o, rfl, c0, c1⟩ := (HP.out.no HFk.out).pair k hkx
              have hbw : b < w.heap.size := by
                have := (HP.out).pair k hkx
                obtain ⟨b2, o2, h2, c2, _⟩ := this
                injection h2 with h2; injection h2 with h2 _ _
                subst h2
                exact lt_of_cell c2
              obtain ⟨y, hy⟩ : ∃ y, xs[k] = y := ⟨_, rfl⟩
              rw [hy] at c0 c1 HTk1 hgk
              clear hy
              obtain ⟨n, s⟩ := y
              obtain ⟨n, rfl⟩ := Int.eq_ofNat_of_zero_le hgk.2.2.1
              go_wp2_with fail
              have hs0 : wr.drew.cell? ⟨b, o + k * 2, none⟩ = some (.int .i64 ((n : Nat) : Int)) ∧ wr.drew.cell? ⟨b, o + k * 2 + 1, none⟩ = some (.int .i64 s) := ⟨c0, c1⟩
              have HRd := hid (HRk.out.fr (Fr.refl No wr).drew id)
              have HTd := hid (HTk.out.fr (Fr.refl No wr).drew id)
              have HFd := hid HFk.out.drew
              have hk0 : (0 : Int) ≤ (k : Int) := by omega
              have hk1 : (k : Int) < (xs.length : Int) := by omega
              refine wp_region_held_drew (S := fun w' => w'.cell? ⟨b, o + k * 2, none⟩ = some (.int .i64 ((n : Nat) : Int)) ∧ w'.cell? ⟨b, o + k * 2 + 1, none⟩ = some (.int .i64 s)) (by kernel_rfl) hs0 (fun hHeld => ?_)
              clear c0 c1 HRk HTk HFk hs0
              refine wpAnyH_take (i := 0) (v := ?_) rfl (by kernel_rfl) (by kernel_rfl) (by kernel_rfl) (fun _ _ _ h => h) (Or.inl ⟨by rfl, ?_⟩) hHeld ?_
              rotate_left
              · intro w hSw; obtain ⟨hA1, hA2⟩ := hSw
                go_simp
                with_reducible rfl
              try simp only [Act.put, List.getElem_toArray, List.getElem_cons_zero, List.getElem_cons_succ, List.setIfInBounds_toArray, List.set_cons_zero, List.set_cons_succ]
              refine wpAnyH_take (i := 1) (v := ?_) rfl (by kernel_rfl) (by kernel_rfl) (by kernel_rfl) (fun _ _ _ h => h) (Or.inl ⟨by rfl, ?_⟩) hHeld ?_
              rotate_left
              · intro w hSw; obtain ⟨hA1, hA2⟩ := hSw
                go_simp
                with_reducible rfl
              try simp only [Act.put, List.getElem_toArray, List.getElem_cons_zero, List.getElem_cons_succ, List.setIfInBounds_toArray, List.set_cons_zero, List.set_cons_succ]
              refine wpAnyH_take (i := 2) (v := ?_) rfl (by kernel_rfl) (by kernel_rfl) (by kernel_rfl) (fun _ _ _ h => h) (Or.inl ⟨by rfl, ?_⟩) hHeld ?_
              rotate_left
              · intro w hSw; obtain ⟨hA1, hA2⟩ := hSw
                go_simp
                with_reducible rfl
              try simp only [Act.put, List.getElem_toArray, List.getElem_cons_zero, List.getElem_cons_succ, List.setIfInBounds_toArray, List.set_cons_zero, List.set_cons_succ]
              refine wpAnyH_take (i := 3) (v := ?_) rfl (by kernel_rfl) (by kernel_rfl) (by kernel_rfl) (fun _ _ _ h => h) (Or.inl ⟨by rfl, ?_⟩) hHeld ?_
              rotate_left
              · intro w hSw; obtain ⟨hA1, hA2⟩ := hSw
                go_simp
                with_reducible rfl
              try simp only [Act.put, List.getElem_toArray, List.getElem_cons_zero, List.getElem_cons_succ, List.setIfInBounds_toArray, List.set_cons_zero, List.set_cons_succ]
              refine wpAnyH_take (i := 4) (v := ?_) rfl (by kernel_rfl) (by kernel_rfl) (by kernel_rfl) (fun _ _ _ h => h) (Or.inl ⟨by rfl, ?_⟩) hHeld ?_
              rotate_left
              · intro w hSw; obtain ⟨hA1, hA2⟩ := hSw
                go_simp
                with_reducible rfl
              try simp only [Act.put, List.getElem_toArray, List.getElem_cons_zero, List.getElem_cons_succ, List.setIfInBounds_toArray, List.set_cons_zero, List.set_cons_succ]
              refine wpAnyH_take (i := 5) (v := ?_) rfl (by kernel_rfl) (by kernel_rfl) (by kernel_rfl) (fun _ _ _ h => h) (Or.inl ⟨by rfl, ?_⟩) hHeld ?_
              rotate_left
              · intro w hSw; obtain ⟨hA1, hA2⟩ := hSw
                go_simp
                with_reducible rfl
              try simp only [Act.put, List.getElem_toArray, List.getElem_cons_zero, List.getElem_cons_succ, List.setIfInBounds_toArray, List.set_cons_zero, List.set_cons_succ]
              refine wpAnyH_take (i := 7) (v := ?_) rfl (by kernel_rfl) (by kernel_rfl) (by kernel_rfl) (fun _ _ _ h => h) (Or.inl ⟨by rfl, ?_⟩) hHeld ?_
              rotate_left
              · intro w hSw; obtain ⟨hA1, hA2⟩ := hSw
                go_simp
                with_reducible rfl
              try simp only [Act.put, List.getElem_toArray, List.getElem_cons_zero, List.getElem_cons_succ, List.setIfInBounds_toArray, List.set_cons_zero, List.set_cons_succ]
              refine wpAnyH_take (i := 8) (v := ?_) rfl (by kernel_rfl) (by kernel_rfl) (by kernel_rfl) (fun _ _ _ h => h) (Or.inl ⟨by rfl, ?_⟩) hHeld ?_
              rotate_left
              · intro w hSw; obtain ⟨hA1, hA2⟩ := hSw
                go_simp
                with_reducible rfl
              try simp only [Act.put, List.getElem_toArray, List.getElem_cons_zero, List.getElem_cons_succ, List.setIfInBounds_toArray, List.set_cons_zero, List.set_cons_succ]
              refine wpAnyH_take (i := 9) (v := ?_) rfl (by kernel_rfl) (by kernel_rfl) (by kernel_rfl) (fun _ _ _ h => h) (Or.inl ⟨by rfl, ?_⟩) hHeld ?_
              rotate_left
              · intro w hSw; obtain ⟨hA1, hA2⟩ := hSw
                go_simp
                with_reducible rfl
              try simp only [Act.put, List.getElem_toArray, List.getElem_cons_zero, List.getElem_cons_succ, List.setIfInBounds_toArray, List.set_cons_zero, List.set_cons_succ]
              refine wpAnyH_take (i := 10) (v := ?_) rfl (by kernel_rfl) (by kernel_rfl) (by kernel_rfl) (fun _ _ _ h => h) (Or.inl ⟨by rfl, ?_⟩) hHeld ?_
              rotate_left
              · intro w hSw; obtain ⟨hA1, hA2⟩ := hSw
                go_simp
                with_reducible rfl
              try simp only [Act.put, List.getElem_toArray, List.getElem_cons_zero, List.getElem_cons_succ, List.setIfInBounds_toArray, List.set_cons_zero, List.set_cons_succ]
              refine wpAnyH_take (i := 11) (v := ?_) rfl (by kernel_rfl) (by kernel_rfl) (by kernel_rfl) (fun _ _ _ h => h) (Or.inl ⟨by rfl, ?_⟩) hHeld ?_
              rotate_left
              · intro w hSw; obtain ⟨hA1, hA2⟩ := hSw
                go_simp
                with_reducible rfl
              try simp only [Act.put, List.getElem_toArray, List.getElem_cons_zero, List.getElem_cons_succ, List.setIfInBounds_toArray, List.set_cons_zero, List.set_cons_succ]
              refine wpAnyH_ready (rs := [6]) (by kernel_rfl) (by simp) ?_
              refine AllReadyH.cons rfl (fun K hK => ?_) AllReadyH.nil
              rw [if_pos (by rfl)]
              go_simp
              refine (fd_Take wr.drew pr _ 0 B s HRd.out).mono ?_; rintro e w8 ⟨rfl, hR8, hF8⟩
              rw [HTk1.out] at hR8 ⊢
              have HR8 := hid hR8
              have HF8 := hid (HFd.out.then hF8 (fun i hi e => by omega))
              have HT8 := hid (HTd.out.fr hF8 (by omega))
              have hbd : b < wr.drew.heap.size := lt_of_cell hHeld.1
              refine hK.out _ _ ⟨(hF8.cell (p := ⟨b, _, none⟩) hbd (show ¬ b = pr by omega)).trans hHeld.1, (hF8.cell (p := ⟨b, _, none⟩) hbd (show ¬ b = pr by omega)).trans hHeld.2⟩ (fun hHeld => ?_)
              clear hK K hR8 hF8 HRd HTd HFd hbd
              try simp only [Act.put, List.getElem_toArray, List.getElem_cons_zero, List.getElem_cons_succ, List.setIfInBounds_toArray, List.set_cons_zero, List.set_cons_succ]
              refine wpAnyH_take (i := 12) (v := ?_) rfl (by kernel_rfl) (by kernel_rfl) (by kernel_rfl) (fun _ _ _ h => h) (Or.inl ⟨by rfl, ?_⟩) hHeld ?_
              rotate_left
              · intro w hSw; obtain ⟨hA1, hA2⟩ := hSw
                go_simp
                with_reducible rfl
              try simp only [Act.put, List.getElem_toArray, List.getElem_cons_zero, List.getElem_cons_succ, List.setIfInBounds_toArray, List.set_cons_zero, List.set_cons_succ]
              refine wpAnyH_done (by kernel_rfl) ?_ _
              clear hHeld
              go_wp2_with fail
              go_roundg g
              case measure => omega
              case rel => exact ⟨k + 1, by omega, by go_num, HR8, HT8, HF8⟩
        · have hbe : (((e1 : Nat) : Int) == 0) = false := by simp; exact he
          go_wp2_with fail
          go_meet
          exact ⟨HT5, HF5⟩
      case rest =>
        obtain ⟨HT6, HF6⟩ := hcut
        clear HT5 HF5 HQ HI H1 HZ HB HS1
        have HI := hid (info64b bs HT6.out.len)
        go_wp2_with (refine wpList_load_mid rfl 33 _ rfl q0 0 rfl (bs.map byte) _ HT6.out.range Tryd.underlying33 rfl (by simpa [blkA] using HI.out) ?_)
        refine (fd_Read wc bs HT6.out.len HLT.out).mono ?_; rintro e w6 ⟨rfl, hR6, hF6⟩
        have HF7 := hid (HF6.out.trans hF6)
        have HT7 := hid (HT6.out.fr hF6 id)
        have HR7 := hid hR6
        have hwr : w.heap.size ≤ wc.heap.size := HF6.out.size
        have hq5 : q0 < wc.heap.size := lt_of_block HT6.out.blk
        obtain ⟨pr, hpr⟩ : ∃ pr, wc.heap.size + 1 = pr := ⟨_, rfl⟩
        rw [hpr] at HR7 ⊢
        have hprw : w.heap.size < pr := by omega
        have hqr : q0 < pr := by omega
        clear hF6 hR6 hpr HF6 HT6
        go_wp2_with fail
        refine (fd_Write' w6).mono ?_; rintro e w8 ⟨rfl, hW8, hF8⟩
        have HF8 := hid (HF7.out.trans hF8)
        have HT8 := hid (HT7.out.fr hF8 id)
        have HR8 := hid (HR7.out.fr hF8 id)
        have HW8 := hid hW8
        have hpv : pr < w6.heap.size := HR7.out.ltp
        obtain ⟨pv, hpv'⟩ : ∃ pv, w6.heap.size = pv := ⟨_, rfl⟩
        rw [hpv'] at HW8 hpv ⊢
        clear hF8 hW8 hpv' HF7 HT7 HR7
        go_wp2_with fail
        go_loopg [13] ys.length (fun g i wr => ∃ (k at_ er : Nat) (m : List Nat) (ew : Nat), k + g = ys.length ∧ i = .int .i64 k ∧ at_ ≤ 60 ∧ Hid (Follows bs at_ er m ew) ∧ Hid (RdAt wr pr bs at_ er) ∧ Hid (Wr wr pv m ew) ∧ Hid (Th wr q0 A bs ay ys.length cy) ∧ Hid (Fr No w wr))
        case atStart => exact ⟨0, 0, 0, [], 0, by omega, rfl, by omega, fun _ => ⟨rfl, rfl⟩, HR8, HW8, HT8, HF8⟩
        case round =>
          obtain ⟨k, at_, er, m, ew, hk, rfl, hat, HFo, HRk, HWk, HTk, HFk⟩ := hrel
          clear HR8 HW8 HT8 HF8
          have hc := HTk.out.cell
          cases gk with
          | zero =>
            obtain rfl : k = ys.length := by omega
            go_wp2_with fail
            clear hc
            refine (fd_End wr pr at_ er bs HRk.out).mono ?_; rintro e w9 ⟨rfl, hF9⟩
            have HF9 := hid (HFk.out.trans hF9)
            have HT9 := hid (HTk.out.fr hF9 id)
            have HW9 := hid (HWk.out.no hF9)
            clear hF9 HFk HTk HWk HRk
            by_cases hE : endF bs at_ er = 0
            · rw [hE]
              have HE := hid hE
              clear hE
              have hl := HT9.out.len
              go_wp2_with (refine wpList_load_mid_w (by rfl) 33 _ rfl q0 0 rfl (bs.map byte) _ _ HT9.out.range Tryd.underlying33 (by simpa [blkA] using HI.out) ?_)
              refine (fd_Sealed w9 bs HT9.out.len HLT.out (laid_no HL.out HF9.out)).mono ?_; rintro e w10 ⟨rfl, hF10⟩
              have HF10 := hid (HF9.out.trans hF10)
              have HT10 := hid (HT9.out.fr hF10 id)
              have HW10 := hid (HW9.out.no hF10)
              clear hF10 HF9 HT9 HW9
              cases hS : (sealB bs == bs)
              · rw [show sumE false = 13 from rfl]
                have HA := hid (fd_awake w10 (laid_no HL.out HF10.out))
                clear hS
                go_wp2_with (refine HA.out.mono ?_; rintro e W7 ⟨rfl, hF7⟩)
                go_ret
                exact ⟨rfl, HF10.out.trans hF7⟩
              · rw [show sumE true = 0 from rfl]
                have HSB := hid (seal_back bs HT10.out.len at_ er hat m ew HFo.out HE.out (eq_of_beq hS))
                clear hS
                go_wp2_with fail
                refine (fd_Seal w10 pv ew m HW10.out (laid_no HL.out HF10.out)).mono ?_; rintro e w4 ⟨rfl, hF4⟩
                rw [HSB.out]
                have HF4 := hid (HF10.out.trans hF4)
                have HT4 := hid (HT10.out.fr hF4 id)
                have HQ := hid (put_blk w4 (#[.int .u8 0, .int .u8 0, .int .u8 0, .int .u8 0, .int .u8 0, .int .u8 0, .int .u8 0, .int .u8 0, .int .u8 0, .int .u8 0, .int .u8 0, .int .u8 0, .int .u8 0, .int .u8 0, .int .u8 0, .int .u8 0, .int .u8 0, .int .u8 0, .int .u8 0, .int .u8 0, .int .u8 0, .int .u8 0, .int .u8 0, .int .u8 0, .int .u8 0, .int .u8 0, .int .u8 0, .int .u8 0, .int .u8 0, .int .u8 0, .int .u8 0, .int .u8 0, .int .u8 0, .int .u8 0, .int .u8 0, .int .u8 0, .int .u8 0, .int .u8 0, .int .u8 0, .int .u8 0, .int .u8 0, .int .u8 0, .int .u8 0, .int .u8 0, .int .u8 0, .int .u8 0, .int .u8 0, .int .u8 0, .int .u8 0, .int .u8 0, .int .u8 0, .int .u8 0, .int .u8 0, .int .u8 0, .int .u8 0, .int .u8 0, .int .u8 0, .int .u8 0, .int .u8 0, .int .u8 0, .int .u8 0, .int .u8 0, .int .u8 0, .int .u8 0] : Array Value) bs).1
                have HF5 := hid (HF4.out.trans (put_blk w4 (#[.int .u8 0, .int .u8 0, .int .u8 0, .int .u8 0, .int .u8 0, .int .u8 0, .int .u8 0, .int .u8 0, .int .u8 0, .int .u8 0, .int .u8 0, .int .u8 0, .int .u8 0, .int .u8 0, .int .u8 0, .int .u8 0, .int .u8 0, .int .u8 0, .int .u8 0, .int .u8 0, .int .u8 0, .int .u8 0, .int .u8 0, .int .u8 0, .int .u8 0, .int .u8 0, .int .u8 0, .int .u8 0, .int .u8 0, .int .u8 0, .int .u8 0, .int .u8 0, .int .u8 0, .int .u8 0, .int .u8 0, .int .u8 0, .int .u8 0, .int .u8 0, .int .u8 0, .int .u8 0, .int .u8 0, .int .u8 0, .int .u8 0, .int .u8 0, .int .u8 0, .int .u8 0, .int .u8 0, .int .u8 0, .int .u8 0, .int .u8 0, .int .u8 0, .int .u8 0, .int .u8 0, .int .u8 0, .int .u8 0, .int .u8 0, .int .u8 0, .int .u8 0, .int .u8 0, .int .u8 0, .int .u8 0, .int .u8 0, .int .u8 0, .int .u8 0] : Array Value) bs).2)
                have HT5 := hid (HT4.out.fr (put_blk w4 (#[.int .u8 0, .int .u8 0, .int .u8 0, .int .u8 0, .int .u8 0, .int .u8 0, .int .u8 0, .int .u8 0, .int .u8 0, .int .u8 0, .int .u8 0, .int .u8 0, .int .u8 0, .int .u8 0, .int .u8 0, .int .u8 0, .int .u8 0, .int .u8 0, .int .u8 0, .int .u8 0, .int .u8 0, .int .u8 0, .int .u8 0, .int .u8 0, .int .u8 0, .int .u8 0, .int .u8 0, .int .u8 0, .int .u8 0, .int .u8 0, .int .u8 0, .int .u8 0, .int .u8 0, .int .u8 0, .int .u8 0, .int .u8 0, .int .u8 0, .int .u8 0, .int .u8 0, .int .u8 0, .int .u8 0, .int .u8 0, .int .u8 0, .int .u8 0, .int .u8 0, .int .u8 0, .int .u8 0, .int .u8 0, .int .u8 0, .int .u8 0, .int .u8 0, .int .u8 0, .int .u8 0, .int .u8 0, .int .u8 0, .int .u8 0, .int .u8 0, .int .u8 0, .int .u8 0, .int .u8 0, .int .u8 0, .int .u8 0, .int .u8 0, .int .u8 0] : Array Value) bs).2 id)
                have H1 := hid (blkA_one bs)
                have HZ : Hid (((#[.int .u8 0, .int .u8 0, .int .u8 0, .int .u8 0, .int .u8 0, .int .u8 0, .int .u8 0, .int .u8 0, .int .u8 0, .int .u8 0, .int .u8 0, .int .u8 0, .int .u8 0, .int .u8 0, .int .u8 0, .int .u8 0, .int .u8 0, .int .u8 0, .int .u8 0, .int .u8 0, .int .u8 0, .int .u8 0, .int .u8 0, .int .u8 0, .int .u8 0, .int .u8 0, .int .u8 0, .int .u8 0, .int .u8 0, .int .u8 0, .int .u8 0, .int .u8 0, .int .u8 0, .int .u8 0, .int .u8 0, .int .u8 0, .int .u8 0, .int .u8 0, .int .u8 0, .int .u8 0, .int .u8 0, .int .u8 0, .int .u8 0, .int .u8 0, .int .u8 0, .int .u8 0, .int .u8 0, .int .u8 0, .int .u8 0, .int .u8 0, .int .u8 0, .int .u8 0, .int .u8 0, .int .u8 0, .int .u8 0, .int .u8 0, .int .u8 0, .int .u8 0, .int .u8 0, .int .u8 0, .int .u8 0, .int .u8 0, .int .u8 0, .int .u8 0] : Array Value)).size = (blkA bs).size) := ((blkA_size bs).trans HT4.out.len).symm
                have he : ∀ W, (Op.equalIn 10000 33 (.agg (blkA bs)) (.agg (bs.map byte).toArray)).run Tryd.prog W = .ok true W := fun W => (equal_blk bs bs HT4.out.len HT4.out.len W).trans (by rw [beq_self_eq_true])
                have hg := guard_blk
                have HA := hid (fd_awake _ (laid_no HL.out HF5.out))
                clear hF4 HF10 HT10 HW10 HF4 HT4
                go_wp2_with (first
                  | (refine wpList_store_row rfl 33 _ _ rfl w4.heap.size (blkA bs) rfl rfl 33 _ (heap_new w4 _) HI.out HZ.out H1.out ?_)
                  | (refine wpList_load_row_w (by rfl) 33 _ rfl w4.heap.size rfl 33 (blkA bs) (0, 0) _ _ HQ.out Tryd.underlying33 HI.out ?_)
                  | (refine wpList_load_mid_w (by rfl) 33 _ rfl q0 0 rfl (bs.map byte) _ _ HT5.out.range Tryd.underlying33 (by simpa [blkA] using HI.out) ?_)
                  | (refine HA.out.mono ?_; rintro e W7 ⟨rfl, hF7⟩))
                go_ret
                exact ⟨rfl, HF5.out.trans hF7⟩
            · have hb1 : (endF bs at_ er != 0) = true := by simp; exact hE
              have HA := hid (fd_awake w9 (laid_no HL.out HF9.out))
              obtain ⟨E, hEE⟩ : ∃ E, endF bs at_ er = E := ⟨_, rfl⟩
              rw [hEE] at hb1 ⊢
              clear hE hEE
              go_wp2_with (refine HA.out.mono ?_; rintro e W7 ⟨rfl, hF7⟩)
              go_ret
              exact ⟨rfl, HF9.out.trans hF7⟩
          | succ g =>
            have hkx : k < ys.length := by omega
            obtain ⟨b, o, rfl, hbw, cy0⟩ := HR.out.at (i := k) (by simpa using hkx)
            have hbl : b < wr.heap.size := Nat.lt_of_lt_of_le hbw HFk.out.size
            have cyk := (HFk.out.cell (p := ⟨b, o + k, none⟩) hbw id).trans cy0
            rw [getD_map (.int .i64) ys 0 k hkx] at cyk
            obtain ⟨s, hs⟩ : ∃ s, ys.getD k 0 = s := ⟨_, rfl⟩
            rw [hs] at cyk
            clear hs cy0
            go_wp2_with fail
            have hs0 : wr.drew.cell? ⟨q0, 64, none⟩ = some (.slice (some ⟨b, o, none⟩) ys.length cy) ∧ wr.drew.cell? ⟨b, o + k, none⟩ = some (.int .i64 s) := ⟨hc, cyk⟩
            have HRd := hid (HRk.out.fr (Fr.refl No wr).drew id)
            have HWd := hid (HWk.out.no (Fr.refl No wr).drew)
            have HTd := hid (HTk.out.fr (Fr.refl No wr).drew id)
            have HFd := hid HFk.out.drew
            have hk0 : (0 : Int) ≤ (k : Int) := by omega
            have hk1 : (k : Int) < (ys.length : Int) := by omega
            have hqw : q0 < wr.heap.size := lt_of_block HTk.out.blk
            refine wp_region_held_drew (S := fun w' => w'.cell? ⟨q0, 64, none⟩ = some (.slice (some ⟨b, o, none⟩) ys.length cy) ∧ w'.cell? ⟨b, o + k, none⟩ = some (.int .i64 s)) (by kernel_rfl) hs0 (fun hHeld => ?_)
            clear hc cyk HRk HTk HWk HFk hs0
            refine wpAnyH_take (i := 0) (v := ?_) rfl (by kernel_rfl) (by kernel_rfl) (by kernel_rfl) (fun _ _ _ h => h) (Or.inl ⟨by rfl, ?_⟩) hHeld ?_
            rotate_left
            · intro w hSw; obtain ⟨hA1, hA2⟩ := hSw
              go_simp
              with_reducible rfl
            try simp only [Act.put, List.getElem_toArray, List.getElem_cons_zero, List.getElem_cons_succ, List.setIfInBounds_toArray, List.set_cons_zero, List.set_cons_succ]
            refine wpAnyH_take (i := 1) (v := ?_) rfl (by kernel_rfl) (by kernel_rfl) (by kernel_rfl) (fun _ _ _ h => h) (Or.inl ⟨by rfl, ?_⟩) hHeld ?_
            rotate_left
            · intro w hSw; obtain ⟨hA1, hA2⟩ := hSw
              go_simp
              with_reducible rfl
            try simp only [Act.put, List.getElem_toArray, List.getElem_cons_zero, List.getElem_cons_succ, List.setIfInBounds_toArray, List.set_cons_zero, List.set_cons_succ]
            refine wpAnyH_take (i := 2) (v := ?_) rfl (by kernel_rfl) (by kernel_rfl) (by kernel_rfl) (fun _ _ _ h => h) (Or.inl ⟨by rfl, ?_⟩) hHeld ?_
            rotate_left
            · intro w hSw; obtain ⟨hA1, hA2⟩ := hSw
              go_simp
              with_reducible rfl
            try simp only [Act.put, List.getElem_toArray, List.getElem_cons_zero, List.getElem_cons_succ, List.setIfInBounds_toArray, List.set_cons_zero, List.set_cons_succ]
            refine wpAnyH_take (i := 3) (v := ?_) rfl (by kernel_rfl) (by kernel_rfl) (by kernel_rfl) (fun _ _ _ h => h) (Or.inl ⟨by rfl, ?_⟩) hHeld ?_
            rotate_left
            · intro w hSw; obtain ⟨hA1, hA2⟩ := hSw
              go_simp
              with_reducible rfl
            try simp only [Act.put, List.getElem_toArray, List.getElem_cons_zero, List.getElem_cons_succ, List.setIfInBounds_toArray, List.set_cons_zero, List.set_cons_succ]
            refine wpAnyH_take (i := 4) (v := ?_) rfl (by kernel_rfl) (by kernel_rfl) (by kernel_rfl) (fun _ _ _ h => h) (Or.inl ⟨by rfl, ?_⟩) hHeld ?_
            rotate_left
            · intro w hSw; obtain ⟨hA1, hA2⟩ := hSw
              go_simp
              with_reducible rfl
            try simp only [Act.put, List.getElem_toArray, List.getElem_cons_zero, List.getElem_cons_succ, List.setIfInBounds_toArray, List.set_cons_zero, List.set_cons_succ]
            refine wpAnyH_take (i := 5) (v := ?_) rfl (by kernel_rfl) (by kernel_rfl) (by kernel_rfl) (fun _ _ _ h => h) (Or.inl ⟨by rfl, ?_⟩) hHeld ?_
            rotate_left
            · intro w hSw; obtain ⟨hA1, hA2⟩ := hSw
              go_simp
              with_reducible rfl
            try simp only [Act.put, List.getElem_toArray, List.getElem_cons_zero, List.getElem_cons_succ, List.setIfInBounds_toArray, List.set_cons_zero, List.set_cons_succ]
            refine wpAnyH_take (i := 6) (v := ?_) rfl (by kernel_rfl) (by kernel_rfl) (by kernel_rfl) (fun _ _ _ h => h) (Or.inl ⟨by rfl, ?_⟩) hHeld ?_
            rotate_left
            · intro w hSw; obtain ⟨hA1, hA2⟩ := hSw
              go_simp
              with_reducible rfl
            try simp only [Act.put, List.getElem_toArray, List.getElem_cons_zero, List.getElem_cons_succ, List.setIfInBounds_toArray, List.set_cons_zero, List.set_cons_succ]
            refine wpAnyH_take (i := 8) (v := ?_) rfl (by kernel_rfl) (by kernel_rfl) (by kernel_rfl) (fun _ _ _ h => h) (Or.inl ⟨by rfl, ?_⟩) hHeld ?_
            rotate_left
            · intro w hSw; obtain ⟨hA1, hA2⟩ := hSw
              go_simp
              with_reducible rfl
            try simp only [Act.put, List.getElem_toArray, List.getElem_cons_zero, List.getElem_cons_succ, List.setIfInBounds_toArray, List.set_cons_zero, List.set_cons_succ]
            refine wpAnyH_take (i := 9) (v := ?_) rfl (by kernel_rfl) (by kernel_rfl) (by kernel_rfl) (fun _ _ _ h => h) (Or.inl ⟨by rfl, ?_⟩) hHeld ?_
            rotate_left
            · intro w hSw; obtain ⟨hA1, hA2⟩ := hSw
              go_simp
              with_reducible rfl
            try simp only [Act.put, List.getElem_toArray, List.getElem_cons_zero, List.getElem_cons_succ, List.setIfInBounds_toArray, List.set_cons_zero, List.set_cons_succ]
            refine wpAnyH_take (i := 10) (v := ?_) rfl (by kernel_rfl) (by kernel_rfl) (by kernel_rfl) (fun _ _ _ h => h) (Or.inl ⟨by rfl, ?_⟩) hHeld ?_
            rotate_left
            · intro w hSw; obtain ⟨hA1, hA2⟩ := hSw
              go_simp
              with_reducible rfl
            try simp only [Act.put, List.getElem_toArray, List.getElem_cons_zero, List.getElem_cons_succ, List.setIfInBounds_toArray, List.set_cons_zero, List.set_cons_succ]
            refine wpAnyH_take (i := 11) (v := ?_) rfl (by kernel_rfl) (by kernel_rfl) (by kernel_rfl) (fun _ _ _ h => h) (Or.inl ⟨by rfl, ?_⟩) hHeld ?_
            rotate_left
            · intro w hSw; obtain ⟨hA1, hA2⟩ := hSw
              go_simp
              with_reducible rfl
            try simp only [Act.put, List.getElem_toArray, List.getElem_cons_zero, List.getElem_cons_succ, List.setIfInBounds_toArray, List.set_cons_zero, List.set_cons_succ]
            refine wpAnyH_take (i := 12) (v := ?_) rfl (by kernel_rfl) (by kernel_rfl) (by kernel_rfl) (fun _ _ _ h => h) (Or.inl ⟨by rfl, ?_⟩) hHeld ?_
            rotate_left
            · intro w hSw; obtain ⟨hA1, hA2⟩ := hSw
              go_simp
              with_reducible rfl
            try simp only [Act.put, List.getElem_toArray, List.getElem_cons_zero, List.getElem_cons_succ, List.setIfInBounds_toArray, List.set_cons_zero, List.set_cons_succ]
            refine wpAnyH_ready (rs := [7]) (by kernel_rfl) (by simp) ?_
            refine AllReadyH.cons rfl (fun K hK => ?_) AllReadyH.nil
            rw [if_pos (by rfl)]
            go_simp
            refine (fd_Take wr.drew pr at_ er bs s HRd.out).mono ?_; rintro e w8 ⟨rfl, hR8, hF8⟩
            have HR8 := hid hR8
            have HF8 := hid (HFd.out.then hF8 (fun i hi e => by omega))
            have HT8 := hid (HTd.out.fr hF8 (by omega))
            have HW8 := hid (HWd.out.fr hF8 (by omega))
            have hbd : b < wr.drew.heap.size := hbl
            have hqd : q0 < wr.drew.heap.size := hqw
            have hz8 := hF8.size
            refine hK.out _ _ ⟨(hF8.cell (p := ⟨q0, _, none⟩) hqd (show ¬ q0 = pr by omega)).trans hHeld.1, (hF8.cell (p := ⟨b, _, none⟩) hbd (show ¬ b = pr by omega)).trans hHeld.2⟩ (fun hHeld => ?_)
            clear hK K hR8 hF8 HRd HTd HFd HWd
            try simp only [Act.put, List.getElem_toArray, List.getElem_cons_zero, List.getElem_cons_succ, List.setIfInBounds_toArray, List.set_cons_zero, List.set_cons_succ]
            refine wpAnyH_ready (rs := [13]) (by kernel_rfl) (by simp) ?_
            refine AllReadyH.cons rfl (fun K hK => ?_) AllReadyH.nil
            rw [if_pos (by rfl)]
            go_simp
            refine (fd_Put w8 pv ew m _ s HW8.out).mono ?_; rintro e w9 ⟨rfl, hW9, hF9⟩
            have HR9 := hid (HR8.out.fr hF9 (by omega))
            have HF9 := hid (HF8.out.then hF9 (fun i hi e => by omega))
            have HT9 := hid (HT8.out.fr hF9 (by omega))
            have HW9 := hid hW9
            refine hK.out _ _ ⟨(hF9.cell (p := ⟨q0, _, none⟩) (lt_of_cell hHeld.1) (show ¬ q0 = pv by omega)).trans hHeld.1, (hF9.cell (p := ⟨b, _, none⟩) (lt_of_cell hHeld.2) (show ¬ b = pv by omega)).trans hHeld.2⟩ (fun hHeld => ?_)
            clear hK K hW9 hF9 HR8 HF8 HT8 HW8
            try simp only [Act.put, List.getElem_toArray, List.getElem_cons_zero, List.getElem_cons_succ, List.setIfInBounds_toArray, List.set_cons_zero, List.set_cons_succ]
            refine wpAnyH_done (by kernel_rfl) ?_ _
            clear hHeld
            have HFo9 := hid (follows_step bs HT9.out.len HLT.out at_ er hat m ew s HFo.out)
            have hat9 := takeF_at bs at_ er s hat
            obtain ⟨tk, htk⟩ : ∃ tk, takeF bs at_ er s = tk := ⟨_, rfl⟩
            rw [htk] at HR9 HW9 HFo9 hat9 ⊢
            clear htk
            go_wp2_with fail
            go_roundg g
            case measure => omega
            case rel => exact ⟨k + 1, tk.2.1, tk.2.2, _, _, by omega, by go_num, hat9, HFo9, HR9, HW9, HT9, HF9⟩
end Go.Proofs.YtopheimplclfcaaDoor
