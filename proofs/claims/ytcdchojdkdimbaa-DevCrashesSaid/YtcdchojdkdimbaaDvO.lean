/- dev: Write, Read. -/
import Derived.Test.YtcdchojdkdimbaaDvW
import Derived.Test.YtcdchojdkdimbaaDvC
namespace Go.Proofs.Ytcdchojdkdimbaa
open Go.RowKit

def writeD (D : DM) (s : Nat) (B : List Nat) : DM := if fateD D = 0 then addO (popD D) s B else popD D
def writeE (D : DM) : Nat := if fateD D = 1 then 20 else 0
theorem three_new (w : World) (o1 o2 o3 : Obj) : (((w.alloc o1).alloc o2).alloc o3).heap[w.heap.size]? = some o1 ∧ (((w.alloc o1).alloc o2).alloc o3).heap[w.heap.size + 1]? = some o2 ∧ (((w.alloc o1).alloc o2).alloc o3).heap[w.heap.size + 2]? = some o3 ∧ Fr No w (((w.alloc o1).alloc o2).alloc o3) := by
  refine ⟨?_, ?_, ?_, (((Fr.refl No w).alloc _).alloc _).alloc _⟩
  · rw [Below.heap_alloc _ _ _ (by simp; omega), Below.heap_alloc _ _ _ (by simp), heap_new]
  · rw [Below.heap_alloc _ _ _ (by simp), show w.heap.size + 1 = (w.alloc o1).heap.size from by simp, heap_new]
  · rw [show w.heap.size + 2 = ((w.alloc o1).alloc o2).heap.size from by simp, heap_new]
theorem More.refl {w w' : World} {S T : Nat → Prop} (h : ∀ k, S k → k < w.heap.size) (f : Fr T w w') : More w w' S S := ⟨fun k hk => .inl hk, fun k hk => f.lt (h k hk)⟩
theorem More.pre {w0 w w' : World} {S S' T : Nat → Prop} (h : More w w' S S') (f : Fr T w0 w) : More w0 w' S S' := ⟨fun k hk => (h.1 k hk).imp id (fun e => Nat.le_trans f.size e), h.2⟩
set_option maxRecDepth 100000 in
set_option maxHeartbeats 1000000 in
theorem dv_Write (w : World) (p : Nat) (S : Nat → Prop) (D : DM) (h : PD w p S D) (s : Nat) (hs : s < D.firm.length) (B : List Nat) (hB : B.length = 64) (hlen : D.opn.length ≤ 100000) :
    Calls Try.prog 21 #[.pointer (some ⟨p, 0, none⟩), .int .i64 s, .agg (blkA B)] w fun e w' => e = .returned (.int .i64 ((writeE D : Nat) : Int)) ∧ ∃ S', PD w' p S' (writeD D s B) ∧ Fr S w w' ∧ More w w' S S' := by
  obtain ⟨k1, k2, k3, kF⟩ := three_new w (.cells #[.pointer (some ⟨p, 0, none⟩)] 24) (.cells #[.int .i64 s] 3) (.cells (blkA B) 42)
  have hD := h.no kF
  have hlt := h.lt
  have hsp := h.sp
  have HFI := hid (dv_find_ok _ p S D hD s hs)
  have HCALL := hid (dv_callW _ p S D hD 20 (.pointer (some ⟨w.heap.size, 0, none⟩)) (.pointer (some ⟨w.heap.size + 1, 0, none⟩)) (.pointer (some ⟨w.heap.size + 2, 0, none⟩))
    (fun b w' => ∃ S', PD w' p S' (if b then popD D else addO (popD D) s B) ∧ Fr S w w' ∧ More w w' S S') (fun w1 b h1 f1 => by
      have hne : ∀ k, w.heap.size ≤ k → k ≠ p := fun k hk e => by have := hlt p hsp; omega
      have hnS : ∀ k, w.heap.size ≤ k → ¬ S k := fun k hk e => by have := hlt k e; omega
      have f01 : Fr S w w1 := (kF.mono (T := S) (fun _ _ h => h.elim)).trans (f1.mono (fun k _ e => by rw [e]; exact hsp))
      cases b
      · refine (dvw1_goes w1 p S (popD D) h1 s hs B hB _ _ _ ((f1.block _ (lt_of_block k1) (hne _ (Nat.le_refl _))).trans k1) ((f1.block _ (lt_of_block k2) (hne _ (by omega))).trans k2) ((f1.block _ (lt_of_block k3) (hne _ (by omega))).trans k3) hlen (hnS _ (Nat.le_refl _)) (hnS _ (by omega)) (hnS _ (by omega))).mono ?_
        rintro e w' ⟨rfl, S', h2, f2, m2⟩
        exact ⟨rfl, S', h2, f01.trans f2, m2.pre f01⟩
      · refine (dvw1_drop w1 _ _ _).mono ?_
        rintro e w' ⟨rfl, rfl⟩
        exact ⟨rfl, S, h1, f01, More.refl hlt f01⟩))
  have HKF := hid kF
  have HH := hid h
  clear k1 k2 k3 kF hD
  go_enter Try.func21, Try.ntmps21
  go_wp2_with fail
  refine HFI.out.mono ?_
  rintro e w' ⟨rfl, rfl⟩
  go_wp2_with fail
  have hok := HH.out.1
  refine HCALL.out.mono ?_
  rintro e w' (⟨hf, rfl, h2, f2⟩ | ⟨hf, rfl, S', h2, f2, m2⟩)
  · go_wp2_with fail
    go_ret
    have hE : writeE D = 20 := by unfold writeE; rw [hf]; rfl
    have hDD : writeD D s B = popD D := by unfold writeD; rw [hf]; rfl
    have f02 : Fr S w w' := (HKF.out.mono (T := S) (fun _ _ h => h.elim)).trans (f2.mono (fun k _ e => by rw [e]; exact hsp))
    exact ⟨by rw [hE]; rfl, S, by rw [hDD]; exact h2, f02, More.refl hlt f02⟩
  · go_wp2_with fail
    go_ret
    have hE : writeE D = 0 := by unfold writeE; rw [if_neg hf]
    have hDD : writeD D s B = if decide (fateD D = 2) then popD D else addO (popD D) s B := by
      have := fateD_le hok
      unfold writeD
      by_cases h0 : fateD D = 0
      · rw [if_pos h0, h0]; rfl
      · have : fateD D = 2 := by omega
        rw [if_neg h0, this]; rfl
    exact ⟨by rw [hE]; rfl, S', by rw [hDD]; exact h2, f2, m2⟩
set_option maxRecDepth 100000 in
theorem dv_Write_bad (w : World) (a : Option Addr) (s : Int) (B : List Nat) (k : Int) (hk : (k != 0) = true) (hf : ∀ W : World, Fr No w W → Calls Try.prog 34 #[.pointer a, .int .i64 s] W fun e w' => e = .returned (.int .i64 k) ∧ w' = W) :
    Calls Try.prog 21 #[.pointer a, .int .i64 s, .agg (blkA B)] w fun e w' => e = .returned (.int .i64 k) ∧ Fr No w w' := by
  obtain ⟨_, _, _, kF⟩ := three_new w (.cells #[.pointer a] 24) (.cells #[.int .i64 s] 3) (.cells (blkA B) 42)
  have HFI := hid (hf _ kF)
  have HF := hid kF
  clear hf kF
  go_enter Try.func21, Try.ntmps21
  go_wp2_with fail
  refine HFI.out.mono ?_
  rintro e w' ⟨rfl, rfl⟩
  go_wp2_with fail
  go_ret
  exact ⟨rfl, HF.out⟩

theorem latK_pop (D : DM) (s : Nat) : ∀ k, latK (popD D) s k = latK D s k
  | 0 => rfl
  | k + 1 => by
    show (if (opAt D k).1 = s then (opAt D k).2 else latK (popD D) s k) = if (opAt D k).1 = s then (opAt D k).2 else latK D s k
    rw [latK_pop D s k]
theorem latest_pop (D : DM) (s : Nat) : latest (popD D) s = latest D s := latK_pop D s D.opn.length
theorem latest_len {D : DM} (h : DOk D) {s : Nat} (hs : s < D.firm.length) : (latest D s).length = 64 := latK_len h hs _ (Nat.le_refl _)
set_option maxRecDepth 100000 in
theorem dvr1 (w : World) (p : Nat) (S : Nat → Prop) (D : DM) (h : PD w p S D) (s : Nat) (hs : s < D.firm.length) (b : Bool) (b1 b2 b3 : Nat) (Z : Array Value) (hZ : Z.size = 64)
    (h1 : w.heap[b1]? = some (.cells #[.pointer (some ⟨p, 0, none⟩)] 24 (0, 0))) (h2 : w.heap[b2]? = some (.cells #[.int .i64 s] 3 (0, 0))) (h3 : w.heap[b3]? = some (.cells Z 42 (0, 0))) (hlen : D.opn.length ≤ 100000) :
    Calls Try.prog 39 #[.bool b, .pointer (some ⟨b1, 0, none⟩), .pointer (some ⟨b2, 0, none⟩), .pointer (some ⟨b3, 0, none⟩)] w fun e w' => e = .returned (.tuple #[]) ∧ w'.heap[b3]? = some (.cells (blkA (latest D s)) 42 (0, 0)) ∧ Fr (fun k => k = b3) w w' := by
  have HL := hid (dv_latest w p S D h s hs hlen)
  have hlen := latest_len h.1 hs
  obtain ⟨R, hR⟩ : ∃ R, latest D s = R := ⟨_, rfl⟩
  rw [hR] at HL hlen ⊢
  have k1 := cell_blk h1 0
  have k2 := cell_blk h2 0
  simp only [List.getElem?_toArray, List.getElem?_cons_zero] at k1 k2
  have H3 := hid h3
  have HI := hid (info64b R hlen)
  have H1 := hid (blkA_one R)
  have HSZ : Hid (Z.size = (blkA R).size) := by unfold Hid; rw [hZ, blkA_size, hlen]
  clear h1 h2 h3 h hR
  go_enter Try.func39, Try.ntmps39
  go_wp2_with fail
  refine HL.out.mono ?_
  rintro e w' ⟨rfl, hF⟩
  have H3' := hid ((hF.block b3 (lt_of_block H3.out) id).trans H3.out)
  have HF := hid hF
  clear hF k1 k2
  go_wp2_with (refine wpList_store_row rfl 42 _ _ rfl b3 (blkA R) rfl rfl 42 Z H3'.out HI.out HSZ.out H1.out ?_)
  go_end0
  exact ⟨rfl, setRow_heap _ _ _ _ _ _ H3'.out, (HF.out.mono (T := fun k => k = b3) (fun _ _ h => h.elim)).setRow _ _ (fun _ => rfl)⟩
def readB (D : DM) (s : Nat) : List Nat := if fateD D = 1 then zeros else latest D s
def readE (D : DM) : Nat := if fateD D = 1 then 19 else 0
theorem four_new (w : World) (o1 o2 o3 o4 : Obj) : ((((w.alloc o1).alloc o2).alloc o3).alloc o4).heap[w.heap.size]? = some o1 ∧ ((((w.alloc o1).alloc o2).alloc o3).alloc o4).heap[w.heap.size + 1]? = some o2 ∧ ((((w.alloc o1).alloc o2).alloc o3).alloc o4).heap[w.heap.size + 2]? = some o3 ∧ ((((w.alloc o1).alloc o2).alloc o3).alloc o4).heap[w.heap.size + 3]? = some o4 ∧ Fr No w ((((w.alloc o1).alloc o2).alloc o3).alloc o4) := by
  obtain ⟨a, b, c, d⟩ := three_new w o1 o2 o3
  refine ⟨?_, ?_, ?_, ?_, d.alloc _⟩
  · rw [Below.heap_alloc _ _ _ (lt_of_block a)]; exact a
  · rw [Below.heap_alloc _ _ _ (lt_of_block b)]; exact b
  · rw [Below.heap_alloc _ _ _ (lt_of_block c)]; exact c
  · rw [show w.heap.size + 3 = (((w.alloc o1).alloc o2).alloc o3).heap.size from by simp, heap_new]
set_option maxRecDepth 100000 in
set_option maxHeartbeats 1000000 in
theorem dv_Read (w : World) (p : Nat) (S : Nat → Prop) (D : DM) (h : PD w p S D) (s : Nat) (hs : s < D.firm.length) (hlen : D.opn.length ≤ 100000) :
    Calls Try.prog 24 #[.pointer (some ⟨p, 0, none⟩), .int .i64 s] w fun e w' => e = .returned (.tuple #[.agg (blkA (readB D s)), .int .i64 ((readE D : Nat) : Int)]) ∧ PD w' p S (popD D) ∧ Fr S w w' := by
  obtain ⟨k1, k2, k3, k4, kF⟩ := four_new w (.cells #[.pointer (some ⟨p, 0, none⟩)] 24) (.cells #[.int .i64 s] 3) (.cells (blkA zeros) 42) (.cells (blkA zeros) 42)
  obtain ⟨_, _, _, jF⟩ := three_new w (.cells #[.pointer (some ⟨p, 0, none⟩)] 24) (.cells #[.int .i64 s] 3) (.cells (blkA zeros) 42)
  have hD := h.no kF
  have hlt := h.lt
  have hsp := h.sp
  have hok := h.1
  have HFI := hid (dv_find_ok _ p S D (h.no jF) s hs)
  have hne : ∀ k, w.heap.size ≤ k → k ≠ p := fun k hk e => by have := hlt p hsp; omega
  have HCALL := hid (dv_callR _ p S D hD 19 (.pointer (some ⟨w.heap.size, 0, none⟩)) (.pointer (some ⟨w.heap.size + 1, 0, none⟩)) (.pointer (some ⟨w.heap.size + 3, 0, none⟩))
    (fun b w' => PD w' p S (popD D) ∧ w'.heap[w.heap.size + 3]? = some (.cells (blkA (latest D s)) 42 (0, 0)) ∧ w'.heap[w.heap.size + 2]? = some (.cells (blkA zeros) 42 (0, 0)) ∧ Fr S w w') (fun w1 b h1 f1 => by
      have hnS : ∀ k, w.heap.size ≤ k → ¬ S k := fun k hk e => by have := hlt k e; omega
      have f01 : Fr S w w1 := (kF.mono (T := S) (fun _ _ h => h.elim)).trans (f1.mono (fun k _ e => by rw [e]; exact hsp))
      refine (dvr1 w1 p S (popD D) h1 s hs b _ _ _ (blkA zeros) blkA_zeros_size ((f1.block _ (lt_of_block k1) (hne _ (Nat.le_refl _))).trans k1) ((f1.block _ (lt_of_block k2) (hne _ (by omega))).trans k2) ((f1.block _ (lt_of_block k4) (hne _ (by omega))).trans k4) hlen).mono ?_
      rintro e w' ⟨rfl, h2, f2⟩
      rw [latest_pop] at h2
      have f12 : Fr S w w' := f01.then f2 (fun i hi e => by omega)
      exact ⟨rfl, h1.fr f2 (fun k hk e => hnS k (by omega) hk), h2, (f2.block _ (f1.lt (lt_of_block k3)) (by omega)).trans ((f1.block _ (lt_of_block k3) (hne _ (by omega))).trans k3), f12⟩))
  have HKF := hid kF
  have HK3 := hid k3
  have HK4 := hid k4
  have HH := hid h
  have hlatest := latest_len hok hs
  have HI0 := hid (info64b zeros zeros_len)
  have H10 := hid (blkA_one zeros)
  clear k1 k2 k3 k4 kF hD jF
  go_enter Try.func24, Try.ntmps24
  go_wp2_with fail
  refine HFI.out.mono ?_
  rintro e w' ⟨rfl, rfl⟩
  go_wp2_with fail
  refine HCALL.out.mono ?_
  rintro e w' (⟨hf, rfl, h2, f2⟩ | ⟨hf, rfl, h2, h7, h4, f2⟩)
  · have H7 : Hid (w'.heap[w.heap.size + 3]? = some (.cells (blkA zeros) 42 (0, 0))) := (f2.block _ (lt_of_block HK4.out) (hne _ (by omega))).trans HK4.out
    have H4 : Hid (w'.heap[w.heap.size + 2]? = some (.cells (blkA zeros) 42 (0, 0))) := (f2.block _ (lt_of_block HK3.out) (hne _ (by omega))).trans HK3.out
    have H2 := hid h2
    have HF2 : Hid (Fr S w w') := (HKF.out.mono (T := S) (fun _ _ h => h.elim)).trans (f2.mono (fun k _ e => by rw [e]; exact hsp))
    have HE : Hid (readE D = 19) := by unfold Hid readE; rw [hf]; rfl
    have HBB : Hid (readB D s = zeros) := by unfold Hid readB; rw [hf]; rfl
    clear h2 f2
    have HLL := hid zeros_len
    obtain ⟨R, hR⟩ : ∃ R, R = zeros := ⟨_, rfl⟩
    rw [← hR] at HLL HBB
    have H7 : Hid (w'.heap[w.heap.size + 3]? = some (.cells (blkA R) 42 (0, 0))) := by unfold Hid; rw [hR]; exact H7.out
    clear hR
    have HI := hid (info64b R (by exact HLL.out))
    have H1 := hid (blkA_one R)
    have HSZ : Hid ((blkA zeros).size = (blkA R).size) := by unfold Hid; rw [blkA_zeros_size, blkA_size]; rw [HLL.out]
    go_wp2_with (first
      | (refine wpList_load_row rfl 42 _ rfl (w.heap.size + 1 + 1 + 1) rfl 42 (blkA R) (0, 0) _ H7.out Try.underlying42 rfl HI.out ?_)
      | (refine wpList_store_row rfl 42 _ _ rfl (w.heap.size + 1 + 1) (blkA R) rfl rfl 42 (blkA zeros) H4.out HI.out HSZ.out H1.out ?_))
    refine bodyPost_ret (v := .tuple #[.agg (blkA R), .int .i64 19]) (results_block2 (fn := Try.f24) (p := 4) (u := 5) rfl _ _ _ (w.heap.size + 1 + 1) 42 (blkA R) (0, 0) _ _ rfl (setRow_heap _ _ _ _ _ _ H4.out) Try.underlying42 HI.out) rfl ⟨by rw [HBB.out, HE.out]; rfl, H2.out.fr (Fr.refl _ _ |>.setRow (S := fun k => k = w.heap.size + 2) _ _ (fun _ => rfl)) (fun k hk e => by have := hlt k hk; omega), HF2.out.setRow _ _ (fun h => absurd h (by omega))⟩
  · have H7 := hid h7
    have H4 := hid h4
    have H2 := hid h2
    have HF2 := hid f2
    have HE : Hid (readE D = 0) := by unfold Hid readE; rw [if_neg hf]
    have HBB : Hid (readB D s = latest D s) := by unfold Hid readB; rw [if_neg hf]
    have HLL := hid hlatest
    clear h2 f2 h7 h4
    obtain ⟨R, hR⟩ : ∃ R, latest D s = R := ⟨_, rfl⟩
    rw [hR] at H7 HLL HBB
    clear hR
    have HI := hid (info64b R (by exact HLL.out))
    have H1 := hid (blkA_one R)
    have HSZ : Hid ((blkA zeros).size = (blkA R).size) := by unfold Hid; rw [blkA_zeros_size, blkA_size]; rw [HLL.out]
    go_wp2_with (first
      | (refine wpList_load_row rfl 42 _ rfl (w.heap.size + 1 + 1 + 1) rfl 42 (blkA R) (0, 0) _ H7.out Try.underlying42 rfl HI.out ?_)
      | (refine wpList_store_row rfl 42 _ _ rfl (w.heap.size + 1 + 1) (blkA R) rfl rfl 42 (blkA zeros) H4.out HI.out HSZ.out H1.out ?_))
    refine bodyPost_ret (v := .tuple #[.agg (blkA R), .int .i64 0]) (results_block2 (fn := Try.f24) (p := 4) (u := 5) rfl _ _ _ (w.heap.size + 1 + 1) 42 (blkA R) (0, 0) _ _ rfl (setRow_heap _ _ _ _ _ _ H4.out) Try.underlying42 HI.out) rfl ⟨by rw [HBB.out, HE.out]; rfl, H2.out.fr (Fr.refl _ _ |>.setRow (S := fun k => k = w.heap.size + 2) _ _ (fun _ => rfl)) (fun k hk e => by have := hlt k hk; omega), HF2.out.setRow _ _ (fun h => absurd h (by omega))⟩
end Go.Proofs.Ytcdchojdkdimbaa
