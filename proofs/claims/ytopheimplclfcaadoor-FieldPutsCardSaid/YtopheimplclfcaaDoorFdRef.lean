/- lavaboref04: Number, Sealed. -/
import Derived.Test.YtopheimplclfcaaDoorFdArgs
import Derived.Test.YtopheimplclfcaaDoorCrcRef
namespace Go.Proofs.YtopheimplclfcaaDoor
open Go.RowKit

theorem eq_cast (s t : Nat) : ((s : Int) == (t : Int)) = (s == t) := by rw [Bool.eq_iff_iff]; simp; omega
theorem numOf_drop (l : List Nat) (k : Nat) (hk : k < l.length) : numOf (l.drop k) = l[k] + 256 * numOf (l.drop (k + 1)) := by rw [List.drop_eq_getElem_cons hk, numOf]

set_option maxHeartbeats 1000000 in
theorem rf_Number (r : BRow) (w : World) (hr : r.Ok w) (hl : r.l.length ≤ 7) : Calls Tryd.prog 46 #[r.v] w fun e w' => e = .returned (.int .i64 ((numOf r.l : Nat) : Int)) ∧ w' = w := by
  have HR := hid hr.1
  have HLT := hid hr.2.1
  obtain ⟨a, cap, l⟩ := r
  unfold BRow.v
  simp only at HR HLT hl ⊢
  clear hr
  go_enter Tryd.func46, Tryd.ntmps46
  go_wp2_with fail
  go_loopg [3, 4] l.length (fun g n i wr => i = .int .i64 ((g : Int) - 1) ∧ g ≤ l.length ∧ n = .int .i64 ((numOf (l.drop g) : Nat) : Int) ∧ wr = w)
  case atStart => exact ⟨rfl, by omega, by simp [numOf], rfl⟩
  case round =>
    obtain ⟨rfl, hg, rfl, rfl⟩ := hrel
    cases gk with
    | zero =>
      go_wp2_with fail
      go_ret
      exact ⟨by simp, rfl⟩
    | succ g =>
      have hgl : g < l.length := by omega
      obtain ⟨b, o, rfl, hb, hc⟩ := HR.out.at (i := g) (by simpa using hgl)
      rw [getD_map byte l 0 g hgl] at hc
      have hx := HLT.out (l.getD g 0) (by simp [List.getD_eq_getElem?_getD, hgl])
      have HN : Hid (numOf (l.drop g) = l.getD g 0 + 256 * numOf (l.drop (g + 1))) := by
        unfold Hid; rw [numOf_drop l g hgl]; simp [List.getD_eq_getElem?_getD, hgl]
      have hm := numOf_lt (l.drop (g + 1)) (fun x hx => HLT.out x (List.mem_of_mem_drop hx))
      have hm2 : (256 : Nat) ^ (l.drop (g + 1)).length ≤ 256 ^ 6 := Nat.pow_le_pow_right (by omega) (by rw [List.length_drop]; omega)
      have hm3 := Nat.lt_of_lt_of_le hm hm2
      clear hm hm2
      obtain ⟨x, hxx⟩ : ∃ x, l.getD g 0 = x := ⟨_, rfl⟩
      rw [hxx] at hc hx HN
      obtain ⟨m, hmm⟩ : ∃ m, numOf (l.drop (g + 1)) = m := ⟨_, rfl⟩
      rw [hmm] at HN hm3 ⊢
      clear hxx hmm
      rw [show (((g + 1 : Nat) : Int) - 1) = (g : Int) from by omega]
      go_wp2_with fail
      go_roundg g
      case measure => omega
      case rel => exact ⟨rfl, by omega, by rw [HN.out]; (first | (simp; omega) | (congr 1; omega)), rfl⟩
theorem digs_num (l : List Nat) (h : ∀ x ∈ l, x < 256) : digs l.length (numOf l) = l := by
  induction l with
  | nil => rfl
  | cons y l ih =>
    have hy := h y (List.mem_cons_self ..)
    rw [List.length_cons, digs, numOf, show (y + 256 * numOf l) % 256 = y from by omega, show (y + 256 * numOf l) / 256 = numOf l from by omega, ih (fun x hx => h x (List.mem_cons_of_mem _ hx))]
/-- a sector is sealed if its last bytes are the sum -/
theorem sealed_eq (bs : List Nat) (hl : bs.length = 64) (hlt : ∀ x ∈ bs, x < 256) : ((Crc.sumOf (bs.take 60) : Nat) == numOf (bs.drop 60)) = (sealB bs == bs) := by
  have hdl : (bs.drop 60).length = 4 := by rw [List.length_drop, hl]
  have hS : Crc.sumOf (bs.take 60) < 256 ^ 4 := Crc.sumOf_lt _ (fun x hx => hlt x (List.mem_of_mem_take hx))
  have hd := digs_num (bs.drop 60) (fun x hx => hlt x (List.mem_of_mem_drop hx))
  rw [hdl] at hd
  rw [Bool.eq_iff_iff, beq_iff_eq, beq_iff_eq]
  constructor
  · intro h
    unfold sealB
    rw [h, hd, List.take_append_drop]
  · intro h
    have h2 : digs 4 (Crc.sumOf (bs.take 60)) = bs.drop 60 := by
      have := congrArg (List.drop 60) h
      unfold sealB at this
      rwa [List.drop_left' (by rw [List.length_take, hl]; omega)] at this
    rw [← h2, numOf_digs 4 _ hS]
theorem crc_tells (l : List Nat) (k x : Nat) (hl : ∀ y ∈ l, y < 256) (hx : x < 256) (hk : k < l.length) : Crc.sumOf l = Crc.sumOf (l.set k x) ↔ l[k] = x := by
  constructor
  · intro h
    have h1 : Crc.run Crc.F l = Crc.run Crc.F (l.set k x) := Crc.xor_right_cancel h
    have e1 : l = l.take k ++ l[k] :: l.drop (k + 1) := by rw [List.getElem_cons_drop, List.take_append_drop]
    have e2 : l.set k x = l.take k ++ x :: l.drop (k + 1) := by rw [List.set_eq_take_append_cons_drop, if_pos hk]
    rw [e2] at h1
    rw [show Crc.run Crc.F l = Crc.run Crc.F (l.take k ++ l[k] :: l.drop (k + 1)) from by rw [← e1]] at h1
    rw [Crc.run_append, Crc.run_append, Crc.run_cons, Crc.run_cons] at h1
    have hs := Crc.run_lt (l.take k) Crc.F Crc.F_lt (fun y hy => hl y (List.mem_of_mem_take hy))
    have hy := hl l[k] (List.getElem_mem hk)
    have h2 := Crc.run_inj _ _ _ (Crc.stepB_lt _ _ hs hy) (Crc.stepB_lt _ _ hs hx) (fun y hy => hl y (List.mem_of_mem_drop hy)) h1
    have h3 := Crc.stepB_inj _ _ _ _ hs hs hy hx h2
    rw [Nat.xor_comm _ l[k], Nat.xor_comm _ x] at h3
    exact Crc.xor_right_cancel h3
  · intro h
    rw [show l.set k x = l from by rw [← h]; exact List.set_getElem_self hk]
/-- one byte of a sealed sector is another one -/
theorem sealed_set (c : List Nat) (hl : c.length = 64) (hlt : ∀ x ∈ c, x < 256) (hs : sealB c = c) (i x : Nat) (hi : i < 64) (hx : x < 256) : (sealB (c.set i x) == c.set i x) = (c == c.set i x) := by
  rw [Bool.eq_iff_iff, beq_iff_eq, beq_iff_eq]
  constructor
  · intro h
    by_cases h60 : i < 60
    · have ht : (c.set i x).take 60 = (c.take 60).set i x := by rw [List.take_set]
      have hd : (c.set i x).drop 60 = c.drop 60 := by rw [List.drop_set_of_lt h60]
      have h1 : digs 4 (Crc.sumOf ((c.take 60).set i x)) = c.drop 60 := by
        have := congrArg (List.drop 60) h
        unfold sealB at this
        rw [ht, List.drop_left' (by rw [List.length_set, List.length_take, hl]; omega), hd] at this
        exact this
      have h2 : digs 4 (Crc.sumOf (c.take 60)) = c.drop 60 := by
        have := congrArg (List.drop 60) hs
        unfold sealB at this
        rwa [List.drop_left' (by rw [List.length_take, hl]; omega)] at this
      have hlt6 : ∀ y ∈ c.take 60, y < 256 := fun y hy => hlt y (List.mem_of_mem_take hy)
      have hlt7 : ∀ y ∈ (c.take 60).set i x, y < 256 := fun y hy => by
        rcases List.mem_or_eq_of_mem_set hy with g | g
        · exact hlt6 y g
        · rw [g]; exact hx
      have h3 : Crc.sumOf (c.take 60) = Crc.sumOf ((c.take 60).set i x) := by
        have e1 := numOf_digs 4 (Crc.sumOf (c.take 60)) (Crc.sumOf_lt _ hlt6)
        have e2 := numOf_digs 4 (Crc.sumOf ((c.take 60).set i x)) (Crc.sumOf_lt _ hlt7)
        rw [← e1, ← e2, h1, h2]
      have hk : i < (c.take 60).length := by rw [List.length_take, hl]; omega
      have h4 := (crc_tells (c.take 60) i x hlt6 hx hk).1 h3
      have h5 : c[i]'(by omega) = x := by rw [← h4, List.getElem_take]
      rw [← h5, List.set_getElem_self]
    · have ht : (c.set i x).take 60 = c.take 60 := by rw [List.take_set_of_le (by omega)]
      have h1 : sealB (c.set i x) = sealB c := by unfold sealB; rw [ht]
      rw [h1, hs] at h
      exact h
  · intro h
    rw [← h, hs]

set_option maxRecDepth 100000 in
set_option maxHeartbeats 1000000 in
theorem rf_Sealed (w : World) (bs : List Nat) (hl : bs.length = 64) (hlt : ∀ x ∈ bs, x < 256) : Calls Tryd.prog 20 #[.agg (blkA bs)] w fun e w' => e = .returned (.bool (sealB bs == bs)) ∧ Fr No w w' := by
  have HF := hid ((Fr.refl No w).alloc (.cells (blkA bs) 33))
  have hsz : (blkA bs).size = 64 := (blkA_size bs).trans hl
  have HRow : Row (w.alloc (.cells (blkA bs) 33)) (some ⟨w.heap.size, 0, none⟩) (bs.map byte) := Row.of_blk (n := 64) (heap_new w _) (by rw [show (blkA bs).toList = bs.map byte from by simp [blkA]]; exact List.take_of_length_le (by simp; omega)) (by omega)
  have hok : BRow.Ok (w.alloc (.cells (blkA bs) 33)) ⟨some ⟨w.heap.size, 0, none⟩, 64, bs⟩ := ⟨HRow, hlt, by show bs.length ≤ maxLen; unfold maxLen; omega⟩
  obtain ⟨a1, c1, e1, hok1⟩ := IsB.take hok 60 (by omega) 64
  obtain ⟨a2, c2, e2, hok2⟩ := IsB.drop hok 60 4 (by omega)
  have H1 : ∀ n, Hid (Calls Tryd.prog 45 #[.slice (some ⟨w.heap.size, 0, none⟩) 60 64] ((w.alloc (.cells (blkA bs) 33)).drewN n) fun e w' => e = .returned (.int .i64 ((Crc.sumOf (bs.take 60) : Nat) : Int)) ∧ w' = (w.alloc (.cells (blkA bs) 33)).drewN n) := fun n => by
    have := rsum_any ⟨a1, c1, bs.take 60⟩ _ (hok1.no ((Fr.refl No _).drewN n))
    rw [← show (Value.slice (some ⟨w.heap.size, 0, none⟩) 60 64) = BRow.v ⟨a1, c1, bs.take 60⟩ from e1] at this
    exact this
  have H2 : ∀ n, Hid (Calls Tryd.prog 46 #[.slice (some ⟨w.heap.size, 60, none⟩) 4 4] ((w.alloc (.cells (blkA bs) 33)).drewN n) fun e w' => e = .returned (.int .i64 ((numOf (bs.drop 60) : Nat) : Int)) ∧ w' = (w.alloc (.cells (blkA bs) 33)).drewN n) := fun n => by
    have := rf_Number ⟨a2, c2, bs.drop 60⟩ _ (hok2.no ((Fr.refl No _).drewN n)) (by simp [hl])
    rw [← show (Value.slice (some ⟨w.heap.size, 60, none⟩) 4 4) = BRow.v ⟨a2, c2, bs.drop 60⟩ from (by show _ = Value.slice a2 (List.drop 60 bs).length c2; rw [← e2, hl])] at this
    exact this
  have HEQ := hid (sealed_eq bs hl hlt)
  clear HRow hok hok1 hok2 e1 e2 hlt
  obtain ⟨s, hs⟩ : ∃ s, Crc.sumOf (bs.take 60) = s := ⟨_, rfl⟩
  obtain ⟨t, ht⟩ : ∃ t, numOf (bs.drop 60) = t := ⟨_, rfl⟩
  rw [hs] at H1 HEQ
  rw [ht] at H2 HEQ
  clear hs ht
  go_enter Tryd.func20, Tryd.ntmps20
  go_wp2_with fail
  go_quiet (first | (go_at_call 45; exact Calls.quiet_of_same (H1 _).out) | (go_at_call 46; exact Calls.quiet_of_same (H2 _).out))
  go_wp2_with fail
  go_ret
  exact ⟨by show Ending.returned (Value.bool ((s : Int) == (t : Int))) = _; rw [eq_cast, HEQ.out], HF.out.drewN _⟩
end Go.Proofs.YtopheimplclfcaaDoor
