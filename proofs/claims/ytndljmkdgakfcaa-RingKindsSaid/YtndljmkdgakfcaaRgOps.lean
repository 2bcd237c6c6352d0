/- The ring of ints: every operation, as a function of what waits; the nil ring. -/
import Derived.Test.YtndljmkdgakfcaaRgTake
import Derived.WalkLawsBesides
namespace Go.Proofs.Ytndljmkdgakfcaa
open Go.Conc Go.RowKit

theorem int_bytes : ∃ i, Try.prog.info? 3 = some i ∧ i.bytes = 8 := by
  have h : (Try.prog.info? 3).map (·.bytes) = some 8 := by kernel_rfl
  obtain ⟨i, hi, hb⟩ := Option.map_eq_some_iff.1 h
  exact ⟨i, hi, hb⟩
theorem mk_chan (n : Nat) (hn : n ≤ 1024) (w : World) : (Instr.makeChan 65 (.int .i64 n)).run Try.prog w = .ok (.chan (some w.heap.size)) (w.alloc (.chan n #[] false 0 0 false)) := by
  obtain ⟨i, hi, hb⟩ := int_bytes
  simpa using run_makeChan (P := Try.prog) (w := w) Try.underlying65 hi .i64 n (by omega) (by rw [hb]; omega)

theorem rg_New_bad (w : World) (most : Int) (h : most < 1 ∨ 1024 < most) : Calls Try.prog 9 #[.int .i64 most] w fun e w' => e = .returned (.tuple #[.pointer none, .int .i64 24]) ∧ w' = w := by
  by_cases h1 : most < 1
  all_goals
    have h2 : most < 1 ∨ (1 ≤ most ∧ 1024 < most) := by omega
    rcases h2 with h2 | ⟨h2, h3⟩
    all_goals first | (exfalso; omega) | skip
    all_goals
      clear h
      go_enter Try.func9, Try.ntmps9
      go_wp2_with fail
      go_ret2
      exact ⟨rfl, rfl⟩
theorem rg_New_ok (w : World) (most : Nat) (h1 : 1 ≤ most) (h2 : most ≤ 1024) : Calls Try.prog 9 #[.int .i64 most] w fun e w' => ∃ p c, e = .returned (.tuple #[.pointer (some ⟨p, 0, none⟩), .int .i64 0]) ∧ Rg w' p c most [] false ∧ Fr (fun _ => False) w w' ∧ w.heap.size ≤ p ∧ w.heap.size ≤ c := by
  have hmc := mk_chan most h2
  go_enter Try.func9, Try.ntmps9
  go_wp2_with fail
  go_ret2
  refine ⟨w.heap.size + 1, w.heap.size, rfl, ⟨?_, 0, 0, ?_⟩, ((Fr.refl _ w).alloc _).alloc _, by omega, by omega⟩
  · have := heap_new (w.alloc (.chan most #[] false 0 0 false)) (.cells #[.chan (some w.heap.size), .int .i64 most, .bool false] 67)
    rw [World.size_alloc] at this
    exact this
  · rw [Below.heap_alloc _ _ _ (by simp)]
    exact heap_new w _
def roomR (most : Nat) (l : List Value) (shut : Bool) : Nat := if shut then 0 else most - l.length
def putR (most : Nat) (l : List Value) (shut : Bool) (x : Value) : List Value × Nat := if shut then (l, 16) else if l.length < most then (l ++ [x], 0) else (l, 17)
def takeR (l : List Value) : (Value × Nat) × List Value := match l with
  | [] => ((.int .i64 0, 14), [])
  | x :: t => ((x, 0), t)
theorem rg_Len (w : World) (p c most : Nat) (l : List Value) (shut : Bool) (h : Rg w p c most l shut) : Calls Try.prog 12 #[.pointer (some ⟨p, 0, none⟩)] w fun e w' => e = .returned (.int .i64 l.length) ∧ w' = w := by
  obtain ⟨hb, s, r, hc⟩ := h
  have c0 := cell_blk hb 0
  have c1 := cell_blk hb 1
  have c2 := cell_blk hb 2
  have hlen := fun ty => run_len_chan (P := Try.prog) 65 ty Try.underlying65 hc
  simp only [List.getElem?_toArray, List.getElem?_cons_zero, List.getElem?_cons_succ, List.size_toArray] at c0 c1 c2 hlen
  go_enter Try.func12, Try.ntmps12
  go_wp2_with fail
  go_ret
  exact ⟨rfl, rfl⟩
theorem rg_Closed (w : World) (p c most : Nat) (l : List Value) (shut : Bool) (h : Rg w p c most l shut) : Calls Try.prog 15 #[.pointer (some ⟨p, 0, none⟩)] w fun e w' => e = .returned (.bool shut) ∧ w' = w := by
  obtain ⟨hb, s, r, hc⟩ := h
  have c0 := cell_blk hb 0
  have c1 := cell_blk hb 1
  have c2 := cell_blk hb 2
  have hlen := fun ty => run_len_chan (P := Try.prog) 65 ty Try.underlying65 hc
  simp only [List.getElem?_toArray, List.getElem?_cons_zero, List.getElem?_cons_succ, List.size_toArray] at c0 c1 c2 hlen
  go_enter Try.func15, Try.ntmps15
  go_wp2_with fail
  go_ret
  exact ⟨rfl, rfl⟩
theorem rg_Room (w : World) (p c most : Nat) (l : List Value) (shut : Bool) (h : Rg w p c most l shut) (hl : l.length ≤ most) (hm : most ≤ 1024) : Calls Try.prog 13 #[.pointer (some ⟨p, 0, none⟩)] w fun e w' => e = .returned (.int .i64 ((roomR most l shut : Nat) : Int)) ∧ Fr (fun _ => False) w w' := by
  obtain ⟨hb, s, r, hc⟩ := h
  have c0 := cell_blk hb 0
  have c1 := cell_blk hb 1
  have c2 := cell_blk hb 2
  have hlen := fun ty => run_len_chan (P := Try.prog) 65 ty Try.underlying65 hc
  simp only [List.getElem?_toArray, List.getElem?_cons_zero, List.getElem?_cons_succ, List.size_toArray] at c0 c1 c2 hlen
  have hlen2 := fun ty => run_len_chan (P := Try.prog) (w := w.drew) 65 ty Try.underlying65 hc
  simp only [List.size_toArray] at hlen2
  have hr : ((roomR most l false : Nat) : Int) = (most : Int) - (l.length : Int) := by unfold roomR; simp; omega
  have hl' : (l.length : Int) ≤ 1024 := by omega
  have hl2 : (l.length : Int) ≤ most := by omega
  cases shut
  · go_enter Try.func13, Try.ntmps13
    go_wp2_with fail
    go_region
    go_wp2_with fail
    go_ret
    exact ⟨by rw [hr]; rfl, (Fr.refl _ w).drew⟩
  · go_enter Try.func13, Try.ntmps13
    go_wp2_with fail
    go_ret
    exact ⟨rfl, Fr.refl _ w⟩
theorem Rg.ne {w : World} {p c most : Nat} {l : List Value} {shut : Bool} (h : Rg w p c most l shut) : p ≠ c := by
  rintro rfl
  obtain ⟨s, r, hc⟩ := h.ch
  rw [h.blk] at hc
  injection hc with hc; cases hc
theorem Rg.ltp {w : World} {p c most : Nat} {l : List Value} {shut : Bool} (h : Rg w p c most l shut) : p < w.heap.size := lt_of_block h.blk
theorem Rg.ltc {w : World} {p c most : Nat} {l : List Value} {shut : Bool} (h : Rg w p c most l shut) : c < w.heap.size := let ⟨_, _, hc⟩ := h.ch; lt_of_block hc
theorem rg_Close (w : World) (p c most : Nat) (l : List Value) (shut : Bool) (h : Rg w p c most l shut) : Calls Try.prog 17 #[.pointer (some ⟨p, 0, none⟩)] w fun e w' => e = .returned (.int .i64 (if shut then 16 else 0)) ∧ Rg w' p c most l true ∧ Fr (fun k => k = p ∨ k = c) w w' := by
  have hne := h.ne
  have hR := hid h
  obtain ⟨hb, s, r, hc⟩ := h
  have c0 := cell_blk hb 0
  have c1 := cell_blk hb 1
  have c2 := cell_blk hb 2
  have hlen := fun ty => run_len_chan (P := Try.prog) 65 ty Try.underlying65 hc
  simp only [List.getElem?_toArray, List.getElem?_cons_zero, List.getElem?_cons_succ, List.size_toArray] at c0 c1 c2 hlen
  cases shut
  · have hfv := free_blk hb 2
    have hb1 := set_blk hb 2 (.bool true)
    have hc1 : (w.setCell ⟨p, 2, none⟩ (.bool true)).heap[c]? = some (.chan most l.toArray false s r false) := (heap_setCell_other w ⟨p, 2, none⟩ c (.bool true) (fun e => hne e.symm)).trans hc
    have hcl := fun ats ty => run_close_open (P := Try.prog) (w := w.setCell ⟨p, 2, none⟩ (.bool true)) ats ty hc1
    have hcz : c < (w.setCell ⟨p, 2, none⟩ (.bool true)).heap.size := lt_of_block hc1
    have HB1 := hid hb1
    clear hb1
    go_enter Try.func17, Try.ntmps17
    go_wp2_with fail
    go_ret
    refine ⟨rfl, ⟨(?_ : ((w.setCell ⟨p, 2, none⟩ (.bool true)).setChan c most l.toArray true s r false).heap[p]? = _), s, r, (heap_setChan _ c most l.toArray true s r false hcz)⟩, ?_⟩
    · exact ((setChan_fr _ c most l.toArray true s r false).block p (by rw [size_set]; exact lt_of_block hb) hne).trans HB1.out
    · exact ((Fr.refl (fun k => k = p ∨ k = c) w).setCell (p := ⟨p, 2, none⟩) (fun _ => .inl rfl) (.bool true)).then (setChan_fr _ c most l.toArray true s r false) (fun i _ e => .inr e)
  · go_enter Try.func17, Try.ntmps17
    go_wp2_with fail
    go_ret
    exact ⟨rfl, hR.out, Fr.refl _ w⟩
theorem rg_Put (w : World) (p c most : Nat) (l : List Value) (shut : Bool) (x : Value) (h : Rg w p c most l shut) : Calls Try.prog 16 #[.pointer (some ⟨p, 0, none⟩), x] w fun e w' => e = .returned (.int .i64 (((putR most l shut x).2 : Nat) : Int)) ∧ Rg w' p c most (putR most l shut x).1 shut ∧ Fr (fun k => k = c) w w' := by
  have hne := h.ne
  have hcz := h.ltc
  have hR := hid h
  obtain ⟨hb, s, r, hc⟩ := h
  have c0 := cell_blk hb 0
  have c1 := cell_blk hb 1
  have c2 := cell_blk hb 2
  have hlen := fun ty => run_len_chan (P := Try.prog) 65 ty Try.underlying65 hc
  simp only [List.getElem?_toArray, List.getElem?_cons_zero, List.getElem?_cons_succ, List.size_toArray] at c0 c1 c2 hlen
  unfold putR
  cases shut
  · rw [if_neg (by simp)]
    by_cases hr : l.length < most
    · rw [if_pos hr]
      refine (rg_put_send w p c most l x hb s r hc hr).mono ?_
      rintro e w' ⟨rfl, rfl⟩
      refine ⟨rfl, ⟨((setChan_fr _ c most _ false (s + 1) r false).block p (lt_of_block hb) hne).trans hb, s + 1, r, ?_⟩, setChan_fr _ c most _ false (s + 1) r false⟩
      rw [heap_setChan _ c most _ false (s + 1) r false hcz]
      simp
    · rw [if_neg hr]
      refine (rg_put_full w p c most l x hb s r hc (by omega)).mono ?_
      rintro e w' ⟨rfl, rfl⟩
      exact ⟨rfl, hR.out, Fr.refl _ _⟩
  · rw [if_pos rfl]
    go_enter Try.func16, Try.ntmps16
    go_wp2_with fail
    go_ret
    exact ⟨rfl, hR.out, Fr.refl _ w⟩
theorem rg_Take (w : World) (p c most : Nat) (l : List Value) (shut : Bool) (h : Rg w p c most l shut) : Calls Try.prog 18 #[.pointer (some ⟨p, 0, none⟩)] w fun e w' => e = .returned (.tuple #[(takeR l).1.1, .int .i64 (((takeR l).1.2 : Nat) : Int)]) ∧ Rg w' p c most (takeR l).2 shut ∧ Fr (fun k => k = c) w w' := by
  have hne := h.ne
  have hcz := h.ltc
  have hR := h
  obtain ⟨hb, s, r, hc⟩ := h
  cases l with
  | nil =>
    cases shut
    · refine (rg_take_none w false p c most hb s r hc).mono ?_
      rintro e w' ⟨rfl, rfl⟩
      exact ⟨rfl, hR, Fr.refl _ _⟩
    · refine (rg_take_shut w true p c most hb s r hc).mono ?_
      rintro e w' ⟨rfl, rfl⟩
      exact ⟨rfl, hR, Fr.refl _ _⟩
  | cons x t =>
    refine (rg_take_buf w x t shut p c most hb s r hc).mono ?_
    rintro e w' ⟨rfl, rfl⟩
    exact ⟨rfl, ⟨((setChan_fr _ c most _ shut s (r + 1) false).block p (lt_of_block hb) hne).trans hb, s, r + 1, heap_setChan _ c most _ shut s (r + 1) false hcz⟩, setChan_fr _ c most _ shut s (r + 1) false⟩
theorem rg_Take0 (w : World) (p c most : Nat) (shut : Bool) (h : Rg w p c most [] shut) : Calls Try.prog 18 #[.pointer (some ⟨p, 0, none⟩)] w fun e w' => e = .returned (.tuple #[.int .i64 0, .int .i64 14]) ∧ Rg w' p c most [] shut ∧ Fr (fun k => k = c) w w' := rg_Take w p c most [] shut h
theorem rg_Take1 (w : World) (p c most : Nat) (x : Value) (l : List Value) (shut : Bool) (h : Rg w p c most (x :: l) shut) : Calls Try.prog 18 #[.pointer (some ⟨p, 0, none⟩)] w fun e w' => e = .returned (.tuple #[x, .int .i64 0]) ∧ Rg w' p c most l shut ∧ Fr (fun k => k = c) w w' := rg_Take w p c most (x :: l) shut h
theorem rg_nil_Put (w : World) (x : Value) : Calls Try.prog 16 #[.pointer none, x] w fun e w' => e = .returned (.int .i64 2) ∧ w' = w := by
  go_enter Try.func16, Try.ntmps16
  go_wp2_with fail
  go_ret
  exact ⟨rfl, rfl⟩
theorem rg_nil_Take (w : World) : Calls Try.prog 18 #[.pointer none] w fun e w' => e = .returned (.tuple #[.int .i64 0, .int .i64 2]) ∧ w' = w := by
  go_enter Try.func18, Try.ntmps18
  go_wp2_with fail
  go_ret2
  exact ⟨rfl, rfl⟩
theorem rg_nil_Close (w : World) : Calls Try.prog 17 #[.pointer none] w fun e w' => e = .returned (.int .i64 2) ∧ w' = w := by
  go_enter Try.func17, Try.ntmps17
  go_wp2_with fail
  go_ret
  exact ⟨rfl, rfl⟩
theorem rg_nil_Closed (w : World) : Calls Try.prog 15 #[.pointer none] w fun e w' => e = .returned (.bool false) ∧ w' = w := by
  go_enter Try.func15, Try.ntmps15
  go_wp2_with fail
  go_ret
  exact ⟨rfl, rfl⟩
theorem rg_nil_Len (w : World) : Calls Try.prog 12 #[.pointer none] w fun e w' => e = .returned (.int .i64 0) ∧ w' = w := by
  go_enter Try.func12, Try.ntmps12
  go_wp2_with fail
  go_ret
  exact ⟨rfl, rfl⟩
theorem rg_nil_Room (w : World) : Calls Try.prog 13 #[.pointer none] w fun e w' => e = .returned (.int .i64 0) ∧ w' = w := by
  go_enter Try.func13, Try.ntmps13
  go_wp2_with fail
  go_ret
  exact ⟨rfl, rfl⟩
end Go.Proofs.Ytndljmkdgakfcaa
