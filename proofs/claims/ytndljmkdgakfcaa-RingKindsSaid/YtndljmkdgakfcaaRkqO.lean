/- The ring at *pair: its operations as functions of what waits. -/
import Derived.Test.YtndljmkdgakfcaaRkq
import Derived.WalkLawsBesides
namespace Go.Proofs.Ytndljmkdgakfcaa
open Go.Conc Go.RowKit

/-- a ring at block p over the channel of block c: its bound, what waits in it, whether it is closed -/
structure RQ (w : World) (p c most : Nat) (l : List Value) (shut : Bool) : Prop where
  blk : w.heap[p]? = some (.cells #[.chan (some c), .int .i64 most, .bool shut] 74 (0, 0))
  ch : ∃ s r, w.heap[c]? = some (.chan most l.toArray shut s r false)
theorem RQ.fr {S : Nat → Prop} {w w' : World} {p c most : Nat} {l : List Value} {shut : Bool} (h : RQ w p c most l shut) (f : Fr S w w') (hp : ¬ S p) (hc : ¬ S c) : RQ w' p c most l shut :=
  ⟨(f.block p (lt_of_block h.blk) hp).trans h.blk, let ⟨s, r, hs⟩ := h.ch; ⟨s, r, (f.block c (lt_of_block hs) hc).trans hs⟩⟩

theorem q_bytes : ∃ i, Try.prog.info? 53 = some i ∧ i.bytes = 8 := by
  have h : (Try.prog.info? 53).map (·.bytes) = some 8 := by kernel_rfl
  obtain ⟨i, hi, hb⟩ := Option.map_eq_some_iff.1 h
  exact ⟨i, hi, hb⟩
theorem mk_chanq (n : Nat) (hn : n ≤ 1024) (w : World) : (Instr.makeChan 72 (.int .i64 n)).run Try.prog w = .ok (.chan (some w.heap.size)) (w.alloc (.chan n #[] false 0 0 false)) := by
  obtain ⟨i, hi, hb⟩ := q_bytes
  simpa using run_makeChan (P := Try.prog) (w := w) Try.underlying72 hi .i64 n (by omega) (by rw [hb]; omega)


theorem kq_New_ok (w : World) (most : Nat) (h1 : 1 ≤ most) (h2 : most ≤ 1024) : Calls Try.prog 21 #[.int .i64 most] w fun e w' => ∃ p c, e = .returned (.tuple #[.pointer (some ⟨p, 0, none⟩), .int .i64 0]) ∧ RQ w' p c most [] false ∧ Fr (fun _ => False) w w' ∧ w.heap.size ≤ p ∧ w.heap.size ≤ c := by
  have hmc := mk_chanq most h2
  go_enter Try.func21, Try.ntmps21
  go_wp2_with fail
  go_ret2
  refine ⟨w.heap.size + 1, w.heap.size, rfl, ⟨?_, 0, 0, ?_⟩, ((Fr.refl _ w).alloc _).alloc _, by omega, by omega⟩
  · have := heap_new (w.alloc (.chan most #[] false 0 0 false)) (.cells #[.chan (some w.heap.size), .int .i64 most, .bool false] 74)
    rw [World.size_alloc] at this
    exact this
  · rw [Below.heap_alloc _ _ _ (by simp)]
    exact heap_new w _

def takeQ (l : List Value) : (Value × Nat) × List Value := match l with
  | [] => ((.pointer none, 14), [])
  | x :: t => ((x, 0), t)

theorem kq_Len (w : World) (p c most : Nat) (l : List Value) (shut : Bool) (h : RQ w p c most l shut) : Calls Try.prog 25 #[.pointer (some ⟨p, 0, none⟩)] w fun e w' => e = .returned (.int .i64 l.length) ∧ w' = w := by
  obtain ⟨hb, s, r, hc⟩ := h
  have c0 := cell_blk hb 0
  have c1 := cell_blk hb 1
  have c2 := cell_blk hb 2
  have hlen := fun ty => run_len_chan (P := Try.prog) 72 ty Try.underlying72 hc
  simp only [List.getElem?_toArray, List.getElem?_cons_zero, List.getElem?_cons_succ, List.size_toArray] at c0 c1 c2 hlen
  go_enter Try.func25, Try.ntmps25
  go_wp2_with fail
  go_ret
  exact ⟨rfl, rfl⟩

theorem RQ.ne {w : World} {p c most : Nat} {l : List Value} {shut : Bool} (h : RQ w p c most l shut) : p ≠ c := by
  rintro rfl
  obtain ⟨s, r, hc⟩ := h.ch
  rw [h.blk] at hc
  injection hc with hc; cases hc
theorem RQ.ltp {w : World} {p c most : Nat} {l : List Value} {shut : Bool} (h : RQ w p c most l shut) : p < w.heap.size := lt_of_block h.blk
theorem RQ.ltc {w : World} {p c most : Nat} {l : List Value} {shut : Bool} (h : RQ w p c most l shut) : c < w.heap.size := let ⟨_, _, hc⟩ := h.ch; lt_of_block hc

theorem kq_Take (w : World) (p c most : Nat) (l : List Value) (shut : Bool) (h : RQ w p c most l shut) : Calls Try.prog 26 #[.pointer (some ⟨p, 0, none⟩)] w fun e w' => e = .returned (.tuple #[(takeQ l).1.1, .int .i64 (((takeQ l).1.2 : Nat) : Int)]) ∧ RQ w' p c most (takeQ l).2 shut ∧ Fr (fun k => k = c) w w' := by
  have hne := h.ne
  have hcz := h.ltc
  have hR := h
  obtain ⟨hb, s, r, hc⟩ := h
  cases l with
  | nil =>
    cases shut
    · refine (kq_take_none w false p c most hb s r hc).mono ?_
      rintro e w' ⟨rfl, rfl⟩
      exact ⟨rfl, hR, Fr.refl _ _⟩
    · refine (kq_take_shut w true p c most hb s r hc).mono ?_
      rintro e w' ⟨rfl, rfl⟩
      exact ⟨rfl, hR, Fr.refl _ _⟩
  | cons x t =>
    refine (kq_take_buf w x t shut p c most hb s r hc).mono ?_
    rintro e w' ⟨rfl, rfl⟩
    exact ⟨rfl, ⟨((setChan_fr _ c most _ shut s (r + 1) false).block p (lt_of_block hb) hne).trans hb, s, r + 1, heap_setChan _ c most _ shut s (r + 1) false hcz⟩, setChan_fr _ c most _ shut s (r + 1) false⟩
theorem kq_Take0 (w : World) (p c most : Nat) (shut : Bool) (h : RQ w p c most [] shut) : Calls Try.prog 26 #[.pointer (some ⟨p, 0, none⟩)] w fun e w' => e = .returned (.tuple #[.pointer none, .int .i64 14]) ∧ RQ w' p c most [] shut ∧ Fr (fun k => k = c) w w' := kq_Take w p c most [] shut h
theorem kq_Take1 (w : World) (p c most : Nat) (x : Value) (l : List Value) (shut : Bool) (h : RQ w p c most (x :: l) shut) : Calls Try.prog 26 #[.pointer (some ⟨p, 0, none⟩)] w fun e w' => e = .returned (.tuple #[x, .int .i64 0]) ∧ RQ w' p c most l shut ∧ Fr (fun k => k = c) w w' := kq_Take w p c most (x :: l) shut h

theorem kq_PutOk (w : World) (p c most : Nat) (l : List Value) (x : Value) (h : RQ w p c most l false) (hl : l.length < most) : Calls Try.prog 23 #[.pointer (some ⟨p, 0, none⟩), x] w fun e w' => e = .returned (.int .i64 0) ∧ RQ w' p c most (l ++ [x]) false ∧ Fr (fun k => k = c) w w' := by
  have hne := h.ne
  have hcz := h.ltc
  obtain ⟨hb, s, r, hc⟩ := h
  refine (kq_put_send w p c most l x hb s r hc hl).mono ?_
  rintro e w' ⟨rfl, rfl⟩
  refine ⟨rfl, ⟨((setChan_fr _ c most _ false (s + 1) r false).block p (lt_of_block hb) hne).trans hb, s + 1, r, ?_⟩, setChan_fr _ c most _ false (s + 1) r false⟩
  rw [heap_setChan _ c most _ false (s + 1) r false hcz]
  simp
end Go.Proofs.Ytndljmkdgakfcaa
