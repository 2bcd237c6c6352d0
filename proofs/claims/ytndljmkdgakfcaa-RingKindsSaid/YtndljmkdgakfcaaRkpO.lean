/- The ring at pair: its operations over what waits. -/
import Derived.Test.YtndljmkdgakfcaaRkpT
import Derived.WalkLawsBesides
namespace Go.Proofs.Ytndljmkdgakfcaa
open Go.Conc Go.RowKit

/-- a ring at block p over the channel of block c: its bound, what waits in it, whether it is closed -/
structure RP (w : World) (p c most : Nat) (l : List Value) (shut : Bool) : Prop where
  blk : w.heap[p]? = some (.cells #[.chan (some c), .int .i64 most, .bool shut] 71 (0, 0))
  ch : ∃ s r, w.heap[c]? = some (.chan most l.toArray shut s r false)
theorem RP.fr {S : Nat → Prop} {w w' : World} {p c most : Nat} {l : List Value} {shut : Bool} (h : RP w p c most l shut) (f : Fr S w w') (hp : ¬ S p) (hc : ¬ S c) : RP w' p c most l shut :=
  ⟨(f.block p (lt_of_block h.blk) hp).trans h.blk, let ⟨s, r, hs⟩ := h.ch; ⟨s, r, (f.block c (lt_of_block hs) hc).trans hs⟩⟩
theorem p_bytes : ∃ i, Try.prog.info? 49 = some i ∧ i.bytes = 24 := by
  have h : (Try.prog.info? 49).map (·.bytes) = some 24 := by kernel_rfl
  obtain ⟨i, hi, hb⟩ := Option.map_eq_some_iff.1 h
  exact ⟨i, hi, hb⟩
theorem mk_chanp (n : Nat) (hn : n ≤ 1024) (w : World) : (Instr.makeChan 69 (.int .i64 n)).run Try.prog w = .ok (.chan (some w.heap.size)) (w.alloc (.chan n #[] false 0 0 false)) := by
  obtain ⟨i, hi, hb⟩ := p_bytes
  simpa using run_makeChan (P := Try.prog) (w := w) Try.underlying69 hi .i64 n (by omega) (by rw [hb]; omega)
def pv (x : Int × ByteArray) : Value := .agg #[.int .i64 x.1, .string x.2]
theorem kp_New_ok (w : World) (most : Nat) (h1 : 1 ≤ most) (h2 : most ≤ 1024) : Calls Try.prog 20 #[.int .i64 most] w fun e w' => ∃ p c, e = .returned (.tuple #[.pointer (some ⟨p, 0, none⟩), .int .i64 0]) ∧ RP w' p c most [] false ∧ Fr (fun _ => False) w w' ∧ w.heap.size ≤ p ∧ w.heap.size ≤ c := by
  have hmc := mk_chanp most h2
  go_enter Try.func20, Try.ntmps20
  go_wp2_with fail
  go_ret2
  refine ⟨w.heap.size + 1, w.heap.size, rfl, ⟨?_, 0, 0, ?_⟩, ((Fr.refl _ w).alloc _).alloc _, by omega, by omega⟩
  · have := heap_new (w.alloc (.chan most #[] false 0 0 false)) (.cells #[.chan (some w.heap.size), .int .i64 most, .bool false] 71)
    rw [World.size_alloc] at this
    exact this
  · rw [Below.heap_alloc _ _ _ (by simp)]
    exact heap_new w _
theorem RP.ne {w : World} {p c most : Nat} {l : List Value} {shut : Bool} (h : RP w p c most l shut) : p ≠ c := by
  rintro rfl
  obtain ⟨s, r, hc⟩ := h.ch
  rw [h.blk] at hc
  injection hc with hc; cases hc
theorem RP.ltp {w : World} {p c most : Nat} {l : List Value} {shut : Bool} (h : RP w p c most l shut) : p < w.heap.size := lt_of_block h.blk
theorem RP.ltc {w : World} {p c most : Nat} {l : List Value} {shut : Bool} (h : RP w p c most l shut) : c < w.heap.size := let ⟨_, _, hc⟩ := h.ch; lt_of_block hc

theorem kp_PutOk (w : World) (p c most : Nat) (l : List Value) (x : Int × ByteArray) (h : RP w p c most l false) (hl : l.length < most) : Calls Try.prog 22 #[.pointer (some ⟨p, 0, none⟩), pv x] w fun e w' => e = .returned (.int .i64 0) ∧ RP w' p c most (l ++ [pv x]) false ∧ Fr (fun k => k = c) w w' := by
  have hne := h.ne
  have hcz := h.ltc
  have hpz := h.ltp
  obtain ⟨hb, s, r, hc⟩ := h
  refine (kp_put_send w p c most l x.1 x.2 hb s r hc hl).mono ?_
  rintro e w' ⟨rfl, rfl⟩
  have hF := ((Fr.refl (fun k => k = c) w).alloc (.cells #[.int .i64 x.1, .string x.2] 49)).trans (setChan_fr _ c most (l.toArray.push (pv x)) false (s + 1) r false)
  refine ⟨rfl, ⟨(hF.block p hpz hne).trans hb, s + 1, r, ?_⟩, hF⟩
  show (World.setChan _ c most _ false (s + 1) r false).heap[c]? = _
  rw [heap_setChan _ c most _ false (s + 1) r false (by simp; omega)]
  simp [pv]
theorem kp_Take1 (w : World) (p c most : Nat) (x : Int × ByteArray) (l : List Value) (shut : Bool) (h : RP w p c most (pv x :: l) shut) : Calls Try.prog 30 #[.pointer (some ⟨p, 0, none⟩)] w fun e w' => e = .returned (.tuple #[.agg #[.int .i64 x.1, .string x.2], .int .i64 0]) ∧ RP w' p c most l shut ∧ Fr (fun k => k = c) w w' := by
  have hne := h.ne
  have hpz := h.ltp
  obtain ⟨hb, s, r, hc⟩ := h
  refine (kp_take_buf w x.1 x.2 l shut p c most hb s r hc).mono ?_
  rintro e w' ⟨rfl, h1, hF⟩
  exact ⟨rfl, ⟨(hF.block p hpz hne).trans hb, s, r + 1, h1⟩, hF⟩
theorem kp_Take0 (w : World) (p c most : Nat) (h : RP w p c most [] false) : Calls Try.prog 30 #[.pointer (some ⟨p, 0, none⟩)] w fun e w' => e = .returned (.tuple #[.agg #[.int .i64 0, .string ⟨#[]⟩], .int .i64 14]) ∧ RP w' p c most [] false ∧ Fr No w w' := by
  have hR := h
  obtain ⟨hb, s, r, hc⟩ := h
  refine (kp_take_none w p c most hb s r hc).mono ?_
  rintro e w' ⟨rfl, h1, hF⟩
  exact ⟨rfl, hR.fr hF id id, hF⟩
end Go.Proofs.Ytndljmkdgakfcaa
