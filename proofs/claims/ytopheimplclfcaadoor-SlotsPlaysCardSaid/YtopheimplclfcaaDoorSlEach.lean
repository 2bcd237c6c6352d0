/- slots.each: the iterator over the slots of a state. -/
import Derived.Test.YtopheimplclfcaaDoorSlOps
import Derived.Test.YtopheimplclfcaaDoorSeq
import Derived.RangeFuncNested
import Derived.RangeFuncBound
import Derived.RangeFuncCalls
import Derived.RangeFuncLeaves
import Derived.Shelf.Abstract
import Derived.Shelf.RegionOpen
import Derived.WalkKit
import Derived.OwnWalkIn
import Derived.TacticsInMore
import Derived.LoopNIn
import Derived.LoopIn
namespace Go.Proofs.YtopheimplclfcaaDoor
open Go.RowKit Go.Shelf
attribute [local go_sem] Oper.semAt_some

/-- the first k slots that have a state -/
def upTo (xs : List Nat) (st : Int) (k : Nat) : List Nat := (List.range k).filter fun i => ((xs[i]?.getD 0 : Nat) : Int) == st
theorem upTo_yes {xs : List Nat} {st : Int} {k : Nat} (h : (((xs[k]?.getD 0 : Nat) : Int) == st) = true) : upTo xs st (k + 1) = upTo xs st k ++ [k] := by
  simp only [upTo, List.range_succ, List.filter_append]; congr 1; simp at h ⊢; exact h
theorem upTo_no {xs : List Nat} {st : Int} {k : Nat} (h : (((xs[k]?.getD 0 : Nat) : Int) == st) = false) : upTo xs st (k + 1) = upTo xs st k := by
  simp only [upTo, List.range_succ, List.filter_append]; rw [List.append_right_eq_self]; simp at h ⊢; exact h
theorem upTo_pre (xs : List Nat) (st : Int) {k n : Nat} (h : k ≤ n) : upTo xs st k <+: upTo xs st n := by
  obtain ⟨d, rfl⟩ : ∃ d, n = k + d := ⟨n - k, by omega⟩
  induction d with
  | zero => exact List.prefix_refl _
  | succ d ih =>
    refine (ih (by omega)).trans ?_
    show _ <+: upTo xs st (k + d + 1)
    cases h' : (((xs[k + d]?.getD 0 : Nat) : Int) == st) with
    | true => rw [upTo_yes h']; exact List.prefix_append _ _
    | false => rw [upTo_no h']; exact List.prefix_refl _
theorem upTo_len (xs : List Nat) (st : Int) (k : Nat) : (upTo xs st k).length ≤ k := by
  have := List.length_filter_le (fun i => ((xs[i]?.getD 0 : Nat) : Int) == st) (List.range k)
  simpa [upTo] using this
def which (xs : List Nat) (st : Int) : List Nat := upTo xs st xs.length

set_option maxRecDepth 100000 in
set_option maxHeartbeats 2000000 in
theorem each1_in (F : Fence) (n : Nat) (hF : F.fn 56) (hro : F.round = none) (hn : 1 ≤ n) (l sp sb p q : Nat) (T : Nat → Prop) (xs : List Nat) (st : Int) (J Jx : List Nat → World → Prop)
    (hY : ∀ pre x W, J pre W → pre.length < xs.length → YieldAt F (n - 1) Tryd.prog l #[i64v x] W fun e W' =>
      (e = .returned (.bool true) ∧ J (pre ++ [x]) W' ∧ Fr T W W') ∨ (e = .returned (.bool false) ∧ Jx (pre ++ [x]) W'))
    (W : World) (h : SlAt W p q xs) (hsp : W.cell? ⟨sp, 0, none⟩ = some (slv p)) (hsb : W.cell? ⟨sb, 0, none⟩ = some (.int .i64 st)) (hlb : sb < W.heap.size) (hq : ¬ T q) (hb : ¬ T sb) (h0 : J [] W) :
    CallsIn F n Tryd.prog 56 #[.func (.yield l) #[] #[], .pointer (some ⟨sp, 0, none⟩), .pointer (some ⟨sb, 0, none⟩)] W fun e W' => (∃ v, e = .returned v) ∧
      ((∃ ys, ys = which xs st ∧ J ys W') ∨ (∃ pre, pre <+: which xs st ∧ Jx pre W')) := by
  obtain ⟨c0, hst⟩ := h.cell0
  have hlen := h.len
  replace hsp : W.cell? ⟨sp, 0, none⟩ = some (.pointer (some ⟨p, 0, none⟩)) := hsp
  refine callsIn_of_wp Tryd.func56 rfl hF ?_ hro
  simp only [Tryd.ntmps56, List.size_toArray, List.length_cons, List.length_nil, Nat.reduceAdd, Nat.reduceSub, Array.replicate_succ, Array.replicate_zero, List.push_toArray, List.append_toArray, List.nil_append, List.cons_append]
  gi_wp2
  gi_loopw [13] (fun i wr => ∃ k : Nat, k ≤ xs.length ∧ i = .int .i64 k ∧ J (upTo xs st k) wr ∧ Fr T W wr)
    (fun i _ => xs.length - (intOf i).toNat)
  case atStart => exact ⟨0, Nat.zero_le _, rfl, h0, Fr.refl _ _⟩
  case round =>
    obtain ⟨k, hk, rfl, hJs, hnx⟩ := hrel
    have hsb' : wr.cell? ⟨sb, 0, none⟩ = some (.int .i64 st) := (hnx.cell (p := ⟨sb, 0, none⟩) hlb hb).trans hsb
    by_cases hlt : k < xs.length
    · obtain ⟨x, hx⟩ : ∃ x, xs[k]?.getD 0 = x := ⟨_, rfl⟩
      have hc : wr.cell? ⟨q, k, none⟩ = some (.int .i64 (x : Int)) := by
        rw [(hnx.cell (p := ⟨q, k, none⟩) h.ltq hq).trans (h.cell k hlt), ← hx]; simp [hlt]
      have hyes := @upTo_yes xs st k
      have hno := @upTo_no xs st k
      rw [hx] at hyes hno
      obtain ⟨c, hcc⟩ : ∃ c, ((x : Int) == st) = c := ⟨_, rfl⟩
      cases c with
      | true =>
        obtain ⟨fn, tmps, assign, body, hy, hR⟩ := hY _ k wr hJs (Nat.lt_of_le_of_lt (upTo_len _ _ _) hlt)
        replace hyes := hyes hcc
        clear hno
        gi_wp2
        refine hR.mono ?_
        rintro e W3 (⟨rfl, hJ3, hk3⟩ | ⟨rfl, hJx3⟩)
        · gi_wp2
          go_roundw
          case rel => exact ⟨k + 1, by omega, by simp, by rw [hyes]; exact hJ3, hnx.trans hk3⟩
          case measure => simp [intOf]; omega
        · gi_wp2
          refine bodyPost_ret (results_none rfl _ _ _) rfl ?_
          exact ⟨⟨_, rfl⟩, .inr ⟨_, by rw [← hyes]; exact upTo_pre _ _ (by omega), hJx3⟩⟩
      | false =>
        replace hno := hno hcc
        clear hyes
        gi_wp2
        refine ⟨fun _ h => (by cases h), ?_⟩
        gi_wp2
        go_roundw
        case rel => exact ⟨k + 1, by omega, by simp, by rw [hno]; exact hJs, hnx⟩
        case measure => simp [intOf]; omega
    · obtain rfl : k = xs.length := by omega
      gi_wp2
      go_end0
      exact ⟨⟨_, rfl⟩, .inl ⟨_, rfl, hJs⟩⟩

set_option maxRecDepth 100000 in
set_option maxHeartbeats 2000000 in
theorem each1_nil_in (F : Fence) (n : Nat) (hF : F.fn 56) (hro : F.round = none) (l sp sb : Nat) (J : List Nat → World → Prop) (W : World) (hsp : W.cell? ⟨sp, 0, none⟩ = some (.pointer none)) (h0 : J [] W) :
    CallsIn F n Tryd.prog 56 #[.func (.yield l) #[] #[], .pointer (some ⟨sp, 0, none⟩), .pointer (some ⟨sb, 0, none⟩)] W fun e W' => (∃ v, e = .returned v) ∧ J [] W' := by
  refine callsIn_of_wp Tryd.func56 rfl hF ?_ hro
  simp only [Tryd.ntmps56, List.size_toArray, List.length_cons, List.length_nil, Nat.reduceAdd, Nat.reduceSub, Array.replicate_succ, Array.replicate_zero, List.push_toArray, List.append_toArray, List.nil_append, List.cons_append]
  gi_wp2
  refine bodyPost_ret (results_none rfl _ _ _) rfl ?_
  exact ⟨⟨_, rfl⟩, h0⟩

/-- slots that may be nil -/
inductive SlR (w : World) (T : Nat → Prop) : Option Addr → List Nat → Prop
  | nil : SlR w T none []
  | at {p q : Nat} {xs : List Nat} (h : SlAt w p q xs) (hp : ¬ T p) (hq : ¬ T q) : SlR w T (some ⟨p, 0, none⟩) xs
theorem SlR.fr {S T U : Nat → Prop} {w w' : World} {a : Option Addr} {xs : List Nat} (h : SlR w T a xs) (f : Fr S w w') (hS : ∀ k, k < w.heap.size → S k → T k) (hU : ∀ k, k < w.heap.size → U k → T k) : SlR w' U a xs := by
  cases h with
  | nil => exact .nil
  | «at» h hp hq => exact .at (h.fr f (fun s => hp (hS _ h.ltp s)) (fun s => hq (hS _ h.ltq s))) (fun s => hp (hU _ h.ltp s)) (fun s => hq (hU _ h.ltq s))

/-- the value that each hands back goes through the slots of the state -/
theorem each_stops (F : Fence) (n : Nat) (hF : F.fn 56) (hro : F.round = none) (hn : 1 ≤ n) (sp sb : Nat) (T : Nat → Prop) (a : Option Addr) (xs : List Nat) (st : Int) (w : World) (h : SlR w T a xs)
    (hsp : w.cell? ⟨sp, 0, none⟩ = some (.pointer a)) (hsb : w.cell? ⟨sb, 0, none⟩ = some (.int .i64 st)) (hlp : sp < w.heap.size) (hlb : sb < w.heap.size) (hb : ¬ T sb) :
    SeqStopsK F n Tryd.prog 56 #[.pointer (some ⟨sp, 0, none⟩), .pointer (some ⟨sb, 0, none⟩)] (fun x : Nat => #[i64v x]) (Fr T) (fun ys => ys = which xs st) (fun pre => pre <+: which xs st) xs.length w := fun l J Jx W hW _ _ hY h0 => by
  have hsp' := (hW.cell (p := ⟨sp, 0, none⟩) hlp).trans hsp
  have hsb' := (hW.cell (p := ⟨sb, 0, none⟩) hlb).trans hsb
  cases h with
  | nil => exact (each1_nil_in F n hF hro l sp sb J W hsp' h0).mono fun e W' ⟨he, hj⟩ => ⟨he, .inl ⟨_, rfl, hj⟩⟩
  | «at» h hp hq =>
    exact each1_in F n hF hro hn l sp sb _ _ T xs st J Jx hY W (h.no (Fr.of_below hW)) hsp' hsb' (Nat.lt_of_lt_of_le hlb hW.size) hq hb h0

theorem each_in (F : Fence) (n : Nat) (hF : F.fn 50) (hro : F.round = none) (a : Option Addr) (st : Int) (w : World) :
    CallsIn F n Tryd.prog 50 #[.pointer a, .int .i64 st] w fun e w' => e = .returned (.func (.func 56) #[] #[.pointer (some ⟨w.heap.size, 0, none⟩), .pointer (some ⟨w.heap.size + 1, 0, none⟩)]) ∧ w' = (w.alloc (.cells #[.pointer a] 52)).alloc (.cells #[.int .i64 st] 3) := by
  refine callsIn_of_wp Tryd.func50 rfl hF ?_ hro
  simp only [Tryd.ntmps50, List.size_toArray, List.length_cons, List.length_nil, Nat.reduceAdd, Nat.reduceSub, Array.replicate_succ, Array.replicate_zero, List.push_toArray, List.append_toArray, List.nil_append, List.cons_append]
  gi_wp2
  go_ret
  exact ⟨by simp, rfl⟩
end Go.Proofs.YtopheimplclfcaaDoor
