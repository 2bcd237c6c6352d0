/- Devices in memory: the program's, and the reference's, which have the same shape. -/
import Derived.Test.YtcdchojdkdimbaaBk
import Derived.Test.YtcdchojdkdimbaaElems
import Derived.WalkMore
import Derived.Deep.LoopGhost
import Derived.BigQuiet
import Derived.Deep.QuietTactic
import Derived.WalkLawsBesides
namespace Go.Proofs.Ytcdchojdkdimbaa
open Go.RowKit

/-- a device: firm sectors, open writes, fates -/
structure DM where
  firm : List (List Nat)
  opn : List (Nat × List Nat)
  plan : List Nat
def wk (x : Nat × List Nat) : List Value := .int .i64 x.1 :: bk x.2
def nv (x : Nat) : Value := .int .i64 x
structure DOk (D : DM) : Prop where
  lo : 1 ≤ D.firm.length
  hi : D.firm.length ≤ 4096
  firm : ∀ b ∈ D.firm, (bk b).length = 64
  at_ : ∀ x ∈ D.opn, x.1 < D.firm.length
  opn : ∀ x ∈ D.opn, (wk x).length = 65
  plan : ∀ f ∈ D.plan, f ≤ 2
/-- a slice of numbers, maybe behind its block's head -/
def OffN (w : World) (v : Value) (l : List Nat) : Prop :=
  (v = .slice none 0 0 ∧ l = []) ∨ ∃ g o cap cs, v = .slice (some ⟨g, o, none⟩) l.length cap ∧ w.heap[g]? = some (.cells cs 3 (0, 0)) ∧ o + cap ≤ cs.size ∧ l.length ≤ cap ∧ ∀ j (hj : j < l.length), cs[o + j]? = some (nv l[j])
theorem OffN.fr {w w' : World} {v : Value} {l : List Nat} (h : OffN w v l) {S : Nat → Prop} (f : Fr S w w') (hS : ∀ k, v.ownBlock = some k → ¬ S k) : OffN w' v l := by
  rcases h with h | ⟨g, o, cap, cs, hv, hb, h4⟩
  · exact .inl h
  · exact .inr ⟨g, o, cap, cs, hv, (f.block g (lt_of_block hb) (hS g (by rw [hv]; rfl))).trans hb, h4⟩
theorem OffN.form {w : World} {v : Value} {l : List Nat} (h : OffN w v l) : ∃ a c, v = .slice a l.length c := by
  rcases h with ⟨rfl, rfl⟩ | ⟨g, o, cap, cs, rfl, _⟩
  · exact ⟨_, _, rfl⟩
  · exact ⟨_, _, rfl⟩
theorem OffN.ty {w : World} {r : Nat} {v : Value} {l : List Nat} (h : OffN w v l) (hr : v.ownBlock = some r) : ∃ cs, w.heap[r]? = some (.cells cs 3 (0, 0)) := by
  rcases h with ⟨rfl, _⟩ | ⟨g, o, cap, cs, rfl, hb, _⟩
  · simp [Value.ownBlock] at hr
  · have e : g = r := by simpa [Value.ownBlock] using hr
    subst e
    exact ⟨cs, hb⟩
theorem OffN.own {w : World} {b2 : Nat} {v : Value} {l : List Nat} (h : w.ownsRow b2 3 1 v l.length (l.map nv)) : OffN w v l := by
  obtain ⟨_, ⟨hv, hn⟩ | ⟨g, cap, cur, hv, hg, hb2, h4, h5, h6, h7⟩⟩ := h
  · exact .inl ⟨hv, List.eq_nil_of_length_eq_zero hn⟩
  · refine .inr ⟨g, 0, cap, cur, hv, hb2, by omega, h4, fun j hj => ?_⟩
    rw [Nat.mul_one] at h7
    have h8 : (cur.toList.take l.length)[j]? = (l.map nv)[j]? := by rw [h7]
    rw [List.getElem?_take, if_pos hj, List.getElem?_map, List.getElem?_eq_getElem hj] at h8
    rw [Nat.zero_add]; simpa using h8

structure DvV (tD tW : TypeId) (w : World) (p : Nat) (S : Nat → Prop) (D : DM) (vF vO vP : Value) : Prop where
  blk : w.heap[p]? = some (.cells #[vF, vO, vP] tD (0, 0))
  firm : w.ownsRow 0 42 64 vF D.firm.length (D.firm.flatMap bk)
  opn : w.ownsRow 0 tW 65 vO D.opn.length (D.opn.flatMap wk)
  plan : OffN w vP D.plan
  sp : S p
  sF : ∀ k, vF.ownBlock = some k → S k
  sO : ∀ k, vO.ownBlock = some k → S k
  sP : ∀ k, vP.ownBlock = some k → S k
  lt : ∀ k, S k → k < w.heap.size
def Dv (tD tW : TypeId) (w : World) (p : Nat) (S : Nat → Prop) (D : DM) : Prop := DOk D ∧ ∃ vF vO vP, DvV tD tW w p S D vF vO vP
theorem DvV.fr {tD tW : TypeId} {S T : Nat → Prop} {w w' : World} {p : Nat} {D : DM} {vF vO vP : Value} (h : DvV tD tW w p S D vF vO vP) (f : Fr T w w') (hT : ∀ k, S k → ¬ T k) : DvV tD tW w' p S D vF vO vP :=
  ⟨(f.block p (lt_of_block h.blk) (hT p h.sp)).trans h.blk, own_frk h.firm f (fun k hk => hT k (h.sF k hk)), own_frk h.opn f (fun k hk => hT k (h.sO k hk)), h.plan.fr f (fun k hk => hT k (h.sP k hk)), h.sp, h.sF, h.sO, h.sP, fun k hk => f.lt (h.lt k hk)⟩
theorem Dv.fr {tD tW : TypeId} {S T : Nat → Prop} {w w' : World} {p : Nat} {D : DM} (h : Dv tD tW w p S D) (f : Fr T w w') (hT : ∀ k, S k → ¬ T k) : Dv tD tW w' p S D := by
  obtain ⟨h0, vF, vO, vP, h⟩ := h
  exact ⟨h0, vF, vO, vP, h.fr f hT⟩
theorem Dv.no {tD tW : TypeId} {S : Nat → Prop} {w w' : World} {p : Nat} {D : DM} (h : Dv tD tW w p S D) (f : Fr No w w') : Dv tD tW w' p S D := h.fr f (fun _ _ => id)
theorem Dv.lt {tD tW : TypeId} {S : Nat → Prop} {w : World} {p : Nat} {D : DM} (h : Dv tD tW w p S D) : ∀ k, S k → k < w.heap.size := by
  obtain ⟨_, vF, vO, vP, h⟩ := h
  exact h.lt
theorem Dv.sp {tD tW : TypeId} {S : Nat → Prop} {w : World} {p : Nat} {D : DM} (h : Dv tD tW w p S D) : S p := by
  obtain ⟨_, vF, vO, vP, h⟩ := h
  exact h.sp
/-- what a call may add to a device's blocks: new ones -/
def More (w w' : World) (S S' : Nat → Prop) : Prop := (∀ k, S' k → S k ∨ w.heap.size ≤ k) ∧ ∀ k, S' k → k < w'.heap.size
/-- blocks of two types are two -/
theorem ne_ty {w : World} {a b : Nat} {t u : TypeId} {x y : Array Value} (ha : w.heap[a]? = some (.cells x t (0, 0))) (hb : w.heap[b]? = some (.cells y u (0, 0))) (h : t ≠ u) : a ≠ b := by
  rintro rfl
  rw [ha] at hb
  injection hb with hb
  injection hb with _ ht _
  exact h ht
abbrev PD := Dv 62 68
abbrev RD := Dv 39 70

theorem blk_info : (Try.prog.info? 42).map (fun i => (i.zero, i.size, i.bytes)) = some (some (.agg (blkA zeros)), 64, 64) := by kernel_rfl
theorem wr_info : (Try.prog.info? 68).map (fun i => (i.zero, i.size, i.bytes)) = some (some (.agg (wk (0, zeros)).toArray), 65, 72) := by kernel_rfl
theorem Wr_info : (Try.prog.info? 70).map (fun i => (i.zero, i.size, i.bytes)) = some (some (.agg (wk (0, zeros)).toArray), 65, 72) := by kernel_rfl
theorem int_info : (Try.prog.info? 3).map (fun i => (i.zero, i.size, i.bytes)) = some (some (.int .i64 0), 1, 8) := by kernel_rfl
theorem made_zeros (n : Nat) : (madeCells (blkA zeros) (n * 64)).toList = (List.replicate n zeros).flatMap bk := by
  have hl : ((List.replicate n zeros).flatMap bk).length = n * 64 := by
    rw [flat_len bk 64 _ (fun x hx => by rw [List.eq_of_mem_replicate hx, bk_len, zeros_len]), List.length_replicate]
  apply List.ext_getElem?
  intro j
  by_cases hj : j < n * 64
  · have h1 := flat_get bk 64 (List.replicate n zeros) (fun x hx => by rw [List.eq_of_mem_replicate hx, bk_len, zeros_len]) (j / 64) (by rw [List.length_replicate]; omega) (j % 64) (Nat.mod_lt _ (by omega))
    rw [show j / 64 * 64 + j % 64 = j by omega] at h1
    rw [h1, List.getElem_replicate]
    have h2 : j % 64 < 64 := Nat.mod_lt _ (by omega)
    simp [madeCells, hj, blkA, bk, zeros, h2]
  · rw [List.getElem?_eq_none (by simp [size_madeCells]; omega), List.getElem?_eq_none (by rw [hl]; omega)]
theorem mk_blocks (n : Nat) (hn : n ≤ 4096) (W : World) : (Instr.makeSlice 35 (.int .i64 (n : Int)) (.int .i64 (n : Int))).run Try.prog W = .ok (.slice (some ⟨W.heap.size, 0, none⟩) n n) (W.alloc (.cells (madeCells (blkA zeros) (n * 64)) 42)) := by
  obtain ⟨i0, hi, hz0, hz1, hz2⟩ := info_parts blk_info
  have := run_make (P := Try.prog) W 35 42 i0 (.agg (blkA zeros)) Try.underlying35 hi hz0 .i64 .i64 (n : Int) (n : Int) (by omega) (by omega) (by rw [hz2]; omega) (by omega)
  rw [this, hz1]
  simp only [Int.toNat_natCast]
  rfl

theorem dv_New_bad (n : Int) (w : World) (h : n < 1 ∨ 4096 < n) : Calls Try.prog 11 #[.int .i64 n] w fun e w' => e = .returned (.tuple #[.pointer none, .int .i64 24]) ∧ w' = w := by
  rcases h with h | h
  all_goals
    go_enter Try.func11, Try.ntmps11
    go_wp2
    go_ret2
    exact ⟨rfl, rfl⟩
def newD (n : Nat) : DM := ⟨List.replicate n zeros, [], []⟩
theorem newD_ok (n : Nat) (h0 : 1 ≤ n) (h1 : n ≤ 4096) : DOk (newD n) :=
  ⟨by simpa [newD] using h0, by simpa [newD] using h1, fun b hb => by rw [List.eq_of_mem_replicate hb, bk_len, zeros_len], fun x hx => by simp [newD] at hx, fun x hx => by simp [newD] at hx, fun x hx => by simp [newD] at hx⟩
theorem dv_New_ok (n : Nat) (w : World) (h0 : 1 ≤ n) (h1 : n ≤ 4096) : Calls Try.prog 11 #[.int .i64 n] w fun e w' => ∃ p S, e = .returned (.tuple #[.pointer (some ⟨p, 0, none⟩), .int .i64 0]) ∧ PD w' p S (newD n) ∧ Fr No w w' ∧ ∀ k, S k → w.heap.size ≤ k := by
  have hmk := mk_blocks n (by omega)
  go_enter Try.func11, Try.ntmps11
  go_wp2
  go_ret2
  have hF := (((Fr.refl No w).alloc (.cells (madeCells (blkA zeros) (n * 64)) 42)).alloc (.cells #[.slice (some ⟨w.heap.size, 0, none⟩) n n, .slice none 0 0, .slice none 0 0] 62))
  refine ⟨w.heap.size + 1, fun k => k = w.heap.size ∨ k = w.heap.size + 1, rfl, ⟨newD_ok n h0 h1, .slice (some ⟨w.heap.size, 0, none⟩) n n, .slice none 0 0, .slice none 0 0, ⟨?_, ?_, World.ownsRow_nil _ _ _ _, .inl ⟨rfl, rfl⟩, .inr rfl, fun k hk => ?_, fun k hk => ?_, fun k hk => ?_, fun k hk => ?_⟩⟩, hF, fun k hk => by omega⟩
  · have := heap_new (w.alloc (.cells (madeCells (blkA zeros) (n * 64)) 42)) (.cells #[.slice (some ⟨w.heap.size, 0, none⟩) n n, .slice none 0 0, .slice none 0 0] 62)
    simpa using this
  · have h := World.ownsRow_lit (base := 0) (e := 42) (size := 64) w (madeCells (blkA zeros) (n * 64)) n (by omega) (by unfold maxLen; omega) (size_madeCells _ _)
    rw [made_zeros] at h
    have := h.alloc (.cells #[.slice (some ⟨w.heap.size, 0, none⟩) n n, .slice none 0 0, .slice none 0 0] 62)
    simpa [newD] using this
  · left; simpa [Value.ownBlock] using hk.symm
  · simp [Value.ownBlock] at hk
  · simp [Value.ownBlock] at hk
  · simp; omega
end Go.Proofs.Ytcdchojdkdimbaa
