/- spans: a set; takes; the search. -/
import Derived.Test.YtdehojhipiklmaaSpA
import Derived.Test.YtdehojhipiklmaaElems
namespace Go.Proofs.Ytdehojhipiklmaa
open Go.RowKit

def GoodB (l : List Sp) : Prop := Good l ∧ ∀ s ∈ l, s.1 + s.2 ≤ 1048576
theorem good_len : ∀ (l : List Sp) (b : Nat), Good l → (∀ s ∈ l, b ≤ s.1) → (∀ s ∈ l, s.1 + s.2 ≤ 1048576) → b ≤ 1048576 → b + l.length ≤ 1048576
  | [], b, _, _, _, h => by simpa using h
  | s :: l, b, hg, hb, hm, _ => by
    obtain ⟨h1, h2, h3⟩ := good_cons.1 hg
    have h4 := hb s (List.mem_cons_self ..)
    have h5 := hm s (List.mem_cons_self ..)
    have := good_len l (b + 1) h3 (fun t ht => by have := h2 t ht; omega) (fun t ht => hm t (List.mem_cons_of_mem _ ht)) (by omega)
    rw [List.length_cons]; omega
theorem GoodB.len {l : List Sp} (h : GoodB l) : l.length ≤ 1048576 := by
  have := good_len l 0 h.1 (fun _ _ => Nat.zero_le _) h.2 (Nat.zero_le _)
  omega
/-- a set: its block p, its own blocks S -/
structure StV (w : World) (p : Nat) (S : Nat → Prop) (L : List Sp) (v : Value) : Prop where
  blk : w.heap[p]? = some (.cells #[v] 59 (0, 0))
  row : w.ownsRow 0 24 2 v L.length (L.flatMap spV)
  sp : S p
  sv : ∀ k, v.ownBlock = some k → S k
  lt : ∀ k, S k → k < w.heap.size
def St (w : World) (p : Nat) (S : Nat → Prop) (L : List Sp) : Prop := GoodB L ∧ ∃ v, StV w p S L v
theorem StV.fr {S T : Nat → Prop} {w w' : World} {p : Nat} {L : List Sp} {v : Value} (h : StV w p S L v) (f : Fr T w w') (hT : ∀ k, S k → ¬ T k) : StV w' p S L v :=
  ⟨(f.block p (lt_of_block h.blk) (hT p h.sp)).trans h.blk, own_frk h.row f (fun k hk => hT k (h.sv k hk)), h.sp, h.sv, fun k hk => f.lt (h.lt k hk)⟩
theorem St.fr {S T : Nat → Prop} {w w' : World} {p : Nat} {L : List Sp} (h : St w p S L) (f : Fr T w w') (hT : ∀ k, S k → ¬ T k) : St w' p S L := by
  obtain ⟨h1, v, h2⟩ := h
  exact ⟨h1, v, h2.fr f hT⟩
theorem St.no {S : Nat → Prop} {w w' : World} {p : Nat} {L : List Sp} (h : St w p S L) (f : Fr No w w') : St w' p S L := h.fr f (fun _ _ => id)
theorem St.lt {S : Nat → Prop} {w : World} {p : Nat} {L : List Sp} (h : St w p S L) : ∀ k, S k → k < w.heap.size := by
  obtain ⟨_, v, h⟩ := h; exact h.lt
theorem St.sp {S : Nat → Prop} {w : World} {p : Nat} {L : List Sp} (h : St w p S L) : S p := by
  obtain ⟨_, v, h⟩ := h; exact h.sp
/-- what a row holds, element by element -/
theorem own_elems {w : World} {base : Nat} {v : Value} {L : List Sp} (h : w.ownsRow base 24 2 v L.length (L.flatMap spV)) : ∃ a c, v = .slice a L.length c ∧ L.length ≤ c ∧ Elems spV 2 w a L := by
  rcases Nat.eq_zero_or_pos L.length with h0 | h0
  · obtain ⟨_, ⟨hv, hn⟩ | ⟨g, cap, cur, hv, hg, hb, h4, _⟩⟩ := h
    · exact ⟨none, 0, by rw [hv, hn], by omega, .inl (List.eq_nil_of_length_eq_zero h0)⟩
    · exact ⟨_, _, hv, h4, .inl (List.eq_nil_of_length_eq_zero h0)⟩
  · obtain ⟨g, cap, hv, hc, hg, _, _⟩ := own_at h (fun x _ => spV_len x) 0 h0
    refine ⟨_, _, hv, hc, .inr ⟨g, 0, rfl, hg, fun i j hi hj => ?_⟩⟩
    obtain ⟨g', cap', hv', _, _, hr, _⟩ := own_at h (fun x _ => spV_len x) i hi
    have e : g = g' := by rw [hv] at hv'; injection hv' with e; injection e with e; injection e
    subst e
    rw [Nat.zero_add]
    have hj2 : j < (spV L[i]).length := hj
    rw [hr j (spV L[i])[j] (List.getElem?_eq_getElem hj2)]
    simp [List.getD_eq_getElem?_getD, hj2]
theorem Elems.sp2 {w : World} {a : Option Addr} {L : List Sp} (h : Elems spV 2 w a L) (i : Nat) (hi : i < L.length) : ∃ b o, a = some ⟨b, o, none⟩ ∧ b < w.heap.size ∧ w.cell? ⟨b, o + i * 2, none⟩ = some (.int .i64 L[i].1) ∧ w.cell? ⟨b, o + i * 2 + 1, none⟩ = some (.int .i64 L[i].2) := by
  rcases h with h | ⟨b, o, e, hb, hc⟩
  · subst h; simp at hi
  · exact ⟨b, o, e, hb, hc i 0 hi (by omega), hc i 1 hi (by omega)⟩
theorem sp_takes_nil (w : World) (a n : Int) : Calls Try.prog 33 #[.pointer none, .agg #[.int .i64 a, .int .i64 n]] w fun e w' => e = .returned (.int .i64 2) ∧ Fr No w w' := by
  have HF := hid ((Fr.refl No w).alloc (.cells #[.int .i64 a, .int .i64 n] 24))
  go_enter Try.func33, Try.ntmps33
  go_wp2_with fail
  go_ret
  exact ⟨rfl, HF.out⟩
def takesE (a n : Int) : Int := if mayB a n = true then 0 else 10
theorem sp_takes (w : World) (p : Nat) (a n : Int) : Calls Try.prog 33 #[.pointer (some ⟨p, 0, none⟩), .agg #[.int .i64 a, .int .i64 n]] w fun e w' => e = .returned (.int .i64 (takesE a n)) ∧ Fr No w w' := by
  have hb := heap_new w (.cells #[.int .i64 a, .int .i64 n] 24)
  have HF := hid ((Fr.refl No w).alloc (.cells #[.int .i64 a, .int .i64 n] 24))
  have b0 := cell_blk hb 0
  have b1 := cell_blk hb 1
  simp only [List.getElem?_toArray, List.getElem?_cons_zero, List.getElem?_cons_succ] at b0 b1
  clear hb
  go_enter Try.func33, Try.ntmps33
  go_wp2_with fail
  refine (sp_may _ a n).mono ?_
  rintro e w1 ⟨rfl, hF⟩
  obtain ⟨b, hb⟩ : ∃ b, mayB a n = b := ⟨_, rfl⟩
  have HB := hid hb
  rw [hb]
  clear hb
  cases b
  all_goals
    go_wp2_with fail
    go_ret
    exact ⟨by unfold takesE; rw [HB.out]; rfl, HF.out.trans hF⟩
theorem sp_cmp (w : World) (s : Sp) (low : Int) (h1 : s.1 + s.2 ≤ 1048576) (h2 : -1 ≤ low) (h3 : low ≤ 1048576) : Calls Try.prog 37 #[.agg #[.int .i64 s.1, .int .i64 s.2], .int .i64 low] w fun e w' => e = .returned (.int .i64 (s.1 + s.2 - 1 - low)) ∧ Fr No w w' := by
  obtain ⟨a, n⟩ := s
  have hb := heap_new w (.cells #[.int .i64 a, .int .i64 n] 24)
  have HF := hid ((Fr.refl No w).alloc (.cells #[.int .i64 a, .int .i64 n] 24))
  have b0 := cell_blk hb 0
  have b1 := cell_blk hb 1
  simp only [List.getElem?_toArray, List.getElem?_cons_zero, List.getElem?_cons_succ] at b0 b1
  have hh1 : (a : Int) + (n : Int) ≤ 1048576 := by have : a + n ≤ 1048576 := h1; omega
  clear hb h1
  go_enter Try.func37, Try.ntmps37
  go_wp2_with fail
  go_ret
  exact ⟨by go_num, HF.out⟩
end Go.Proofs.Ytdehojhipiklmaa
