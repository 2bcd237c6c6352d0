/- A slice of texts that came in; two rings of two kinds: what the law's loops keep. -/
import Derived.Test.YtndljmkdgakfcaaRkqO
import Derived.Test.YtndljmkdgakfcaaRkpD
import Derived.Test.YtndljmkdgakfcaaRgArgs
namespace Go.Proofs.Ytndljmkdgakfcaa
open Go.ChangeShapes Go.WideShapes Go.ChangeAt Go.RowKit

structure TRow where
  a : Option Addr
  cap : Nat
  ss : List ByteArray
abbrev TRow.v (r : TRow) : Value := .slice r.a r.ss.length r.cap
def TRow.Ok (w : World) (r : TRow) : Prop := Row w r.a (r.ss.map fun s => Value.string s)
theorem open_texts {H : Type} {enc : TypeId × Value → H} {W : World} {base : Nat} {v : Value} {d : DataW H} {ps : List MemPlace}
    (hval : Value.okWide Try.prog W .any base 44 v) (h : DataW.Trod enc Try.prog W 0 (fun _ => true) true 44 v d ps) : ∃ r : TRow, v = r.v ∧ r.Ok W := by
  obtain ⟨a, len, cap, rfl⟩ := okWide_slice Try.underlying44 hval
  obtain ⟨fuel, hf⟩ := h
  rcases Deep.open_strs Try.underlying44 Try.underlying9 (by kernel_rfl) hf with ⟨hcs, _⟩ | ⟨x, l, c, m, Sx, hcs, _, hl, hm, hmm, _, hel⟩
  · simp [Value.cells] at hcs
    obtain ⟨rfl, rfl, rfl⟩ := hcs
    exact ⟨⟨none, 0, []⟩, rfl, .inl rfl⟩
  · simp [Value.cells] at hcs
    obtain ⟨rfl, rfl, rfl⟩ := hcs
    simp only [if_true] at hmm
    subst hmm
    refine ⟨⟨some x, m, (List.range len).map Sx⟩, by simp [TRow.v], ?_⟩
    rcases Nat.eq_zero_or_pos len with h0 | h0
    · subst h0; exact .inl rfl
    · have hc0 := (hel 0 (by omega)).1
      obtain ⟨b, off, spot⟩ := x
      have hspot : spot = none := by simpa [Addr.add] using World.cell?_spot hc0
      subst hspot
      refine .inr ⟨b, off, rfl, lt_of_cell (p := ⟨b, off, none⟩) (by simpa [Addr.add] using hc0), fun i hi => ?_⟩
      have hi' : i < len := by simpa using hi
      have h1 := (hel i (by omega)).1
      rw [add_off] at h1
      rw [h1]
      simp [List.getD_eq_getElem?_getD, hi']
theorem Row.textAt {w : World} {a : Option Addr} {ss : List ByteArray} (h : Row w a (ss.map fun s => Value.string s)) (i : Nat) (hi : i < ss.length) : ∃ b o, a = some ⟨b, o, none⟩ ∧ b < w.heap.size ∧ w.cell? ⟨b, o + i, none⟩ = some (.string ss[i]) := by
  obtain ⟨b, o, e, hb, hc⟩ := h.at (i := i) (by simpa using hi)
  rw [getD_map (fun s => Value.string s) ss default i hi, show ss.getD i default = ss[i] from by simp [List.getD_eq_getElem?_getD, hi]] at hc
  exact ⟨b, o, e, hb, hc⟩

/-- the i-th pair of the texts -/
def nth (ss : List ByteArray) (i : Nat) : Int × ByteArray := ((i : Int), ss.getD i default)
def prs (ss : List ByteArray) (k : Nat) : List (Int × ByteArray) := (List.range k).map (nth ss)
theorem prs_succ (ss : List ByteArray) (k : Nat) : prs ss (k + 1) = prs ss k ++ [nth ss k] := by simp [prs, List.range_succ]
theorem prs_len (ss : List ByteArray) (k : Nat) : (prs ss k).length = k := by simp [prs]
def ptr (b : Nat) : Value := .pointer (some ⟨b, 0, none⟩)
/-- each pointer's block has its pair, and is newer than base -/
def Held (w : World) (base : Nat) (ss : List ByteArray) (bs : List Nat) : Prop :=
  ∀ i (hi : i < bs.length), base ≤ bs[i] ∧ w.heap[bs[i]]? = some (.cells #[.int .i64 (i : Int), .string (ss.getD i default)] 49 (0, 0))
theorem Held.fr {S : Nat → Prop} {w w' : World} {base : Nat} {ss : List ByteArray} {bs : List Nat} (h : Held w base ss bs) (f : Fr S w w') (hS : ∀ k, base ≤ k → ¬ S k) : Held w' base ss bs :=
  fun i hi => ⟨(h i hi).1, (f.block _ (lt_of_block (h i hi).2) (hS _ (h i hi).1)).trans (h i hi).2⟩
theorem Held.push {w : World} {base : Nat} {ss : List ByteArray} {bs : List Nat} (h : Held w base ss bs) (b : Nat) (hb : base ≤ b) (hc : w.heap[b]? = some (.cells #[.int .i64 (bs.length : Int), .string (ss.getD bs.length default)] 49 (0, 0))) : Held w base ss (bs ++ [b]) := by
  intro i hi
  rw [List.getElem_append]
  split
  · exact h i _
  · rename_i hlt
    have : i = bs.length := by simp at hi; omega
    subst this
    simpa using ⟨hb, hc⟩
/-- a slice of pairs of the call's own: its cells -/
theorem own_pairs {w : World} {base : Nat} {v : Value} {ss : List ByteArray} {n : Nat} (h : w.ownsRow base 49 2 v n ((prs ss n).flatMap pcs)) : (n = 0 ∧ v = .slice none 0 0) ∨ ∃ g cap cur, v = .slice (some ⟨g, 0, none⟩) n cap ∧ base ≤ g ∧ w.heap[g]? = some (.cells cur 49 (0, 0)) ∧ ∀ i, i < n → cur[i * 2]? = some (.int .i64 (i : Int)) ∧ cur[i * 2 + 1]? = some (.string (ss.getD i default)) := by
  obtain ⟨_, ⟨hv, hn⟩ | ⟨g, cap, cur, hv, hg, hb, h4, h5, h6, h7⟩⟩ := h
  · exact .inl ⟨hn, hv⟩
  · refine .inr ⟨g, cap, cur, hv, hg, hb, fun i hi => ?_⟩
    have key : ∀ m, i < m → ((prs ss m).flatMap pcs)[i * 2]? = some (.int .i64 (i : Int)) ∧ ((prs ss m).flatMap pcs)[i * 2 + 1]? = some (.string (ss.getD i default)) := by
      intro m
      induction m with
      | zero => intro h; omega
      | succ m ih =>
        intro h
        have hlen : ((prs ss m).flatMap pcs).length = 2 * m := by
          clear ih h
          induction m with
          | zero => rfl
          | succ m ih => rw [prs_succ, List.flatMap_append, List.length_append, ih]; simp [pcs]; omega
        rw [prs_succ, List.flatMap_append]
        by_cases hm : i < m
        · rw [List.getElem?_append_left (by omega), List.getElem?_append_left (by omega)]; exact ih hm
        · obtain rfl : i = m := by omega
          rw [List.getElem?_append_right (by omega), List.getElem?_append_right (by omega), hlen, show i * 2 - 2 * i = 0 by omega, show i * 2 + 1 - 2 * i = 1 by omega]
          exact ⟨rfl, rfl⟩
    have hk := key n hi
    rw [← h7] at hk
    rw [List.getElem?_take, List.getElem?_take, if_pos (by omega), if_pos (by omega)] at hk
    simpa using hk
theorem own_pairs2 {w : World} {base : Nat} {v : Value} {ss : List ByteArray} {n : Nat} (h : w.ownsRow base 49 2 v n ((prs ss n).flatMap pcs)) : ∃ av cv, v = .slice av n cv ∧ ∀ i, i < n → ∃ g, av = some ⟨g, 0, none⟩ ∧ base ≤ g ∧ g < w.heap.size ∧ w.cell? ⟨g, i * 2, none⟩ = some (.int .i64 (i : Int)) ∧ w.cell? ⟨g, i * 2 + 1, none⟩ = some (.string (ss.getD i default)) := by
  rcases own_pairs h with ⟨rfl, rfl⟩ | ⟨g, cap, cur, rfl, hg, hb, hc⟩
  · exact ⟨_, _, rfl, fun i hi => by omega⟩
  · exact ⟨_, _, rfl, fun i hi => ⟨g, rfl, hg, lt_of_block hb, by rw [cell_blk hb]; exact (hc i hi).1, by rw [cell_blk hb]; exact (hc i hi).2⟩⟩
end Go.Proofs.Ytndljmkdgakfcaa
