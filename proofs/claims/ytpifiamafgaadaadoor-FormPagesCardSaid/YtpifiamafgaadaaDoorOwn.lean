/- Slices of the call's own whose elements have some cells each (what is general in dev's Bk, DvK, Dv). -/
import Derived.Test.YtpifiamafgaadaaDoorSeq
import Derived.Test.YtpifiamafgaadaaDoorFrame
import Derived.Deep.MidRow
import Derived.Deep.WholeRow
import Derived.Deep.AppendLies
import Derived.Laws.ResultCell
import Derived.Laws.OwnMore
import Derived.Laws.MakeOwn
import Derived.ArgAppend
import Derived.Lib.JoinLaws
namespace Go.Proofs.YtpifiamafgaadaaDoor
open Go.RowKit

theorem Fr.setRow {S : Nat → Prop} {a w : World} (h : Fr S a w) (g : Nat) (cs : Array Value) (hg : g < a.heap.size → S g) : Fr S a (w.setRow g cs) :=
  h.then (T := fun k => k = g) ⟨rfl, rfl, rfl, by simp, fun k _ hs => setRow_other w g k cs hs⟩ (fun i hi e => by subst e; exact hg hi)
/-! Rows of elements of z cells each -/
section
variable {α : Type}
theorem flat_len (f : α → List Value) (z : Nat) : ∀ (l : List α), (∀ x ∈ l, (f x).length = z) → (l.flatMap f).length = l.length * z
  | [], _ => by simp
  | x :: l, h => by
    rw [List.flatMap_cons, List.length_append, h x (List.mem_cons_self ..), flat_len f z l (fun y hy => h y (List.mem_cons_of_mem _ hy)), List.length_cons, Nat.succ_mul]; omega
theorem flat_get (f : α → List Value) (z : Nat) : ∀ (l : List α), (∀ x ∈ l, (f x).length = z) → ∀ (i : Nat) (hi : i < l.length) (j : Nat), j < z → (l.flatMap f)[i * z + j]? = (f l[i])[j]?
  | [], _, i, hi, _, _ => absurd hi (by simp)
  | x :: l, h, 0, _, j, hj => by
    rw [List.flatMap_cons, Nat.zero_mul, Nat.zero_add, List.getElem?_append_left (by rw [h x (List.mem_cons_self ..)]; exact hj)]; rfl
  | x :: l, h, i + 1, hi, j, hj => by
    have hx := h x (List.mem_cons_self ..)
    rw [List.flatMap_cons, List.getElem?_append_right (by rw [hx, Nat.succ_mul]; omega), hx, show (i + 1) * z + j - z = i * z + j by rw [Nat.succ_mul]; omega]
    exact flat_get f z l (fun y hy => h y (List.mem_cons_of_mem _ hy)) i (by simpa using hi) j hj
def setsL : List Value → Nat → List Value → List Value
  | xs, _, [] => xs
  | xs, o, v :: r => setsL (xs.set o v) (o + 1) r
theorem setsL_eq : ∀ (vs xs : List Value) (o : Nat), o + vs.length ≤ xs.length → setsL xs o vs = xs.take o ++ vs ++ xs.drop (o + vs.length)
  | [], xs, o, h => by simp [setsL]
  | v :: r, xs, o, h => by
    rw [List.length_cons] at h
    rw [setsL, setsL_eq r (xs.set o v) (o + 1) (by simpa using (by omega)), List.take_succ_eq_append_getElem (by simp; omega), List.take_set_of_le (Nat.le_refl _), List.getElem_set_self, List.drop_set_of_lt (by omega)]
    simp [Nat.add_assoc, Nat.add_comm 1]
theorem flat_set (f : α → List Value) (z : Nat) (b : α) (hb : (f b).length = z) : ∀ (l : List α), (∀ x ∈ l, (f x).length = z) → ∀ (i : Nat), i < l.length → setsL (l.flatMap f) (i * z) (f b) = (l.set i b).flatMap f := by
  intro l h i hi
  rw [setsL_eq _ _ _ (by rw [flat_len f z l h, hb]; have := Nat.mul_le_mul_right z (show i + 1 ≤ l.length by omega); rw [Nat.succ_mul] at this; exact this), hb]
  induction l generalizing i with
  | nil => exact absurd hi (by simp)
  | cons x l ih =>
    have hx := h x (List.mem_cons_self ..)
    cases i with
    | zero => rw [List.set_cons_zero, List.flatMap_cons, List.flatMap_cons, Nat.zero_mul, Nat.zero_add, List.take_zero, List.nil_append, ← hx, List.drop_left]
    | succ i =>
      rw [List.set_cons_succ, List.flatMap_cons, List.flatMap_cons, ← ih (fun y hy => h y (List.mem_cons_of_mem _ hy)) i (by simpa using hi)]
      have e1 : (i + 1) * z = (f x).length + i * z := by rw [hx, Nat.succ_mul]; omega
      rw [e1, List.take_length_add_append, show (f x).length + i * z + z = (f x).length + (i * z + z) by omega, List.drop_length_add_append]
      simp
theorem own_frk {S : Nat → Prop} {w w' : World} {base n z : Nat} {e : TypeId} {v : Value} {xs : List Value} (h : w.ownsRow base e z v n xs) (f : Fr S w w') (hS : ∀ k, v.ownBlock = some k → ¬ S k) : w'.ownsRow base e z v n xs := by
  obtain ⟨h1, h2 | ⟨g, cap, cur, hv, hg, hb, h3⟩⟩ := h
  · exact ⟨h1, .inl h2⟩
  · exact ⟨h1, .inr ⟨g, cap, cur, hv, hg, (f.block g (lt_of_block hb) (hS g (by rw [hv]; rfl))).trans hb, h3⟩⟩
theorem own_form {w : World} {base n z : Nat} {e : TypeId} {v : Value} {xs : List Value} (h : w.ownsRow base e z v n xs) : ∃ a cap, v = .slice a n cap := by
  obtain ⟨_, ⟨hv, hn⟩ | ⟨g, cap, cur, hv, _⟩⟩ := h
  · exact ⟨none, 0, by rw [hv, hn]⟩
  · exact ⟨_, _, hv⟩
theorem own_ty {w : World} {base n z g : Nat} {e : TypeId} {v : Value} {xs : List Value} (h : w.ownsRow base e z v n xs) (hv : v.ownBlock = some g) : ∃ cs, w.heap[g]? = some (.cells cs e (0, 0)) := by
  obtain ⟨_, ⟨h1, _⟩ | ⟨g', cap, cur, h1, hg, hb, h3⟩⟩ := h
  · rw [h1] at hv; simp [Value.ownBlock] at hv
  · rw [h1] at hv
    have : g' = g := by simpa [Value.ownBlock] using hv
    subst this
    exact ⟨cur, hb⟩
/-- the i-th element's cells -/
theorem own_at {w : World} {base z : Nat} {e : TypeId} {v : Value} {l : List α} {f : α → List Value} (h : w.ownsRow base e z v l.length (l.flatMap f)) (hf : ∀ x ∈ l, (f x).length = z) (i : Nat) (hi : i < l.length) :
    ∃ g cap, v = .slice (some ⟨g, 0, none⟩) l.length cap ∧ l.length ≤ cap ∧ g < w.heap.size ∧ w.rangeAt g (i * z) (f l[i]) ∧ w.there g (i * z) z := by
  obtain ⟨h1, ⟨_, h2⟩ | ⟨g, cap, cur, hv, hg, hb, h4, h5, h6, h7⟩⟩ := h
  · omega
  · have key : ∀ j, j < z → cur[i * z + j]? = (f l[i])[j]? := fun j hj => by
      rw [← flat_get f z l hf i hi j hj, ← h7, List.getElem?_take, if_pos (by have := Nat.mul_le_mul_right z (show i + 1 ≤ l.length by omega); rw [Nat.succ_mul] at this; omega)]
      simp
    refine ⟨g, cap, hv, h4, lt_of_block hb, fun j u hu => ?_, fun j hj => ⟨?_, free_blk hb _⟩⟩
    · have hj : j < z := by have := (List.getElem?_eq_some_iff.1 hu).1; rwa [hf _ (List.getElem_mem hi)] at this
      rw [cell_blk hb, key j hj, hu]
    · rw [cell_blk hb, key j hj, List.getElem?_eq_getElem (by rw [hf _ (List.getElem_mem hi)]; exact hj)]; rfl
theorem own_sets {base n z g cap : Nat} {e : TypeId} : ∀ (vs : List Value) (o : Nat) (w : World) (xs : List Value), w.ownsRow base e z (.slice (some ⟨g, 0, none⟩) n cap) n xs →
    (w.setCells g o vs).ownsRow base e z (.slice (some ⟨g, 0, none⟩) n cap) n (setsL xs o vs) ∧ Fr (fun k => k = g) w (w.setCells g o vs)
  | [], _, w, xs, h => ⟨h, Fr.refl _ w⟩
  | v :: r, o, w, xs, h => by
    obtain ⟨h1, h2⟩ := own_sets r (o + 1) _ _ (h.stored o v).1
    exact ⟨h1, (Fr.set1 w g o v).trans h2⟩
/-- the i-th element is another one -/
theorem own_set {w : World} {base z g cap : Nat} {e : TypeId} {l : List α} {f : α → List Value} (h : w.ownsRow base e z (.slice (some ⟨g, 0, none⟩) l.length cap) l.length (l.flatMap f)) (hf : ∀ x ∈ l, (f x).length = z) (b : α) (hb : (f b).length = z) (i : Nat) (hi : i < l.length) :
    (w.setCells g (i * z) (f b)).ownsRow base e z (.slice (some ⟨g, 0, none⟩) (l.set i b).length cap) (l.set i b).length ((l.set i b).flatMap f) ∧ Fr (fun k => k = g) w (w.setCells g (i * z) (f b)) := by
  have := own_sets (f b) (i * z) w _ h
  rw [flat_set f z b hb l hf i hi] at this
  rw [List.length_set]
  exact this
end
theorem info_parts {P : Program} {t : TypeId} {z : Value} {n m : Nat} (h : (P.info? t).map (fun i => (i.zero, i.size, i.bytes)) = some (some z, n, m)) : ∃ i, P.info? t = some i ∧ i.zero = some z ∧ i.size = n ∧ i.bytes = m := by
  obtain ⟨i, hi, he⟩ := Option.map_eq_some_iff.1 h
  simp only [Prod.mk.injEq] at he
  exact ⟨i, hi, he.1, he.2.1, he.2.2⟩
theorem own_ge2 {w : World} {base n z r : Nat} {e : TypeId} {v : Value} {xs : List Value} (h : w.ownsRow base e z v n xs) (hr : v.ownBlock = some r) : base ≤ r := (h.lt r hr).1
theorem own_mono {w : World} {base n z : Nat} {e : TypeId} {v : Value} {xs : List Value} (h : w.ownsRow base e z v n xs) : w.ownsRow 0 e z v n xs := by
  obtain ⟨h1, h2 | ⟨g, cap, cur, hv, hg, h3⟩⟩ := h
  · exact ⟨h1, .inl h2⟩
  · exact ⟨h1, .inr ⟨g, cap, cur, hv, Nat.zero_le _, h3⟩⟩
theorem flat_one {α : Type} {f : α → List Value} (hf : ∀ x, ∀ u ∈ f x, u.oneCell' = true) (l : List α) : ∀ u ∈ l.flatMap f, u.oneCell' = true := fun u hu => by
  obtain ⟨x, _, hx⟩ := List.mem_flatMap.1 hu
  exact hf x u hx
theorem ne_ty {w : World} {a b : Nat} {t u : TypeId} {x y : Array Value} (ha : w.heap[a]? = some (.cells x t (0, 0))) (hb : w.heap[b]? = some (.cells y u (0, 0))) (h : t ≠ u) : a ≠ b := by
  rintro rfl
  rw [ha] at hb
  injection hb with hb
  injection hb with _ ht _
  exact h ht
theorem grown_fr {w w' : World} {v : Value} (g : w.grownBy w' v.ownBlock) : Fr (fun k => v.ownBlock = some k) w w' := (Fr.refl (fun k => v.ownBlock = some k) w).grown g (fun k e _ => e)

end Go.Proofs.YtpifiamafgaadaaDoor
