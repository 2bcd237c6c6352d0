/- forms: sizes and bounds -/
import Derived.Test.YtpifiamafgaadaaDoorFmMath
namespace Go.Proofs.YtpifiamafgaadaaDoor
open Go.RowKit
theorem ok_bounds {l : List NumI} (h : ∀ x ∈ l, 1 ≤ x.size ∧ x.size ≤ 7 ∧ 0 ≤ x.lo ∧ x.hi ≤ 9223372036854775807) (hok : okAll l = true) : ∀ x ∈ l, 1 ≤ x.size ∧ x.size ≤ 7 ∧ 0 ≤ x.n ∧ x.n ≤ 9223372036854775807 := fun x hx => by
  obtain ⟨h1, h2, h3, h4⟩ := h x hx
  have := List.all_eq_true.1 hok x hx
  simp only [NumI.ok, decide_eq_true_eq] at this
  exact ⟨h1, h2, by omega, by omega⟩
/-- what holds of sizes and bounds -/
def Fine (l : List NumI) : Prop := ∀ x ∈ l, 1 ≤ x.size ∧ x.size ≤ 7 ∧ 0 ≤ x.lo ∧ x.hi < 256 ^ x.size
def Mild (l : List NumI) : Prop := ∀ x ∈ l, 1 ≤ x.size ∧ x.size ≤ 7 ∧ 0 ≤ x.lo ∧ x.hi ≤ 9223372036854775807
theorem fine_cons {x : NumI} {l : List NumI} (h : 1 ≤ x.size ∧ x.size ≤ 7 ∧ 0 ≤ x.lo ∧ x.hi < 256 ^ x.size) (hl : Fine l) : Fine (x :: l) := List.forall_mem_cons.2 ⟨h, hl⟩
theorem fine_app {l r : List NumI} (hl : Fine l) (hr : Fine r) : Fine (l ++ r) := fun x hx => (List.mem_append.1 hx).elim (hl x) (hr x)
theorem mild_cons {x : NumI} {l : List NumI} (h : 1 ≤ x.size ∧ x.size ≤ 7 ∧ 0 ≤ x.lo ∧ x.hi ≤ 9223372036854775807) (hl : Mild l) : Mild (x :: l) := List.forall_mem_cons.2 ⟨h, hl⟩
theorem mild_app {l r : List NumI} (hl : Mild l) (hr : Mild r) : Mild (l ++ r) := fun x hx => (List.mem_append.1 hx).elim (hl x) (hr x)
theorem fine_nil : Fine [] := fun _ h => by cases h
theorem mild_nil : Mild [] := fun _ h => by cases h
theorem dec6 (a b : Int) (s : Nat) (h : (decide (1 ≤ s) && decide (s ≤ 7) && decide (0 ≤ a) && decide (b < 256 ^ s)) = true) : 1 ≤ s ∧ s ≤ 7 ∧ 0 ≤ a ∧ b < 256 ^ s := by
  simp only [Bool.and_eq_true, decide_eq_true_eq] at h
  exact ⟨h.1.1.1, h.1.1.2, h.1.2, h.2⟩
theorem fine_super (i b s j p g t : Int) : Fine (superN i b s j p g t) := by
  refine fine_cons (dec6 _ _ _ rfl) (fine_cons (dec6 _ _ _ rfl) (fine_cons (dec6 _ _ _ rfl) (fine_cons (dec6 _ _ _ rfl) (fine_cons (dec6 _ _ _ rfl) (fine_cons (dec6 _ _ _ rfl) (fine_cons (dec6 _ _ _ rfl) fine_nil))))))
theorem fine_ent (e : EntI) : Fine (entP e) := fine_cons (dec6 _ _ _ rfl) (fine_cons (dec6 _ _ _ rfl) (fine_cons (dec6 _ _ _ rfl) (fine_cons (dec6 _ _ _ rfl) fine_nil)))
theorem fine_rec (q l o : Int) (e : EntI) : Fine (recP q l o e) := fine_app (fine_cons (dec6 _ _ _ rfl) (fine_cons (dec6 _ _ _ rfl) (fine_cons (dec6 _ _ _ rfl) fine_nil))) (fine_ent e)
theorem fine_page (q n o m : Int) (e0 e1 e2 e3 : EntI) : Fine (pageP q n o m e0 e1 e2 e3) := fine_app (fine_app (fine_app (fine_app (fine_cons (dec6 _ _ _ rfl) (fine_cons (dec6 _ _ _ rfl) (fine_cons (dec6 _ _ _ rfl) (fine_cons (dec6 _ _ _ rfl) fine_nil)))) (fine_ent e0)) (fine_ent e1)) (fine_ent e2)) (fine_ent e3)
theorem pow256 (s : Nat) (h : s ≤ 7) : (256 : Int) ^ s ≤ 9223372036854775807 := by
  have := Nat.pow_le_pow_right (show 0 < 256 by omega) h
  have h2 : ((256 ^ s : Nat) : Int) = (256 : Int) ^ s := by simp
  have h3 : (256 : Nat) ^ 7 = 72057594037927936 := by decide
  omega
theorem Fine.mild {l : List NumI} (h : Fine l) : Mild l := fun x hx => by
  obtain ⟨h1, h2, h3, h4⟩ := h x hx
  have := pow256 x.size h2
  exact ⟨h1, h2, h3, by omega⟩
theorem mild_entR (e : EntI) (z : Bool) : Mild (entR e z) := by
  cases z
  · exact (fine_ent e).mild
  · exact mild_cons ⟨by show 1 ≤ 2; omega, by show 2 ≤ 7; omega, by show (0 : Int) ≤ 0; omega, by show (0 : Int) ≤ 9223372036854775807; omega⟩ (mild_cons ⟨by show 1 ≤ 2; omega, by show 2 ≤ 7; omega, by show (0 : Int) ≤ 0; omega, by show (0 : Int) ≤ 9223372036854775807; omega⟩ (mild_cons ⟨by show 1 ≤ 1; omega, by show 1 ≤ 7; omega, by show (0 : Int) ≤ 0; omega, by show (0 : Int) ≤ 9223372036854775807; omega⟩ (mild_cons ⟨by show 1 ≤ 4; omega, by show 4 ≤ 7; omega, by show (0 : Int) ≤ 0; omega, by show (0 : Int) ≤ 9223372036854775807; omega⟩ mild_nil)))
theorem mild_rec (q l o : Int) (e : EntI) : Mild (recR q l o e) := by
  unfold recR
  refine mild_app (Fine.mild (fine_cons (dec6 _ _ _ rfl) (fine_cons (dec6 _ _ _ rfl) (fine_cons (dec6 _ _ _ rfl) fine_nil)))) ?_
  split
  · have h := mild_entR e true
    have h0 := fine_ent e
    intro x hx
    rcases List.mem_cons.1 hx with rfl | hx
    · exact (h0.mild) _ (List.mem_cons_self ..)
    · exact h x (List.mem_cons_of_mem _ hx)
  · exact (fine_ent e).mild
theorem mild_page (q n o m h : Int) (hh : h ≤ 9223372036854775807) (e0 e1 e2 e3 : EntI) : Mild (pageR q n o m h e0 e1 e2 e3) := by
  unfold pageR
  refine mild_app (mild_app (mild_app (mild_app (mild_cons ⟨by show 1 ≤ 6; omega, by show 6 ≤ 7; omega, by show (0 : Int) ≤ 0; omega, by show (1099511627776 : Int) ≤ 9223372036854775807; omega⟩ (mild_cons ⟨by show 1 ≤ 2; omega, by show 2 ≤ 7; omega, by show (0 : Int) ≤ 0; omega, hh⟩ (Fine.mild (fine_cons (dec6 _ _ _ rfl) (fine_cons (dec6 _ _ _ rfl) fine_nil))))) ?_) ?_) ?_) ?_ <;> exact mild_entR _ _
end Go.Proofs.YtpifiamafgaadaaDoor
