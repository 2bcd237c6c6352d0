/- What is put is taken: on lists. -/
import Derived.Test.YtopheimplclfcaaDoorFdParts
namespace Go.Proofs.YtopheimplclfcaaDoor
open Go.RowKit

def puts (xs : List (Int × Int)) : List Nat × Nat := xs.foldl (fun s x => putF s.1 s.2 x.1 x.2) ([], 0)
def conc (xs : List (Int × Int)) : List Nat := xs.flatMap fun x => digs x.2.toNat x.1.toNat
theorem puts_snoc (xs : List (Int × Int)) (x : Int × Int) : puts (xs ++ [x]) = putF (puts xs).1 (puts xs).2 x.1 x.2 := by simp [puts, List.foldl_append]
theorem conc_snoc (xs : List (Int × Int)) (x : Int × Int) : conc (xs ++ [x]) = conc xs ++ digs x.2.toNat x.1.toNat := by simp [conc, List.flatMap_append]
def Good (x : Int × Int) : Prop := 1 ≤ x.2 ∧ x.2 ≤ 7 ∧ 0 ≤ x.1 ∧ x.1.toNat < 256 ^ x.2.toNat
/-- a put without error -/
theorem putF_zero {l : List Nat} {e : Nat} {n s : Int} (h : (putF l e n s).2 = 0) : e = 0 ∧ Good (n, s) ∧ l.length + s.toNat ≤ 60 ∧ (putF l e n s).1 = l ++ digs s.toNat n.toNat := by
  unfold putF at h ⊢
  by_cases he : e ≠ 0
  · rw [if_pos he] at h; exact absurd h he
  rw [if_neg he] at h ⊢
  by_cases hs : s < 1 ∨ 7 < s
  · rw [if_pos hs] at h; cases h
  rw [if_neg hs] at h ⊢
  by_cases hn : n < 0 ∨ (n / 2 ^ (8 * s.toNat) != 0) = true
  · rw [if_pos hn] at h; cases h
  rw [if_neg hn] at h ⊢
  by_cases hf : 60 < l.length + s.toNat
  · rw [if_pos hf] at h; cases h
  rw [if_neg hf] at h ⊢
  have hn0 : 0 ≤ n := by have := fun h => hn (.inl h); omega
  refine ⟨by omega, ⟨by show 1 ≤ s; omega, by show s ≤ 7; omega, hn0, ?_⟩, by omega, rfl⟩
  obtain ⟨m, rfl⟩ := Int.eq_ofNat_of_zero_le hn0
  rw [← fits_iff]
  cases hb : (((m : Int).toNat : Int) / 2 ^ (8 * s.toNat) != 0)
  · rfl
  · exact absurd (.inr hb) hn
theorem puts_ok : ∀ (n : Nat) (xs : List (Int × Int)), xs.length = n → (puts xs).2 = 0 → (∀ x ∈ xs, Good x) ∧ (puts xs).1 = conc xs ∧ (conc xs).length ≤ 60
  | 0, xs, hl, _ => by
    rw [List.eq_nil_of_length_eq_zero hl]
    exact ⟨fun x hx => (by cases hx), rfl, by simp [conc]⟩
  | n + 1, xs, hl, h => by
    obtain ⟨ys, y, rfl⟩ : ∃ ys y, xs = ys ++ [y] := ⟨xs.dropLast, xs.getLast (by intro e; rw [e] at hl; cases hl), (List.dropLast_concat_getLast _).symm⟩
    rw [puts_snoc] at h ⊢
    obtain ⟨h0, hg, hl60, h1⟩ := putF_zero h
    obtain ⟨ih1, ih2, ih3⟩ := puts_ok n ys (by simpa using hl) h0
    refine ⟨fun x hx => ?_, by rw [h1, ih2, conc_snoc], by rw [conc_snoc, List.length_append, digs_len, ← ih2]; exact hl60⟩
    rcases List.mem_append.1 hx with hx | hx
    · exact ih1 x hx
    · rw [List.mem_singleton.1 hx]; exact hg
theorem sealB_pre (l : List Nat) (h : l.length ≤ 60) : (sealB (pad l)).take l.length = l := by
  have h1 : (sealB (pad l)).take 60 = (pad l).take 60 := sealB_take _ (pad_len l (by omega))
  have h2 : (sealB (pad l)).take l.length = ((sealB (pad l)).take 60).take l.length := by rw [List.take_take, Nat.min_eq_left h]
  rw [h2, h1, List.take_take, Nat.min_eq_left h]
  simp [pad]
/-- the k-th number is taken as it was put -/
theorem take_back (xs : List (Int × Int)) (hg : ∀ x ∈ xs, Good x) (hl : (conc xs).length ≤ 60) (k : Nat) (hk : k < xs.length) :
    takeF (sealB (pad (conc xs))) (conc (xs.take k)).length 0 xs[k].2 = (xs[k].1.toNat, (conc (xs.take (k + 1))).length, 0) := by
  have hx := hg xs[k] (List.getElem_mem hk)
  have hsn : conc (xs.take (k + 1)) = conc (xs.take k) ++ digs xs[k].2.toNat xs[k].1.toNat := by rw [List.take_succ_eq_append_getElem hk, conc_snoc]
  have hpre : conc xs = conc (xs.take (k + 1)) ++ conc (xs.drop (k + 1)) := by
    unfold conc; rw [← List.flatMap_append, List.take_append_drop]
  have hlk : (conc (xs.take (k + 1))).length ≤ 60 := by rw [hpre, List.length_append] at hl; omega
  rw [hsn, List.length_append, digs_len] at hlk ⊢
  unfold takeF
  rw [if_neg (by simp), if_neg (by have := hx.1; have := hx.2.1; omega), if_neg (by omega)]
  have hB := sealB_pre (conc xs) hl
  have hd : ((sealB (pad (conc xs))).drop (conc (xs.take k)).length).take xs[k].2.toNat = digs xs[k].2.toNat xs[k].1.toNat := by
    have e1 : ((sealB (pad (conc xs))).drop (conc (xs.take k)).length).take xs[k].2.toNat = (((sealB (pad (conc xs))).take (conc xs).length).drop (conc (xs.take k)).length).take xs[k].2.toNat := by
      rw [List.drop_take, List.take_take, Nat.min_eq_left]
      rw [hpre, hsn, List.length_append, List.length_append, digs_len]; omega
    rw [e1, hB, hpre, hsn, List.append_assoc, List.drop_left, List.take_left' (digs_len _ _)]
  rw [hd, numOf_digs _ _ hx.2.2.2]
theorem end_back (l : List Nat) (hl : l.length ≤ 60) : endF (sealB (pad l)) l.length 0 = 0 := by
  unfold endF
  rw [if_neg (by simp)]
  have : restB (sealB (pad l)) l.length = zeros := by
    unfold restB
    rw [sealB_take _ (pad_len l (by omega))]
    have e1 : ((pad l).take 60).drop l.length = List.replicate (60 - l.length) 0 := by
      rw [List.drop_take]; simp [pad]; omega
    rw [e1]
    simp only [zeros, List.take_replicate, List.drop_replicate, List.replicate_append_replicate]
    congr 1
    omega
  rw [this, beq_self_eq_true]; rfl
/-- what was read so far is what was written so far, as long as there is no error -/
def Follows (bs : List Nat) (at_ er : Nat) (l : List Nat) (ew : Nat) : Prop := er = 0 → ew = 0 ∧ l = bs.take at_
theorem follows_step (bs : List Nat) (hb : bs.length = 64) (hlt : ∀ x ∈ bs, x < 256) (at_ er : Nat) (hat : at_ ≤ 60) (l : List Nat) (ew : Nat) (s : Int) (h : Follows bs at_ er l ew) :
    Follows bs (takeF bs at_ er s).2.1 (takeF bs at_ er s).2.2 (putF l ew ((takeF bs at_ er s).1 : Nat) s).1 (putF l ew ((takeF bs at_ er s).1 : Nat) s).2 := by
  unfold takeF
  by_cases he : er ≠ 0
  · rw [if_pos he]; exact fun h => absurd h he
  rw [if_neg he]
  obtain ⟨rfl, hl⟩ := h (by omega)
  by_cases hs : s < 1 ∨ 7 < s
  · rw [if_pos hs]; exact fun h => by cases h
  rw [if_neg hs]
  by_cases hf : 60 < at_ + s.toNat
  · rw [if_pos hf]; exact fun h => by cases h
  rw [if_neg hf]
  obtain ⟨s, rfl⟩ := Int.eq_ofNat_of_zero_le (show 0 ≤ s by omega)
  simp only [Int.toNat_natCast] at hf ⊢
  have hll : l.length = at_ := by rw [hl, List.length_take]; omega
  have hnl : ((bs.drop at_).take s).length = s := by rw [List.length_take, List.length_drop]; omega
  have hnum := numOf_lt ((bs.drop at_).take s) (fun x hx => hlt x (List.mem_of_mem_drop (List.mem_of_mem_take hx)))
  rw [hnl] at hnum
  rw [putF_ok l _ s (by omega) (by omega) (by omega), if_pos hnum]
  refine fun _ => ⟨rfl, ?_⟩
  have hdn : ∀ (l : List Nat), (∀ x ∈ l, x < 256) → digs l.length (numOf l) = l := by
    intro l
    induction l with
    | nil => intro _; rfl
    | cons y l ih =>
      intro h
      have hy := h y (List.mem_cons_self ..)
      rw [List.length_cons, digs, numOf, show (y + 256 * numOf l) % 256 = y from by omega, show (y + 256 * numOf l) / 256 = numOf l from by omega, ih (fun x hx => h x (List.mem_cons_of_mem _ hx))]
  have hd := hdn ((bs.drop at_).take s) (fun x hx => hlt x (List.mem_of_mem_drop (List.mem_of_mem_take hx)))
  rw [hnl] at hd
  show l ++ digs s (numOf ((bs.drop at_).take s)) = _
  rw [hd, hl, List.take_add]
theorem takeF_at (bs : List Nat) (at_ er : Nat) (s : Int) (h : at_ ≤ 60) : (takeF bs at_ er s).2.1 ≤ 60 := by
  unfold takeF; repeat' split
  all_goals simp only; omega
theorem endF_zero {bs : List Nat} {at_ er : Nat} (h : endF bs at_ er = 0) : er = 0 ∧ restB bs at_ = zeros := by
  unfold endF at h
  by_cases he : er ≠ 0
  · rw [if_pos he] at h; omega
  rw [if_neg he] at h
  refine ⟨by omega, ?_⟩
  unfold formE at h
  cases hb : (restB bs at_ == zeros)
  · rw [hb] at h; cases h
  · exact eq_of_beq hb
/-- what is taken puts the same sector -/
theorem seal_back (bs : List Nat) (hb : bs.length = 64) (at_ er : Nat) (hat : at_ ≤ 60) (l : List Nat) (ew : Nat) (h : Follows bs at_ er l ew) (h1 : endF bs at_ er = 0) (h2 : sealB bs = bs) : sealF l ew = (bs, 0) := by
  obtain ⟨he, hr⟩ := endF_zero h1
  obtain ⟨rfl, hl⟩ := h he
  unfold sealF
  rw [if_pos rfl]
  have hll : l.length = at_ := by rw [hl, List.length_take]; omega
  have h60 : (pad l).take 60 = bs.take 60 := by
    have e1 : ((bs.take 60).drop at_) = List.replicate (60 - at_) 0 := by
      have := congrArg (fun z => (z.drop at_).take (60 - at_)) hr
      simp only [restB, zeros, List.take_replicate, List.drop_replicate] at this
      rw [List.append_assoc, List.drop_left' (by simp; omega), List.take_left' (by simp; omega)] at this
      rw [this]
      congr 1; omega
    have e2 : bs.take 60 = bs.take at_ ++ (bs.take 60).drop at_ := by
      conv => lhs; rw [← List.take_append_drop at_ (bs.take 60)]
      rw [List.take_take, Nat.min_eq_left hat]
    rw [e2, e1, ← hl]
    unfold pad
    rw [List.take_append, List.take_of_length_le (by omega), List.take_replicate, hll]
    congr 2; omega
  have h3 : sealB (pad l) = sealB bs := by unfold sealB; rw [h60]
  rw [h3, h2]
end Go.Proofs.YtopheimplclfcaaDoor
