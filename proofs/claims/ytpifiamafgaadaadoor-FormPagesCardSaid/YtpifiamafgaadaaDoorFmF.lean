/- field, for a seat that has no Reader.End: what the calls do, said as functions (as FdF, FdParts). -/
import Derived.Test.YtpifiamafgaadaaDoorFdRead
namespace Go.Proofs.YtpifiamafgaadaaDoor
open Go.RowKit

/-- a writer that has written l, or its error -/
structure Wr (w : World) (p : Nat) (l : List Nat) (e : Nat) : Prop where
  at_ : WrAt w p (pad l) l.length e
  lt : ∀ x ∈ l, x < 256
theorem Wr.fr {S : Nat → Prop} {w w' : World} {p e : Nat} {l : List Nat} (h : Wr w p l e) (f : Fr S w w') (hp : ¬ S p) : Wr w' p l e := ⟨h.at_.fr f hp, h.lt⟩
theorem Wr.no {w w' : World} {p e : Nat} {l : List Nat} (h : Wr w p l e) (f : Fr No w w') : Wr w' p l e := h.fr f id
theorem Wr.len {w : World} {p e : Nat} {l : List Nat} (h : Wr w p l e) : l.length ≤ 60 := h.at_.room
def putF (l : List Nat) (e : Nat) (n s : Int) : List Nat × Nat :=
  if e ≠ 0 then (l, e) else if s < 1 ∨ 7 < s then (l, 1) else if n < 0 ∨ (n / 2 ^ (8 * s.toNat) != 0) = true then (l, 11)
  else if 60 < l.length + s.toNat then (l, 17) else (l ++ digs s.toNat n.toNat, 0)
theorem fd_Put (w : World) (p e : Nat) (l : List Nat) (n s : Int) (h : Wr w p l e) : Calls Tryd.prog 28 #[.pointer (some ⟨p, 0, none⟩), .int .i64 n, .int .i64 s] w fun r w' =>
    r = .returned (.pointer (some ⟨p, 0, none⟩)) ∧ Wr w' p (putF l e n s).1 (putF l e n s).2 ∧ Fr (fun k => k = p) w w' := by
  unfold putF
  by_cases he : e ≠ 0
  · rw [if_pos he]
    refine (fd_put_err w p _ e _ n s h.at_ (by omega)).mono ?_
    rintro r w' ⟨rfl, hF⟩
    exact ⟨rfl, h.no hF, hF.mono (fun i _ e => e.elim)⟩
  · rw [if_neg he]
    obtain rfl : e = 0 := by omega
    by_cases hs : s < 1 ∨ 7 < s
    · rw [if_pos hs]
      refine (fd_put_arg w p _ _ n s h.at_ hs).mono ?_
      rintro r w' ⟨rfl, hW, hF⟩
      exact ⟨rfl, ⟨hW, h.lt⟩, hF⟩
    · rw [if_neg hs]
      obtain ⟨s, rfl⟩ := Int.eq_ofNat_of_zero_le (show 0 ≤ s by omega)
      rw [Int.toNat_natCast]
      by_cases hn : n < 0 ∨ (n / 2 ^ (8 * s) != 0) = true
      · rw [if_pos hn]
        refine (fd_put_over w p _ s _ n h.at_ (by omega) (by omega) hn).mono ?_
        rintro r w' ⟨rfl, hW, hF⟩
        exact ⟨rfl, ⟨hW, h.lt⟩, hF⟩
      · rw [if_neg hn]
        have hn0 : 0 ≤ n := by have := fun h => hn (.inl h); omega
        have hn1 : (n / 2 ^ (8 * s) != 0) = false := by
          cases hb : (n / 2 ^ (8 * s) != 0)
          · rfl
          · exact absurd (.inr hb) hn
        by_cases hf : 60 < l.length + s
        · rw [if_pos hf]
          refine (fd_put_full w p _ s _ n h.at_ (by omega) (by omega) hn0 hn1 hf).mono ?_
          rintro r w' ⟨rfl, hW, hF⟩
          exact ⟨rfl, ⟨hW, h.lt⟩, hF⟩
        · rw [if_neg hf]
          obtain ⟨n, rfl⟩ := Int.eq_ofNat_of_zero_le hn0
          refine (fd_put_ok w p s l n h.at_ (by omega) (by omega) hn1 (by omega)).mono ?_
          rintro r w' ⟨rfl, hW, hF⟩
          refine ⟨rfl, ⟨?_, fun x hx => ?_⟩, hF⟩
          · rw [List.length_append, digs_len]; exact hW
          · rcases List.mem_append.1 hx with hx | hx
            · exact h.lt x hx
            · exact digs_lt _ _ x hx
/-- a number that has room in s bytes -/
theorem fits_iff (n s : Nat) : (((n : Int) / 2 ^ (8 * s) != 0) = false) ↔ n < 256 ^ s := by
  have h256 : (256 : Nat) ^ s = 2 ^ (8 * s) := by rw [show (256 : Nat) = 2 ^ 8 from rfl, ← Nat.pow_mul]
  have e1 : ((n : Int) / 2 ^ (8 * s)) = ((n / 2 ^ (8 * s) : Nat) : Int) := by simp
  rw [e1, h256]
  simp only [bne_eq_false_iff_eq]
  rw [show (0 : Int) = ((0 : Nat) : Int) from rfl, Int.natCast_inj, Nat.div_eq_zero_iff]
  have := Nat.two_pow_pos (8 * s)
  omega
def sealF (l : List Nat) (e : Nat) : List Nat × Nat := if e = 0 then (sealB (pad l), 0) else (zeros, e)
theorem pad_lt (l : List Nat) (h : ∀ x ∈ l, x < 256) : ∀ x ∈ pad l, x < 256 := by
  intro x hx
  rcases List.mem_append.1 hx with hx | hx
  · exact h x hx
  · rw [List.eq_of_mem_replicate hx]; omega
theorem sealF_len (l : List Nat) (e : Nat) (h : l.length ≤ 60) : (sealF l e).1.length = 64 := by
  unfold sealF; split
  · exact sealB_len _ (pad_len l (by omega))
  · rfl
theorem sealF_lt (l : List Nat) (e : Nat) (h : ∀ x ∈ l, x < 256) : ∀ x ∈ (sealF l e).1, x < 256 := by
  unfold sealF; split
  · exact sealB_lt _ (pad_lt l h)
  · intro x hx; simp only [zeros] at hx; rw [List.eq_of_mem_replicate hx]; omega
theorem fd_Seal (w : World) (p e : Nat) (l : List Nat) (h : Wr w p l e) (hL : Laid w) : Calls Tryd.prog 29 #[.pointer (some ⟨p, 0, none⟩)] w fun r w' =>
    r = .returned (.tuple #[.agg (blkA (sealF l e).1), .int .i64 (((sealF l e).2 : Nat) : Int)]) ∧ Fr No w w' := by
  unfold sealF
  by_cases he : e = 0
  · subst he
    rw [if_pos rfl]
    exact fd_Seal_ok w p _ _ h.at_ hL
  · rw [if_neg he]
    exact fd_Seal_err w p _ e _ h.at_ (by omega)
def takeF (bs : List Nat) (at_ e : Nat) (s : Int) : Nat × Nat × Nat :=
  if e ≠ 0 then (0, at_, e) else if s < 1 ∨ 7 < s then (0, at_, 1) else if 60 < at_ + s.toNat then (0, at_, 17) else (numOf ((bs.drop at_).take s.toNat), at_ + s.toNat, 0)
theorem fd_Take (w : World) (p at_ e : Nat) (bs : List Nat) (s : Int) (h : RdAt w p bs at_ e) : Calls Tryd.prog 45 #[.pointer (some ⟨p, 0, none⟩), .int .i64 s] w fun r w' =>
    r = .returned (.int .i64 (((takeF bs at_ e s).1 : Nat) : Int)) ∧ RdAt w' p bs (takeF bs at_ e s).2.1 (takeF bs at_ e s).2.2 ∧ Fr (fun k => k = p) w w' := by
  unfold takeF
  by_cases he : e ≠ 0
  · rw [if_pos he]
    refine (fd_Take_err w p _ e _ s h (by omega)).mono ?_
    rintro r w' ⟨rfl, rfl⟩
    exact ⟨rfl, h, Fr.refl _ _⟩
  · rw [if_neg he]
    obtain rfl : e = 0 := by omega
    by_cases hs : s < 1 ∨ 7 < s
    · rw [if_pos hs]
      exact fd_Take_arg w p _ _ s h hs
    · rw [if_neg hs]
      obtain ⟨s, rfl⟩ := Int.eq_ofNat_of_zero_le (show 0 ≤ s by omega)
      rw [Int.toNat_natCast]
      by_cases hf : 60 < at_ + s
      · rw [if_pos hf]
        exact fd_Take_full w p _ s _ h (by omega) (by omega) hf
      · rw [if_neg hf]
        exact fd_Take_ok w p _ s _ h (by omega) (by omega) (by omega)
theorem sealB_take (bs : List Nat) (h : bs.length = 64) : (sealB bs).take 60 = bs.take 60 := by
  unfold sealB
  rw [List.take_append_of_le_length (by rw [List.length_take, h]; omega), List.take_of_length_le (by rw [List.length_take]; omega)]
theorem sealB_idem (bs : List Nat) (h : bs.length = 64) : sealB (sealB bs) = sealB bs := by
  show (sealB bs).take 60 ++ digs 4 (Crc.sumOf ((sealB bs).take 60)) = _
  rw [sealB_take bs h]; rfl
theorem fd_Write' (w : World) : Calls Tryd.prog 27 #[] w fun e w' => e = .returned (.pointer (some ⟨w.heap.size, 0, none⟩)) ∧ Wr w' w.heap.size [] 0 ∧ Fr No w w' :=
  (fd_write w).mono fun _ _ ⟨h1, h2, h3⟩ => ⟨h1, ⟨h2, fun _ h => by cases h⟩, h3⟩
theorem putF_ok (l : List Nat) (n s : Nat) (hs1 : 1 ≤ s) (hs : s ≤ 7) (hl : l.length + s ≤ 60) : putF l 0 n s = if n < 256 ^ s then (l ++ digs s n, 0) else (l, 11) := by
  unfold putF
  rw [if_neg (by simp), if_neg (by omega), Int.toNat_natCast, Int.toNat_natCast]
  by_cases h : n < 256 ^ s
  · rw [if_pos h, if_neg (by rw [(fits_iff n s).2 h]; simp), if_neg (by omega)]
  · have hb : ((n : Int) / 2 ^ (8 * s) != 0) = true := by
      cases hb : ((n : Int) / 2 ^ (8 * s) != 0)
      · exact absurd ((fits_iff n s).1 hb) h
      · rfl
    rw [if_neg h, if_pos (.inr hb)]
end Go.Proofs.YtpifiamafgaadaaDoor
