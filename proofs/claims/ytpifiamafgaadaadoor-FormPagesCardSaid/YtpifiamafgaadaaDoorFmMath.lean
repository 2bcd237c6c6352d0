/- forms: rows of numbers, as data: what may be, and which bytes they are; the program's rows and the reference's, side by side. -/
import Derived.Test.YtpifiamafgaadaaDoorFmF
namespace Go.Proofs.YtpifiamafgaadaaDoor
/-- a number: how many bytes it has, and from where to where it may be -/
structure NumI where
  n : Int
  size : Nat
  lo : Int
  hi : Int
def NumI.ok (x : NumI) : Bool := decide (x.lo ≤ x.n ∧ x.n ≤ x.hi)
def okAll (l : List NumI) : Bool := l.all NumI.ok
def bytesN (l : List NumI) : List Nat := l.flatMap fun x => digs x.size x.n.toNat
def bitI (d : Bool) : Int := if d then 1 else 0
/-- the sector of a kind and its numbers, or the error: what put answers -/
def putN (kind : Nat) (l : List NumI) (fits : Bool) : List Nat × Nat := if okAll l && fits then (sealB (pad (kind :: bytesN l)), 0) else (zeros, 10)
theorem okAll_cons (x : NumI) (l : List NumI) : okAll (x :: l) = (x.ok && okAll l) := rfl
theorem bytesN_cons (x : NumI) (l : List NumI) : bytesN (x :: l) = digs x.size x.n.toNat ++ bytesN l := rfl
theorem bytesN_len (l : List NumI) : (bytesN l).length = (l.map NumI.size).sum := by
  induction l with
  | nil => rfl
  | cons x l ih => rw [bytesN_cons, List.length_append, digs_len, ih]; simp
theorem bytesN_snoc (l : List NumI) (x : NumI) : bytesN (l ++ [x]) = bytesN l ++ digs x.size x.n.toNat := by simp [bytesN, List.flatMap_append]
theorem bytesN_take (l : List NumI) (k : Nat) (hk : k < l.length) : bytesN (l.take (k + 1)) = bytesN (l.take k) ++ digs l[k].size l[k].n.toNat := by rw [List.take_succ_eq_append_getElem hk, bytesN_snoc]
/-- a superblock's -/
def superN (i b s j p g t : Int) : List NumI := [⟨i, 6, 0, 1099511627776⟩, ⟨b, 2, 1, 4096⟩, ⟨s, 2, 1, 1024⟩, ⟨j, 2, 1, 4096⟩, ⟨p, 2, 1, 4096⟩, ⟨g, 2, 1, 4096⟩, ⟨t, 1, 1, 64⟩]
/-- an entry's: a block, a slot, whether it is dirty, a sum -/
structure EntI where
  b : Int
  s : Int
  d : Bool
  u : Int
def entP (e : EntI) : List NumI := [⟨e.b, 2, 0, 4095⟩, ⟨e.s, 2, 0, 1023⟩, ⟨bitI e.d, 1, 0, 1⟩, ⟨e.u, 4, 0, 4294967295⟩]
def entR (e : EntI) (nought : Bool) : List NumI := if nought then [⟨e.b, 2, 0, 0⟩, ⟨e.s, 2, 0, 0⟩, ⟨bitI e.d, 1, 0, 0⟩, ⟨e.u, 4, 0, 0⟩] else entP e
/-- a record's -/
def recP (q l o : Int) (e : EntI) : List NumI := [⟨q, 6, 1, 1099511627776⟩, ⟨l, 6, 0, 1099511627776⟩, ⟨o, 1, 0, 1⟩] ++ entP e
def recR (q l o : Int) (e : EntI) : List NumI := [⟨q, 6, 1, 1099511627776⟩, ⟨l, 6, 0, 1099511627776⟩, ⟨o, 1, 0, 1⟩] ++ (if o = 1 then [⟨e.b, 2, 0, 4095⟩, ⟨e.s, 2, 0, 0⟩, ⟨bitI e.d, 1, 0, 0⟩, ⟨e.u, 4, 0, 0⟩] else entP e)
def recFits (o : Int) (e : EntI) : Bool := decide (o = 0) || (decide (e.s = 0) && !e.d && decide (e.u = 0))
theorem rec_ok (q l o : Int) (e : EntI) : okAll (recR q l o e) = (okAll (recP q l o e) && recFits o e) := by
  obtain ⟨b, s, d, u⟩ := e
  rw [Bool.eq_iff_iff]
  by_cases h : o = 1
  · subst h
    cases d <;> simp [okAll, recR, recP, entP, recFits, NumI.ok, bitI] <;> omega
  · cases d <;> simp [okAll, recR, recP, entP, recFits, NumI.ok, bitI, h] <;> omega
theorem rec_bytes (q l o : Int) (e : EntI) : bytesN (recR q l o e) = bytesN (recP q l o e) := by
  unfold recR recP entP
  split <;> rfl
/-- a page's: its head, and four entries -/
def pageP (q n o m : Int) (e0 e1 e2 e3 : EntI) : List NumI := [⟨q, 6, 0, 1099511627776⟩, ⟨n, 2, 0, 255⟩, ⟨o, 2, 1, 256⟩, ⟨m, 1, 0, 4⟩] ++ entP e0 ++ entP e1 ++ entP e2 ++ entP e3
def pageR (q n o m h : Int) (e0 e1 e2 e3 : EntI) : List NumI := [⟨q, 6, 0, 1099511627776⟩, ⟨n, 2, 0, h⟩, ⟨o, 2, 1, 256⟩, ⟨m, 1, 0, 4⟩] ++ entR e0 (decide (m ≤ 0)) ++ entR e1 (decide (m ≤ 1)) ++ entR e2 (decide (m ≤ 2)) ++ entR e3 (decide (m ≤ 3))
def entZ (e : EntI) : Bool := decide (e.b = 0) && decide (e.s = 0) && !e.d && decide (e.u = 0)
def pageFitsB (n o m : Int) (e0 e1 e2 e3 : EntI) : Bool := decide (n < o) && (decide (0 < m) || entZ e0) && (decide (1 < m) || entZ e1) && (decide (2 < m) || entZ e2) && (decide (3 < m) || entZ e3)
theorem okAll_append (l r : List NumI) : okAll (l ++ r) = (okAll l && okAll r) := List.all_append
theorem entR_ok (e : EntI) (b : Bool) : okAll (entR e b) = (okAll (entP e) && (!b || entZ e)) := by
  obtain ⟨x, s, d, u⟩ := e
  rw [Bool.eq_iff_iff]
  cases b <;> cases d <;> simp [okAll, entR, entP, entZ, NumI.ok, bitI] <;> omega
theorem entR_bytes (e : EntI) (b : Bool) : bytesN (entR e b) = bytesN (entP e) := by
  unfold entR entP
  cases b <;> rfl
theorem bytesN_append (l r : List NumI) : bytesN (l ++ r) = bytesN l ++ bytesN r := List.flatMap_append
theorem page_ok (q n o m h : Int) (hh' : 1 ≤ o → h = o - 1) (e0 e1 e2 e3 : EntI) : okAll (pageR q n o m h e0 e1 e2 e3) = (okAll (pageP q n o m e0 e1 e2 e3) && pageFitsB n o m e0 e1 e2 e3) := by
  unfold pageR pageP pageFitsB
  simp only [okAll_append, entR_ok]
  have h0 : (!decide (m ≤ 0)) = decide (0 < m) := by rw [← decide_not]; congr 1; simp
  have h1 : (!decide (m ≤ 1)) = decide (1 < m) := by rw [← decide_not]; congr 1; simp
  have h2 : (!decide (m ≤ 2)) = decide (2 < m) := by rw [← decide_not]; congr 1; simp
  have h3 : (!decide (m ≤ 3)) = decide (3 < m) := by rw [← decide_not]; congr 1; simp
  rw [h0, h1, h2, h3]
  have hh : okAll [⟨q, 6, 0, 1099511627776⟩, ⟨n, 2, 0, h⟩, ⟨o, 2, 1, 256⟩, ⟨m, 1, 0, 4⟩] = (okAll [⟨q, 6, 0, 1099511627776⟩, ⟨n, 2, 0, 255⟩, ⟨o, 2, 1, 256⟩, ⟨m, 1, 0, 4⟩] && decide (n < o)) := by
    rw [Bool.eq_iff_iff]
    simp [okAll, NumI.ok]
    omega
  rw [hh]
  cases okAll (entP e0) <;> cases okAll (entP e1) <;> cases okAll (entP e2) <;> cases okAll (entP e3) <;> simp [Bool.and_assoc]
theorem page_bytes (q n o m h : Int) (e0 e1 e2 e3 : EntI) : bytesN (pageR q n o m h e0 e1 e2 e3) = bytesN (pageP q n o m e0 e1 e2 e3) := by
  unfold pageR pageP
  simp only [bytesN_append, entR_bytes]
  rfl
end Go.Proofs.YtpifiamafgaadaaDoor
