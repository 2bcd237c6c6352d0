/- Two slices of the call's own; an append of a slice that a call made; two rings. -/
import Derived.Test.YtndljmkdgakfcaaRgOrderL
namespace Go.Proofs.Ytndljmkdgakfcaa
open Go.RowKit

/-- two slices of the call's own lie in other blocks -/
def Sep (u v : Value) : Prop := ∀ k, u.ownBlock = some k → v.ownBlock ≠ some k
theorem Sep.symm {u v : Value} (h : Sep u v) : Sep v u := fun k hk e => h k e hk
theorem Sep.grow {w : World} {B : Nat} {e : TypeId} {u v v' : Value} {n : Nat} {xs : List Value} (h : Sep u v) (hu : w.ownsRow B e 1 u n xs) {z : Nat} (hz : w.heap.size ≤ z) (hv : v'.ownBlock = v.ownBlock ∨ v'.ownBlock = some z) : Sep u v' := fun k hk e2 => by
  rcases hv with hv | hv
  · exact h k hk (hv ▸ e2)
  · rw [hv] at e2; cases e2
    have := (hu.lt z hk).2; omega
theorem Sep.nil (u : Value) : Sep u (.slice none 0 0) := fun k _ e => by simp [Value.ownBlock] at e
theorem grown_fr' {w w1 : World} {v : Value} (g : w.grownBy w1 v.ownBlock) : Fr (fun k => v.ownBlock = some k) w w1 := (Fr.refl _ w).grown g (fun _ hk _ => hk)
theorem own_fr2 {S : Nat → Prop} {w w' : World} {base n : Nat} {e : TypeId} {v : Value} {xs : List Value} (h : w.ownsRow base e 1 v n xs) (f : Fr S w w') (hS : ∀ k, v.ownBlock = some k → ¬ S k) : w'.ownsRow base e 1 v n xs := by
  obtain ⟨h1, h2 | ⟨g, cap, cur, hv, hg, hb, h3⟩⟩ := h
  · exact ⟨h1, .inl h2⟩
  · exact ⟨h1, .inr ⟨g, cap, cur, hv, hg, (f.block g (lt_of_block hb) (hS g (by rw [hv]; rfl))).trans hb, h3⟩⟩
/-- an append of a slice that a call made -/
theorem wpList_append_drained {P : Program} {w : World} {ops : Array Oper} {rest : List Oper} {o : Oper} {a : Act} {Q : Exit → Act → World → Prop} (hgd : o.guard = none) (s x : Operand) (t : TypeId)
    (ho : o.op = .call { callee := .builtin .append, args := #[s, x], argTypes := #[t, t] })
    (base : Nat) (e : TypeId) (i : TypeInfo) (z : Value) (bytes : Nat) (ht : P.underlying t = some (.slice e)) (hi : P.info? e = some i) (hz : i.zero = some z)
    (hsize : i.size = 1) (hby : i.bytes = bytes) (hzs : z.cells.size = 1)
    (v : Value) (n : Nat) (xs : List Value) (hs : a.eval s = v) (hown : w.ownsRow base e 1 v n xs)
    (b2 : Nat) (sv : Value) (m : Nat) (news : List Value) (hx : a.eval x = sv) (hsrc : w.ownsRow b2 e 1 sv m news) (h1 : ∀ u ∈ news, u.oneCell' = true)
    (h63 : n + m ≤ maxLen) (hbytes : (n + m) * bytes ≤ 140737488355328) (hbase : base ≤ w.heap.size)
    (h : ∀ v' w', w'.ownsRow base e 1 v' (n + m) (xs ++ news) → Fr (fun k => v.ownBlock = some k) w w' → (v'.ownBlock = v.ownBlock ∨ v'.ownBlock = some w.heap.size) → wpList P ops Q rest (a.put o.dst v') w') :
    wpList P ops Q (o :: rest) a w := by
  obtain ⟨hl, ⟨hv, hm⟩ | ⟨g, cap, cur, hv, hg, hb, h4, h5, h6, h7⟩⟩ := hsrc
  · subst hv
    have hn : news = [] := List.eq_nil_of_length_eq_zero (by simpa [hm] using hl)
    subst hn
    subst hm
    refine wpList_append_own_none hgd s x t ho base e i 1 ht hi v n xs hs hown hx ?_
    exact h v w (by simpa using hown) (Fr.refl _ w) (.inl rfl)
  · refine wpList_append_own_at w hgd s x t ho base e i z 1 bytes ht hi hz hsize hby hzs (by decide) v n xs hs hown ⟨g, 0, none⟩ m cap news (by rw [hx, hv]) hl (fun j u hu => ?_) h1 h63 hbytes hbase (fun v' w' h2 h3 _ h5 => h v' w' h2 (grown_fr' h3) h5)
    have hj : j < news.length := (List.getElem?_eq_some_iff.1 hu).1
    rw [add_off, Nat.zero_add, cell_blk hb]
    rw [← h7, List.getElem?_take] at hu
    split at hu
    · simpa using hu
    · cases hu

/-- two rings, and two slices of the call's own -/
structure Ph (w : World) (B pa ca ma pb cb mb : Nat) (la lb : List Int) (vp vg : Value) (P G : List Int) : Prop where
  a : Rg w pa ca ma (la.map iv) false
  b : Rg w pb cb mb (lb.map iv) false
  p : w.ownsRow B 3 1 vp P.length (P.map iv)
  g : w.ownsRow B 3 1 vg G.length (G.map iv)
  s : Sep vp vg
  z : B ≤ w.heap.size
structure Ds (B pa ca pb cb : Nat) : Prop where
  xpa : pa < B
  xca : ca < B
  xpb : pb < B
  xcb : cb < B
  n1 : ca ≠ pb
  n2 : ca ≠ cb
  n3 : cb ≠ pa
section
variable {w w1 : World} {B pa ca ma pb cb mb : Nat} {la lb la' lb' : List Int} {vp vg v' : Value} {P G P' G' : List Int}
theorem Ph.no (h : Ph w B pa ca ma pb cb mb la lb vp vg P G) (f : Fr No w w1) : Ph w1 B pa ca ma pb cb mb la lb vp vg P G :=
  ⟨h.a.fr f id id, h.b.fr f id id, own_fr h.p f (fun _ _ => id), own_fr h.g f (fun _ _ => id), h.s, Nat.le_trans h.z f.size⟩
theorem Ph.setA (h : Ph w B pa ca ma pb cb mb la lb vp vg P G) (d : Ds B pa ca pb cb) (f : Fr (fun k => k = ca) w w1) (ha : Rg w1 pa ca ma (la'.map iv) false) : Ph w1 B pa ca ma pb cb mb la' lb vp vg P G :=
  ⟨ha, h.b.fr f (fun e => d.n1 e.symm) (fun e => d.n2 e.symm), own_fr h.p f (fun k hk e => by have := d.xca; omega), own_fr h.g f (fun k hk e => by have := d.xca; omega), h.s, Nat.le_trans h.z f.size⟩
theorem Ph.setB (h : Ph w B pa ca ma pb cb mb la lb vp vg P G) (d : Ds B pa ca pb cb) (f : Fr (fun k => k = cb) w w1) (hb : Rg w1 pb cb mb (lb'.map iv) false) : Ph w1 B pa ca ma pb cb mb la lb' vp vg P G :=
  ⟨h.a.fr f (fun e => d.n3 e.symm) d.n2, hb, own_fr h.p f (fun k hk e => by have := d.xcb; omega), own_fr h.g f (fun k hk e => by have := d.xcb; omega), h.s, Nat.le_trans h.z f.size⟩
theorem Ph.appP (h : Ph w B pa ca ma pb cb mb la lb vp vg P G) (d : Ds B pa ca pb cb) (f : Fr (fun k => vp.ownBlock = some k) w w1) {z : Nat} (hz : w.heap.size ≤ z) (h1 : w1.ownsRow B 3 1 v' P'.length (P'.map iv)) (hat : v'.ownBlock = vp.ownBlock ∨ v'.ownBlock = some z) : Ph w1 B pa ca ma pb cb mb la lb v' vg P' G :=
  ⟨h.a.fr f (fun e => by have := own_ge h.p e; have := d.xpa; omega) (fun e => by have := own_ge h.p e; have := d.xca; omega), h.b.fr f (fun e => by have := own_ge h.p e; have := d.xpb; omega) (fun e => by have := own_ge h.p e; have := d.xcb; omega), h1, own_fr2 h.g f (fun k hk e => h.s k e hk), (h.s.symm.grow h.g hz hat).symm, Nat.le_trans h.z f.size⟩
theorem Ph.appG (h : Ph w B pa ca ma pb cb mb la lb vp vg P G) (d : Ds B pa ca pb cb) (f : Fr (fun k => vg.ownBlock = some k) w w1) {z : Nat} (hz : w.heap.size ≤ z) (h1 : w1.ownsRow B 3 1 v' G'.length (G'.map iv)) (hat : v'.ownBlock = vg.ownBlock ∨ v'.ownBlock = some z) : Ph w1 B pa ca ma pb cb mb la lb vp v' P G' :=
  ⟨h.a.fr f (fun e => by have := own_ge h.g e; have := d.xpa; omega) (fun e => by have := own_ge h.g e; have := d.xca; omega), h.b.fr f (fun e => by have := own_ge h.g e; have := d.xpb; omega) (fun e => by have := own_ge h.g e; have := d.xcb; omega), own_fr2 h.p f (fun k hk e => h.s k hk e), h1, h.s.grow h.p hz hat, Nat.le_trans h.z f.size⟩
theorem Ph.frP (h : Ph w B pa ca ma pb cb mb la lb vp vg P G) {W0 : World} {S : Nat → Prop} (F : Fr S W0 w) (hB : W0.heap.size ≤ B) (f : Fr (fun k => vp.ownBlock = some k) w w1) : Fr S W0 w1 := F.then f (fun i hi e => absurd hi (by have := own_ge h.p e; omega))
theorem Ph.frG (h : Ph w B pa ca ma pb cb mb la lb vp vg P G) {W0 : World} {S : Nat → Prop} (F : Fr S W0 w) (hB : W0.heap.size ≤ B) (f : Fr (fun k => vg.ownBlock = some k) w w1) : Fr S W0 w1 := F.then f (fun i hi e => absurd hi (by have := own_ge h.g e; omega))
end
theorem rg_RoomSome (w : World) (p c most : Nat) (l : List Value) (h : Rg w p c most l false) (hl : l.length < most) (hm : most ≤ 1024) : Calls Try.prog 13 #[.pointer (some ⟨p, 0, none⟩)] w fun e w' => ∃ r : Nat, e = .returned (.int .i64 ((r + 1 : Nat) : Int)) ∧ Fr No w w' := by
  refine (rg_Room w p c most l false h (by omega) hm).mono ?_
  rintro e w' ⟨rfl, hF⟩
  refine ⟨most - l.length - 1, ?_, hF⟩
  rw [show roomR most l false = most - l.length - 1 + 1 from by unfold roomR; simp; omega]
end Go.Proofs.Ytndljmkdgakfcaa
