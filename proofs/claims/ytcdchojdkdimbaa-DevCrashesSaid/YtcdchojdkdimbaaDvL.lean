/- The laws of layer 5: their arguments; calls one behind the other. -/
import Derived.Test.YtcdchojdkdimbaaDvJ
import Derived.Test.YtcdchojdkdimbaaAggs
namespace Go.Proofs.Ytcdchojdkdimbaa
open Go.ChangeShapes Go.WideShapes Go.ChangeAt Go.RowKit

def op3Sh : Sh := .st3 (.int .i64) (.int .i64) (.int .i64)
theorem is_op3 : Is Try.prog 33 op3Sh := .st3 Try.underlying33 (by kernel_rfl) rfl rfl rfl (.int Try.underlying3 (by kernel_rfl)) (.int Try.underlying3 (by kernel_rfl)) (.int Try.underlying3 (by kernel_rfl))
theorem open_ops5 {H : Type} {enc : TypeId × Value → H} {W : World} {base : Nat} {v : Value} {d : DataW H} {ps : List MemPlace}
    (hval : Value.okWide Try.prog W .any base 22 v) (h : DataW.Trod enc Try.prog W 0 (fun _ => true) true 22 v d ps) : ∃ r : SRow, v = r.v ∧ r.Ok W op3Sh :=
  open_row Try.underlying22 is_op3 (by decide) hval h
abbrev Ops5 (w : World) (a : Option Addr) (xs : List OpM) : Prop := Elems opV 3 w a xs
theorem ops5_of {w : World} {r : SRow} (h : r.Ok w op3Sh) : ∃ xs : List OpM, r.v = .slice r.a xs.length r.cap ∧ Ops5 w r.a xs := by
  obtain ⟨xs, h1, h2, _⟩ := elems_of (P := fun _ : OpM => True) (f := opV) h (fun cs hc => by obtain ⟨a, b, c, rfl, ⟨x, rfl, _⟩, ⟨y, rfl, _⟩, ⟨z, rfl, _⟩⟩ := hc; exact ⟨⟨x, y, z⟩, rfl, trivial⟩)
  exact ⟨xs, h1, h2⟩
theorem Elems.op5 {w : World} {a : Option Addr} {xs : List OpM} (h : Ops5 w a xs) (i : Nat) (hi : i < xs.length) :
    ∃ b o, a = some ⟨b, o, none⟩ ∧ b < w.heap.size ∧ w.cell? ⟨b, o + i * 3, none⟩ = some (.int .i64 xs[i].ask) ∧ w.cell? ⟨b, o + i * 3 + 1, none⟩ = some (.int .i64 xs[i].sec) ∧ w.cell? ⟨b, o + i * 3 + 2, none⟩ = some (.int .i64 xs[i].n) := by
  rcases h with h | ⟨b, o, e, hb, hc⟩
  · subst h; simp at hi
  · exact ⟨b, o, e, hb, hc i 0 hi (by omega), hc i 1 hi (by omega), hc i 2 hi (by omega)⟩
theorem is_bool1 : Is Try.prog 4 .bool := .bool Try.underlying4 (by kernel_rfl)
theorem open_bools {H : Type} {enc : TypeId × Value → H} {W : World} {base : Nat} {v : Value} {d : DataW H} {ps : List MemPlace}
    (hval : Value.okWide Try.prog W .any base 46 v) (h : DataW.Trod enc Try.prog W 0 (fun _ => true) true 46 v d ps) : ∃ r : SRow, v = r.v ∧ r.Ok W .bool :=
  open_row Try.underlying46 is_bool1 (by decide) hval h
theorem bools_of {w : World} {r : SRow} (h : r.Ok w .bool) : ∃ xs : List Bool, r.v = .slice r.a xs.length r.cap ∧ Row w r.a (xs.map fun b => Value.bool b) := by
  obtain ⟨xs, h1, h2, _⟩ := elems_of (P := fun _ : Bool => True) (f := fun b : Bool => [Value.bool b]) h (fun cs hc => by obtain ⟨n, rfl⟩ := hc; exact ⟨n, rfl, trivial⟩)
  refine ⟨xs, h1, ?_⟩
  rcases h2 with h2 | ⟨b, o, e, hb, hc⟩
  · subst h2; exact .inl rfl
  · refine .inr ⟨b, o, e, hb, fun i hi => ?_⟩
    have hi' : i < xs.length := by simpa using hi
    have := hc i 0 hi' (by decide)
    have hsz : Sh.bool.size = 1 := rfl
    rw [hsz, Nat.mul_one, Nat.add_zero] at this
    rw [this]
    simp [List.getD_eq_getElem?_getD, hi']
theorem is_i2 : Is Try.prog 53 (.arr 2 (.int .i64)) := .arr Try.underlying53 (by kernel_rfl) (.int Try.underlying3 (by kernel_rfl))
def i2v (x : Int × Int) : Value := .agg #[.int .i64 x.1, .int .i64 x.2]
theorem open_i2 {H : Type} {enc : TypeId × Value → H} {W : World} {base : Nat} {v : Value} {d : DataW H} {ps : List MemPlace}
    (hval : Value.okWide Try.prog W .any base 53 v) (h : DataW.Trod enc Try.prog W 0 (fun _ => true) true 53 v d ps) : ∃ x : Int × Int, v = i2v x ∧ (Lit.int .i64 x.1).wf = true ∧ (Lit.int .i64 x.2).wf = true := by
  obtain ⟨cs, rfl, hok⟩ := open_sh is_i2 (by rw [Try.underlying53]) hval h
  obtain ⟨a, b, rfl, wa, wb⟩ := ok_pair hok
  exact ⟨(a, b), rfl, wa, wb⟩
def op3v (o : OpM) : Value := .agg #[.int .i64 o.ask, .int .i64 o.sec, .int .i64 o.n]
theorem open_op5 {H : Type} {enc : TypeId × Value → H} {W : World} {base : Nat} {v : Value} {d : DataW H} {ps : List MemPlace}
    (hval : Value.okWide Try.prog W .any base 33 v) (h : DataW.Trod enc Try.prog W 0 (fun _ => true) true 33 v d ps) : ∃ x : OpM, v = op3v x ∧ (Lit.int .i64 x.n).wf = true := by
  obtain ⟨cs, rfl, hok⟩ := open_sh is_op3 (by rw [Try.underlying33]) hval h
  obtain ⟨a, b, c, rfl, ⟨x, rfl, _⟩, ⟨y, rfl, _⟩, ⟨z, rfl, hz⟩⟩ := hok
  exact ⟨⟨x, y, z⟩, rfl, hz⟩

/-- writes and flushes alone -/
def stepF (D : DM) (o : OpM) : DM := if o.ask = 0 ∨ o.ask = 2 then stepD D o else D
def runF (D : DM) (l : List OpM) (k : Nat) : DM := (l.take k).foldl stepF D
theorem runF_succ (D : DM) (l : List OpM) (k : Nat) (h : k < l.length) : runF D l (k + 1) = stepF (runF D l k) l[k] := by
  unfold runF
  rw [List.take_succ_eq_append_getElem h, List.foldl_append]; rfl
/-- nothing is planned -/
structure Plain (D : DM) (m n : Nat) : Prop where
  ok : DOk D
  plan : D.plan = []
  firm : D.firm.length = m
  opn : D.opn.length ≤ n
theorem Plain.fate {D : DM} {m n : Nat} (h : Plain D m n) : fateD D = 0 := by unfold fateD; rw [h.plan]; rfl
theorem Plain.pop {D : DM} {m n : Nat} (h : Plain D m n) : popD D = D := by
  unfold popD; rw [h.plan]; obtain ⟨d1, d2, d3⟩ := D; have := h.plan; simp at this; subst this; rfl
theorem Plain.write {D : DM} {m n : Nat} (h : Plain D m n) (s : Nat) (B : List Nat) : writeD D s B = addO D s B := by unfold writeD; rw [if_pos h.fate, h.pop]
theorem Plain.flush {D : DM} {m n : Nat} (h : Plain D m n) : flushF D = flushD D := by unfold flushF; rw [if_pos h.fate, h.pop]
theorem Plain.wE {D : DM} {m n : Nat} (h : Plain D m n) : writeE D = 0 ∧ flushE D = 0 ∧ readE D = 0 := by unfold writeE flushE readE; rw [h.fate]; exact ⟨rfl, rfl, rfl⟩
theorem Plain.flushP {D : DM} {m n : Nat} (h : Plain D m n) : Plain (flushD D) m n := ⟨flushD_ok h.ok, h.plan, by show (firmK D _).length = m; rw [firmK_len]; exact h.firm, Nat.zero_le _⟩
theorem Plain.addP {D : DM} {m n : Nat} (h : Plain D m n) {s : Nat} (hs : s < m) {B : List Nat} (hB : B.length = 64) : Plain (addO D s B) m (n + 1) := ⟨addO_ok h.ok (by rw [h.firm]; exact hs) hB, h.plan, h.firm, by show (D.opn ++ [(s, B)]).length ≤ _; rw [List.length_append, List.length_singleton]; have := h.opn; omega⟩
theorem Plain.up {D : DM} {m n n' : Nat} (h : Plain D m n) (hn : n ≤ n') : Plain D m n' := ⟨h.ok, h.plan, h.firm, Nat.le_trans h.opn hn⟩
theorem Plain.wD {D : DM} {m n : Nat} (h : Plain D m n) (s : Int) {B : List Nat} (hB : B.length = 64) : Plain (wD D s B) m (n + 1) := by
  unfold Go.Proofs.Ytcdchojdkdimbaa.wD
  split
  · rename_i ht
    obtain ⟨k, rfl, hk⟩ := there_nat ht
    rw [Int.toNat_natCast, h.write]
    exact h.addP (by rw [← h.firm]; exact hk) hB
  · exact h.up (by omega)
theorem Plain.step {D : DM} {m n : Nat} (h : Plain D m n) (o : OpM) : Plain (stepF D o) m (n + 1) := by
  unfold stepF stepD
  split
  · split
    · exact h.wD o.sec (markB_len o.n)
    · rw [h.flush]; exact h.flushP.up (by omega)
  · exact h.up (by omega)
theorem Plain.new {m : Nat} (h0 : 1 ≤ m) (h1 : m ≤ 4096) : Plain (newD m) m 0 := ⟨newD_ok m h0 h1, rfl, by simp [newD], Nat.le_refl _⟩
theorem Plain.run {m : Nat} (h0 : 1 ≤ m) (h1 : m ≤ 4096) (l : List OpM) : ∀ k, k ≤ l.length → Plain (runF (newD m) l k) m k
  | 0, _ => Plain.new h0 h1
  | k + 1, hk => by rw [runF_succ _ _ _ (by omega)]; exact (Plain.run h0 h1 l k (by omega)).step _
theorem dv_few (w : World) (a : Option Addr) (n c : Nat) (hn : n ≤ 80) : Calls Try.prog 12 #[.slice a n c] w fun e w' => e = .returned (.bool true) ∧ w' = w := by
  have hn' : (n : Int) ≤ 80 := by omega
  go_enter Try.func12, Try.ntmps12
  go_wp2
  go_ret
  exact ⟨rfl, rfl⟩
theorem dv_few_not (w : World) (a : Option Addr) (n c : Nat) (hn : 80 < n) : Calls Try.prog 12 #[.slice a n c] w fun e w' => e = .returned (.bool false) ∧ w' = w := by
  have hn' : 80 < (n : Int) := by omega
  go_enter Try.func12, Try.ntmps12
  go_wp2
  go_ret
  exact ⟨by first | rfl | (simp; omega), rfl⟩
end Go.Proofs.Ytcdchojdkdimbaa
