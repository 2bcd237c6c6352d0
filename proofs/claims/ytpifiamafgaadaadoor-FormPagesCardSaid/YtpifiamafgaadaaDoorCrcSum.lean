/- The walk of crc.Sum. -/
import Derived.Test.YtpifiamafgaadaaDoorCrcStep
import Derived.Test.YtpifiamafgaadaaDoorRow
import Derived.Deep.LoopGhost
namespace Go.Proofs.YtpifiamafgaadaaDoor
open Go.RowKit

/-- a row of bytes: where it stands, its capacity, its bytes -/
structure BRow where
  a : Option Addr
  cap : Nat
  l : List Nat
abbrev BRow.v (r : BRow) : Value := .slice r.a r.l.length r.cap
def BRow.Ok (w : World) (r : BRow) : Prop := Row w r.a (r.l.map byte) ∧ (∀ x ∈ r.l, x < 256) ∧ r.l.length ≤ maxLen
/-- it has room, or stands somewhere -/
def BRow.Cap (r : BRow) : Prop := r.l.length ≤ r.cap ∧ (r.cap = 0 ∨ ∃ b o, r.a = some ⟨b, o, none⟩)
def flat (rs : List BRow) : List Nat := rs.flatMap BRow.l
theorem flat_take (rs : List BRow) (k : Nat) (h : k < rs.length) : flat (rs.take (k + 1)) = flat (rs.take k) ++ (rs[k]).l := by
  unfold flat; rw [List.take_succ_eq_append_getElem h, List.flatMap_append]; simp
theorem flat_lt {w : World} {rs : List BRow} (h : ∀ r ∈ rs, BRow.Ok w r) : ∀ x ∈ flat rs, x < 256 := by
  intro x hx
  obtain ⟨r, hr, hx⟩ := List.mem_flatMap.1 hx
  exact (h r hr).2.1 x hx
theorem flat_take_lt {w : World} {rs : List BRow} (h : ∀ r ∈ rs, BRow.Ok w r) (k : Nat) : ∀ x ∈ flat (rs.take k), x < 256 := flat_lt (fun r hr => h r (List.mem_of_mem_take hr))

set_option maxHeartbeats 1000000 in
theorem sum_any (a : Option Addr) (cap : Nat) (rs : List BRow) (w : World) (hN : TabAt w) (h0 : 0 < w.heap.size) (hr : Row w a (rs.map BRow.v)) (hrs : ∀ r ∈ rs, BRow.Ok w r) (hl : rs.length ≤ maxLen) :
    Calls Tryd.prog 60 #[.slice a rs.length cap] w fun e w' => e = .returned (.int .i64 ((Crc.sumOf (flat rs) : Nat) : Int)) ∧ Fr No w w' := by
  unfold maxLen at hl
  have Hr := hid hr
  have Hrs := hid hrs
  clear hr hrs
  go_enter Tryd.func60, Tryd.ntmps60
  go_wp2
  go_step3
  go_wp2_with (go_at_call 64; refine (stepper_any Crc.F w).mono ?_; rintro e w0 ⟨rfl, hB0, hz0, hF0⟩)
  go_step3
  go_wp2
  go_loopg [3, 12] rs.length (fun g x i wr => ∃ k : Nat, k + g = rs.length ∧ i = .int .i64 k ∧ x = .int .u32 (Crc.run Crc.F (flat (rs.take k))) ∧ wr.heap[w.heap.size]? = some (.cells #[.int .u32 (Crc.run Crc.F (flat (rs.take k)))] 132 (0, 0)) ∧ wr.heap.size = w.heap.size + 1 ∧ Fr No w wr)
  case atStart => exact ⟨0, by omega, rfl, rfl, hB0, hz0, hF0⟩
  case round =>
    obtain ⟨k, hk, rfl, rfl, hB, hz, hF⟩ := hrel
    have hs := Crc.run_lt (flat (rs.take k)) Crc.F Crc.F_lt (flat_take_lt Hrs.out k)
    cases gk with
    | zero =>
      obtain rfl : k = rs.length := by omega
      have e1 : bits .xor .u32 ((Crc.run Crc.F (flat (rs.take rs.length)) : Nat) : Int) 4294967295 = ((Crc.run Crc.F (flat (rs.take rs.length)) ^^^ Crc.F : Nat) : Int) := x32 _ Crc.F hs Crc.F_lt
      have hs2 := Crc.xor_lt _ _ hs Crc.F_lt
      have HG : Hid (Crc.run Crc.F (flat (rs.take rs.length)) ^^^ Crc.F = Crc.sumOf (flat rs)) := by rw [List.take_length]; rfl
      generalize Crc.run Crc.F (flat (rs.take rs.length)) = s at *
      generalize s ^^^ Crc.F = s2 at *
      clear hB hz
      go_wp2
      rw [Exit.noGoto_ret]
      go_ret
      rw [HG.out]
      exact ⟨rfl, hF⟩
    | succ g =>
      have hlt : k < rs.length := by omega
      obtain ⟨b, o, rfl, hb, hc⟩ := (Hr.out.no hF).at (i := k) (by simpa using hlt)
      rw [getD_map BRow.v rs ⟨none, 0, []⟩ k hlt] at hc
      have hget : rs.getD k ⟨none, 0, []⟩ = rs[k] := by simp [List.getD_eq_getElem?_getD, hlt]
      rw [hget] at hc
      obtain ⟨hrow, hby, hlen⟩ := Hrs.out rs[k] (List.getElem_mem hlt)
      have hft := flat_take rs k hlt
      clear hget
      generalize rs[k] = r at *
      obtain ⟨ra, rc, rl⟩ := r
      unfold BRow.v at hc
      replace hc : wr.cell? ⟨b, o + k, none⟩ = some (.slice ra rl.length rc) := hc
      replace hrow : Row w ra (rl.map byte) := hrow
      replace hby : ∀ x ∈ rl, x < 256 := hby
      replace hlen : rl.length ≤ 9223372036854775807 := hlen
      replace hft : flat (rs.take (k + 1)) = flat (rs.take k) ++ rl := hft
      have HFT := hid hft
      have HROW := hid hrow
      have HBY := hid hby
      have HS : Hid (∀ x ∈ flat (rs.take k), x < 256) := flat_take_lt Hrs.out k
      generalize flat (rs.take k) = fl at *
      have HB := hid hB
      have HZ := hid hz
      have HF := hid hF
      clear hft hrow hby hB hz hF hB0 hz0 hF0 hs
      go_wp2
      obtain ⟨wo, rfl⟩ : ∃ wo : World, wo = wr := ⟨_, rfl⟩
      go_loopg [3, 7] rl.length (fun g2 x i wy => ∃ j : Nat, j + g2 = rl.length ∧ i = .int .i64 j ∧ x = .int .u32 (Crc.run Crc.F (fl ++ rl.take j)) ∧ wy.heap[w.heap.size]? = some (.cells #[.int .u32 (Crc.run Crc.F (fl ++ rl.take j))] 132 (0, 0)) ∧ wy.heap.size = w.heap.size + 1 ∧ Fr No w wy)
      case atStart => exact ⟨0, by omega, rfl, by simp, by simpa using HB.out, HZ.out, HF.out⟩
      case round =>
        obtain ⟨j, hj, rfl, rfl, hB, hz, hF⟩ := hrel
        cases gk with
        | zero =>
          obtain rfl : j = rl.length := by omega
          rw [List.take_length] at hB ⊢
          rw [← HFT.out] at hB ⊢
          have HB2 := hid hB
          have HZ2 := hid hz
          have HF2 := hid hF
          clear hB hz hF
          have hbq : ((rl.length : Int) == (rl.length : Int)) = true := by simp
          go_wp2
          go_roundg g
          case measure => omega
          case rel => exact ⟨k + 1, by omega, by go_num, rfl, HB2.out, HZ2.out, HF2.out⟩
        | succ g2 =>
          have hjlt : j < rl.length := by omega
          obtain ⟨b2, o2, rfl, hb2, hc2⟩ := (HROW.out.no hF).at (i := j) (by simpa using hjlt)
          rw [getD_map byte rl 0 j hjlt] at hc2
          have hx := HBY.out (rl.getD j 0) (by simp [List.getD_eq_getElem?_getD, hjlt])
          have hnr := hN.fr hF h0 (fun h => h)
          have hsb : ∀ x ∈ fl ++ rl.take j, x < 256 := fun x hx => by
            rcases List.mem_append.1 hx with h | h
            · exact HS.out x h
            · exact HBY.out x (List.mem_of_mem_take h)
          have hs := Crc.run_lt (fl ++ rl.take j) Crc.F Crc.F_lt hsb
          have HE : Hid (Crc.stepB (Crc.run Crc.F (fl ++ rl.take j)) (rl.getD j 0) = Crc.run Crc.F (fl ++ rl.take (j + 1))) := by
            unfold Hid
            rw [List.take_succ_eq_append_getElem hjlt, ← List.append_assoc, Crc.run_append (Crc.F) (fl ++ rl.take j)]
            simp [List.getD_eq_getElem?_getD, hjlt, Crc.run]
          generalize rl.getD j 0 = x at *
          generalize Crc.run Crc.F (fl ++ rl.take j) = s at *
          have HB2 := hid hB
          have HZ2 := hid hz
          have HF2 := hid hF
          have hne : ((j : Int) == (rl.length : Int)) = false := by simp; omega
          clear hB hz hF hsb
          go_wp2_with (go_at_call 66; refine (step_any x s w.heap.size _ hx hs hnr HB2.out h0).mono ?_; rintro e w1 ⟨rfl, hB1, hz1, hF1⟩)
          go_roundg g2
          case measure => omega
          case rel => exact ⟨j + 1, by omega, by go_num, by rw [← HE.out], by rw [← HE.out]; exact hB1, by rw [hz1, HZ2.out], HF2.out.then hF1 (fun i hi e => by omega)⟩

theorem BRow.Ok.no {w w' : World} {r : BRow} (h : r.Ok w) (f : Fr No w w') : r.Ok w' := ⟨h.1.no f, h.2⟩
/-- a new row of cells -/
theorem Row.new (w : World) (vs : List Value) (t : TypeId) (fz : Nat × Nat) : Row (w.alloc (.cells vs.toArray t fz)) (some ⟨w.heap.size, 0, none⟩) vs :=
  .inr ⟨w.heap.size, 0, rfl, by simp, fun i hi => by unfold World.cell?; simp only [Nat.zero_add]; rw [heap_new]; simp [hi]⟩
theorem brow_one (r : BRow) : flat [r] = r.l := by simp [flat]
theorem flat_two (r s : BRow) : flat [r, s] = r.l ++ s.l := by simp [flat]
theorem flat_three (r s t : BRow) : flat [r, s, t] = r.l ++ s.l ++ t.l := by simp [flat]

theorem Row.block {w : World} {b : Nat} {vs : List Value} {t : TypeId} {fz : Nat × Nat} (h : w.heap[b]? = some (.cells vs.toArray t fz)) : Row w (some ⟨b, 0, none⟩) vs :=
  .inr ⟨b, 0, rfl, lt_of_block h, fun i hi => by unfold World.cell?; simp only [Nat.zero_add]; rw [h]; simp [hi]⟩
/-- a value that is a slice of just these bytes -/
def IsB (w : World) (v : Value) (l : List Nat) : Prop := ∃ a cap, v = .slice a l.length cap ∧ BRow.Ok w ⟨a, cap, l⟩
theorem IsB.no {w w' : World} {v : Value} {l : List Nat} (h : IsB w v l) (f : Fr No w w') : IsB w' v l := by
  obtain ⟨a, cap, e, h⟩ := h; exact ⟨a, cap, e, h.no f⟩
theorem BRow.Ok.is {w : World} {r : BRow} (h : r.Ok w) : IsB w r.v r.l := ⟨r.a, r.cap, rfl, h⟩
theorem IsB.row {w : World} {v : Value} {l : List Nat} (h : IsB w v l) : ∃ r : BRow, v = r.v ∧ r.Ok w ∧ r.l = l := by
  obtain ⟨a, cap, e, h⟩ := h; exact ⟨⟨a, cap, l⟩, e, h, rfl⟩
theorem IsB.none (w : World) (a : Option Addr) (c : Nat) : IsB w (.slice a 0 c) [] := ⟨a, c, rfl, .nil _ _, fun x hx => by simp at hx, by unfold maxLen; simp⟩
theorem IsB.take {w : World} {a : Option Addr} {cap : Nat} {l : List Nat} (h : BRow.Ok w ⟨a, cap, l⟩) (k : Nat) (hk : k ≤ l.length) (c : Nat) : IsB w (.slice a k c) (l.take k) := by
  obtain ⟨h1, h2, h3⟩ := h
  replace h3 : l.length ≤ maxLen := h3
  refine ⟨a, c, by rw [List.length_take, Nat.min_eq_left hk], ?_, fun x hx => h2 x (List.mem_of_mem_take hx), by simp only [List.length_take]; omega⟩
  rcases h1 with h1 | ⟨b, o, e, hb, hc⟩
  · exact .inl (by simp at h1; simp [h1])
  · refine .inr ⟨b, o, e, hb, fun i hi => ?_⟩
    have hi' : i < k := by simp at hi; omega
    have := hc i (by simp; omega)
    simp only [List.getD_eq_getElem?_getD, List.getElem?_map, List.getElem?_take, hi', if_true] at this ⊢
    exact this
theorem IsB.drop {w : World} {b o cap : Nat} {l : List Nat} (h : BRow.Ok w ⟨some ⟨b, o, Option.none⟩, cap, l⟩) (k c : Nat) (hk : k ≤ l.length) : IsB w (.slice (some ⟨b, o + k, Option.none⟩) (l.length - k) c) (l.drop k) := by
  obtain ⟨h1, h2, h3⟩ := h
  replace h3 : l.length ≤ maxLen := h3
  refine ⟨_, c, by rw [List.length_drop], ?_, fun x hx => h2 x (List.mem_of_mem_drop hx), by simp only [List.length_drop]; omega⟩
  rcases h1 with h1 | ⟨b', o', e, hb, hc⟩
  · exact .inl (by simp at h1; simp [h1])
  · simp only [Option.some.injEq, Addr.mk.injEq, and_true] at e
    obtain ⟨rfl, rfl⟩ := e
    refine .inr ⟨b, o + k, rfl, hb, fun i hi => ?_⟩
    have hi' : i < l.length - k := by simpa using hi
    have := hc (k + i) (by simp; omega)
    rw [show o + k + i = o + (k + i) from by omega, this]
    simp only [List.getD_eq_getElem?_getD, List.getElem?_map, List.getElem?_drop]
/-- the sum of one, two, three rows, where their list is a block of its own; what it comes to behind a name -/
theorem sum1 (s : Nat) (v : Value) (l : List Nat) (b : Nat) (w : World) (hs : Hid (Crc.sumOf l = s)) (hL : Hid (TabAt w ∧ 0 < w.heap.size)) (hb : w.heap[b]? = some (.cells #[v] 97)) (hr : IsB w v l) :
    Calls Tryd.prog 60 #[.slice (some ⟨b, 0, none⟩) 1 1] w fun e w' => e = .returned (.int .i64 (s : Int)) ∧ Fr No w w' := by
  obtain ⟨r, rfl, hr1, rfl⟩ := hr.row
  have := sum_any (some ⟨b, 0, none⟩) 1 [r] w hL.out.1 hL.out.2 (Row.block (vs := [r.v]) hb) (fun s hs => by rw [List.mem_singleton.1 hs]; exact hr1) (by unfold maxLen; simp)
  rwa [brow_one, hs.out] at this
theorem sum2 (x : Nat) (v1 v2 : Value) (l1 l2 : List Nat) (b : Nat) (w : World) (hx : Hid (Crc.sumOf (l1 ++ l2) = x)) (hL : Hid (TabAt w ∧ 0 < w.heap.size)) (hb : w.heap[b]? = some (.cells #[v1, v2] 97)) (hr : IsB w v1 l1) (hs : IsB w v2 l2) :
    Calls Tryd.prog 60 #[.slice (some ⟨b, 0, none⟩) 2 2] w fun e w' => e = .returned (.int .i64 (x : Int)) ∧ Fr No w w' := by
  obtain ⟨r, rfl, hr1, rfl⟩ := hr.row
  obtain ⟨s, rfl, hs1, rfl⟩ := hs.row
  have := sum_any (some ⟨b, 0, none⟩) 2 [r, s] w hL.out.1 hL.out.2 (Row.block (vs := [r.v, s.v]) hb)
    (fun x hx => by simp only [List.mem_cons, List.not_mem_nil, or_false] at hx; rcases hx with rfl | rfl <;> assumption) (by unfold maxLen; simp)
  rwa [flat_two, hx.out] at this
theorem sum3 (x : Nat) (v1 v2 v3 : Value) (l1 l2 l3 : List Nat) (b : Nat) (w : World) (hx : Hid (Crc.sumOf (l1 ++ l2 ++ l3) = x)) (hL : Hid (TabAt w ∧ 0 < w.heap.size)) (hb : w.heap[b]? = some (.cells #[v1, v2, v3] 97)) (hr : IsB w v1 l1) (hs : IsB w v2 l2) (ht : IsB w v3 l3) :
    Calls Tryd.prog 60 #[.slice (some ⟨b, 0, none⟩) 3 3] w fun e w' => e = .returned (.int .i64 (x : Int)) ∧ Fr No w w' := by
  obtain ⟨r, rfl, hr1, rfl⟩ := hr.row
  obtain ⟨s, rfl, hs1, rfl⟩ := hs.row
  obtain ⟨t, rfl, ht1, rfl⟩ := ht.row
  have := sum_any (some ⟨b, 0, none⟩) 3 [r, s, t] w hL.out.1 hL.out.2 (Row.block (vs := [r.v, s.v, t.v]) hb)
    (fun x hx => by simp only [List.mem_cons, List.not_mem_nil, or_false] at hx; rcases hx with rfl | rfl | rfl <;> assumption) (by unfold maxLen; simp)
  rwa [flat_three, hx.out] at this
theorem sum_one (r : BRow) (w : World) (hN : TabAt w) (h0 : 0 < w.heap.size) (hr : r.Ok w) :
    Calls Tryd.prog 60 #[.slice (some ⟨w.heap.size, 0, none⟩) 1 1] (w.alloc (.cells #[r.v] 97)) fun e w' => e = .returned (.int .i64 ((Crc.sumOf r.l : Nat) : Int)) ∧ Fr No w w' := by
  have hF : Fr No w (w.alloc (.cells #[r.v] 97)) := (Fr.refl _ _).alloc _
  exact (sum1 _ r.v r.l w.heap.size _ (hid rfl) (hid ⟨hN.fr hF h0 (fun h => h), hF.lt h0⟩) (heap_new _ _) (hr.no hF).is).mono fun e w' ⟨he, hf⟩ => ⟨he, hF.trans hf⟩
theorem sum_two (r s : BRow) (w : World) (hN : TabAt w) (h0 : 0 < w.heap.size) (hr : r.Ok w) (hs : s.Ok w) :
    Calls Tryd.prog 60 #[.slice (some ⟨w.heap.size, 0, none⟩) 2 2] (w.alloc (.cells #[r.v, s.v] 97)) fun e w' => e = .returned (.int .i64 ((Crc.sumOf (r.l ++ s.l) : Nat) : Int)) ∧ Fr No w w' := by
  have hF : Fr No w (w.alloc (.cells #[r.v, s.v] 97)) := (Fr.refl _ _).alloc _
  exact (sum2 _ r.v s.v r.l s.l w.heap.size _ (hid rfl) (hid ⟨hN.fr hF h0 (fun h => h), hF.lt h0⟩) (heap_new _ _) (hr.no hF).is (hs.no hF).is).mono fun e w' ⟨he, hf⟩ => ⟨he, hF.trans hf⟩
end Go.Proofs.YtpifiamafgaadaaDoor
