/- The walks of the document's answer: lavaboref01. -/
import Derived.Test.YtpifiamafgaadaaDoorCrcSum
namespace Go.Proofs.YtpifiamafgaadaaDoor
open Go.RowKit

theorem wraps_i64p (n : Int) (h₀ : 0 ≤ n) (h₁ : n < 2 ^ 62) : IntKind.i64.wrap n = n := by rw [IntKind.wrap_i64]; omega
theorem i64_xor_nat (a b : Nat) (ha : a < 4611686018427387904) (hb : b < 4611686018427387904) : bits .xor .i64 (a : Int) (b : Int) = ((a ^^^ b : Nat) : Int) := by
  have ha' : a % 2 ^ 64 = a := by omega
  have hb' : b % 2 ^ 64 = b := by omega
  have h := Nat.xor_lt_two_pow (n := 62) (x := a) (y := b) (by omega) (by omega)
  have cast : (((a ^^^ b : Nat)) : Int) < 2 ^ 62 := by exact_mod_cast h
  show IntKind.i64.wrap ((BitVec.ofInt 64 (a : Int) ^^^ BitVec.ofInt 64 (b : Int)).toNat : Int) = _
  simp only [BitVec.ofInt_natCast, BitVec.toNat_xor, BitVec.toNat_ofNat, ha', hb']
  exact wraps_i64p _ (Int.natCast_nonneg _) cast
theorem compl32 (r : Nat) (h : r < 4294967296) : (r ^^^ Crc.F) + r = Crc.F := by
  have e := congrArg BitVec.toNat (BitVec.xor_allOnes (x := BitVec.ofNat 32 r))
  simp only [BitVec.toNat_xor, BitVec.toNat_not, BitVec.toNat_ofNat, BitVec.toNat_allOnes] at e
  rw [Nat.mod_eq_of_lt (by omega)] at e
  unfold Crc.F
  have e2 : (2 ^ 32 - 1 : Nat) = 4294967295 := by decide
  rw [e2] at e
  omega

theorem half_xor (s : Nat) (h : s < 4294967296) : bits .xor .i64 ((s : Int) / 2) 2197175160 = ((s / 2 ^^^ Crc.P : Nat) : Int) := by
  have := i64_xor_nat (s / 2) Crc.P (by omega) (by decide)
  rw [← this]; rfl

theorem rstep_any (s b : Nat) (w : World) (hs : s < 4294967296) (hb : b ≤ 1) :
    Calls Tryd.prog 65 #[.int .i64 s, .int .i64 b] w fun e w' => e = .returned (.int .i64 (Crc.rstep s b)) ∧ w' = w := by
  have e1 := half_xor s hs
  have hx := Crc.xor_lt (s / 2) Crc.P (by omega) (by decide)
  generalize hy : s / 2 ^^^ Crc.P = y at *
  by_cases h : (s % 2 + b) % 2 = 1
  · have HG : Hid (Crc.rstep s b = y) := by unfold Hid Crc.rstep; rw [if_pos h, hy]
    have ht : (((s : Int) % 2 + (b : Int)) % 2 == 1) = true := by simp; omega
    clear hy
    go_enter Tryd.func65, Tryd.ntmps65
    go_wp2
    go_ret
    rw [HG.out]
    exact ⟨rfl, rfl⟩
  · have HG : Hid (Crc.rstep s b = s / 2) := by unfold Hid Crc.rstep; rw [if_neg h]
    have ht : (((s : Int) % 2 + (b : Int)) % 2 == 1) = false := by simp; omega
    clear hy
    go_enter Tryd.func65, Tryd.ntmps65
    go_wp2
    go_ret
    rw [HG.out]
    exact ⟨by simp, rfl⟩
theorem rstep_bit (s x : Nat) (w : World) (hs : s < 4294967296) :
    Calls Tryd.prog 65 #[.int .i64 s, .int .i64 ((x : Int) % 2)] w fun e w' => e = .returned (.int .i64 (Crc.rstep s (x % 2))) ∧ w' = w := by
  have := rstep_any s (x % 2) w hs (by omega)
  rwa [Int.natCast_emod] at this
theorem rstep_lt (s b : Nat) (hs : s < 4294967296) (hb : b ≤ 1) : Crc.rstep s b < 4294967296 := by
  rw [Crc.rstep_eq s b hb]; exact Crc.f_lt _ (Crc.xor_lt _ _ hs (by omega))

set_option maxHeartbeats 1000000 in
theorem rgo_any (s0 : Nat) (r : BRow) (w : World) (hs : s0 < 4294967296) (hr : r.Ok w) :
    Calls Tryd.prog 63 #[.int .i64 s0, r.v] w fun e w' => e = .returned (.int .i64 ((Crc.run s0 r.l : Nat) : Int)) ∧ w' = w := by
  obtain ⟨a, cap, l⟩ := r
  obtain ⟨hrow, hby, hl⟩ := hr
  replace hrow : Row w a (l.map byte) := hrow
  replace hby : ∀ x ∈ l, x < 256 := hby
  replace hl : l.length ≤ maxLen := hl
  show Calls Tryd.prog 63 #[.int .i64 s0, .slice a l.length cap] w fun e w' => e = .returned (.int .i64 ((Crc.run s0 l : Nat) : Int)) ∧ w' = w
  unfold maxLen at hl
  have HROW := hid hrow
  have HBY := hid hby
  clear hrow hby
  go_enter Tryd.func63, Tryd.ntmps63
  go_wp2
  go_loopg [0, 5] l.length (fun g x i wr => ∃ k : Nat, k + g = l.length ∧ i = .int .i64 k ∧ x = .int .i64 (Crc.run s0 (l.take k)) ∧ wr = w)
  case atStart => exact ⟨0, by omega, rfl, rfl, rfl⟩
  case round =>
    obtain ⟨k, hk, rfl, rfl, rfl⟩ := hrel
    cases gk with
    | zero =>
      obtain rfl : k = l.length := by omega
      go_wp2
      go_ret
      rw [List.take_length]
      exact ⟨rfl, rfl⟩
    | succ g =>
      have hlt : k < l.length := by omega
      obtain ⟨b, o, rfl, hb, hc⟩ := HROW.out.at (i := k) (by simpa using hlt)
      rw [getD_map byte l 0 k hlt] at hc
      have hx := HBY.out (l.getD k 0) (by simp [List.getD_eq_getElem?_getD, hlt])
      have hsr := Crc.run_lt (l.take k) s0 hs (fun x hx => HBY.out x (List.mem_of_mem_take hx))
      have HE : Hid (Crc.rbyte 8 (Crc.run s0 (l.take k)) (l.getD k 0) = Crc.run s0 (l.take (k + 1))) := by
        unfold Hid
        rw [Crc.rbyte_step _ _ hx, List.take_succ_eq_append_getElem hlt, Crc.run_append]
        simp [List.getD_eq_getElem?_getD, hlt, Crc.run]
      generalize l.getD k 0 = x at *
      generalize Crc.run s0 (l.take k) = s at *
      go_wp2
      clear hc
      obtain ⟨wo, rfl⟩ : ∃ wo : World, wo = wr := ⟨_, rfl⟩
      go_loopg [0, 6, 7] 8 (fun g2 u0 u6 u7 wy => ∃ j s' x' : Nat, j + g2 = 8 ∧ u7 = .int .i64 j ∧ u0 = .int .i64 s' ∧ u6 = .int .i64 x' ∧ s' < 4294967296 ∧ x' < 256 ∧ Hid (Crc.rbyte g2 s' x' = Crc.rbyte 8 s x) ∧ wy = wo)
      case atStart => exact ⟨0, s, x, by omega, rfl, rfl, rfl, hsr, hx, rfl, rfl⟩
      case round =>
        obtain ⟨j, s', x', hj, rfl, rfl, rfl, hs', hx', HR, rfl⟩ := hrel
        cases gk with
        | zero =>
          obtain rfl : j = 8 := by omega
          go_wp2
          go_roundg g
          case measure => omega
          case rel => exact ⟨k + 1, by omega, by go_num, by rw [← HE.out, ← HR.out]; rfl, rfl⟩
        | succ g2 =>
          have hlt2 : j < 8 := by omega
          have R2 := rstep_lt s' (x' % 2) hs' (by omega)
          go_wp2_with (go_at_call 65; refine (rstep_bit s' x' _ hs').mono ?_; rintro e w1 ⟨rfl, rfl⟩)
          go_roundg g2
          case measure => omega
          case rel => exact ⟨j + 1, Crc.rstep s' (x' % 2), x' / 2, by omega, by go_num, rfl, by simp, R2, by omega, HR.out, rfl⟩

theorem rsum_any (r : BRow) (w : World) (hr : r.Ok w) :
    Calls Tryd.prog 55 #[r.v] w fun e w' => e = .returned (.int .i64 ((Crc.sumOf r.l : Nat) : Int)) ∧ w' = w := by
  have P1 := hid (rgo_any Crc.F r w Crc.F_lt hr)
  have h1 := Crc.run_lt r.l Crc.F Crc.F_lt hr.2.1
  have e1 : (Crc.run Crc.F r.l ^^^ Crc.F) + Crc.run Crc.F r.l = 4294967295 := compl32 _ h1
  have HG : Hid (Crc.sumOf r.l = Crc.run Crc.F r.l ^^^ Crc.F) := rfl
  generalize Crc.run Crc.F r.l = s at *
  generalize s ^^^ Crc.F = t at *
  generalize r.v = v at *
  go_enter Tryd.func55, Tryd.ntmps55
  go_wp2_with (go_at_call 63; refine P1.out.mono ?_; rintro e w1 ⟨rfl, rfl⟩)
  go_ret
  rw [HG.out]
  have e2 : (4294967295 : Int) - (s : Int) = (t : Int) := by omega
  exact ⟨by simp [← e2], rfl⟩
end Go.Proofs.YtpifiamafgaadaaDoor
