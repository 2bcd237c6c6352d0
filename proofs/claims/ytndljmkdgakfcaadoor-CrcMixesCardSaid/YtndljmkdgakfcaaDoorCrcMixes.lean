/- The walk of lavabolaw01.CrcMixes. -/
import Derived.Test.YtndljmkdgakfcaaDoorCrcParts
import Derived.Test.YtndljmkdgakfcaaDoorCrcRef
import Derived.Test.YtndljmkdgakfcaaDoorBlk
import Derived.Test.YtndljmkdgakfcaaDoorShape
import Derived.Deep.RegionHeld3
import Derived.Deep.AppendLies
import Derived.Maps.AppendAt
import Derived.OwnWalk

namespace Go.Proofs.YtndljmkdgakfcaaDoor
open Go.RowKit

abbrev T3 := Nat × Nat × Nat
def T3.cs (t : T3) : List Value := [byte t.1, byte t.2.1, byte t.2.2]
theorem decode3 : ∀ (ls : List (List Value)), (∀ cs ∈ ls, (Sh.arr 3 (.int .u8)).Ok cs) → ∃ tr : List T3, ls = tr.map T3.cs ∧ ∀ t ∈ tr, t.1 < 256 ∧ t.2.1 < 256 ∧ t.2.2 < 256
  | [], _ => ⟨[], rfl, fun t h => by simp at h⟩
  | cs :: ls, h => by
    obtain ⟨tr, rfl, htr⟩ := decode3 ls (fun c hc => h c (List.mem_cons_of_mem _ hc))
    obtain ⟨hl, hc⟩ := h cs (List.mem_cons_self ..)
    replace hl : cs.length = 3 := hl
    obtain ⟨a, e0, w0⟩ := hc 0 (by omega)
    obtain ⟨b, e1, w1⟩ := hc 1 (by omega)
    obtain ⟨c, e2, w2⟩ := hc 2 (by omega)
    match cs, hl with
    | [v0, v1, v2], _ =>
      simp [Sh.size] at e0 e1 e2
      obtain ⟨a0, a1⟩ := bounds_u8 w0
      obtain ⟨b0, b1⟩ := bounds_u8 w1
      obtain ⟨c0, c1⟩ := bounds_u8 w2
      obtain ⟨a, rfl⟩ := Int.eq_ofNat_of_zero_le a0
      obtain ⟨b, rfl⟩ := Int.eq_ofNat_of_zero_le b0
      obtain ⟨c, rfl⟩ := Int.eq_ofNat_of_zero_le c0
      refine ⟨(a, b, c) :: tr, by rw [e0, e1, e2]; rfl, fun t ht => ?_⟩
      rcases List.mem_cons.1 ht with rfl | ht
      · exact ⟨by simp only; omega, by simp only; omega, by simp only; omega⟩
      · exact htr t ht

/-- two slices of the call's own lie in other blocks -/
def Sep (u v : Value) : Prop := ∀ k, u.ownBlock = some k → v.ownBlock ≠ some k
theorem Sep.symm {u v : Value} (h : Sep u v) : Sep v u := fun k hk e => h k e hk
theorem Sep.ne {u v : Value} (h : Sep u v) : u.ownBlock = none ∨ u.ownBlock ≠ v.ownBlock := by
  cases hu : u.ownBlock with
  | none => exact .inl rfl
  | some k => exact .inr (fun e => h k hu e.symm)
theorem Sep.grow {w : World} {B : Nat} {e : TypeId} {u v v' : Value} {n : Nat} {xs : List Value} (h : Sep u v) (hu : w.ownsRow B e 1 u n xs) {z : Nat} (hz : w.heap.size ≤ z) (hv : v'.ownBlock = v.ownBlock ∨ v'.ownBlock = some z) : Sep u v' := fun k hk e2 => by
  rcases hv with hv | hv
  · exact h k hk (hv ▸ e2)
  · rw [hv] at e2; cases e2
    have := (hu.lt z hk).2; omega
theorem Sep.nil (u : Value) : Sep u (.slice none 0 0) := fun k _ e => by simp [Value.ownBlock] at e
def tk (f : T3 → Nat) (tr : List T3) (k : Nat) : List Value := ((tr.take k).map f).map byte
theorem tk_succ (f : T3 → Nat) (tr : List T3) (k : Nat) (h : k < tr.length) : tk f tr k ++ [byte (f tr[k])] = tk f tr (k + 1) := by
  unfold tk; rw [List.take_succ_eq_append_getElem h, List.map_append, List.map_append]; rfl
def px (t : T3) : Nat := t.1 ^^^ t.2.1 ^^^ t.2.2
structure Four (w : World) (B : Nat) (va vb vc vx : Value) (na nb nc nx : Nat) (xa xb xc xx : List Value) : Prop where
  a : w.ownsRow B 5 1 va na xa
  b : w.ownsRow B 5 1 vb nb xb
  c : w.ownsRow B 5 1 vc nc xc
  x : w.ownsRow B 5 1 vx nx xx
  ab : Sep va vb
  ac : Sep va vc
  ax : Sep va vx
  bc : Sep vb vc
  bx : Sep vb vx
  cx : Sep vc vx
section
variable {w w1 : World} {B : Nat} {va vb vc vx v' : Value} {na nb nc nx : Nat} {xa xb xc xx : List Value}
theorem keptS {w w1 : World} {e : TypeId} {u v : Value} {n : Nat} {xs : List Value} {o : Obj} (h : w.ownsRow B e 1 u n xs) (g : (w.alloc o).grownBy w1 v.ownBlock) (s : Sep u v) : w1.ownsRow B e 1 u n xs := (h.alloc o).kept g s.ne
theorem Four.ga {o : Obj} (h : Four w B va vb vc vx na nb nc nx xa xb xc xx) {n' : Nat} {xs' : List Value} (h1 : w1.ownsRow B 5 1 v' n' xs') (g : (w.alloc o).grownBy w1 va.ownBlock) (hat : v'.ownBlock = va.ownBlock ∨ v'.ownBlock = some (w.alloc o).heap.size) : Four w1 B v' vb vc vx n' nb nc nx xs' xb xc xx :=
  ⟨h1, keptS h.b g h.ab.symm, keptS h.c g h.ac.symm, keptS h.x g h.ax.symm, (h.ab.symm.grow h.b (by simp) hat).symm, (h.ac.symm.grow h.c (by simp) hat).symm, (h.ax.symm.grow h.x (by simp) hat).symm, h.bc, h.bx, h.cx⟩
theorem Four.gb {o : Obj} (h : Four w B va vb vc vx na nb nc nx xa xb xc xx) {n' : Nat} {xs' : List Value} (h1 : w1.ownsRow B 5 1 v' n' xs') (g : (w.alloc o).grownBy w1 vb.ownBlock) (hat : v'.ownBlock = vb.ownBlock ∨ v'.ownBlock = some (w.alloc o).heap.size) : Four w1 B va v' vc vx na n' nc nx xa xs' xc xx :=
  ⟨keptS h.a g h.ab, h1, keptS h.c g h.bc.symm, keptS h.x g h.bx.symm, h.ab.grow h.a (by simp) hat, h.ac, h.ax, (h.bc.symm.grow h.c (by simp) hat).symm, (h.bx.symm.grow h.x (by simp) hat).symm, h.cx⟩
theorem Four.gc {o : Obj} (h : Four w B va vb vc vx na nb nc nx xa xb xc xx) {n' : Nat} {xs' : List Value} (h1 : w1.ownsRow B 5 1 v' n' xs') (g : (w.alloc o).grownBy w1 vc.ownBlock) (hat : v'.ownBlock = vc.ownBlock ∨ v'.ownBlock = some (w.alloc o).heap.size) : Four w1 B va vb v' vx na nb n' nx xa xb xs' xx :=
  ⟨keptS h.a g h.ac, keptS h.b g h.bc, h1, keptS h.x g h.cx.symm, h.ab, h.ac.grow h.a (by simp) hat, h.ax, h.bc.grow h.b (by simp) hat, h.bx, (h.cx.symm.grow h.x (by simp) hat).symm⟩
theorem Four.gx {o : Obj} (h : Four w B va vb vc vx na nb nc nx xa xb xc xx) {n' : Nat} {xs' : List Value} (h1 : w1.ownsRow B 5 1 v' n' xs') (g : (w.alloc o).grownBy w1 vx.ownBlock) (hat : v'.ownBlock = vx.ownBlock ∨ v'.ownBlock = some (w.alloc o).heap.size) : Four w1 B va vb vc v' na nb nc n' xa xb xc xs' :=
  ⟨keptS h.a g h.ax, keptS h.b g h.bx, keptS h.c g h.cx, h1, h.ab, h.ac, h.ax.grow h.a (by simp) hat, h.bc, h.bx.grow h.b (by simp) hat, h.cx.grow h.c (by simp) hat⟩
/-- behind the step of an append the new row's cells lie -/
theorem Fr.app {S : Nat → Prop} {a w : World} {o : Obj} (f : Fr S a w) {e : TypeId} {v : Value} {n : Nat} {xs : List Value} (h : w.ownsRow a.heap.size e 1 v n xs) (g : (w.alloc o).grownBy w1 v.ownBlock) : Fr S a w1 :=
  (f.alloc o).grown g (fun k hk hlt => absurd hlt (by have := (h.lt k hk).1; omega))
end
theorem one_new (w : World) (v : Value) (t : TypeId) : ∀ j u, [v][j]? = some u → (w.alloc (.cells #[v] t)).cell? ((⟨w.heap.size, 0, none⟩ : Addr).add j) = some u := fun j u hu => by
  match j, hu with
  | 0, hu => simp at hu; subst hu; exact cell_of_one (heap_new _ _)
  | j + 1, hu => simp at hu
theorem byte_one (n : Nat) : ∀ u ∈ [byte n], u.oneCell' = true := fun u hu => by simp at hu; subst hu; rfl
theorem u8x (a b : Nat) (ha : a < 256) (hb : b < 256) : bits .xor .u8 (a : Int) (b : Int) = ((a ^^^ b : Nat) : Int) := u8_xor_nat a b ha hb
theorem own_isB {w : World} {B : Nat} {v : Value} {n : Nat} {l : List Nat} (h : w.ownsRow B 5 1 v n (l.map byte)) (hl : ∀ x ∈ l, x < 256) (hn : n ≤ 300) : ∃ a c, v = .slice a n c ∧ IsB w (.slice a n c) l := by
  have hlen : l.length = n := by simpa using h.1
  obtain ⟨_, ⟨rfl, rfl⟩ | ⟨g, cap, cur, h1, h2, h3, h4, h5, h6, h7⟩⟩ := h
  · obtain rfl : l = [] := List.eq_nil_of_length_eq_zero hlen
    exact ⟨none, 0, rfl, IsB.none _ _ _⟩
  · refine ⟨_, _, h1, some ⟨g, 0, none⟩, cap, by rw [hlen], Row.of_blk (n := n) h3 (by simpa using h7) (by omega), hl, by unfold maxLen; simp only; omega⟩

theorem grown_drew {w w' : World} {o : Obj} {row : Option Nat} (h : (w.alloc o).drew.grownBy w' row) : (w.alloc o).grownBy w' row := ⟨h.os, h.tape, h.output, h.size, h.block⟩
theorem at_of {w : World} {o : Obj} {v : Value} {g n c : Nat} (h : v.ownBlock = some g ∨ g = w.heap.size + 1) : (Value.slice (some ⟨g, 0, none⟩) n c).ownBlock = v.ownBlock ∨ (Value.slice (some ⟨g, 0, none⟩) n c).ownBlock = some (w.alloc o).heap.size := by
  rcases h with h | h
  · exact .inl (by rw [h]; rfl)
  · exact .inr (by rw [h]; simp [Value.ownBlock])

theorem px_lt (t : T3) (h : t.1 < 256 ∧ t.2.1 < 256 ∧ t.2.2 < 256) : px t < 256 := Nat.xor_lt_two_pow (n := 8) (Nat.xor_lt_two_pow (n := 8) h.1 h.2.1) h.2.2
theorem tk_all (f : T3 → Nat) (tr : List T3) : tk f tr tr.length = (tr.map f).map byte := by unfold tk; rw [List.take_length]
theorem px_zip : ∀ tr : List T3, tr.map px = List.zipWith (· ^^^ ·) (List.zipWith (· ^^^ ·) (tr.map (·.1)) (tr.map (·.2.1))) (tr.map (·.2.2))
  | [] => rfl
  | t :: tr => by simp only [List.map_cons, List.zipWith_cons_cons, px_zip tr]; rfl
theorem mix_sum (tr : List T3) : Crc.sumOf (tr.map px) = Crc.sumOf (tr.map (·.1)) ^^^ Crc.sumOf (tr.map (·.2.1)) ^^^ Crc.sumOf (tr.map (·.2.2)) := by
  unfold Crc.sumOf
  have h1 := Crc.run_xor (tr.map (·.1)) (tr.map (·.2.1)) Crc.F Crc.F (by simp)
  have h2 := Crc.run_xor (List.zipWith (· ^^^ ·) (tr.map (·.1)) (tr.map (·.2.1))) (tr.map (·.2.2)) (Crc.F ^^^ Crc.F) Crc.F (by simp)
  rw [h1, ← px_zip] at h2
  rw [Nat.xor_self, Nat.zero_xor] at h2
  rw [h2]
  generalize Crc.run Crc.F (tr.map (·.1)) = a
  generalize Crc.run Crc.F (tr.map (·.2.1)) = b
  generalize Crc.run Crc.F (tr.map (·.2.2)) = c
  rw [Crc.xmid a Crc.F b Crc.F, Nat.xor_self, Nat.xor_zero, Nat.xor_assoc (a ^^^ b) c Crc.F]

set_option maxHeartbeats 4000000 in
theorem mixes_in (a : Option Addr) (b o cap : Nat) (tr : List T3) (w : World) (hL : Laid w) (h1 : tr.length ≤ 300) (hab : tr.length = 0 ∨ (a = some ⟨b, o, none⟩ ∧ b < w.heap.size))
    (hc : ∀ i, i < tr.length → w.cell? ⟨b, o + i * 3, none⟩ = some (byte (tr.getD i (0, 0, 0)).1) ∧ w.cell? ⟨b, o + i * 3 + 1, none⟩ = some (byte (tr.getD i (0, 0, 0)).2.1) ∧ w.cell? ⟨b, o + i * 3 + 2, none⟩ = some (byte (tr.getD i (0, 0, 0)).2.2)) (ht : ∀ t ∈ tr, t.1 < 256 ∧ t.2.1 < 256 ∧ t.2.2 < 256) :
    Calls Tryd.prog 6 #[.slice a tr.length cap] w fun e w' => e = .returned (.bool true) ∧ Fr No w w' := by
  have HL := hid hL
  have HC := hid hc
  have HT := hid ht
  have HAB := hid hab
  clear hab
  have info : (Tryd.prog.info? 5).map (fun i => (i.zero, i.size, i.bytes)) = some (some (.int .u8 0), 1, 1) := by kernel_rfl
  obtain ⟨i0, hi, hz0, hz1, hz2⟩ := info_parts info
  clear hL hc ht info
  go_enter Tryd.func6, Tryd.ntmps6
  go_wp2_with fail
  go_loopg [3, 4, 5, 6, 7] tr.length (fun g va vb vc vx i wr => ∃ (k : Nat) (za zb zc zx : Value), va = za ∧ vb = zb ∧ vc = zc ∧ vx = zx ∧ k + g = tr.length ∧ i = .int .i64 k ∧ Four wr w.heap.size za zb zc zx k k k k (tk (·.1) tr k) (tk (·.2.1) tr k) (tk (·.2.2) tr k) (tk px tr k) ∧ Fr No w wr)
  case atStart => exact ⟨0, _, _, _, _, rfl, rfl, rfl, rfl, by omega, rfl, ⟨own_nil _ _ _, own_nil _ _ _, own_nil _ _ _, own_nil _ _ _, Sep.nil _, Sep.nil _, Sep.nil _, Sep.nil _, Sep.nil _, Sep.nil _⟩, Fr.refl _ _⟩
  case round =>
    obtain ⟨k, za, zb, zc, zx, rfl, rfl, rfl, rfl, hk, rfl, hown, hF⟩ := hrel
    cases gk with
    | zero =>
      obtain rfl : k = tr.length := by omega
      have HF := hid hF
      obtain ⟨o1, o2, o3, o4, _, _, _, _, _, _⟩ := hown
      rw [tk_all] at o1 o2 o3 o4
      obtain ⟨aa, ca, rfl, ia⟩ := own_isB o1 (fun y hy => by obtain ⟨u, hu, rfl⟩ := List.mem_map.1 hy; exact (HT.out u hu).1) h1
      obtain ⟨ab, cb, rfl, ib⟩ := own_isB o2 (fun y hy => by obtain ⟨u, hu, rfl⟩ := List.mem_map.1 hy; exact (HT.out u hu).2.1) h1
      obtain ⟨ac, cc, rfl, ic⟩ := own_isB o3 (fun y hy => by obtain ⟨u, hu, rfl⟩ := List.mem_map.1 hy; exact (HT.out u hu).2.2) h1
      obtain ⟨ax, cx, rfl, ix⟩ := own_isB o4 (fun y hy => by obtain ⟨u, hu, rfl⟩ := List.mem_map.1 hy; exact px_lt u (HT.out u hu)) h1
      have HA := hid ia
      have HB := hid ib
      have HC' := hid ic
      have HX := hid ix
      have sa := Crc.sumOf_lt (tr.map (·.1)) (fun y hy => by obtain ⟨u, hu, rfl⟩ := List.mem_map.1 hy; exact (HT.out u hu).1)
      have sb := Crc.sumOf_lt (tr.map (·.2.1)) (fun y hy => by obtain ⟨u, hu, rfl⟩ := List.mem_map.1 hy; exact (HT.out u hu).2.1)
      have sc := Crc.sumOf_lt (tr.map (·.2.2)) (fun y hy => by obtain ⟨u, hu, rfl⟩ := List.mem_map.1 hy; exact (HT.out u hu).2.2)
      have hmix := mix_sum tr
      have ex1 := i64_xor_nat _ _ (Nat.lt_trans sa (by decide : 4294967296 < 4611686018427387904)) (Nat.lt_trans sb (by decide : 4294967296 < 4611686018427387904))
      have ex2 := i64_xor_nat _ _ (Nat.lt_trans (Crc.xor_lt _ _ sa sb) (by decide : 4294967296 < 4611686018427387904)) (Nat.lt_trans sc (by decide : 4294967296 < 4611686018427387904))
      rw [← hmix] at ex2
      clear hmix hF o1 o2 o3 o4 ia ib ic ix sa sb sc
      have SA : Hid (Crc.sumOf (tr.map (·.1)) = Crc.sumOf (tr.map (·.1))) := hid rfl
      have SB : Hid (Crc.sumOf (tr.map (·.2.1)) = Crc.sumOf (tr.map (·.2.1))) := hid rfl
      have SC : Hid (Crc.sumOf (tr.map (·.2.2)) = Crc.sumOf (tr.map (·.2.2))) := hid rfl
      have SX : Hid (Crc.sumOf (tr.map px) = Crc.sumOf (tr.map px)) := hid rfl
      generalize hsa : Crc.sumOf (tr.map (·.1)) = na at ex1 ex2
      generalize hsb : Crc.sumOf (tr.map (·.2.1)) = nb at ex1 ex2
      generalize hsc : Crc.sumOf (tr.map (·.2.2)) = nc at ex1 ex2
      generalize hsx : Crc.sumOf (tr.map px) = nx at ex2
      replace SA := hid hsa
      replace SB := hid hsb
      replace SC := hid hsc
      replace SX := hid hsx
      clear hsa hsb hsc hsx
      generalize na ^^^ nb = nab at ex1 ex2
      have HL2 := hid (HL.out.no HF.out)
      go_wp2_with fail
      (with_reducible refine (sum1 nx ?v0 (tr.map px) _ _ SX ?hL0 ?hb0 ?hr0).mono ?hm0)
      case hb0 => exact heap_new _ _
      case hL0 => exact HL2.out.no ((Fr.refl _ _).alloc _)
      case hr0 => exact HX.out.no ((Fr.refl _ _).alloc _)
      rintro e w1 ⟨rfl, hF1⟩
      have HF1 := hid (((Fr.refl No wr).alloc _).trans hF1); clear hF1
      go_wp2_with fail
      (with_reducible refine (sum1 na ?v1 (tr.map (·.1)) _ _ SA ?hL1 ?hb1 ?hr1).mono ?hm1)
      case hb1 => exact heap_new _ _
      case hL1 => exact HL2.out.no (HF1.out.alloc _)
      case hr1 => exact HA.out.no (HF1.out.alloc _)
      rintro e w2 ⟨rfl, hF2⟩
      have HF2 := hid ((HF1.out.alloc _).trans hF2); clear hF2
      go_wp2_with fail
      (with_reducible refine (sum1 nb ?v2 (tr.map (·.2.1)) _ _ SB ?hL2 ?hb2 ?hr2).mono ?hm2)
      case hb2 => exact heap_new _ _
      case hL2 => exact HL2.out.no (HF2.out.alloc _)
      case hr2 => exact HB.out.no (HF2.out.alloc _)
      rintro e w3 ⟨rfl, hF3⟩
      have HF3 := hid ((HF2.out.alloc _).trans hF3); clear hF3
      go_wp2_with fail
      (with_reducible refine (sum1 nc ?v3 (tr.map (·.2.2)) _ _ SC ?hL3 ?hb3 ?hr3).mono ?hm3)
      case hb3 => exact heap_new _ _
      case hL3 => exact HL2.out.no (HF3.out.alloc _)
      case hr3 => exact HC'.out.no (HF3.out.alloc _)
      rintro e w4 ⟨rfl, hF4⟩
      have HF4 := hid ((HF3.out.alloc _).trans hF4); clear hF4
      go_wp2_with fail
      refine (crc_awake w4 (HL2.out.no HF4.out).1 (HL2.out.no HF4.out).2).mono ?_
      rintro e w5 ⟨rfl, hF5⟩
      have HF5 := hid (HF.out.trans (HF4.out.trans hF5)); clear hF5
      go_wp2_with fail
      go_ret
      exact ⟨rfl, HF5.out⟩
    | succ g =>
      have hlt : k < tr.length := by omega
      have hab := HAB.out
      obtain ⟨rfl, hb⟩ := hab.resolve_left (by omega)
      clear hab
      obtain ⟨c0, c1, c2⟩ := HC.out k hlt
      obtain ⟨t0, t1, t2⟩ := HT.out tr[k] (List.getElem_mem hlt)
      have eget : tr.getD k (0, 0, 0) = tr[k] := by simp [List.getD_eq_getElem?_getD, hlt]
      rw [eget] at c0 c1 c2
      have HX0 := hid (tk_succ (·.1) tr k hlt)
      have HX1 := hid (tk_succ (·.2.1) tr k hlt)
      have HX2 := hid (tk_succ (·.2.2) tr k hlt)
      have HX3 := hid (tk_succ px tr k hlt)
      have HPX : Hid (px tr[k] = tr[k].1 ^^^ tr[k].2.1 ^^^ tr[k].2.2) := rfl
      generalize px tr[k] = p at *
      generalize tr[k].1 = y0 at *
      generalize tr[k].2.1 = y1 at *
      generalize tr[k].2.2 = y2 at *
      have HF := hid hF
      have HO := hid hown
      have HC0 := hid c0
      have HC1 := hid c1
      have HC2 := hid c2
      have x1 := u8x y0 y1 t0 t1
      have x2 := u8x (y0 ^^^ y1) y2 (Nat.xor_lt_two_pow (n := 8) t0 t1) t2
      rw [← HPX.out] at x2
      generalize y0 ^^^ y1 = y01 at *
      have e0 := (hF.cell (p := ⟨b, o + k * 3, none⟩) hb id).trans c0
      have e1 := (hF.cell (p := ⟨b, o + k * 3 + 1, none⟩) hb id).trans c1
      have e2 := (hF.cell (p := ⟨b, o + k * 3 + 2, none⟩) hb id).trans c2
      clear c0 c1 c2 hF hown eget
      go_wp2_with (first
        | (at_builtin; refine wpList_append_own_at _ rfl (.tmp 18) (.tmp 24) 22 rfl w.heap.size 5 i0 (.int .u8 0) 1 1 Tryd.underlying22 hi hz0 hz1 hz2 rfl (by decide) _ k _ rfl (HO.out.a.alloc _) ⟨wr.heap.size, 0, none⟩ 1 1 [byte y0] rfl rfl (one_new _ _ _) (byte_one _) (by unfold maxLen; omega) (by omega) (by have := HF.out.size; simp; omega) ?_; intro v1 w1 hown1 hgrow1 hn1 hat1; clear hn1; rw [HX0.out] at hown1; have HF1 := hid (HF.out.app HO.out.a hgrow1); have HO1 := hid (HO.out.ga hown1 hgrow1 hat1); have e0 := (HF1.out.cell (p := ⟨b, o + k * 3, none⟩) hb id).trans HC0.out; have e1 := (HF1.out.cell (p := ⟨b, o + k * 3 + 1, none⟩) hb id).trans HC1.out; have e2 := (HF1.out.cell (p := ⟨b, o + k * 3 + 2, none⟩) hb id).trans HC2.out; clear hown1 hgrow1 hat1)
        | (at_builtin; refine wpList_append_own_at _ rfl (.tmp 26) (.tmp 32) 22 rfl w.heap.size 5 i0 (.int .u8 0) 1 1 Tryd.underlying22 hi hz0 hz1 hz2 rfl (by decide) _ k _ rfl (HO1.out.b.alloc _) ⟨w1.heap.size, 0, none⟩ 1 1 [byte y1] rfl rfl (one_new _ _ _) (byte_one _) (by unfold maxLen; omega) (by omega) (by have := HF1.out.size; simp; omega) ?_; intro v2 w2 hown2 hgrow2 hn2 hat2; clear hn2; rw [HX1.out] at hown2; have HF2 := hid (HF1.out.app HO1.out.b hgrow2); have HO2 := hid (HO1.out.gb hown2 hgrow2 hat2); have e0 := (HF2.out.cell (p := ⟨b, o + k * 3, none⟩) hb id).trans HC0.out; have e1 := (HF2.out.cell (p := ⟨b, o + k * 3 + 1, none⟩) hb id).trans HC1.out; have e2 := (HF2.out.cell (p := ⟨b, o + k * 3 + 2, none⟩) hb id).trans HC2.out; clear hown2 hgrow2 hat2)
        | (at_builtin; refine wpList_append_own_at _ rfl (.tmp 34) (.tmp 40) 22 rfl w.heap.size 5 i0 (.int .u8 0) 1 1 Tryd.underlying22 hi hz0 hz1 hz2 rfl (by decide) _ k _ rfl (HO2.out.c.alloc _) ⟨w2.heap.size, 0, none⟩ 1 1 [byte y2] rfl rfl (one_new _ _ _) (byte_one _) (by unfold maxLen; omega) (by omega) (by have := HF2.out.size; simp; omega) ?_; intro v3 w3 hown3 hgrow3 hn3 hat3; clear hn3; rw [HX2.out] at hown3; have HF3 := hid (HF2.out.app HO2.out.c hgrow3); have HO3 := hid (HO2.out.gc hown3 hgrow3 hat3); have e0 := (HF3.out.cell (p := ⟨b, o + k * 3, none⟩) hb id).trans HC0.out; have e1 := (HF3.out.cell (p := ⟨b, o + k * 3 + 1, none⟩) hb id).trans HC1.out; have e2 := (HF3.out.cell (p := ⟨b, o + k * 3 + 2, none⟩) hb id).trans HC2.out; clear hown3 hgrow3 hat3))
      go_region_held3 (fun w' => w'.cell? ⟨b, o + k * 3, none⟩ = some (byte y0) ∧ w'.cell? ⟨b, o + k * 3 + 1, none⟩ = some (byte y1) ∧ w'.cell? ⟨b, o + k * 3 + 2, none⟩ = some (byte y2))
        (first | go_keep | exact ⟨(HF4.out.cell (p := ⟨b, o + k * 3, none⟩) hb id).trans HC0.out, (HF4.out.cell (p := ⟨b, o + k * 3 + 1, none⟩) hb id).trans HC1.out, (HF4.out.cell (p := ⟨b, o + k * 3 + 2, none⟩) hb id).trans HC2.out⟩)
        ((refine (step_append_lies _ (by rfl) _ _ _ (by rfl) w.heap.size 5 i0 (.int .u8 0) 1 1 Tryd.underlying22 hi hz0 hz1 hz2 rfl (by decide) _ k (tk px tr k) (by rfl) ((HO3.out.x.alloc _).drew) ⟨w3.heap.size, 0, none⟩ 1 1 [byte p] (by rfl) (by rfl) (one_new _ _ _) (byte_one _) (by decide) (by unfold maxLen; omega) (by omega) (by have := HF3.out.size; simp; omega) (w3.heap.size + 1) (by simp) ?_); intro g4 cap4 w4 hown4 hgrow4 hat4 hlt4; clear hlt4; rw [HX3.out] at hown4; have HF4 := hid (HF3.out.app HO3.out.x (grown_drew hgrow4)); have HO4 := hid (HO3.out.gx hown4 (grown_drew hgrow4) (at_of hat4)); clear hown4 hgrow4 hat4))
      go_wp2_with fail
      go_roundg g
      case measure => omega
      case rel => exact ⟨k + 1, _, _, _, _, rfl, rfl, rfl, rfl, by omega, by go_num, HO4.out, HF4.out⟩

set_option maxHeartbeats 1000000 in
theorem mixes_out (a : Option Addr) (n cap : Nat) (w : World) (hL : Laid w) (h : 300 < n) :
    Calls Tryd.prog 6 #[.slice a n cap] w fun e w' => e = .returned (.bool true) ∧ Fr No w w' := by
  have HN := hid (crc_awake w hL.1 hL.2)
  clear hL
  go_enter Tryd.func6, Tryd.ntmps6
  go_wp2_with (go_at_call 9; refine HN.out.mono ?_; rintro e w5 ⟨rfl, hF5⟩)
  go_ret
  exact ⟨rfl, by assumption⟩

set_option linter.unusedVariables false in
theorem law_CrcMixes (w : World) (r : SRow) (hr : r.Ok w (.arr 3 (.int .u8))) (hL : Laid w) :
    Calls Tryd.prog 6 #[r.v] w fun e w' => e = .returned (.bool true) ∧ Fr No w w' := by
  obtain ⟨a, cap, ls⟩ := r
  obtain ⟨tr, htr, hlt⟩ := decode3 ls (fun cs hc => (hr.el cs hc).1)
  subst htr
  have hat : SRow.At w ⟨a, cap, tr.map T3.cs⟩ 3 := hr.at_
  show Calls Tryd.prog 6 #[.slice a (tr.map T3.cs).length cap] w fun e w' => e = .returned (.bool true) ∧ Fr No w w'
  rw [List.length_map]
  by_cases h : 300 < tr.length
  · exact mixes_out a _ cap w hL h
  · rcases hat with h0 | ⟨b, o, e, hb, hc⟩
    · obtain rfl : tr = [] := by simpa using h0
      exact mixes_in a 0 0 cap [] w hL (by simp) (.inl rfl) (fun i hi => by simp at hi) (fun t ht => by simp at ht)
    · simp only at e
      subst e
      refine mixes_in _ b o cap tr w hL (by omega) (.inr ⟨rfl, hb⟩) (fun i hi => ?_) hlt
      have h0 := hc i 0 (by simpa using hi) (by omega)
      have h1 := hc i 1 (by simpa using hi) (by omega)
      have h2 := hc i 2 (by simpa using hi) (by omega)
      have eg : (tr.map T3.cs).getD i [] = T3.cs (tr.getD i (0, 0, 0)) := by simp [List.getD_eq_getElem?_getD, hi]
      simp only [eg] at h0 h1 h2
      exact ⟨h0, h1, h2⟩

theorem is_b3 : Is Tryd.prog 36 (.arr 3 (.int .u8)) := .arr Tryd.underlying36 (by kernel_rfl) (.int Tryd.underlying5 (by kernel_rfl))
theorem open_b3s {H : Type} {enc : TypeId × Value → H} {W : World} {base : Nat} {v : Value} {d : DataW H} {ps : List MemPlace}
    (hval : Value.okWide Tryd.prog W .any base 35 v) (h : DataW.Trod enc Tryd.prog W 0 (fun _ => true) true 35 v d ps) : ∃ r : SRow, v = r.v ∧ r.Ok W (.arr 3 (.int .u8)) :=
  open_row Tryd.underlying35 is_b3 (by decide) hval h
end Go.Proofs.YtndljmkdgakfcaaDoor
