/- The law RingPlays. -/
import Derived.Test.YtndljmkdgakfcaaRgDoes
import Derived.Test.YtndljmkdgakfcaaAggs
namespace Go.Proofs.Ytndljmkdgakfcaa
open Go.RowKit Go.ChangeShapes Go.WideShapes Go.ChangeAt

/-- behind an operation a region may go on under more -/
theorem wpAnyH_more {P : Program} {md : Region.Mode} {ops : Array Oper} {Q : Exit → Act → World → Prop} {S S' : World → Prop} (hSS : ∀ w, S' w → S w) : ∀ (fuel : Nat) (listed : Array Bool) (a : Act) (w : World), wpAnyH P md ops Q S' fuel listed a w → wpAnyH P md ops Q S fuel listed a w := by
  intro fuel
  induction fuel with
  | zero => exact fun _ _ _ h => h
  | succ n ih =>
    intro listed a w h
    exact ⟨h.1, fun i hi => wpOp_mono (fun a' w' h12 => ⟨hSS _ h12.1, ih _ _ _ h12.2⟩) (h.2 i hi)⟩
def opV (x : Int × Int) : List Value := [.int .i64 x.1, .int .i64 x.2]
def op2Sh : Sh := .st2 (.int .i64) (.int .i64)
theorem is_op2 : Is Try.prog 34 op2Sh := .st2 Try.underlying34 (by kernel_rfl) rfl rfl (.int Try.underlying3 (by kernel_rfl)) (.int Try.underlying3 (by kernel_rfl))
theorem open_ops2 {H : Type} {enc : TypeId × Value → H} {W : World} {base : Nat} {v : Value} {d : DataW H} {ps : List MemPlace}
    (hval : Value.okWide Try.prog W .any base 22 v) (h : DataW.Trod enc Try.prog W 0 (fun _ => true) true 22 v d ps) : ∃ r : SRow, v = r.v ∧ r.Ok W op2Sh :=
  open_row Try.underlying22 is_op2 (by decide) hval h
abbrev Ops2 (w : World) (a : Option Addr) (xs : List (Int × Int)) : Prop := Elems opV 2 w a xs
theorem ops2_of {w : World} {r : SRow} (h : r.Ok w op2Sh) : ∃ xs : List (Int × Int), r.v = .slice r.a xs.length r.cap ∧ Ops2 w r.a xs := by
  obtain ⟨xs, h1, h2, _⟩ := elems_of (P := fun _ : Int × Int => True) (f := opV) h (fun cs hc => by obtain ⟨a, b, rfl, ⟨x, rfl, _⟩, ⟨y, rfl, _⟩⟩ := hc; exact ⟨(x, y), rfl, trivial⟩)
  exact ⟨xs, h1, h2⟩
theorem Elems.op2 {w : World} {a : Option Addr} {xs : List (Int × Int)} (h : Ops2 w a xs) (i : Nat) (hi : i < xs.length) :
    ∃ b o, a = some ⟨b, o, none⟩ ∧ b < w.heap.size ∧ w.cell? ⟨b, o + i * 2, none⟩ = some (.int .i64 xs[i].1) ∧ w.cell? ⟨b, o + i * 2 + 1, none⟩ = some (.int .i64 xs[i].2) := by
  rcases h with h | ⟨b, o, e, hb, hc⟩
  · subst h; simp at hi
  · exact ⟨b, o, e, hb, hc i 0 hi (by omega), hc i 1 hi (by omega)⟩
theorem both_new (w1 : World) (p c m : Nat) (h : Rg w1 p c m [] false) : Both (w1.alloc (.cells #[.slice none 0 0, .int .i64 m, .bool false] 31)) w1.heap.size p c w1.heap.size m [] false :=
  ⟨h.fr ((Fr.refl No w1).alloc _) id id, ⟨⟨.slice none 0 0, heap_new w1 _, .inl ⟨rfl, rfl⟩⟩, Nat.le_refl _⟩, h.ltp, h.ltc, by simp⟩

set_option maxRecDepth 100000 in
set_option maxHeartbeats 4000000 in
theorem plays_in (w : World) (a : Option Addr) (cap : Nat) (xs : List (Int × Int)) (hx : xs.length ≤ 100) (hP : Ops2 w a xs) (m : Nat) (h1 : 1 ≤ m) (h2 : m ≤ 1024) :
    Calls Try.prog 3 #[.int .i64 m, .slice a xs.length cap] w fun e w' => e = .returned (.bool true) ∧ Fr No w w' := by
  have HP := hid hP
  clear hP
  go_enter Try.func3, Try.ntmps3
  go_wp2_with fail
  refine (rg_New_ok w m h1 h2).mono ?_; rintro e w1 ⟨p, c, rfl, hG, hF1, hp, hc⟩
  have HB := hid (both_new w1 p c m hG)
  have HF1 := hid (hF1.alloc (.cells #[.slice none 0 0, .int .i64 m, .bool false] 31))
  have hbs : w.heap.size ≤ w1.heap.size := hF1.size
  clear hG hF1
  go_wp2_with fail
  obtain ⟨base, hbase⟩ : ∃ b, w1.heap.size = b := ⟨_, rfl⟩
  rw [hbase] at HB hbs ⊢
  clear hbase
  obtain ⟨px, hpx⟩ : ∃ px, base = px := ⟨_, rfl⟩
  have HB' : Hid (Both (w1.alloc (.cells #[.slice none 0 0, .int .i64 m, .bool false] 31)) base p c px m [] false) := by rw [← hpx]; exact HB.out
  rw [hpx]
  clear hpx HB
  go_loopg [8] xs.length (fun g i wr => ∃ (k : Nat) (l : List Int) (shut : Bool), k + g = xs.length ∧ i = .int .i64 k ∧ Hid (Both wr base p c px m l shut) ∧ Hid (l.length ≤ m) ∧ Hid (Fr No w wr))
  case atStart => exact ⟨0, [], false, by omega, rfl, HB', by unfold Hid; simp, HF1⟩
  case round =>
    obtain ⟨k, l, shut, hk, rfl, HB, HL, HF⟩ := hrel
    clear HB' HF1
    cases gk with
    | zero =>
      obtain rfl : k = xs.length := by omega
      have HA := hid (rg_awake wr)
      go_wp2_with (refine HA.out.mono ?_; rintro e W7 ⟨rfl, hF7⟩)
      go_ret
      exact ⟨rfl, HF.out.trans hF7⟩
    | succ g =>
      have hkl : k < xs.length := by omega
      obtain ⟨b, o, rfl, hb, c0, c1⟩ := HP.out.op2 k hkl
      replace c0 := (HF.out.cell (p := ⟨b, o + k * 2, none⟩) hb id).trans c0
      replace c1 := (HF.out.cell (p := ⟨b, o + k * 2 + 1, none⟩) hb id).trans c1
      obtain ⟨x, hx0⟩ : ∃ x, xs[k] = x := ⟨_, rfl⟩
      rw [hx0] at c0 c1
      clear hx0
      obtain ⟨ask, y⟩ := x
      replace c0 : wr.cell? ⟨b, o + k * 2, none⟩ = some (.int .i64 ask) := c0
      replace c1 : wr.cell? ⟨b, o + k * 2 + 1, none⟩ = some (.int .i64 y) := c1
      go_wp2_with fail
      have hk0 : (0 : Int) ≤ (k : Int) := by omega
      have hk1 : (k : Int) < (xs.length : Int) := by omega
      have HBd : Hid (Both wr.drew base p c px m l shut) := ⟨HB.out.r.fr (Fr.refl No wr).drew id id, HB.out.x.fr (Fr.refl No wr).drew (fun _ _ => id), HB.out.p, HB.out.c, HB.out.z⟩
      have HFd := hid HF.out.drew
      have hs0 : wr.drew.cell? ⟨b, o + k * 2, none⟩ = some (.int .i64 ask) ∧ wr.drew.cell? ⟨b, o + k * 2 + 1, none⟩ = some (.int .i64 y) := ⟨c0, c1⟩
      refine wp_region_held_drew (S := fun w' => w'.cell? ⟨b, o + k * 2, none⟩ = some (.int .i64 ask) ∧ w'.cell? ⟨b, o + k * 2 + 1, none⟩ = some (.int .i64 y)) (by kernel_rfl) hs0 (fun hHeld => ?_)
      clear c0 c1 hs0 HB HF
      refine wpAnyH_take (i := 0) (v := ?_) rfl (by kernel_rfl) (by kernel_rfl) (by kernel_rfl) (fun _ _ _ h => h) (Or.inl ⟨by rfl, ?_⟩) hHeld ?_
      rotate_left
      · intro w hSw; obtain ⟨hA1, hA2⟩ := hSw
        go_simp
        with_reducible rfl
      try simp only [Act.put, List.getElem_toArray, List.getElem_cons_zero, List.getElem_cons_succ, List.setIfInBounds_toArray, List.set_cons_zero, List.set_cons_succ]
      refine wpAnyH_take (i := 1) (v := ?_) rfl (by kernel_rfl) (by kernel_rfl) (by kernel_rfl) (fun _ _ _ h => h) (Or.inl ⟨by rfl, ?_⟩) hHeld ?_
      rotate_left
      · intro w hSw; obtain ⟨hA1, hA2⟩ := hSw
        go_simp
        with_reducible rfl
      try simp only [Act.put, List.getElem_toArray, List.getElem_cons_zero, List.getElem_cons_succ, List.setIfInBounds_toArray, List.set_cons_zero, List.set_cons_succ]
      refine wpAnyH_take (i := 2) (v := ?_) rfl (by kernel_rfl) (by kernel_rfl) (by kernel_rfl) (fun _ _ _ h => h) (Or.inl ⟨by rfl, ?_⟩) hHeld ?_
      rotate_left
      · intro w hSw; obtain ⟨hA1, hA2⟩ := hSw
        go_simp
        with_reducible rfl
      try simp only [Act.put, List.getElem_toArray, List.getElem_cons_zero, List.getElem_cons_succ, List.setIfInBounds_toArray, List.set_cons_zero, List.set_cons_succ]
      refine wpAnyH_take (i := 3) (v := ?_) rfl (by kernel_rfl) (by kernel_rfl) (by kernel_rfl) (fun _ _ _ h => h) (Or.inl ⟨by rfl, ?_⟩) hHeld ?_
      rotate_left
      · intro w hSw; obtain ⟨hA1, hA2⟩ := hSw
        go_simp
        with_reducible rfl
      try simp only [Act.put, List.getElem_toArray, List.getElem_cons_zero, List.getElem_cons_succ, List.setIfInBounds_toArray, List.set_cons_zero, List.set_cons_succ]
      refine wpAnyH_take (i := 4) (v := ?_) rfl (by kernel_rfl) (by kernel_rfl) (by kernel_rfl) (fun _ _ _ h => h) (Or.inl ⟨by rfl, ?_⟩) hHeld ?_
      rotate_left
      · intro w hSw; obtain ⟨hA1, hA2⟩ := hSw
        go_simp
        with_reducible rfl
      try simp only [Act.put, List.getElem_toArray, List.getElem_cons_zero, List.getElem_cons_succ, List.setIfInBounds_toArray, List.set_cons_zero, List.set_cons_succ]
      refine wpAnyH_take (i := 5) (v := ?_) rfl (by kernel_rfl) (by kernel_rfl) (by kernel_rfl) (fun _ _ _ h => h) (Or.inl ⟨by rfl, ?_⟩) hHeld ?_
      rotate_left
      · intro w hSw; obtain ⟨hA1, hA2⟩ := hSw
        go_simp
        with_reducible rfl
      try simp only [Act.put, List.getElem_toArray, List.getElem_cons_zero, List.getElem_cons_succ, List.setIfInBounds_toArray, List.set_cons_zero, List.set_cons_succ]
      refine wpAnyH_ready (rs := [6]) (by kernel_rfl) (by simp) ?_
      refine AllReadyH.cons rfl (fun K hK => ?_) AllReadyH.nil
      rw [if_pos (by rfl)]
      go_simp
      refine (does_any wr.drew base p c px m l shut ask y HBd.out (by have := HL.out; omega)).mono ?_; rintro e2 w2 ⟨rfl, hB2, hF2⟩
      have HL2 := hid (doF_len m l shut ask y HL.out)
      obtain ⟨d, hd⟩ : ∃ d, doF m l shut ask y = d := ⟨_, rfl⟩
      rw [hd] at hB2 HL2
      obtain ⟨l2, shut2⟩ := d
      replace HL2 : Hid (l2.length ≤ m) := HL2
      replace hB2 : Both w2 base p c px m l2 shut2 := hB2
      have HB2 := hid hB2
      have hnb : ¬ (b = p ∨ b = c ∨ base ≤ b) := by omega
      have HF2 := hid (HFd.out.then hF2 (fun i hi e => absurd hi (by omega)))
      have hh2 : w2.cell? ⟨b, o + k * 2, none⟩ = some (.int .i64 ask) ∧ w2.cell? ⟨b, o + k * 2 + 1, none⟩ = some (.int .i64 y) := ⟨(hF2.cell (p := ⟨b, o + k * 2, none⟩) (lt_of_cell hHeld.1) hnb).trans hHeld.1, (hF2.cell (p := ⟨b, o + k * 2 + 1, none⟩) (lt_of_cell hHeld.2) hnb).trans hHeld.2⟩
      refine hK.out _ _ hh2 (fun hHeld0 => ?_)
      clear hK K hF2 hd hB2 HBd HFd HL hHeld
      obtain ⟨⟨v2, hb2, hO2⟩, hpx2⟩ := HB2.out.x
      obtain ⟨av, cv, rfl⟩ := hO2.len
      have d0 := cell_blk hb2 0
      have d2 := cell_blk hb2 2
      simp only [List.getElem?_toArray, List.getElem?_cons_zero, List.getElem?_cons_succ] at d0 d2
      have hHeld : (w2.cell? ⟨b, o + k * 2, none⟩ = some (.int .i64 ask) ∧ w2.cell? ⟨b, o + k * 2 + 1, none⟩ = some (.int .i64 y)) ∧ w2.cell? ⟨px, 0, none⟩ = some (.slice av l2.length cv) ∧ w2.cell? ⟨px, 2, none⟩ = some (.bool shut2) := ⟨hHeld0, d0, d2⟩
      clear hHeld0 d0 d2 hb2 hO2 hpx2 hh2
      refine wpAnyH_more (S' := fun w' => (w'.cell? ⟨b, o + k * 2, none⟩ = some (.int .i64 ask) ∧ w'.cell? ⟨b, o + k * 2 + 1, none⟩ = some (.int .i64 y)) ∧ w'.cell? ⟨px, 0, none⟩ = some (.slice av l2.length cv) ∧ w'.cell? ⟨px, 2, none⟩ = some (.bool shut2)) (fun _ h => h.1) _ _ _ _ ?_
      try simp only [Act.put, List.getElem_toArray, List.getElem_cons_zero, List.getElem_cons_succ, List.setIfInBounds_toArray, List.set_cons_zero, List.set_cons_succ]
      refine wpAnyH_take (i := 7) (v := ?_) rfl (by kernel_rfl) (by kernel_rfl) (by kernel_rfl) (fun _ _ _ h => h) (Or.inl ⟨by rfl, ?_⟩) hHeld ?_
      rotate_left
      · intro w hSw
        go_simp
        with_reducible rfl
      try simp only [Act.put, List.getElem_toArray, List.getElem_cons_zero, List.getElem_cons_succ, List.setIfInBounds_toArray, List.set_cons_zero, List.set_cons_succ]
      refine wpAnyH_take (i := 8) (v := ?_) rfl (by kernel_rfl) (by kernel_rfl) (by kernel_rfl) (fun _ _ _ h => h) (Or.inl ⟨by rfl, ?_⟩) hHeld ?_
      rotate_left
      · intro w hSw
        go_simp
        with_reducible rfl
      try simp only [Act.put, List.getElem_toArray, List.getElem_cons_zero, List.getElem_cons_succ, List.setIfInBounds_toArray, List.set_cons_zero, List.set_cons_succ]
      refine wpAnyH_take (i := 9) (v := ?_) rfl (by kernel_rfl) (by kernel_rfl) (by kernel_rfl) (fun _ _ _ h => h) (Or.inl ⟨by rfl, ?_⟩) hHeld ?_
      rotate_left
      · intro w hSw
        go_simp
        with_reducible rfl
      try simp only [Act.put, List.getElem_toArray, List.getElem_cons_zero, List.getElem_cons_succ, List.setIfInBounds_toArray, List.set_cons_zero, List.set_cons_succ]
      refine wpAnyH_take (i := 11) (v := ?_) rfl (by kernel_rfl) (by kernel_rfl) (by kernel_rfl) (fun _ _ _ h => h) (Or.inl ⟨by rfl, ?_⟩) hHeld ?_
      rotate_left
      · intro w hSw
        go_simp
        with_reducible rfl
      try simp only [Act.put, List.getElem_toArray, List.getElem_cons_zero, List.getElem_cons_succ, List.setIfInBounds_toArray, List.set_cons_zero, List.set_cons_succ]
      refine wpAnyH_take (i := 12) (v := ?_) rfl (by kernel_rfl) (by kernel_rfl) (by kernel_rfl) (fun _ _ _ h => h) (Or.inl ⟨by rfl, ?_⟩) hHeld ?_
      rotate_left
      · intro w hSw
        go_simp
        with_reducible rfl
      try simp only [Act.put, List.getElem_toArray, List.getElem_cons_zero, List.getElem_cons_succ, List.setIfInBounds_toArray, List.set_cons_zero, List.set_cons_succ]
      refine wpAnyH_take (i := 13) (v := ?_) rfl (by kernel_rfl) (by kernel_rfl) (by kernel_rfl) (fun _ _ _ h => h) (Or.inl ⟨by rfl, ?_⟩) hHeld ?_
      rotate_left
      · intro w hSw
        go_simp
        with_reducible rfl
      try simp only [Act.put, List.getElem_toArray, List.getElem_cons_zero, List.getElem_cons_succ, List.setIfInBounds_toArray, List.set_cons_zero, List.set_cons_succ]
      refine wpAnyH_take (i := 14) (v := ?_) rfl (by kernel_rfl) (by kernel_rfl) (by kernel_rfl) (fun _ _ _ h => h) (Or.inl ⟨by rfl, ?_⟩) hHeld ?_
      rotate_left
      · intro w hSw; obtain ⟨_, hA1, hA2⟩ := hSw
        go_simp
        with_reducible rfl
      try simp only [Act.put, List.getElem_toArray, List.getElem_cons_zero, List.getElem_cons_succ, List.setIfInBounds_toArray, List.set_cons_zero, List.set_cons_succ]
      refine wpAnyH_take (i := 15) (v := ?_) rfl (by kernel_rfl) (by kernel_rfl) (by kernel_rfl) (fun _ _ _ h => h) (Or.inl ⟨by rfl, ?_⟩) hHeld ?_
      rotate_left
      · intro w hSw; obtain ⟨_, hA1, hA2⟩ := hSw
        go_simp
        with_reducible rfl
      try simp only [Act.put, List.getElem_toArray, List.getElem_cons_zero, List.getElem_cons_succ, List.setIfInBounds_toArray, List.set_cons_zero, List.set_cons_succ]
      refine wpAnyH_ready (rs := [10]) (by kernel_rfl) (by simp) ?_
      refine AllReadyH.cons rfl (fun K hK => ?_) AllReadyH.nil
      rw [if_pos (by rfl)]
      go_simp
      have HLen := hid (rg_Len w2 p c m _ shut2 HB2.out.r)
      rw [List.length_map] at HLen
      refine HLen.out.mono ?_; rintro e3 w3 ⟨rfl, rfl⟩
      refine hK.out _ _ hHeld (fun hHeld => ?_)
      clear hK K HLen
      try simp only [Act.put, List.getElem_toArray, List.getElem_cons_zero, List.getElem_cons_succ, List.setIfInBounds_toArray, List.set_cons_zero, List.set_cons_succ]
      refine wpAnyH_take (i := 16) (v := ?_) rfl (by kernel_rfl) (by kernel_rfl) (by kernel_rfl) (fun _ _ _ h => h) (Or.inl ⟨by rfl, ?_⟩) hHeld ?_
      rotate_left
      · intro w hSw
        go_simp
        with_reducible rfl
      try simp only [Act.put, List.getElem_toArray, List.getElem_cons_zero, List.getElem_cons_succ, List.setIfInBounds_toArray, List.set_cons_zero, List.set_cons_succ]
      refine wpAnyH_take (i := 17) (v := ?_) rfl (by kernel_rfl) (by kernel_rfl) (by kernel_rfl) (fun _ _ _ h => h) (Or.inl ⟨by rfl, ?_⟩) hHeld ?_
      rotate_left
      · intro w hSw
        go_simp
        with_reducible rfl
      try simp only [Act.put, List.getElem_toArray, List.getElem_cons_zero, List.getElem_cons_succ, List.setIfInBounds_toArray, List.set_cons_zero, List.set_cons_succ]
      refine wpAnyH_take (i := 18) (v := ?_) rfl (by kernel_rfl) (by kernel_rfl) (by kernel_rfl) (fun _ _ _ h => h) (Or.inl ⟨by rfl, ?_⟩) hHeld ?_
      rotate_left
      · intro w hSw
        go_simp
        with_reducible rfl
      try simp only [Act.put, List.getElem_toArray, List.getElem_cons_zero, List.getElem_cons_succ, List.setIfInBounds_toArray, List.set_cons_zero, List.set_cons_succ]
      refine wpAnyH_take (i := 19) (v := ?_) rfl (by kernel_rfl) (by kernel_rfl) (by kernel_rfl) (fun _ _ _ h => h) (Or.inl ⟨by rfl, ?_⟩) hHeld ?_
      rotate_left
      · intro w hSw
        go_simp
        with_reducible rfl
      try simp only [Act.put, List.getElem_toArray, List.getElem_cons_zero, List.getElem_cons_succ, List.setIfInBounds_toArray, List.set_cons_zero, List.set_cons_succ]
      refine wpAnyH_take (i := 21) (v := ?_) rfl (by kernel_rfl) (by kernel_rfl) (by kernel_rfl) (fun _ _ _ h => h) (Or.inl ⟨by rfl, ?_⟩) hHeld ?_
      rotate_left
      · intro w hSw
        go_simp
        with_reducible rfl
      try simp only [Act.put, List.getElem_toArray, List.getElem_cons_zero, List.getElem_cons_succ, List.setIfInBounds_toArray, List.set_cons_zero, List.set_cons_succ]
      refine wpAnyH_ready (rs := [20]) (by kernel_rfl) (by simp) ?_
      refine AllReadyH.cons rfl (fun K hK => ?_) AllReadyH.nil
      rw [if_pos (by rfl)]
      go_simp
      refine (rg_Room _ p c m _ shut2 HB2.out.r (by rw [List.length_map]; exact HL2.out) h2).mono ?_; rintro e4 w4 ⟨rfl, hF4⟩
      have hz4 := hF4.size
      have HB4 : Hid (Both w4 base p c px m l2 shut2) := ⟨HB2.out.r.fr hF4 id id, HB2.out.x.fr hF4 (fun _ _ => id), HB2.out.p, HB2.out.c, Nat.le_trans HB2.out.z hF4.size⟩
      have HF4 := hid (HF2.out.trans hF4)
      refine hK.out _ _ ⟨⟨(hF4.cell (p := ⟨b, o + k * 2, none⟩) (lt_of_cell hHeld.1.1) id).trans hHeld.1.1, (hF4.cell (p := ⟨b, o + k * 2 + 1, none⟩) (lt_of_cell hHeld.1.2) id).trans hHeld.1.2⟩, (hF4.cell (p := ⟨px, 0, none⟩) (lt_of_cell hHeld.2.1) id).trans hHeld.2.1, (hF4.cell (p := ⟨px, 2, none⟩) (lt_of_cell hHeld.2.2) id).trans hHeld.2.2⟩ (fun hHeld => ?_)
      clear hK K hF4 hz4 HB2 HF2
      try simp only [Act.put, List.getElem_toArray, List.getElem_cons_zero, List.getElem_cons_succ, List.setIfInBounds_toArray, List.set_cons_zero, List.set_cons_succ]
      refine wpAnyH_ready (rs := [22]) (by kernel_rfl) (by simp) ?_
      refine AllReadyH.cons rfl (fun K hK => ?_) AllReadyH.nil
      rw [if_pos (by rfl)]
      go_simp
      refine (rr_Room w4 base px m l2 shut2 HB4.out.x HL2.out h2).mono ?_; rintro e5 w5 ⟨rfl, hF5⟩
      have HB5 : Hid (Both w5 base p c px m l2 shut2) := ⟨HB4.out.r.fr hF5 id id, HB4.out.x.fr hF5 (fun _ _ => id), HB4.out.p, HB4.out.c, Nat.le_trans HB4.out.z hF5.size⟩
      have HF5 := hid (HF4.out.trans hF5)
      refine hK.out _ _ ⟨⟨(hF5.cell (p := ⟨b, o + k * 2, none⟩) (lt_of_cell hHeld.1.1) id).trans hHeld.1.1, (hF5.cell (p := ⟨b, o + k * 2 + 1, none⟩) (lt_of_cell hHeld.1.2) id).trans hHeld.1.2⟩, (hF5.cell (p := ⟨px, 0, none⟩) (lt_of_cell hHeld.2.1) id).trans hHeld.2.1, (hF5.cell (p := ⟨px, 2, none⟩) (lt_of_cell hHeld.2.2) id).trans hHeld.2.2⟩ (fun hHeld => ?_)
      clear hK K hF5 HB4 HF4
      try simp only [Act.put, List.getElem_toArray, List.getElem_cons_zero, List.getElem_cons_succ, List.setIfInBounds_toArray, List.set_cons_zero, List.set_cons_succ]
      refine wpAnyH_take (i := 23) (v := ?_) rfl (by kernel_rfl) (by kernel_rfl) (by kernel_rfl) (fun _ _ _ h => h) (Or.inl ⟨by rfl, ?_⟩) hHeld ?_
      rotate_left
      · intro w hSw
        go_simp
        with_reducible rfl
      try simp only [Act.put, List.getElem_toArray, List.getElem_cons_zero, List.getElem_cons_succ, List.setIfInBounds_toArray, List.set_cons_zero, List.set_cons_succ]
      refine wpAnyH_take (i := 24) (v := ?_) rfl (by kernel_rfl) (by kernel_rfl) (by kernel_rfl) (fun _ _ _ h => h) (Or.inl ⟨by rfl, ?_⟩) hHeld ?_
      rotate_left
      · intro w hSw
        go_simp
        with_reducible rfl
      try simp only [Act.put, List.getElem_toArray, List.getElem_cons_zero, List.getElem_cons_succ, List.setIfInBounds_toArray, List.set_cons_zero, List.set_cons_succ]
      refine wpAnyH_take (i := 25) (v := ?_) rfl (by kernel_rfl) (by kernel_rfl) (by kernel_rfl) (fun _ _ _ h => h) (Or.inl ⟨by rfl, ?_⟩) hHeld ?_
      rotate_left
      · intro w hSw
        go_simp
        with_reducible rfl
      try simp only [Act.put, List.getElem_toArray, List.getElem_cons_zero, List.getElem_cons_succ, List.setIfInBounds_toArray, List.set_cons_zero, List.set_cons_succ]
      refine wpAnyH_take (i := 26) (v := ?_) rfl (by kernel_rfl) (by kernel_rfl) (by kernel_rfl) (fun _ _ _ h => h) (Or.inl ⟨by rfl, ?_⟩) hHeld ?_
      rotate_left
      · intro w hSw
        go_simp
        with_reducible rfl
      try simp only [Act.put, List.getElem_toArray, List.getElem_cons_zero, List.getElem_cons_succ, List.setIfInBounds_toArray, List.set_cons_zero, List.set_cons_succ]
      refine wpAnyH_take (i := 28) (v := ?_) rfl (by kernel_rfl) (by kernel_rfl) (by kernel_rfl) (fun _ _ _ h => h) (Or.inl ⟨by rfl, ?_⟩) hHeld ?_
      rotate_left
      · intro w hSw
        go_simp
        with_reducible rfl
      try simp only [Act.put, List.getElem_toArray, List.getElem_cons_zero, List.getElem_cons_succ, List.setIfInBounds_toArray, List.set_cons_zero, List.set_cons_succ]
      refine wpAnyH_take (i := 29) (v := ?_) rfl (by kernel_rfl) (by kernel_rfl) (by kernel_rfl) (fun _ _ _ h => h) (Or.inl ⟨by rfl, ?_⟩) hHeld ?_
      rotate_left
      · intro w hSw
        go_simp
        with_reducible rfl
      try simp only [Act.put, List.getElem_toArray, List.getElem_cons_zero, List.getElem_cons_succ, List.setIfInBounds_toArray, List.set_cons_zero, List.set_cons_succ]
      refine wpAnyH_take (i := 30) (v := ?_) rfl (by kernel_rfl) (by kernel_rfl) (by kernel_rfl) (fun _ _ _ h => h) (Or.inl ⟨by rfl, ?_⟩) hHeld ?_
      rotate_left
      · intro w hSw
        go_simp
        with_reducible rfl
      try simp only [Act.put, List.getElem_toArray, List.getElem_cons_zero, List.getElem_cons_succ, List.setIfInBounds_toArray, List.set_cons_zero, List.set_cons_succ]
      refine wpAnyH_take (i := 31) (v := ?_) rfl (by kernel_rfl) (by kernel_rfl) (by kernel_rfl) (fun _ _ _ h => h) (Or.inl ⟨by rfl, ?_⟩) hHeld ?_
      rotate_left
      · intro w hSw; obtain ⟨_, hA1, hA2⟩ := hSw
        go_simp
        with_reducible rfl
      try simp only [Act.put, List.getElem_toArray, List.getElem_cons_zero, List.getElem_cons_succ, List.setIfInBounds_toArray, List.set_cons_zero, List.set_cons_succ]
      refine wpAnyH_ready (rs := [27]) (by kernel_rfl) (by simp) ?_
      refine AllReadyH.cons rfl (fun K hK => ?_) AllReadyH.nil
      rw [if_pos (by rfl)]
      go_simp
      refine (rg_Closed w5 p c m _ shut2 HB5.out.r).mono ?_; rintro e6 w6 ⟨rfl, rfl⟩
      refine hK.out _ _ hHeld (fun hHeld => ?_)
      clear hK K
      try simp only [Act.put, List.getElem_toArray, List.getElem_cons_zero, List.getElem_cons_succ, List.setIfInBounds_toArray, List.set_cons_zero, List.set_cons_succ]
      refine wpAnyH_take (i := 32) (v := ?_) rfl (by kernel_rfl) (by kernel_rfl) (by kernel_rfl) (fun _ _ _ h => h) (Or.inl ⟨by rfl, ?_⟩) hHeld ?_
      rotate_left
      · intro w hSw
        go_simp
        with_reducible rfl
      try simp only [Act.put, List.getElem_toArray, List.getElem_cons_zero, List.getElem_cons_succ, List.setIfInBounds_toArray, List.set_cons_zero, List.set_cons_succ]
      refine wpAnyH_take (i := 33) (v := ?_) rfl (by kernel_rfl) (by kernel_rfl) (by kernel_rfl) (fun _ _ _ h => h) (Or.inl ⟨by rfl, ?_⟩) hHeld ?_
      rotate_left
      · intro w hSw
        go_simp
        with_reducible rfl
      try simp only [Act.put, List.getElem_toArray, List.getElem_cons_zero, List.getElem_cons_succ, List.setIfInBounds_toArray, List.set_cons_zero, List.set_cons_succ]
      refine wpAnyH_done (by kernel_rfl) ?_ _
      clear hHeld
      go_wp2_with fail
      go_roundg g
      case measure => omega
      case rel => exact ⟨k + 1, l2, shut2, by omega, by go_num, HB5, HL2, HF5⟩
end Go.Proofs.Ytndljmkdgakfcaa
