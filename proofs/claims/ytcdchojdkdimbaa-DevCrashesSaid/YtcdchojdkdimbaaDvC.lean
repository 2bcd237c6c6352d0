/- dev: call: the next fate is taken, and what it says. -/
import Derived.Test.YtcdchojdkdimbaaDvA
namespace Go.Proofs.Ytcdchojdkdimbaa
open Go.RowKit

def popD (D : DM) : DM := { D with plan := D.plan.tail }
def fateD (D : DM) : Nat := D.plan.headD 0
theorem popD_ok {D : DM} (h : DOk D) : DOk (popD D) := ⟨h.lo, h.hi, h.firm, h.at_, h.opn, fun f hf => h.plan f (List.mem_of_mem_tail hf)⟩
theorem fateD_le {D : DM} (h : DOk D) : fateD D ≤ 2 := by
  unfold fateD
  cases hp : D.plan with
  | nil => simp
  | cons f t => exact h.plan f (by rw [hp]; exact List.mem_cons_self ..)
theorem DvV.ne {tD tW : TypeId} {w : World} {p : Nat} {S : Nat → Prop} {D : DM} {vF vO vP : Value} (h : DvV tD tW w p S D vF vO vP) (h1 : tD ≠ 42) (h2 : tD ≠ tW) (h3 : tD ≠ 3) : (∀ k, vF.ownBlock = some k → k ≠ p) ∧ (∀ k, vO.ownBlock = some k → k ≠ p) ∧ (∀ k, vP.ownBlock = some k → k ≠ p) := by
  refine ⟨fun k hk => ?_, fun k hk => ?_, fun k hk => ?_⟩
  · obtain ⟨x, hx⟩ := own_ty h.firm hk
    exact ne_ty hx h.blk (Ne.symm h1)
  · obtain ⟨x, hx⟩ := own_ty h.opn hk
    exact ne_ty hx h.blk (Ne.symm h2)
  · obtain ⟨x, hx⟩ := h.plan.ty hk
    exact ne_ty hx h.blk (Ne.symm h3)
theorem DvV.setP {tD tW : TypeId} {w : World} {p : Nat} {S : Nat → Prop} {D : DM} {vF vO vP : Value} (h : DvV tD tW w p S D vF vO vP) (h1 : tD ≠ 42) (h2 : tD ≠ tW) (h3 : tD ≠ 3) (v : Value) (l : List Nat) (hv : OffN w v l) (hs : ∀ k, v.ownBlock = some k → S k) :
    DvV tD tW (w.setCell ⟨p, 2, none⟩ v) p S { D with plan := l } vF vO v := by
  obtain ⟨hF, hO, hP⟩ := h.ne h1 h2 h3
  have f := Fr.set1 w p 2 v
  refine ⟨set_blk h.blk 2 v, own_frk h.firm f hF, own_frk h.opn f hO, hv.fr f (fun k hk => ?_), h.sp, h.sF, h.sO, hs, fun k hk => by rw [size_set]; exact h.lt k hk⟩
  obtain ⟨x, hx⟩ := hv.ty hk
  exact ne_ty hx h.blk (Ne.symm h3)

set_option maxRecDepth 100000 in
set_option maxHeartbeats 1000000 in
theorem dv_callW (w : World) (p : Nat) (S : Nat → Prop) (D : DM) (h : PD w p S D) (er : Int) (x1 x2 x3 : Value) (Q : Bool → World → Prop)
    (hcl : ∀ w1 b, PD w1 p S (popD D) → Fr (fun k => k = p) w w1 → Calls Try.prog 37 #[.bool b, x1, x2, x3] w1 (fun e w' => e = .returned (.tuple #[]) ∧ Q b w')) :
    Calls Try.prog 36 #[.pointer (some ⟨p, 0, none⟩), .int .i64 er, .func (.func 37) #[] #[x1, x2, x3]] w fun e w' =>
      (fateD D = 1 ∧ e = .returned (.int .i64 er) ∧ PD w' p S (popD D) ∧ Fr (fun k => k = p) w w') ∨ (fateD D ≠ 1 ∧ e = .returned (.int .i64 0) ∧ Q (decide (fateD D = 2)) w') := by
  have HC := hid hcl
  have HD := hid h
  obtain ⟨hok, vF, vO, vP, hV⟩ := h
  obtain ⟨c0, c1, c2, f0, f1, f2⟩ := hV.cells
  have hfz := hok.plan
  clear hcl c0 c1 f0 f1
  rcases hV.plan with ⟨rfl, hp⟩ | ⟨g, o, cp, cs, hv, hb, hoc, hlc, hel⟩
  · have HQ := hid (HC.out w false (by unfold popD; rw [hp]; exact (by obtain ⟨d1, d2, d3⟩ := D; simp at hp; subst hp; exact HD.out)) (Fr.refl _ w))
    have HFT : Hid (fateD D = 0) := by unfold Hid fateD; rw [hp]; rfl
    clear hV hp
    go_enter Try.func36, Try.ntmps36
    go_wp2_with (refine HQ.out.mono ?_; rintro e w2 ⟨rfl, hQ2⟩)
    go_ret
    exact .inr ⟨by rw [HFT.out]; decide, rfl, by rw [HFT.out]; exact hQ2⟩
  · cases hp : D.plan with
    | nil =>
      have HQ := hid (HC.out w false (by unfold popD; rw [hp]; exact (by obtain ⟨d1, d2, d3⟩ := D; simp at hp; subst hp; exact HD.out)) (Fr.refl _ w))
      have HFT : Hid (fateD D = 0) := by unfold Hid fateD; rw [hp]; rfl
      rw [hp] at hv
      subst hv
      clear hV hp hel hlc hoc hb
      go_enter Try.func36, Try.ntmps36
      go_wp2_with (refine HQ.out.mono ?_; rintro e w2 ⟨rfl, hQ2⟩)
      go_ret
      exact .inr ⟨by rw [HFT.out]; decide, rfl, by rw [HFT.out]; exact hQ2⟩
    | cons f t =>
      have hPD : popD D = { D with plan := t } := by unfold popD; rw [hp]; rfl
      have HFT : Hid (fateD D = f) := by unfold Hid fateD; rw [hp]; rfl
      have hf2 : f ≤ 2 := hfz f (by rw [hp]; exact List.mem_cons_self ..)
      have cx : w.cell? ⟨g, o, none⟩ = some (.int .i64 f) := by
        rw [cell_blk hb]
        have h0 := hel 0 (by rw [hp]; simp)
        have e0 : D.plan[0]'(by rw [hp]; simp) = f := by simp [hp]
        rw [Nat.add_zero, e0] at h0
        exact h0
      have hl1 : D.plan.length = t.length + 1 := by rw [hp]; rfl
      have HSET := hid (hV.setP (by decide) (by decide) (by decide))
      have HSP := hid hV.sP
      have HROW : Hid (∀ W : World, W = w → ∀ o' c', ((o' = o ∧ c' = 0) ∨ (o' = o + 1 ∧ c' = cp - 1)) → t.length ≤ c' → OffN W (.slice (some ⟨g, o', none⟩) t.length c') t) := fun W hW o' c' hoc' hlc' => by
        subst hW
        refine .inr ⟨g, o', c', cs, rfl, hb, by omega, hlc', fun j hj => ?_⟩
        rcases hoc' with ⟨_, rfl⟩ | ⟨rfl, rfl⟩
        · omega
        · have h1 := hel (j + 1) (by omega)
          have e1 : D.plan[j + 1]'(by omega) = t[j] := by simp [hp]
          rw [e1] at h1
          rw [show o + 1 + j = o + (j + 1) by omega]; exact h1
      rw [hl1] at hv hlc
      subst hv
      clear hV hel hb
      have h3 : f = 0 ∨ f = 1 ∨ f = 2 := by omega
      rcases h3 with rfl | rfl | rfl
      · go_enter Try.func36, Try.ntmps36
        go_wp2_with fail
        · have hO := HROW.out w rfl o 0 (.inl ⟨rfl, rfl⟩) (by omega)
          have hq := HC.out _ false (by rw [hPD]; exact ⟨hPD ▸ popD_ok hok, _, _, _, HSET.out _ t hO (fun k hk => HSP.out k (by simpa [Value.ownBlock] using hk))⟩) (Fr.set1 w p 2 _)
          refine hq.mono ?_; rintro e w2 ⟨rfl, hQ2⟩
          go_wp2_with fail
          go_ret
          exact .inr ⟨by rw [HFT.out]; decide, rfl, by rw [HFT.out]; exact hQ2⟩
        · have hO := HROW.out w rfl (o + 1) (cp - 1) (.inr ⟨rfl, rfl⟩) (by omega)
          have hq := HC.out _ false (by rw [hPD]; exact ⟨hPD ▸ popD_ok hok, _, _, _, HSET.out _ t hO (fun k hk => HSP.out k (by simpa [Value.ownBlock] using hk))⟩) (Fr.set1 w p 2 _)
          refine hq.mono ?_; rintro e w2 ⟨rfl, hQ2⟩
          go_wp2_with fail
          go_ret
          exact .inr ⟨by rw [HFT.out]; decide, rfl, by rw [HFT.out]; exact hQ2⟩
      · go_enter Try.func36, Try.ntmps36
        go_wp2_with fail
        · have hO := HROW.out w rfl o 0 (.inl ⟨rfl, rfl⟩) (by omega)
          have hq := HSET.out _ t hO (fun k hk => HSP.out k (by simpa [Value.ownBlock] using hk))
          go_ret
          exact .inl ⟨HFT.out, rfl, (by first | exact ⟨hPD ▸ popD_ok hok, _, _, _, hq⟩ | (rw [hPD]; exact ⟨hPD ▸ popD_ok hok, _, _, _, hq⟩)), Fr.set1 w p 2 _⟩
        · have hO := HROW.out w rfl (o + 1) (cp - 1) (.inr ⟨rfl, rfl⟩) (by omega)
          have hq := HSET.out _ t hO (fun k hk => HSP.out k (by simpa [Value.ownBlock] using hk))
          go_ret
          exact .inl ⟨HFT.out, rfl, (by first | exact ⟨hPD ▸ popD_ok hok, _, _, _, hq⟩ | (rw [hPD]; exact ⟨hPD ▸ popD_ok hok, _, _, _, hq⟩)), Fr.set1 w p 2 _⟩
      · go_enter Try.func36, Try.ntmps36
        go_wp2_with fail
        · have hO := HROW.out w rfl o 0 (.inl ⟨rfl, rfl⟩) (by omega)
          have hq := HC.out _ true (by rw [hPD]; exact ⟨hPD ▸ popD_ok hok, _, _, _, HSET.out _ t hO (fun k hk => HSP.out k (by simpa [Value.ownBlock] using hk))⟩) (Fr.set1 w p 2 _)
          refine hq.mono ?_; rintro e w2 ⟨rfl, hQ2⟩
          go_wp2_with fail
          go_ret
          exact .inr ⟨by rw [HFT.out]; decide, rfl, by rw [HFT.out]; exact hQ2⟩
        · have hO := HROW.out w rfl (o + 1) (cp - 1) (.inr ⟨rfl, rfl⟩) (by omega)
          have hq := HC.out _ true (by rw [hPD]; exact ⟨hPD ▸ popD_ok hok, _, _, _, HSET.out _ t hO (fun k hk => HSP.out k (by simpa [Value.ownBlock] using hk))⟩) (Fr.set1 w p 2 _)
          refine hq.mono ?_; rintro e w2 ⟨rfl, hQ2⟩
          go_wp2_with fail
          go_ret
          exact .inr ⟨by rw [HFT.out]; decide, rfl, by rw [HFT.out]; exact hQ2⟩
set_option maxRecDepth 100000 in
set_option maxHeartbeats 1000000 in
theorem dv_callR (w : World) (p : Nat) (S : Nat → Prop) (D : DM) (h : PD w p S D) (er : Int) (x1 x2 x3 : Value) (Q : Bool → World → Prop)
    (hcl : ∀ w1 b, PD w1 p S (popD D) → Fr (fun k => k = p) w w1 → Calls Try.prog 39 #[.bool b, x1, x2, x3] w1 (fun e w' => e = .returned (.tuple #[]) ∧ Q b w')) :
    Calls Try.prog 36 #[.pointer (some ⟨p, 0, none⟩), .int .i64 er, .func (.func 39) #[] #[x1, x2, x3]] w fun e w' =>
      (fateD D = 1 ∧ e = .returned (.int .i64 er) ∧ PD w' p S (popD D) ∧ Fr (fun k => k = p) w w') ∨ (fateD D ≠ 1 ∧ e = .returned (.int .i64 0) ∧ Q (decide (fateD D = 2)) w') := by
  have HC := hid hcl
  have HD := hid h
  obtain ⟨hok, vF, vO, vP, hV⟩ := h
  obtain ⟨c0, c1, c2, f0, f1, f2⟩ := hV.cells
  have hfz := hok.plan
  clear hcl c0 c1 f0 f1
  rcases hV.plan with ⟨rfl, hp⟩ | ⟨g, o, cp, cs, hv, hb, hoc, hlc, hel⟩
  · have HQ := hid (HC.out w false (by unfold popD; rw [hp]; exact (by obtain ⟨d1, d2, d3⟩ := D; simp at hp; subst hp; exact HD.out)) (Fr.refl _ w))
    have HFT : Hid (fateD D = 0) := by unfold Hid fateD; rw [hp]; rfl
    clear hV hp
    go_enter Try.func36, Try.ntmps36
    go_wp2_with (refine HQ.out.mono ?_; rintro e w2 ⟨rfl, hQ2⟩)
    go_ret
    exact .inr ⟨by rw [HFT.out]; decide, rfl, by rw [HFT.out]; exact hQ2⟩
  · cases hp : D.plan with
    | nil =>
      have HQ := hid (HC.out w false (by unfold popD; rw [hp]; exact (by obtain ⟨d1, d2, d3⟩ := D; simp at hp; subst hp; exact HD.out)) (Fr.refl _ w))
      have HFT : Hid (fateD D = 0) := by unfold Hid fateD; rw [hp]; rfl
      rw [hp] at hv
      subst hv
      clear hV hp hel hlc hoc hb
      go_enter Try.func36, Try.ntmps36
      go_wp2_with (refine HQ.out.mono ?_; rintro e w2 ⟨rfl, hQ2⟩)
      go_ret
      exact .inr ⟨by rw [HFT.out]; decide, rfl, by rw [HFT.out]; exact hQ2⟩
    | cons f t =>
      have hPD : popD D = { D with plan := t } := by unfold popD; rw [hp]; rfl
      have HFT : Hid (fateD D = f) := by unfold Hid fateD; rw [hp]; rfl
      have hf2 : f ≤ 2 := hfz f (by rw [hp]; exact List.mem_cons_self ..)
      have cx : w.cell? ⟨g, o, none⟩ = some (.int .i64 f) := by
        rw [cell_blk hb]
        have h0 := hel 0 (by rw [hp]; simp)
        have e0 : D.plan[0]'(by rw [hp]; simp) = f := by simp [hp]
        rw [Nat.add_zero, e0] at h0
        exact h0
      have hl1 : D.plan.length = t.length + 1 := by rw [hp]; rfl
      have HSET := hid (hV.setP (by decide) (by decide) (by decide))
      have HSP := hid hV.sP
      have HROW : Hid (∀ W : World, W = w → ∀ o' c', ((o' = o ∧ c' = 0) ∨ (o' = o + 1 ∧ c' = cp - 1)) → t.length ≤ c' → OffN W (.slice (some ⟨g, o', none⟩) t.length c') t) := fun W hW o' c' hoc' hlc' => by
        subst hW
        refine .inr ⟨g, o', c', cs, rfl, hb, by omega, hlc', fun j hj => ?_⟩
        rcases hoc' with ⟨_, rfl⟩ | ⟨rfl, rfl⟩
        · omega
        · have h1 := hel (j + 1) (by omega)
          have e1 : D.plan[j + 1]'(by omega) = t[j] := by simp [hp]
          rw [e1] at h1
          rw [show o + 1 + j = o + (j + 1) by omega]; exact h1
      rw [hl1] at hv hlc
      subst hv
      clear hV hel hb
      have h3 : f = 0 ∨ f = 1 ∨ f = 2 := by omega
      rcases h3 with rfl | rfl | rfl
      · go_enter Try.func36, Try.ntmps36
        go_wp2_with fail
        · have hO := HROW.out w rfl o 0 (.inl ⟨rfl, rfl⟩) (by omega)
          have hq := HC.out _ false (by rw [hPD]; exact ⟨hPD ▸ popD_ok hok, _, _, _, HSET.out _ t hO (fun k hk => HSP.out k (by simpa [Value.ownBlock] using hk))⟩) (Fr.set1 w p 2 _)
          refine hq.mono ?_; rintro e w2 ⟨rfl, hQ2⟩
          go_wp2_with fail
          go_ret
          exact .inr ⟨by rw [HFT.out]; decide, rfl, by rw [HFT.out]; exact hQ2⟩
        · have hO := HROW.out w rfl (o + 1) (cp - 1) (.inr ⟨rfl, rfl⟩) (by omega)
          have hq := HC.out _ false (by rw [hPD]; exact ⟨hPD ▸ popD_ok hok, _, _, _, HSET.out _ t hO (fun k hk => HSP.out k (by simpa [Value.ownBlock] using hk))⟩) (Fr.set1 w p 2 _)
          refine hq.mono ?_; rintro e w2 ⟨rfl, hQ2⟩
          go_wp2_with fail
          go_ret
          exact .inr ⟨by rw [HFT.out]; decide, rfl, by rw [HFT.out]; exact hQ2⟩
      · go_enter Try.func36, Try.ntmps36
        go_wp2_with fail
        · have hO := HROW.out w rfl o 0 (.inl ⟨rfl, rfl⟩) (by omega)
          have hq := HSET.out _ t hO (fun k hk => HSP.out k (by simpa [Value.ownBlock] using hk))
          go_ret
          exact .inl ⟨HFT.out, rfl, (by first | exact ⟨hPD ▸ popD_ok hok, _, _, _, hq⟩ | (rw [hPD]; exact ⟨hPD ▸ popD_ok hok, _, _, _, hq⟩)), Fr.set1 w p 2 _⟩
        · have hO := HROW.out w rfl (o + 1) (cp - 1) (.inr ⟨rfl, rfl⟩) (by omega)
          have hq := HSET.out _ t hO (fun k hk => HSP.out k (by simpa [Value.ownBlock] using hk))
          go_ret
          exact .inl ⟨HFT.out, rfl, (by first | exact ⟨hPD ▸ popD_ok hok, _, _, _, hq⟩ | (rw [hPD]; exact ⟨hPD ▸ popD_ok hok, _, _, _, hq⟩)), Fr.set1 w p 2 _⟩
      · go_enter Try.func36, Try.ntmps36
        go_wp2_with fail
        · have hO := HROW.out w rfl o 0 (.inl ⟨rfl, rfl⟩) (by omega)
          have hq := HC.out _ true (by rw [hPD]; exact ⟨hPD ▸ popD_ok hok, _, _, _, HSET.out _ t hO (fun k hk => HSP.out k (by simpa [Value.ownBlock] using hk))⟩) (Fr.set1 w p 2 _)
          refine hq.mono ?_; rintro e w2 ⟨rfl, hQ2⟩
          go_wp2_with fail
          go_ret
          exact .inr ⟨by rw [HFT.out]; decide, rfl, by rw [HFT.out]; exact hQ2⟩
        · have hO := HROW.out w rfl (o + 1) (cp - 1) (.inr ⟨rfl, rfl⟩) (by omega)
          have hq := HC.out _ true (by rw [hPD]; exact ⟨hPD ▸ popD_ok hok, _, _, _, HSET.out _ t hO (fun k hk => HSP.out k (by simpa [Value.ownBlock] using hk))⟩) (Fr.set1 w p 2 _)
          refine hq.mono ?_; rintro e w2 ⟨rfl, hQ2⟩
          go_wp2_with fail
          go_ret
          exact .inr ⟨by rw [HFT.out]; decide, rfl, by rw [HFT.out]; exact hQ2⟩
set_option maxRecDepth 100000 in
set_option maxHeartbeats 1000000 in
theorem dv_callF (w : World) (p : Nat) (S : Nat → Prop) (D : DM) (h : PD w p S D) (er : Int) (x1 : Value) (Q : Bool → World → Prop)
    (hcl : ∀ w1 b, PD w1 p S (popD D) → Fr (fun k => k = p) w w1 → Calls Try.prog 38 #[.bool b, x1] w1 (fun e w' => e = .returned (.tuple #[]) ∧ Q b w')) :
    Calls Try.prog 36 #[.pointer (some ⟨p, 0, none⟩), .int .i64 er, .func (.func 38) #[] #[x1]] w fun e w' =>
      (fateD D = 1 ∧ e = .returned (.int .i64 er) ∧ PD w' p S (popD D) ∧ Fr (fun k => k = p) w w') ∨ (fateD D ≠ 1 ∧ e = .returned (.int .i64 0) ∧ Q (decide (fateD D = 2)) w') := by
  have HC := hid hcl
  have HD := hid h
  obtain ⟨hok, vF, vO, vP, hV⟩ := h
  obtain ⟨c0, c1, c2, f0, f1, f2⟩ := hV.cells
  have hfz := hok.plan
  clear hcl c0 c1 f0 f1
  rcases hV.plan with ⟨rfl, hp⟩ | ⟨g, o, cp, cs, hv, hb, hoc, hlc, hel⟩
  · have HQ := hid (HC.out w false (by unfold popD; rw [hp]; exact (by obtain ⟨d1, d2, d3⟩ := D; simp at hp; subst hp; exact HD.out)) (Fr.refl _ w))
    have HFT : Hid (fateD D = 0) := by unfold Hid fateD; rw [hp]; rfl
    clear hV hp
    go_enter Try.func36, Try.ntmps36
    go_wp2_with (refine HQ.out.mono ?_; rintro e w2 ⟨rfl, hQ2⟩)
    go_ret
    exact .inr ⟨by rw [HFT.out]; decide, rfl, by rw [HFT.out]; exact hQ2⟩
  · cases hp : D.plan with
    | nil =>
      have HQ := hid (HC.out w false (by unfold popD; rw [hp]; exact (by obtain ⟨d1, d2, d3⟩ := D; simp at hp; subst hp; exact HD.out)) (Fr.refl _ w))
      have HFT : Hid (fateD D = 0) := by unfold Hid fateD; rw [hp]; rfl
      rw [hp] at hv
      subst hv
      clear hV hp hel hlc hoc hb
      go_enter Try.func36, Try.ntmps36
      go_wp2_with (refine HQ.out.mono ?_; rintro e w2 ⟨rfl, hQ2⟩)
      go_ret
      exact .inr ⟨by rw [HFT.out]; decide, rfl, by rw [HFT.out]; exact hQ2⟩
    | cons f t =>
      have hPD : popD D = { D with plan := t } := by unfold popD; rw [hp]; rfl
      have HFT : Hid (fateD D = f) := by unfold Hid fateD; rw [hp]; rfl
      have hf2 : f ≤ 2 := hfz f (by rw [hp]; exact List.mem_cons_self ..)
      have cx : w.cell? ⟨g, o, none⟩ = some (.int .i64 f) := by
        rw [cell_blk hb]
        have h0 := hel 0 (by rw [hp]; simp)
        have e0 : D.plan[0]'(by rw [hp]; simp) = f := by simp [hp]
        rw [Nat.add_zero, e0] at h0
        exact h0
      have hl1 : D.plan.length = t.length + 1 := by rw [hp]; rfl
      have HSET := hid (hV.setP (by decide) (by decide) (by decide))
      have HSP := hid hV.sP
      have HROW : Hid (∀ W : World, W = w → ∀ o' c', ((o' = o ∧ c' = 0) ∨ (o' = o + 1 ∧ c' = cp - 1)) → t.length ≤ c' → OffN W (.slice (some ⟨g, o', none⟩) t.length c') t) := fun W hW o' c' hoc' hlc' => by
        subst hW
        refine .inr ⟨g, o', c', cs, rfl, hb, by omega, hlc', fun j hj => ?_⟩
        rcases hoc' with ⟨_, rfl⟩ | ⟨rfl, rfl⟩
        · omega
        · have h1 := hel (j + 1) (by omega)
          have e1 : D.plan[j + 1]'(by omega) = t[j] := by simp [hp]
          rw [e1] at h1
          rw [show o + 1 + j = o + (j + 1) by omega]; exact h1
      rw [hl1] at hv hlc
      subst hv
      clear hV hel hb
      have h3 : f = 0 ∨ f = 1 ∨ f = 2 := by omega
      rcases h3 with rfl | rfl | rfl
      · go_enter Try.func36, Try.ntmps36
        go_wp2_with fail
        · have hO := HROW.out w rfl o 0 (.inl ⟨rfl, rfl⟩) (by omega)
          have hq := HC.out _ false (by rw [hPD]; exact ⟨hPD ▸ popD_ok hok, _, _, _, HSET.out _ t hO (fun k hk => HSP.out k (by simpa [Value.ownBlock] using hk))⟩) (Fr.set1 w p 2 _)
          refine hq.mono ?_; rintro e w2 ⟨rfl, hQ2⟩
          go_wp2_with fail
          go_ret
          exact .inr ⟨by rw [HFT.out]; decide, rfl, by rw [HFT.out]; exact hQ2⟩
        · have hO := HROW.out w rfl (o + 1) (cp - 1) (.inr ⟨rfl, rfl⟩) (by omega)
          have hq := HC.out _ false (by rw [hPD]; exact ⟨hPD ▸ popD_ok hok, _, _, _, HSET.out _ t hO (fun k hk => HSP.out k (by simpa [Value.ownBlock] using hk))⟩) (Fr.set1 w p 2 _)
          refine hq.mono ?_; rintro e w2 ⟨rfl, hQ2⟩
          go_wp2_with fail
          go_ret
          exact .inr ⟨by rw [HFT.out]; decide, rfl, by rw [HFT.out]; exact hQ2⟩
      · go_enter Try.func36, Try.ntmps36
        go_wp2_with fail
        · have hO := HROW.out w rfl o 0 (.inl ⟨rfl, rfl⟩) (by omega)
          have hq := HSET.out _ t hO (fun k hk => HSP.out k (by simpa [Value.ownBlock] using hk))
          go_ret
          exact .inl ⟨HFT.out, rfl, (by first | exact ⟨hPD ▸ popD_ok hok, _, _, _, hq⟩ | (rw [hPD]; exact ⟨hPD ▸ popD_ok hok, _, _, _, hq⟩)), Fr.set1 w p 2 _⟩
        · have hO := HROW.out w rfl (o + 1) (cp - 1) (.inr ⟨rfl, rfl⟩) (by omega)
          have hq := HSET.out _ t hO (fun k hk => HSP.out k (by simpa [Value.ownBlock] using hk))
          go_ret
          exact .inl ⟨HFT.out, rfl, (by first | exact ⟨hPD ▸ popD_ok hok, _, _, _, hq⟩ | (rw [hPD]; exact ⟨hPD ▸ popD_ok hok, _, _, _, hq⟩)), Fr.set1 w p 2 _⟩
      · go_enter Try.func36, Try.ntmps36
        go_wp2_with fail
        · have hO := HROW.out w rfl o 0 (.inl ⟨rfl, rfl⟩) (by omega)
          have hq := HC.out _ true (by rw [hPD]; exact ⟨hPD ▸ popD_ok hok, _, _, _, HSET.out _ t hO (fun k hk => HSP.out k (by simpa [Value.ownBlock] using hk))⟩) (Fr.set1 w p 2 _)
          refine hq.mono ?_; rintro e w2 ⟨rfl, hQ2⟩
          go_wp2_with fail
          go_ret
          exact .inr ⟨by rw [HFT.out]; decide, rfl, by rw [HFT.out]; exact hQ2⟩
        · have hO := HROW.out w rfl (o + 1) (cp - 1) (.inr ⟨rfl, rfl⟩) (by omega)
          have hq := HC.out _ true (by rw [hPD]; exact ⟨hPD ▸ popD_ok hok, _, _, _, HSET.out _ t hO (fun k hk => HSP.out k (by simpa [Value.ownBlock] using hk))⟩) (Fr.set1 w p 2 _)
          refine hq.mono ?_; rintro e w2 ⟨rfl, hQ2⟩
          go_wp2_with fail
          go_ret
          exact .inr ⟨by rw [HFT.out]; decide, rfl, by rw [HFT.out]; exact hQ2⟩
end Go.Proofs.Ytcdchojdkdimbaa
