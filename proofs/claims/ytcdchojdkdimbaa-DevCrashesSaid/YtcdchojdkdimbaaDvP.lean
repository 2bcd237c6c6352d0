/- dev: Plan. -/
import Derived.Test.YtcdchojdkdimbaaDvC
import Derived.ArgAppend
import Derived.Lib.JoinLaws
import Derived.Laws.AppendOwnNone
namespace Go.Proofs.Ytcdchojdkdimbaa
open Go.RowKit

/-- cells from a place on are others -/
def setsA : Array Value → Nat → List Value → Array Value
  | cs, _, [] => cs
  | cs, o, v :: r => setsA (cs.setIfInBounds o v) (o + 1) r
theorem setsA_size : ∀ (vs : List Value) (cs : Array Value) (o : Nat), (setsA cs o vs).size = cs.size
  | [], _, _ => rfl
  | v :: r, cs, o => by rw [setsA, setsA_size r]; simp
theorem setsA_out : ∀ (vs : List Value) (cs : Array Value) (o j : Nat), j < o ∨ o + vs.length ≤ j → (setsA cs o vs)[j]? = cs[j]?
  | [], _, _, _, _ => rfl
  | v :: r, cs, o, j, h => by
    rw [List.length_cons] at h
    rw [setsA, setsA_out r _ (o + 1) j (by omega), Array.getElem?_setIfInBounds_ne (by omega)]
theorem setsA_in : ∀ (vs : List Value) (cs : Array Value) (o j : Nat), o + vs.length ≤ cs.size → (hj : j < vs.length) → (setsA cs o vs)[o + j]? = some vs[j]
  | [], _, _, j, _, hj => absurd hj (by simp)
  | v :: r, cs, o, 0, h, hj => by
    rw [List.length_cons] at h
    rw [setsA, setsA_out r _ (o + 1) (o + 0) (by omega), Nat.add_zero, Array.getElem?_setIfInBounds_self_of_lt (by omega)]; rfl
  | v :: r, cs, o, j + 1, h, hj => by
    rw [List.length_cons] at h
    rw [setsA, show o + (j + 1) = o + 1 + j by omega, setsA_in r _ (o + 1) j (by simpa using (by omega)) (by simpa using hj)]; rfl
theorem blk_setCells {g : Nat} {t : TypeId} : ∀ (vs : List Value) (o : Nat) (w : World) (cs : Array Value), w.heap[g]? = some (.cells cs t (0, 0)) → (w.setCells g o vs).heap[g]? = some (.cells (setsA cs o vs) t (0, 0)) ∧ Fr (fun k => k = g) w (w.setCells g o vs)
  | [], _, w, _, h => ⟨h, Fr.refl _ w⟩
  | v :: r, o, w, cs, h => by
    obtain ⟨h1, h2⟩ := blk_setCells r (o + 1) _ _ (set_blk h o v)
    exact ⟨h1, (Fr.set1 w g o v).trans h2⟩

theorem wpList_append_offN {P : Program} (w : World) {ops : Array Oper} {rest : List Oper} {o : Oper} {a : Act} {Q : Exit → Act → World → Prop} (hgd : o.guard = none) (s x : Operand) (t : TypeId)
    (ho : o.op = .call { callee := .builtin .append, args := #[s, x], argTypes := #[t, t] })
    (ht : P.underlying t = some (.slice 3)) (hinfo : (P.info? 3).map (fun i => (i.zero, i.size, i.bytes)) = some (some (.int .i64 0), 1, 8))
    (v : Value) (l m : List Nat) (hs : a.eval s = v) (h : OffN w v l)
    (ad : Option Addr) (c : Nat) (hx : a.eval x = .slice ad m.length c) (hm : (m = [] ∧ ad = none ∧ c = 0) ∨ (m ≠ [] ∧ Row w ad (m.map nv))) (hlen : l.length + m.length ≤ 1000000)
    (hK : ∀ v' w', OffN w' v' (l ++ m) → Fr (fun k => v.ownBlock = some k) w w' → (∀ k, v'.ownBlock = some k → v.ownBlock = some k ∨ w.heap.size ≤ k) → wpList P ops Q rest (a.put o.dst v') w') : wpList P ops Q (o :: rest) a w := by
  obtain ⟨i, hi, hz, hsz, hby⟩ := info_parts hinfo
  have hone : ∀ u ∈ m.map nv, u.oneCell' = true := fun u hu => by obtain ⟨z, _, rfl⟩ := List.mem_map.1 hu; rfl
  rcases hm with ⟨rfl, rfl, rfl⟩ | ⟨hm, hrow⟩
  · rcases h with ⟨rfl, rfl⟩ | ⟨g, o', cap, cs, rfl, hb, hcap, hlc, hel⟩
    · exact wpList_append_own_none hgd s x t ho 0 3 i 1 ht hi (.slice none 0 0) 0 [] hs (World.ownsRow_nil _ _ _ _) hx (hK _ w (.inl ⟨rfl, rfl⟩) (Fr.refl _ w) (fun k hk => .inl hk))
    · refine wpList_append_room1 w hgd s x t t ho 3 (.int .i64 0) 8 ht hinfo g o' l.length cap hs (.slice none 0 0) hx 0 [] (Src.ofNil (size := 1) w ht 0) (by omega) (fun j hj => absurd hj (by simp)) (fun j hj => absurd hj (by simp)) ?_
      refine hK _ w (.inr ⟨g, o', cap, cs, by simp, hb, hcap, by simpa using hlc, fun j hj => ?_⟩) (Fr.refl _ w) (fun k hk => .inl hk)
      have hj' : j < l.length := by simpa using hj
      rw [hel j hj']; simp
  · have hml : 0 < m.length := List.length_pos_iff.2 hm
    rcases hrow with h0 | ⟨b, ob, rfl, hbz, hc⟩
    · exact absurd (List.map_eq_nil_iff.1 h0) hm
    have hnews : ∀ j u, (m.map nv)[j]? = some u → w.cell? ((⟨b, ob, none⟩ : Addr).add j) = some u := fun j u hu => by
      have hj : j < (m.map nv).length := (List.getElem?_eq_some_iff.1 hu).1
      rw [Addr.add_mid, hc j hj, List.getD_eq_getElem?_getD, hu]; rfl
    have hgrow : ∀ (ao : Option Addr) (cap : Nat), v = .slice ao l.length cap → (ao = none → l.length = 0 ∧ cap = 0) → (∀ b, ao = some b → ∀ j u, (l.map nv)[j]? = some u → w.cell? (b.add j) = some u) → cap < l.length + m.length → wpList P ops Q (o :: rest) a w := by
      intro ao cap hv hn hcs hfull
      refine wpList_append_grows w hgd s x t ho 3 i (.int .i64 0) 1 8 ht hi hz hsz hby rfl (by decide) ao l.length cap (l.map nv) (by rw [hs, hv]) hn (by simp) hcs ⟨b, ob, none⟩ m.length c (m.map nv) hx (by simp) hnews hone hfull (by unfold maxLen; omega) (by omega) ?_
      intro v' w' hown hgr
      have hown' : w'.ownsRow w.heap.size 3 1 v' (l ++ m).length ((l ++ m).map nv) := by rw [List.length_append, List.map_append]; exact hown
      exact hK v' w' (OffN.own hown') ((Fr.refl _ w).grown hgr (fun k e _ => by cases e)) (fun k hk => .inr (hown'.lt k hk).1)
    rcases h with ⟨rfl, rfl⟩ | ⟨g, o', cap, cs, rfl, hb, hcap, hlc, hel⟩
    · exact hgrow none 0 rfl (fun _ => ⟨rfl, rfl⟩) (fun b e => by cases e) (by simpa using hml)
    · by_cases hroom : l.length + m.length ≤ cap
      · refine wpList_append_room1 w hgd s x t t ho 3 (.int .i64 0) 8 ht hinfo g o' l.length cap hs (.slice (some ⟨b, ob, none⟩) m.length c) hx m.length (m.map nv) (Src.ofSlice (size := 1) w ht ⟨b, ob, none⟩ m.length c (m.map nv) (by simp) hnews hone) hroom (fun j hj => ?_) (fun j hj => free_blk hb _) ?_
        · rw [cell_blk hb, Array.getElem?_eq_getElem (by simp at hj; omega)]; rfl
        · obtain ⟨hb2, hf2⟩ := blk_setCells (m.map nv) (o' + l.length) w cs hb
          refine hK _ _ (.inr ⟨g, o', cap, _, by simp, hb2, by rw [setsA_size]; exact hcap, by simpa using hroom, fun j hj => ?_⟩) (hf2.mono (fun k _ e => by rw [e]; rfl)) (fun k hk => .inl hk)
          rw [List.length_append] at hj
          by_cases hjl : j < l.length
          · rw [setsA_out _ _ _ _ (.inl (by omega)), hel j hjl]
            simp [List.getElem_append, hjl]
          · have := setsA_in (m.map nv) cs (o' + l.length) (j - l.length) (by simp; omega) (by simp; omega)
            rw [show o' + l.length + (j - l.length) = o' + j by omega] at this
            rw [this]
            simp [List.getElem_append, hjl]
      · refine hgrow (some ⟨g, o', none⟩) cap rfl (fun e => by cases e) (fun b e j u hu => ?_) (by omega)
        injection e with e; subst e
        have hj : j < l.length := by have := (List.getElem?_eq_some_iff.1 hu).1; simpa using this
        rw [Addr.add_mid, cell_blk hb, hel j hj]
        rw [List.getElem?_map, List.getElem?_eq_getElem hj] at hu
        simpa using hu

def planD (D : DM) (m : List Nat) : DM := { D with plan := D.plan ++ m }
theorem planD_ok {D : DM} (h : DOk D) {m : List Nat} (hm : ∀ f ∈ m, f ≤ 2) : DOk (planD D m) := ⟨h.lo, h.hi, h.firm, h.at_, h.opn, fun f hf => by
  rcases List.mem_append.1 hf with hf | hf
  · exact h.plan f hf
  · exact hm f hf⟩
theorem dv_Plan_nil (w : World) (a : Option Addr) (n c : Nat) : Calls Try.prog 27 #[.pointer none, .slice a n c] w fun e w' => e = .returned (.int .i64 2) ∧ w' = w := by
  go_enter Try.func27, Try.ntmps27
  go_wp2
  go_ret
  exact ⟨rfl, rfl⟩
theorem Row.natAt {w : World} {a : Option Addr} {xs : List Nat} (h : Row w a (xs.map nv)) (i : Nat) (hi : i < xs.length) : ∃ b o, a = some ⟨b, o, none⟩ ∧ b < w.heap.size ∧ w.cell? ⟨b, o + i, none⟩ = some (.int .i64 xs[i]) := by
  obtain ⟨b, o, e, hb, hc⟩ := h.at (i := i) (by simpa using hi)
  rw [getD_map nv xs 0 i hi, show xs.getD i 0 = xs[i] from by simp [List.getD_eq_getElem?_getD, hi]] at hc
  exact ⟨b, o, e, hb, hc⟩
set_option maxRecDepth 100000 in
theorem dv_Plan (w : World) (p : Nat) (S : Nat → Prop) (D : DM) (h : PD w p S D) (a : Option Addr) (c : Nat) (m : List Nat) (hm : (m = [] ∧ a = none ∧ c = 0) ∨ (m ≠ [] ∧ Row w a (m.map nv))) (hf : ∀ f ∈ m, f ≤ 2) (hlen : D.plan.length + m.length ≤ 100000) :
    Calls Try.prog 27 #[.pointer (some ⟨p, 0, none⟩), .slice a m.length c] w fun e w' => e = .returned (.int .i64 0) ∧ ∃ S', PD w' p S' (planD D m) ∧ Fr S w w' ∧ (∀ k, S' k → S k ∨ w.heap.size ≤ k) := by
  have HD := hid h
  have HM := hid hm
  have HFF := hid hf
  have hml : (m.length : Int) ≤ 100000 := by omega
  have HRow : Hid (Row w a (m.map nv)) := by
    rcases hm with ⟨rfl, _⟩ | ⟨_, h⟩
    · exact .inl rfl
    · exact h
  clear h hm hf
  go_enter Try.func27, Try.ntmps27
  go_wp2_with fail
  go_loopg [11] m.length (fun g i wr => ∃ k : Nat, k + g = m.length ∧ i = .int .i64 k ∧ wr = w)
  case atStart => exact ⟨0, by omega, rfl, rfl⟩
  case round =>
    obtain ⟨k, hk, rfl, rfl⟩ := hrel
    cases gk with
    | succ g =>
      have hkm : k < m.length := by omega
      obtain ⟨b, o, rfl, hb, hc⟩ := HRow.out.natAt k hkm
      have hf2 := HFF.out _ (List.getElem_mem hkm)
      obtain ⟨f, hx⟩ : ∃ f, m[k] = f := ⟨_, rfl⟩
      rw [hx] at hc hf2
      have hf3 : (f : Int) ≤ 2 := by omega
      clear hx
      go_wp2_with fail
      go_roundg g
      case measure => omega
      case rel => exact ⟨k + 1, by omega, by go_num, rfl⟩
    | zero =>
      obtain rfl : k = m.length := by omega
      obtain ⟨hok, vF, vO, vP, hV⟩ := HD.out
      obtain ⟨c0, c1, c2, _⟩ := hV.cells
      have HV := hid hV
      have HN := hid (hV.ne (by decide) (by decide) (by decide))
      have HOK := hid hok
      have hpz := lt_of_block hV.blk
      clear c0 c1 hV hok
      go_wp2_with (at_builtin; refine wpList_append_offN _ rfl (.tmp 26) (.tmp 27) 37 rfl Try.underlying37 int_info vP D.plan m rfl HV.out.plan a c rfl HM.out (by omega) ?_; intro v' w1 hO hF hB; obtain ⟨av, cv, rfl⟩ := hO.form; have HO := hid hO; have HF := hid hF; have HB := hid hB; have c21 := (hF.cell (p := ⟨p, 2, none⟩) hpz (fun e => HN.out.2.2 p e rfl)).trans c2; have f21 : w1.frozen? ⟨p, 2, none⟩ = false := (hF.frozen (p := ⟨p, 2, none⟩) hpz (fun e => HN.out.2.2 p e rfl)).trans (free_blk HV.out.blk 2); clear hO hF hB)
      go_ret
      rw [List.length_append] at HO HB
      obtain ⟨v', hv'⟩ : ∃ v', Value.slice av (D.plan.length + m.length) cv = v' := ⟨_, rfl⟩
      rw [hv'] at HO HB ⊢
      have hne1 : ∀ k, vF.ownBlock = some k → vP.ownBlock ≠ some k := fun k hk e => by
        obtain ⟨x, hx⟩ := own_ty HV.out.firm hk
        obtain ⟨y, hy⟩ := HV.out.plan.ty e
        exact ne_ty hx hy (by decide) rfl
      have hne2 : ∀ k, vO.ownBlock = some k → vP.ownBlock ≠ some k := fun k hk e => by
        obtain ⟨x, hx⟩ := own_ty HV.out.opn hk
        obtain ⟨y, hy⟩ := HV.out.plan.ty e
        exact ne_ty hx hy (by decide) rfl
      have hblk := (HF.out.block p hpz (fun e => HN.out.2.2 p e rfl)).trans HV.out.blk
      have hset := Fr.set1 w1 p 2 v'
      have hvz : ∀ k, v'.ownBlock = some k → k < w1.heap.size := fun k hk => by obtain ⟨x, hx⟩ := HO.out.ty hk; exact lt_of_block hx
      have hvp : ∀ k, v'.ownBlock = some k → k ≠ p := fun k hk => by obtain ⟨x, hx⟩ := HO.out.ty hk; exact ne_ty hx hblk (by decide)
      refine ⟨rfl, fun k => S k ∨ v'.ownBlock = some k, ⟨planD_ok HOK.out HFF.out, vF, vO, v', ⟨set_blk hblk 2 v', own_frk (own_frk HV.out.firm HF.out hne1) hset HN.out.1, own_frk (own_frk HV.out.opn HF.out hne2) hset HN.out.2.1, HO.out.fr hset hvp, .inl HV.out.sp, fun k hk => .inl (HV.out.sF k hk), fun k hk => .inl (HV.out.sO k hk), fun k hk => .inr hk, fun k hk => ?_⟩⟩, (HF.out.mono (T := S) (fun k _ e => HV.out.sP k e)).trans (hset.mono (fun k _ e => by rw [e]; exact HV.out.sp)), fun k hk => ?_⟩
      · rw [size_set]
        rcases hk with hk | hk
        · exact HF.out.lt (HV.out.lt k hk)
        · exact hvz k hk
      · rcases hk with hk | hk
        · exact .inl hk
        · rcases HB.out k hk with e | e
          · exact .inl (HV.out.sP k e)
          · exact .inr e
set_option maxRecDepth 100000 in
theorem dv_Plan_bad (w : World) (p : Nat) (a : Option Addr) (c : Nat) (m : List Nat) (hrow : Row w a (m.map nv)) (hf : ∃ f ∈ m, 2 < f) (hml : m.length ≤ 100000) :
    Calls Try.prog 27 #[.pointer (some ⟨p, 0, none⟩), .slice a m.length c] w fun e w' => e = .returned (.int .i64 1) ∧ w' = w := by
  have HRow := hid hrow
  have HFF : Hid (∃ i, i < m.length ∧ 2 < m.getD i 0) := by
    obtain ⟨f, hfm, hf2⟩ := hf
    obtain ⟨i, hi, rfl⟩ := List.getElem_of_mem hfm
    exact ⟨i, hi, by simpa [List.getD_eq_getElem?_getD, hi] using hf2⟩
  have hml' : (m.length : Int) ≤ 100000 := by omega
  clear hrow hf
  go_enter Try.func27, Try.ntmps27
  go_wp2_with fail
  go_loopg [11] m.length (fun g i wr => ∃ k : Nat, k + g = m.length ∧ i = .int .i64 k ∧ wr = w ∧ Hid (∃ i, k ≤ i ∧ i < m.length ∧ 2 < m.getD i 0))
  case atStart => exact ⟨0, by omega, rfl, rfl, let ⟨i, h1, h2⟩ := HFF.out; ⟨i, by omega, h1, h2⟩⟩
  case round =>
    obtain ⟨k, hk, rfl, rfl, HE⟩ := hrel
    cases gk with
    | zero => exact absurd HE.out (by rintro ⟨i, h1, h2, _⟩; omega)
    | succ g =>
      have hkm : k < m.length := by omega
      obtain ⟨b, o, rfl, hb, hc⟩ := HRow.out.natAt k hkm
      have hgd : m.getD k 0 = m[k] := by simp [List.getD_eq_getElem?_getD, hkm]
      obtain ⟨f, hx⟩ : ∃ f, m[k] = f := ⟨_, rfl⟩
      rw [hx] at hc hgd
      clear hx
      by_cases hf2 : f ≤ 2
      · have hf3 : (f : Int) ≤ 2 := by omega
        have HE2 : Hid (∃ i, k + 1 ≤ i ∧ i < m.length ∧ 2 < m.getD i 0) := by
          obtain ⟨i, h1, h2, h3⟩ := HE.out
          exact ⟨i, by
            by_cases e : i = k
            · subst e; rw [hgd] at h3; omega
            · omega, h2, h3⟩
        clear hgd
        go_wp2_with fail
        go_roundg g
        case measure => omega
        case rel => exact ⟨k + 1, by omega, by go_num, rfl, HE2⟩
      · have hf3 : 2 < (f : Int) := by omega
        clear hgd
        go_wp2_with fail
        go_ret
        exact ⟨rfl, rfl⟩
end Go.Proofs.Ytcdchojdkdimbaa
