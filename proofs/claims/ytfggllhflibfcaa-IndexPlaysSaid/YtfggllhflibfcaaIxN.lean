/- index: the reference's Count; the law's all. -/
import Derived.Test.YtfggllhflibfcaaIxM
namespace Go.Proofs.Ytfggllhflibfcaa
open Go.RowKit Go.Shelf Go.Maps
attribute [local go_sem] Oper.semAt_some
theorem cnt_succ (L : List Pl) (t : Pl → Bool) (k : Nat) (hk : k < L.length) : (L.take (k + 1)).countP t = (L.take k).countP t + if t L[k] then 1 else 0 := by
  rw [List.take_succ_eq_append_getElem hk, List.countP_append]; simp [List.countP_cons]
theorem cnt_le (L : List Pl) (t : Pl → Bool) (k : Nat) : (L.take k).countP t ≤ k := Nat.le_trans List.countP_le_length (by rw [List.length_take]; omega)
theorem plS_ge (q : Pl) : decide (0 ≤ plS q) = q.isSome := by cases q with | none => rfl | some q => obtain ⟨x, d⟩ := q; show decide (0 ≤ (x : Int)) = true; simp
set_option maxRecDepth 100000 in
set_option maxHeartbeats 1000000 in
theorem rf_Count (w : World) (p m : Nat) (S : Nat → Prop) (L : List Pl) (h : Rf w p S L m) (hl : L.length ≤ 4096) : Calls Try.prog 30 #[.pointer (some ⟨p, 0, none⟩)] w fun e w' => e = .returned (.tuple #[.int .i64 (L.countP Option.isSome : Nat), .int .i64 (L.countP plD : Nat)]) ∧ w' = w := by
  obtain ⟨vs, vd, h⟩ := h
  have HV := hid h
  obtain ⟨c0, c1, c2, _⟩ := h.cells
  obtain ⟨a, cap, rfl⟩ := own_form h.row
  obtain ⟨b, cap2, rfl⟩ := own_form h.dir
  clear h
  have hl' : (L.length : Int) ≤ 4096 := by omega
  go_enter Try.func30, Try.ntmps30
  go_wp2_with fail
  go_loopg [4, 5, 6] L.length (fun g x y i wr => ∃ k : Nat, k + g = L.length ∧ x = .int .i64 ((L.take k).countP Option.isSome : Nat) ∧ y = .int .i64 ((L.take k).countP plD : Nat) ∧ i = .int .i64 k ∧ wr = w)
  case atStart => exact ⟨0, by omega, rfl, rfl, rfl, rfl⟩
  case round =>
    obtain ⟨k, hk, rfl, rfl, rfl, rfl⟩ := hrel
    cases gk with
    | zero =>
      obtain rfl : k = L.length := by omega
      have HT : Hid (L.take L.length = L) := List.take_length
      go_wp2_with fail
      try rw [Exit.noGoto_ret]
      rw [HT.out]
      go_ret2
      exact ⟨rfl, rfl⟩
    | succ gk =>
      have hkm : k < L.length := by omega
      have hki : (k : Int) < (L.length : Int) := by omega
      obtain ⟨g1, cp1, hv1, hgl1, a0, _⟩ := HV.out.at k hkm
      cases hv1
      obtain ⟨g2, cp2, hv2, hgl2, b0, _⟩ := HV.out.dat k hkm
      cases hv2
      have HC1 := hid (cnt_succ L Option.isSome k hkm)
      have HC2 := hid (cnt_succ L plD k hkm)
      have hn1 := cnt_le L Option.isSome k
      have hn2 := cnt_le L plD k
      obtain ⟨cn, hcn⟩ : ∃ c, (L.take k).countP Option.isSome = c := ⟨_, rfl⟩
      obtain ⟨cd, hcd⟩ : ∃ c, (L.take k).countP plD = c := ⟨_, rfl⟩
      rw [hcn] at HC1 hn1 ⊢
      rw [hcd] at HC2 hn2 ⊢
      clear hcn hcd
      have hn1' : (cn : Int) ≤ 4096 := by omega
      have hn2' : (cd : Int) ≤ 4096 := by omega
      obtain ⟨q, hq⟩ : ∃ q : Pl, L[k]'hkm = q := ⟨_, rfl⟩
      rw [hq] at HC1 HC2 a0 b0
      clear hq
      cases q with
      | none =>
        simp only [plS, plD] at a0 b0
        go_wp2_with fail
        go_roundg gk
        case measure => omega
        case rel => exact ⟨k + 1, by omega, by rw [HC1.out]; go_num, by rw [HC2.out]; go_num, by go_num, rfl⟩
      | some q =>
        obtain ⟨x, d⟩ := q
        simp only [plS, plD] at a0 b0
        cases d with
        | false =>
          go_wp2_with fail
          go_roundg gk
          case measure => omega
          case rel => exact ⟨k + 1, by omega, by rw [HC1.out]; go_num, by rw [HC2.out]; go_num, by go_num, rfl⟩
        | true =>
          go_wp2_with fail
          go_roundg gk
          case measure => omega
          case rel => exact ⟨k + 1, by omega, by rw [HC1.out]; go_num, by rw [HC2.out]; go_num, by go_num, rfl⟩
theorem gv_elem : ∀ (E : List Pl) (a : Int) (pre : List (Int × Pl)) (x : Int × Pl), pre ++ [x] <+: gv E a → (∃ (j : Nat) (hj : j < E.length), x = (a + (j : Int), E[j]) ∧ E[j].isSome = true) ∧ ∀ y ∈ pre, y.1 < x.1
  | [], a, pre, x, h => by
    have := h.length_le
    simp [gv] at this
  | none :: E, a, pre, x, h => by
    obtain ⟨⟨j, hj, h1, h2⟩, h3⟩ := gv_elem E (a + 1) pre x h
    refine ⟨⟨j + 1, by rw [List.length_cons]; omega, ?_, ?_⟩, h3⟩
    · rw [h1, List.getElem_cons_succ]; congr 1; omega
    · rw [List.getElem_cons_succ]; exact h2
  | some q :: E, a, [], x, h => by
    have hx : x = (a, some q) := by
      obtain ⟨t, ht⟩ := h
      simp only [gv, List.nil_append, List.cons_append] at ht
      injection ht
    refine ⟨⟨0, by simp, ?_, rfl⟩, fun y hy => by simp at hy⟩
    rw [hx, List.getElem_cons_zero]; simp
  | some q :: E, a, y :: pre, x, h => by
    have h' : y = (a, some q) ∧ pre ++ [x] <+: gv E (a + 1) := by
      simp only [gv, List.cons_append] at h
      rw [List.cons_prefix_cons] at h
      exact h
    obtain ⟨⟨j, hj, h1, h2⟩, h3⟩ := gv_elem E (a + 1) pre x h'.2
    refine ⟨⟨j + 1, by rw [List.length_cons]; omega, ?_, ?_⟩, fun z hz => ?_⟩
    · rw [h1, List.getElem_cons_succ]; congr 1; omega
    · rw [List.getElem_cons_succ]; exact h2
    · rcases List.mem_cons.1 hz with rfl | hz
      · rw [h'.1, h1]; show a < a + 1 + (j : Int); omega
      · exact h3 z hz
/-- the last block that was given -/
def lastB (pre : List (Int × Pl)) : Int := (pre.getLast?.map (·.1)).getD (-1)
theorem lastB_snoc (pre : List (Int × Pl)) (x : Int × Pl) : lastB (pre ++ [x]) = x.1 := by simp [lastB]
theorem lastB_lt (pre : List (Int × Pl)) (b : Int) (hb : 0 ≤ b) (h : ∀ y ∈ pre, y.1 < b) : lastB pre < b := by
  unfold lastB
  cases e : pre.getLast? with
  | none => simp; omega
  | some y => simp; exact h y (List.mem_of_getLast? e)
theorem allX_elem (L : List Pl) (a n : Int) (pre : List (Int × Pl)) (x : Int × Pl) (h : pre ++ [x] <+: allX L a n) : ∃ (i : Nat) (hi : i < L.length) (s : Nat) (d : Bool), x = ((i : Int), some (s, d)) ∧ L[i] = some (s, d) ∧ a ≤ i ∧ (i : Int) - a < n ∧ lastB pre < i := by
  unfold allX at h
  split at h
  · rename_i hok
    have hk' : 0 ≤ a ∧ 0 ≤ n ∧ a ≤ L.length := by simpa [allOk] using hok
    obtain ⟨⟨j, hj, h1, h2⟩, h3⟩ := gv_elem _ _ _ _ h
    have hj2 : j < widthI L a n ∧ a.toNat + j < L.length := by unfold cutI at hj; rw [List.length_take, List.length_drop] at hj; omega
    have he : (cutI L a.toNat (widthI L a n))[j] = L[a.toNat + j]'hj2.2 := by simp only [cutI, List.getElem_take, List.getElem_drop]
    have hw : (widthI L a n : Int) ≤ n := by unfold widthI; simp only [Int.min_def]; split <;> omega
    rw [he] at h1 h2
    obtain ⟨q, hq⟩ := Option.isSome_iff_exists.1 h2
    rw [hq] at h1
    refine ⟨a.toNat + j, hj2.2, q.1, q.2, ?_, hq, by omega, by omega, ?_⟩
    · rw [h1]; congr 1; omega
    · have := lastB_lt pre x.1 (by rw [h1]; show 0 ≤ a + (j : Int); omega) h3
      rw [h1] at this
      have h5 : lastB pre < a + (j : Int) := this
      omega
  · have := h.length_le
    simp at this
/-- the first k blocks' part in a span -/
def wantE (L : List Pl) (a n : Int) (k : Nat) : List Pl := ((L.take k).drop a.toNat).take n.toNat
def wantN (L : List Pl) (a n : Int) (k : Nat) : Nat := (wantE L a n k).countP Option.isSome
theorem wantE_succ (L : List Pl) (a n : Int) (ha : 0 ≤ a) (hn : 0 ≤ n) (k : Nat) (hk : k < L.length) : wantE L a n (k + 1) = if a ≤ k ∧ (k : Int) - a < n then wantE L a n k ++ [L[k]] else wantE L a n k := by
  unfold wantE
  have hl : (L.take k).length = k := by rw [List.length_take]; omega
  rw [List.take_succ_eq_append_getElem hk]
  by_cases h1 : a ≤ k
  · have h2 : a.toNat ≤ (L.take k).length := by omega
    rw [List.drop_append_of_le_length h2]
    have hd : ((L.take k).drop a.toNat).length = k - a.toNat := by rw [List.length_drop, hl]
    by_cases h3 : (k : Int) - a < n
    · rw [if_pos ⟨h1, h3⟩, List.take_of_length_le (by rw [List.length_append, hd, List.length_singleton]; omega)]
      have hY : ((L.take k).drop a.toNat).take n.toNat = (L.take k).drop a.toNat := List.take_of_length_le (by rw [hd]; omega)
      rw [hY]
    · rw [if_neg (fun h => h3 h.2), List.take_append_of_le_length (by rw [hd]; omega)]
  · rw [if_neg (fun h => h1 h.1), List.drop_eq_nil_of_le (by rw [List.length_append, hl, List.length_singleton]; omega), List.drop_eq_nil_of_le (by rw [hl]; omega)]
theorem wantN_succ (L : List Pl) (a n : Int) (ha : 0 ≤ a) (hn : 0 ≤ n) (k : Nat) (hk : k < L.length) : wantN L a n (k + 1) = wantN L a n k + if L[k].isSome = true ∧ a ≤ k ∧ (k : Int) - a < n then 1 else 0 := by
  unfold wantN
  rw [wantE_succ L a n ha hn k hk]
  by_cases h : a ≤ k ∧ (k : Int) - a < n
  · rw [if_pos h, List.countP_append]
    cases e : L[k].isSome with
    | true => rw [if_pos ⟨rfl, h⟩]; simp [List.countP_cons, e]
    | false => rw [if_neg (by simp)]; simp [List.countP_cons, e]
  · rw [if_neg h, if_neg (fun h' => h h'.2)]; rfl
theorem gv_count : ∀ (E : List Pl) (a : Int), (gv E a).length = E.countP Option.isSome
  | [], _ => rfl
  | none :: E, a => by simp only [gv, List.countP_cons]; rw [gv_count E]; simp
  | some q :: E, a => by simp only [gv, List.countP_cons, List.length_cons]; rw [gv_count E]; simp
theorem want_all (L : List Pl) (a n : Int) (ha : 0 ≤ a) (hn : 0 ≤ n) : wantN L a n L.length = (allX L a n).length := by
  unfold wantN wantE allX
  rw [List.take_length]
  by_cases h : a ≤ L.length
  · rw [show allOk L a n = true from by simp [allOk]; omega, if_pos rfl, gv_count]
    congr 1
    unfold cutI widthI
    have hd : (L.drop a.toNat).length = L.length - a.toNat := List.length_drop ..
    by_cases h2 : n ≤ (L.length : Int) - a
    · rw [show (min n ((L.length : Int) - a)).toNat = n.toNat from by simp only [Int.min_def]; rw [if_pos h2]]
    · have hY : (L.drop a.toNat).take n.toNat = L.drop a.toNat := List.take_of_length_le (by rw [hd]; omega)
      have hZ : (L.drop a.toNat).take (min n ((L.length : Int) - a)).toNat = L.drop a.toNat := List.take_of_length_le (by rw [hd]; simp only [Int.min_def]; rw [if_neg h2]; omega)
      rw [hY, hZ]
  · rw [show allOk L a n = false from by simp [allOk]; omega, List.drop_eq_nil_of_le (by omega)]
    simp
theorem wantN_zero (L : List Pl) (a n : Int) : wantN L a n 0 = 0 := by simp [wantN, wantE]
theorem wantN_le (L : List Pl) (a n : Int) (k : Nat) : wantN L a n k ≤ k := by
  unfold wantN wantE
  refine Nat.le_trans List.countP_le_length ?_
  rw [List.length_take, List.length_drop, List.length_take]; omega
end Go.Proofs.Ytfggllhflibfcaa
