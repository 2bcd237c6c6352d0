/- The law SpansWhole: its loops, each a declaration of its own. -/
import Derived.Test.YtdehojhipiklmaaSpNu
import Derived.Test.YtdehojhipiklmaaSpMo
namespace Go.Proofs.Ytdehojhipiklmaa
open Go.RowKit Go.Shelf
attribute [local go_sem] Oper.semAt_some

theorem nums_fn_not_nil (W : World) (B : Nat) : (binOp .eql 48 (.func (.func 31) #[] #[.pointer (some ⟨B, 0, none⟩)]) .nilFunc).run Try.prog W = .ok (.bool false) W := rfl
theorem addI_sum (L : List Sp) (hg : GoodB L) (x : ISp) (h : mayB x.1 x.2 = true) : (sumN (addI L x) : Int) ≤ sumN L + x.2 := by
  obtain ⟨a, n, e1, e2, hl⟩ := mayB_toNat h
  have := len_add L hg a n hl
  unfold addI
  rw [e1, e2]
  show ((sumN (addL L a n) : Nat) : Int) ≤ _
  omega
theorem newL_sum (l : List ISp) (h : rightAll l = true) (m : Nat) (hm : ∀ x ∈ l, x.2 ≤ (m : Int)) : sumN (newL l) ≤ l.length * m := by
  have key : ∀ (l : List ISp) (L : List Sp), GoodB L → rightAll l = true → (∀ x ∈ l, x.2 ≤ (m : Int)) → sumN (l.foldl addI L) ≤ sumN L + l.length * m := fun l => by
    induction l with
    | nil => intro L _ _ _; simp
    | cons x l ih =>
      intro L hg hr hm
      have hr1 : mayB x.1 x.2 = true := (List.all_eq_true.1 hr) x (List.mem_cons_self ..)
      have hr2 : rightAll l = true := List.all_eq_true.2 (fun z hz => (List.all_eq_true.1 hr) z (List.mem_cons_of_mem _ hz))
      have h1 := ih (addI L x) (addI_good L hg x hr1) hr2 (fun z hz => hm z (List.mem_cons_of_mem _ hz))
      have h2 := addI_sum L hg x hr1
      have h3 := hm x (List.mem_cons_self ..)
      rw [List.foldl_cons, List.length_cons, Nat.succ_mul]
      omega
  have := key l [] GoodB.nil h hm
  simpa [newL, sumN] using this
theorem sumN_mem {L : List Sp} {s : Sp} (h : s ∈ L) : s.2 ≤ sumN L := by
  induction L with
  | nil => simp at h
  | cons t L ih =>
    rcases List.mem_cons.1 h with rfl | h
    · show s.2 ≤ s.2 + _; omega
    · have := ih h; show s.2 ≤ t.2 + sumN L; omega
theorem nums_mem {L : List Sp} {y : Nat} : y ∈ nums L ↔ hasL L y := by
  unfold nums hasL
  rw [List.mem_flatMap]
  constructor
  · rintro ⟨s, hs, h⟩
    unfold numsOf at h
    obtain ⟨i, hi, rfl⟩ := List.mem_map.1 h
    have := List.mem_range.1 hi
    exact ⟨s, hs, by omega, by omega⟩
  · rintro ⟨s, hs, h1, h2⟩
    exact ⟨s, hs, by unfold numsOf; exact List.mem_map.2 ⟨y - s.1, List.mem_range.2 (by omega), by omega⟩⟩
theorem nums_take (L : List Sp) (k : Nat) (hk : k < L.length) : nums (L.take (k + 1)) = nums (L.take k) ++ numsOf L[k] := by
  rw [List.take_succ_eq_append_getElem hk, nums_snoc]
/-- where the span before ends -/
def lastV (L : List Sp) (k : Nat) : Int := if k = 0 then -1 else ((L.getD (k - 1) (0, 0)).1 : Int) + ((L.getD (k - 1) (0, 0)).2 : Int)
theorem lastV_lt (L : List Sp) (hg : Good L) (k : Nat) (hk : k < L.length) : lastV L k < (L[k].1 : Int) := by
  unfold lastV
  split
  · omega
  · have := good_lt hg (show k - 1 < k by omega) hk
    rw [getD_at (by omega)]
    omega
theorem lastV_succ (L : List Sp) (k : Nat) (hk : k < L.length) : lastV L (k + 1) = (L[k].1 : Int) + (L[k].2 : Int) := by
  unfold lastV
  rw [if_neg (by omega), Nat.add_sub_cancel, getD_at hk]
theorem info_int : (Try.prog.info? 3).map (fun i => (i.zero, i.size, i.bytes)) = some (some (.int .i64 0), 1, 8) := by kernel_rfl
abbrev iv (n : Nat) : Value := .int .i64 (n : Int)
theorem i_slice1 (w : World) (x : Int) : (Instr.buildSlice 50 1 #[(0, .int .i64 x)]).run Try.prog w = .ok (.slice (some ⟨w.heap.size, 0, none⟩) 1 1) (w.alloc (.cells #[.int .i64 x] 3)) := by
  obtain ⟨i0, hi0, h1, h2, h3⟩ := info_parts info_int
  refine run_buildSlice w 50 3 1 _ #[.int .i64 x] i0 (.int .i64 0) Try.underlying50 hi0 h1 (by rw [h2]; decide) (by rw [h2]; decide) ?_
  rw [h2]; kernel_rfl
theorem cells1 (W : World) (x : Int) (g : Nat) (hg : W.heap.size = g) : ∀ j u, [Value.int .i64 x][j]? = some u → (W.alloc (.cells #[.int .i64 x] 3)).cell? ((⟨g, 0, none⟩ : Addr).add j) = some u := fun j u h => by
  subst hg
  rw [Addr.add_mid, Nat.zero_add, cell_blk (heap_new W _), List.getElem?_toArray]; exact h
theorem one1 (x : Int) : ∀ u ∈ [Value.int .i64 x], u.oneCell' = true := fun u hu => by simp at hu; subst hu; rfl

def loopsOf : Code → List Code
  | .loop c => .loop c :: loopsOf c
  | .seq a b => loopsOf a ++ loopsOf b
  | .block _ c => loopsOf c
  | .cond _ a b => loopsOf a ++ loopsOf b
  | .rangeFunc _ _ _ b => loopsOf b
  | _ => []
/-- left by that exit alone -/
def OnlyExit (i : Nat) (R : Act → World → Prop) : Exit → Act → World → Prop
  | .exit j, a, w => j = i ∧ R a w
  | _, _, _ => False
noncomputable def whLoop (i : Nat) : Code := (((Try.f4.body.map loopsOf).getD [])[i]?).getD .skip
set_option maxRecDepth 1000000 in
set_option maxHeartbeats 4000000 in
theorem wh_inner (c0 c1 c2 c3 c4 c5 c7 c8 c10 c13 c14 c15 c16 c17 c18 c19 c20 c21 c22 c23 c24 c25 c26 c27 c28 c29 c30 c31 c32 c33 c34 c35 c36 c37 c38 c39 c40 c41 c42 c43 c44 c45 c46 c47 c48 c49 c50 c51 c52 c53 c54 c55 c56 c57 c58 c59 c60 c61 c62 c63 c64 c65 c66 c67 c68 c69 c70 c71 c72 c73 c74 c75 c76 c77 c78 c79 c80 c81 c82 c83 c84 c85 c86 c87 c88 c89 c90 c91 c92 c93 c94 c95 c96 c97 c98 c99 c100 c101 c102 c103 c104 c105 c106 c107 c108 c109 c110 c111 c112 c113 c114 c115 c116 c117 c118 c119 c120 c121 c122 c123 c124 c125 c126 c127 c128 c129 c130 c131 c132 c133 c134 c135 c136 c137 c138 c139 c140 c141 c142 c143 c144 c145 c146 c147 c148 c149 c150 c151 c152 c153 c154 c155 c156 c157 c158 c159 c160 c161 c162 c163 c164 c165 c166 c167 c168 c169 c170 c171 c172 c173 c174 c175 c176 c177 c178 c179 c180 c181 c182 c183 c184 c185 c186 c187 c188 c189 c190 c191 c192 c193 c194 c195 c196 c197 c198 : Value) (b o m cp wb k x1 x2 : Nat) (P0 : List Nat) (w5 w8 : World) (al0 : Option Addr) (cl0 : Nat) (R0 : Act → World → Prop)
    (hkm : (k : Int) < (m : Int)) (hx1 : (x1 : Int) + (x2 : Int) ≤ 1048576) (hbl : b < w5.heap.size) (hbn : ¬ b = wb) (hwb : wb < w5.heap.size) (hc0 : w5.cell? ⟨b, o + k * 2, none⟩ = some (.int .i64 (x1 : Int))) (hc1 : w5.cell? ⟨b, o + k * 2 + 1, none⟩ = some (.int .i64 (x2 : Int)))
    (hbnd : ∀ kk, kk ≤ x2 → (P0 ++ (numsOf (x1, x2)).take kk).length ≤ 2400) (hbx : w8.heap[wb]? = some (.cells #[.slice al0 P0.length cl0] 50 (0, 0))) (how : w8.ownsRow 0 3 1 (.slice al0 P0.length cl0) P0.length (P0.map iv)) (hnw : ∀ q, (Value.slice al0 P0.length cl0).ownBlock = some q → w5.heap.size ≤ q) (hf8 : Fr (fun j => j = wb) w5 w8)
    (hexit : ∀ (u12 u106 u107 u108 u109 u110 u111 u112 u113 u114 u115 u116 u117 u118 u119 u120 u121 u122 u123 u124 : Value) (al : Option Addr) (cl nl : Nat) (wq : World), (P0 ++ numsOf (x1, x2)).length = nl → wq.heap[wb]? = some (.cells #[.slice al nl cl] 50 (0, 0)) → wq.ownsRow 0 3 1 (.slice al nl cl) nl ((P0 ++ numsOf (x1, x2)).map iv) → (∀ q, (Value.slice al nl cl).ownBlock = some q → w5.heap.size ≤ q) → Fr (fun j => j = wb) w5 wq →
      R0 ⟨List.toArray (c0 :: c1 :: c2 :: c3 :: c4 :: c5 :: (.slice (some ⟨b, o, none⟩) m cp) :: c7 :: c8 :: (.pointer (some ⟨wb, 0, none⟩)) :: c10 :: (.int .i64 (k : Int)) :: u12 :: c13 :: c14 :: c15 :: c16 :: c17 :: c18 :: c19 :: c20 :: c21 :: c22 :: c23 :: c24 :: c25 :: c26 :: c27 :: c28 :: c29 :: c30 :: c31 :: c32 :: c33 :: c34 :: c35 :: c36 :: c37 :: c38 :: c39 :: c40 :: c41 :: c42 :: c43 :: c44 :: c45 :: c46 :: c47 :: c48 :: c49 :: c50 :: c51 :: c52 :: c53 :: c54 :: c55 :: c56 :: c57 :: c58 :: c59 :: c60 :: c61 :: c62 :: c63 :: c64 :: c65 :: c66 :: c67 :: c68 :: c69 :: c70 :: c71 :: c72 :: c73 :: c74 :: c75 :: c76 :: c77 :: c78 :: c79 :: c80 :: c81 :: c82 :: c83 :: c84 :: c85 :: c86 :: c87 :: c88 :: c89 :: c90 :: c91 :: c92 :: c93 :: c94 :: c95 :: c96 :: c97 :: c98 :: c99 :: c100 :: c101 :: c102 :: c103 :: c104 :: c105 :: u106 :: u107 :: u108 :: u109 :: u110 :: u111 :: u112 :: u113 :: u114 :: u115 :: u116 :: u117 :: u118 :: u119 :: u120 :: u121 :: u122 :: u123 :: u124 :: c125 :: c126 :: c127 :: c128 :: c129 :: c130 :: c131 :: c132 :: c133 :: c134 :: c135 :: c136 :: c137 :: c138 :: c139 :: c140 :: c141 :: c142 :: c143 :: c144 :: c145 :: c146 :: c147 :: c148 :: c149 :: c150 :: c151 :: c152 :: c153 :: c154 :: c155 :: c156 :: c157 :: c158 :: c159 :: c160 :: c161 :: c162 :: c163 :: c164 :: c165 :: c166 :: c167 :: c168 :: c169 :: c170 :: c171 :: c172 :: c173 :: c174 :: c175 :: c176 :: c177 :: c178 :: c179 :: c180 :: c181 :: c182 :: c183 :: c184 :: c185 :: c186 :: c187 :: c188 :: c189 :: c190 :: c191 :: c192 :: c193 :: c194 :: c195 :: c196 :: c197 :: c198 :: []), []⟩ wq) :
    Code.wp Try.prog (whLoop 2) (OnlyExit 4 R0) ⟨List.toArray (c0 :: c1 :: c2 :: c3 :: c4 :: c5 :: (.slice (some ⟨b, o, none⟩) m cp) :: c7 :: c8 :: (.pointer (some ⟨wb, 0, none⟩)) :: c10 :: (.int .i64 (k : Int)) :: (.int .i64 0) :: c13 :: c14 :: c15 :: c16 :: c17 :: c18 :: c19 :: c20 :: c21 :: c22 :: c23 :: c24 :: c25 :: c26 :: c27 :: c28 :: c29 :: c30 :: c31 :: c32 :: c33 :: c34 :: c35 :: c36 :: c37 :: c38 :: c39 :: c40 :: c41 :: c42 :: c43 :: c44 :: c45 :: c46 :: c47 :: c48 :: c49 :: c50 :: c51 :: c52 :: c53 :: c54 :: c55 :: c56 :: c57 :: c58 :: c59 :: c60 :: c61 :: c62 :: c63 :: c64 :: c65 :: c66 :: c67 :: c68 :: c69 :: c70 :: c71 :: c72 :: c73 :: c74 :: c75 :: c76 :: c77 :: c78 :: c79 :: c80 :: c81 :: c82 :: c83 :: c84 :: c85 :: c86 :: c87 :: c88 :: c89 :: c90 :: c91 :: c92 :: c93 :: c94 :: c95 :: c96 :: c97 :: c98 :: c99 :: c100 :: c101 :: c102 :: c103 :: c104 :: c105 :: c106 :: c107 :: c108 :: c109 :: c110 :: c111 :: c112 :: c113 :: c114 :: c115 :: c116 :: c117 :: c118 :: c119 :: c120 :: c121 :: c122 :: c123 :: c124 :: c125 :: c126 :: c127 :: c128 :: c129 :: c130 :: c131 :: c132 :: c133 :: c134 :: c135 :: c136 :: c137 :: c138 :: c139 :: c140 :: c141 :: c142 :: c143 :: c144 :: c145 :: c146 :: c147 :: c148 :: c149 :: c150 :: c151 :: c152 :: c153 :: c154 :: c155 :: c156 :: c157 :: c158 :: c159 :: c160 :: c161 :: c162 :: c163 :: c164 :: c165 :: c166 :: c167 :: c168 :: c169 :: c170 :: c171 :: c172 :: c173 :: c174 :: c175 :: c176 :: c177 :: c178 :: c179 :: c180 :: c181 :: c182 :: c183 :: c184 :: c185 :: c186 :: c187 :: c188 :: c189 :: c190 :: c191 :: c192 :: c193 :: c194 :: c195 :: c196 :: c197 :: c198 :: []), []⟩ w8 := by
  have HC0 := hid hc0
  have HC1 := hid hc1
  have HBL := hid hbl
  have HBN := hid hbn
  have HWB5 := hid hwb
  have HBND := hid hbnd
  have HBX8 := hid hbx
  have HOW8 := hid how
  have HNW8 := hid hnw
  have HF8 := hid hf8
  have HEX := hid hexit
  have HNTAKE := hid (numsOf_take (x1, x2))
  have HFULL : Hid ((numsOf (x1, x2)).take x2 = numsOf (x1, x2)) := List.take_of_length_le (by rw [numsOf_len]; exact Nat.le_refl _)
  clear hc0 hc1 hbl hbn hwb hbnd hbx how hnw hf8 hexit
  conv => arg 2; whnf
  go_loopg [12] x2 (fun g2 i wq => ∃ (kk : Nat) (al : Option Addr) (cl nl : Nat), kk + g2 = x2 ∧ i = .int .i64 kk ∧ (P0 ++ (numsOf (x1, x2)).take kk).length = nl ∧ nl ≤ 2400 ∧ Hid (wq.heap[wb]? = some (.cells #[.slice al nl cl] 50 (0, 0))) ∧ Hid (wq.ownsRow 0 3 1 (.slice al nl cl) nl ((P0 ++ (numsOf (x1, x2)).take kk).map iv)) ∧ Hid (∀ q, (Value.slice al nl cl).ownBlock = some q → w5.heap.size ≤ q) ∧ Hid (Fr (fun j => j = wb) w5 wq))
  case atStart =>
    refine ⟨0, al0, cl0, P0.length, by omega, rfl, by rw [List.take_zero, List.append_nil], by have := HBND.out 0 (by omega); rw [List.take_zero, List.append_nil] at this; exact this, HBX8.out, ?_, HNW8.out, HF8.out⟩
    unfold Hid; rw [List.take_zero, List.append_nil]; exact HOW8.out
  case round =>
    obtain ⟨kk, al, cl, nl, hkk, rfl, hnl, hnb, HBX, HOW, HNEW, HFQ⟩ := hrel
    have HNL := hid hnl
    have hd := (HFQ.out.cell (p := ⟨b, o + k * 2, none⟩) HBL.out HBN.out).trans HC0.out
    have hd1 := (HFQ.out.cell (p := ⟨b, o + k * 2 + 1, none⟩) HBL.out HBN.out).trans HC1.out
    clear hnl
    cases gk with
    | zero =>
      obtain rfl : kk = x2 := by omega
      go_wp2_with fail
      have e1 : P0 ++ (numsOf (x1, kk)).take kk = P0 ++ numsOf (x1, kk) := by rw [HFULL.out]
      have hL := HNL.out
      have hO := HOW.out
      rw [e1] at hL hO
      exact ⟨rfl, HEX.out _ _ _ _ _ _ _ _ _ _ _ _ _ _ _ _ _ _ _ _ al cl nl wr hL HBX.out hO HNEW.out HFQ.out⟩
    | succ g2 =>
      have hkx : (kk : Int) < (x2 : Int) := by omega
      have HNT := hid (HNTAKE.out kk (by omega))
      have hw : IntKind.i64.wrap ((x1 : Int) + (kk : Int)) = (x1 : Int) + (kk : Int) := by rw [IntKind.wrap_i64]; omega
      obtain ⟨i1, hi1, hy0, hy1, hy2⟩ := info_parts info_int
      go_wp2_with fail
      refine wp_region_held_drew (S := fun W => W.cell? ⟨b, o + k * 2, none⟩ = some (.int .i64 (x1 : Int))) (by kernel_rfl) hd (fun hHeld => ?_)
      have HBXd : Hid (wr.drew.heap[wb]? = some (.cells #[.slice al nl cl] 50 (0, 0))) := HBX.out
      obtain ⟨wz, hwz⟩ : ∃ wz, wr.drew = wz := ⟨_, rfl⟩
      rw [hwz] at HBXd hHeld ⊢
      have HOWd : Hid (wz.ownsRow 0 3 1 (.slice al nl cl) nl ((P0 ++ (numsOf (x1, x2)).take kk).map iv)) := by rw [← hwz]; exact HOW.out.drew
      have HFQd : Hid (Fr (fun j => j = wb) w5 wz) := by rw [← hwz]; exact HFQ.out.drew
      clear hwz HBX HOW HFQ
      obtain ⟨wq, rfl⟩ : ∃ wq, wq = wz := ⟨_, rfl⟩
      have HBX : Hid (wq.heap[wb]? = some (.cells #[.slice al nl cl] 50 (0, 0))) := HBXd.out
      have HOW : Hid (wq.ownsRow 0 3 1 (.slice al nl cl) nl ((P0 ++ (numsOf (x1, x2)).take kk).map iv)) := HOWd.out
      have HFQ : Hid (Fr (fun j => j = wb) w5 wq) := HFQd.out
      have bx0 := (cell_blk HBX.out 0).trans (show _ = some (Value.slice al nl cl) from rfl)
      have HHELD := hid hHeld
      clear HBXd HOWd HFQd hd hd1
      refine wpAnyH_take (i := 1) (v := ?_) rfl (by kernel_rfl) (by kernel_rfl) (by kernel_rfl) (fun _ _ _ h => h) (Or.inl ⟨by rfl, ?_⟩) hHeld ?_
      rotate_left
      · intro w hSw
        go_simp
        with_reducible rfl
      try simp only [Act.put, List.getElem_toArray, List.getElem_cons_zero, List.getElem_cons_succ, List.setIfInBounds_toArray, List.set_cons_zero, List.set_cons_succ]
      refine wpAnyH_take (i := 2) (v := ?_) rfl (by kernel_rfl) (by kernel_rfl) (by kernel_rfl) (fun _ _ _ h => h) (Or.inl ⟨by rfl, ?_⟩) hHeld ?_
      rotate_left
      · intro w hSw
        go_simp
        with_reducible rfl
      try simp only [Act.put, List.getElem_toArray, List.getElem_cons_zero, List.getElem_cons_succ, List.setIfInBounds_toArray, List.set_cons_zero, List.set_cons_succ]
      refine wpAnyH_take (i := 3) (v := ?_) rfl (by kernel_rfl) (by kernel_rfl) (by kernel_rfl) (fun _ _ _ h => h) (Or.inl ⟨by rfl, ?_⟩) hHeld ?_
      rotate_left
      · intro w hSw
        go_simp
        with_reducible rfl
      try simp only [Act.put, List.getElem_toArray, List.getElem_cons_zero, List.getElem_cons_succ, List.setIfInBounds_toArray, List.set_cons_zero, List.set_cons_succ]
      refine wpAnyH_take (i := 4) (v := ?_) rfl (by kernel_rfl) (by kernel_rfl) (by kernel_rfl) (fun _ _ _ h => h) (Or.inl ⟨by rfl, ?_⟩) hHeld ?_
      rotate_left
      · intro w hSw
        go_simp
        with_reducible rfl
      try simp only [Act.put, List.getElem_toArray, List.getElem_cons_zero, List.getElem_cons_succ, List.setIfInBounds_toArray, List.set_cons_zero, List.set_cons_succ]
      refine wpAnyH_take (i := 5) (v := ?_) rfl (by kernel_rfl) (by kernel_rfl) (by kernel_rfl) (fun _ _ _ h => h) (Or.inl ⟨by rfl, ?_⟩) hHeld ?_
      rotate_left
      · intro w hSw; obtain s0 := hSw
        go_simp
        with_reducible rfl
      try simp only [Act.put, List.getElem_toArray, List.getElem_cons_zero, List.getElem_cons_succ, List.setIfInBounds_toArray, List.set_cons_zero, List.set_cons_succ]
      refine wpAnyH_take (i := 6) (v := ?_) rfl (by kernel_rfl) (by kernel_rfl) (by kernel_rfl) (fun _ _ _ h => h) (Or.inl ⟨by rfl, ?_⟩) hHeld ?_
      rotate_left
      · intro w hSw
        go_simp
        with_reducible rfl
      try simp only [Act.put, List.getElem_toArray, List.getElem_cons_zero, List.getElem_cons_succ, List.setIfInBounds_toArray, List.set_cons_zero, List.set_cons_succ]
      refine wpAnyH_take (i := 7) (v := ?_) rfl (by kernel_rfl) (by kernel_rfl) (by kernel_rfl) (fun _ _ _ h => h) (Or.inl ⟨by rfl, ?_⟩) hHeld ?_
      rotate_left
      · intro w hSw
        go_simp
        with_reducible rfl
      try simp only [Act.put, List.getElem_toArray, List.getElem_cons_zero, List.getElem_cons_succ, List.setIfInBounds_toArray, List.set_cons_zero, List.set_cons_succ]
      refine wpAnyH_ready (rs := [0, 8]) (by kernel_rfl) (by simp) ?_
      refine AllReadyH.cons rfl (fun K hK => ?_) (AllReadyH.cons rfl (fun K hK => ?_) AllReadyH.nil)
      · rw [if_pos (by rfl)]
        go_simp
        refine hK.out _ _ hHeld (fun hHeld => ?_)
        clear hK K
        try simp only [Act.put, List.getElem_toArray, List.getElem_cons_zero, List.getElem_cons_succ, List.setIfInBounds_toArray, List.set_cons_zero, List.set_cons_succ]
        refine wpAnyH_ready (rs := [8]) (by kernel_rfl) (by simp) ?_
        refine AllReadyH.cons rfl (fun K hK => ?_) AllReadyH.nil
        rw [if_pos (by rfl)]
        refine wp_buildS 50 1 _ rfl #[(0, .int .i64 ((x1 : Int) + (kk : Int)))] (by simp [Act.eval, hw]) _ _ (i_slice1 _ _) ?_
        refine hK.out _ _ (cell_allocd _ HHELD.out) (fun hHeld => ?_)
        clear hK K bx0
        try simp only [Act.put, List.getElem_toArray, List.getElem_cons_zero, List.getElem_cons_succ, List.setIfInBounds_toArray, List.set_cons_zero, List.set_cons_succ]
        refine wpAnyH_ready (rs := [9]) (by kernel_rfl) (by simp) ?_
        refine AllReadyH.cons rfl (fun K hK => ?_) AllReadyH.nil
        rw [if_pos (by rfl)]
        refine wp_append_lies _ (.tmp 115) (.tmp 123) 50 rfl 0 3 i1 (.int .i64 0) 1 8 Try.underlying50 hi1 hy0 hy1 hy2 (by kernel_rfl) (by decide) _ nl _ rfl (own_frk HOW.out ((Fr.refl No wq).alloc _) (fun _ _ => id)) ⟨_, 0, none⟩ 1 1 [.int .i64 _] rfl rfl (cells1 _ _ _ rfl) (one1 _) (by decide) (by unfold maxLen; omega) (by omega) (Nat.zero_le _) _ rfl (fun gq cq w10 hown hgrow hgat hlt => ?_)
        have hfg := grown_fr hgrow
        have hbq : w10.heap[wb]? = some (.cells #[.slice al nl cl] 50 (0, 0)) := (hfg.block wb ((Fr.refl No wq).alloc (.cells #[.int .i64 ((x1 : Int) + (kk : Int))] 3) |>.lt (lt_of_block HBX.out)) (fun e => by have h1 := HNEW.out wb e; have h2 := HWB5.out; omega)).trans (((Fr.refl No wq).alloc (.cells #[.int .i64 ((x1 : Int) + (kk : Int))] 3)).block wb (lt_of_block HBX.out) id |>.trans HBX.out)
        have hf10 : Fr (fun j => j = wb) w5 w10 := (HFQ.out.alloc _).then hfg (fun i hi h => absurd (HNEW.out i h) (by omega))
        have hd10 := (hf10.cell (p := ⟨b, o + k * 2, none⟩) HBL.out HBN.out).trans HC0.out
        have hn10 : ∀ q, (Value.slice (some ⟨gq, 0, none⟩) (nl + 1) cq).ownBlock = some q → w5.heap.size ≤ q := fun q hq => by
          obtain rfl : gq = q := by simpa [Value.ownBlock] using hq
          rcases hgat with e | e
          · exact HNEW.out _ e
          · have := HFQ.out.size; have h2 := ((Fr.refl No wq).alloc (.cells #[.int .i64 ((x1 : Int) + (kk : Int))] 3)).size; omega
        have HBQ := hid hbq
        have HD10 := hid hd10
        have HF10 := hid hf10
        have HN10 := hid hn10
        have HOW10 := hid hown
        have bq0 := (cell_blk hbq 0).trans (show _ = some (Value.slice al nl cl) from rfl)
        have bf0 := free_blk hbq 0
        refine hK.out _ _ hd10 (fun hHeld => ?_)
        clear hK K hown hgrow hgat hlt hfg hbq hf10 hn10
        try simp only [Act.put, List.getElem_toArray, List.getElem_cons_zero, List.getElem_cons_succ, List.setIfInBounds_toArray, List.set_cons_zero, List.set_cons_succ]
        refine wpAnyH_ready (rs := [10]) (by kernel_rfl) (by simp) ?_
        refine AllReadyH.cons rfl (fun K hK => ?_) AllReadyH.nil
        rw [if_pos (by rfl)]
        go_simp
        have HSET := hid (Fr.set1 w10 wb 0 (.slice (some ⟨gq, 0, none⟩) (nl + 1) cq))
        refine hK.out _ _ ((HSET.out.cell (p := ⟨b, o + k * 2, none⟩) (HF10.out.lt HBL.out) HBN.out).trans HD10.out) (fun hHeld => ?_)
        clear hK K bq0 bf0
        try simp only [Act.put, List.getElem_toArray, List.getElem_cons_zero, List.getElem_cons_succ, List.setIfInBounds_toArray, List.set_cons_zero, List.set_cons_succ]
        refine wpAnyH_done (by kernel_rfl) ?_ _
        go_wp2_with fail
        go_roundg g2
        case measure => omega
        case rel =>
          have e1 : (P0 ++ (numsOf (x1, x2)).take (kk + 1)).length = nl + 1 := by rw [HNT.out, ← List.append_assoc, List.length_append, HNL.out]; rfl
          refine ⟨kk + 1, _, _, nl + 1, by omega, by go_num, e1, by have := HBND.out (kk + 1) (by omega); omega, ?_, ?_, HN10.out, HF10.out.trans HSET.out⟩
          · unfold Hid; rw [set_blk HBQ.out]; rfl
          · unfold Hid
            rw [HNT.out, ← List.append_assoc, List.map_append]
            have e2 : ([(x1, x2).1 + kk].map iv : List Value) = [.int .i64 ((x1 : Int) + (kk : Int))] := by show [Value.int .i64 (((x1 + kk : Nat)) : Int)] = _; rw [Int.natCast_add]
            rw [e2]
            exact own_frk HOW10.out HSET.out (fun q hq e => by have h1 := HN10.out q hq; have h2 := HWB5.out; omega)
      · rw [if_pos (by rfl)]
        refine wp_buildS 50 1 _ rfl #[(0, .int .i64 ((x1 : Int) + (kk : Int)))] (by simp [Act.eval, hw]) _ _ (i_slice1 _ _) ?_
        refine hK.out _ _ (cell_allocd _ HHELD.out) (fun hHeld => ?_)
        clear hK K
        try simp only [Act.put, List.getElem_toArray, List.getElem_cons_zero, List.getElem_cons_succ, List.setIfInBounds_toArray, List.set_cons_zero, List.set_cons_succ]
        have bx1 := cell_allocd (.cells #[.int .i64 ((x1 : Int) + (kk : Int))] 3) bx0
        refine wpAnyH_ready (rs := [0]) (by kernel_rfl) (by simp) ?_
        refine AllReadyH.cons rfl (fun K hK => ?_) AllReadyH.nil
        rw [if_pos (by rfl)]
        go_simp
        refine hK.out _ _ hHeld (fun hHeld => ?_)
        clear hK K bx0 bx1
        try simp only [Act.put, List.getElem_toArray, List.getElem_cons_zero, List.getElem_cons_succ, List.setIfInBounds_toArray, List.set_cons_zero, List.set_cons_succ]
        refine wpAnyH_ready (rs := [9]) (by kernel_rfl) (by simp) ?_
        refine AllReadyH.cons rfl (fun K hK => ?_) AllReadyH.nil
        rw [if_pos (by rfl)]
        refine wp_append_lies _ (.tmp 115) (.tmp 123) 50 rfl 0 3 i1 (.int .i64 0) 1 8 Try.underlying50 hi1 hy0 hy1 hy2 (by kernel_rfl) (by decide) _ nl _ rfl (own_frk HOW.out ((Fr.refl No wq).alloc _) (fun _ _ => id)) ⟨_, 0, none⟩ 1 1 [.int .i64 _] rfl rfl (cells1 _ _ _ rfl) (one1 _) (by decide) (by unfold maxLen; omega) (by omega) (Nat.zero_le _) _ rfl (fun gq cq w10 hown hgrow hgat hlt => ?_)
        have hfg := grown_fr hgrow
        have hbq : w10.heap[wb]? = some (.cells #[.slice al nl cl] 50 (0, 0)) := (hfg.block wb ((Fr.refl No wq).alloc (.cells #[.int .i64 ((x1 : Int) + (kk : Int))] 3) |>.lt (lt_of_block HBX.out)) (fun e => by have h1 := HNEW.out wb e; have h2 := HWB5.out; omega)).trans (((Fr.refl No wq).alloc (.cells #[.int .i64 ((x1 : Int) + (kk : Int))] 3)).block wb (lt_of_block HBX.out) id |>.trans HBX.out)
        have hf10 : Fr (fun j => j = wb) w5 w10 := (HFQ.out.alloc _).then hfg (fun i hi h => absurd (HNEW.out i h) (by omega))
        have hd10 := (hf10.cell (p := ⟨b, o + k * 2, none⟩) HBL.out HBN.out).trans HC0.out
        have hn10 : ∀ q, (Value.slice (some ⟨gq, 0, none⟩) (nl + 1) cq).ownBlock = some q → w5.heap.size ≤ q := fun q hq => by
          obtain rfl : gq = q := by simpa [Value.ownBlock] using hq
          rcases hgat with e | e
          · exact HNEW.out _ e
          · have := HFQ.out.size; have h2 := ((Fr.refl No wq).alloc (.cells #[.int .i64 ((x1 : Int) + (kk : Int))] 3)).size; omega
        have HBQ := hid hbq
        have HD10 := hid hd10
        have HF10 := hid hf10
        have HN10 := hid hn10
        have HOW10 := hid hown
        have bq0 := (cell_blk hbq 0).trans (show _ = some (Value.slice al nl cl) from rfl)
        have bf0 := free_blk hbq 0
        refine hK.out _ _ hd10 (fun hHeld => ?_)
        clear hK K hown hgrow hgat hlt hfg hbq hf10 hn10
        try simp only [Act.put, List.getElem_toArray, List.getElem_cons_zero, List.getElem_cons_succ, List.setIfInBounds_toArray, List.set_cons_zero, List.set_cons_succ]
        refine wpAnyH_ready (rs := [10]) (by kernel_rfl) (by simp) ?_
        refine AllReadyH.cons rfl (fun K hK => ?_) AllReadyH.nil
        rw [if_pos (by rfl)]
        go_simp
        have HSET := hid (Fr.set1 w10 wb 0 (.slice (some ⟨gq, 0, none⟩) (nl + 1) cq))
        refine hK.out _ _ ((HSET.out.cell (p := ⟨b, o + k * 2, none⟩) (HF10.out.lt HBL.out) HBN.out).trans HD10.out) (fun hHeld => ?_)
        clear hK K bq0 bf0
        try simp only [Act.put, List.getElem_toArray, List.getElem_cons_zero, List.getElem_cons_succ, List.setIfInBounds_toArray, List.set_cons_zero, List.set_cons_succ]
        refine wpAnyH_done (by kernel_rfl) ?_ _
        go_wp2_with fail
        go_roundg g2
        case measure => omega
        case rel =>
          have e1 : (P0 ++ (numsOf (x1, x2)).take (kk + 1)).length = nl + 1 := by rw [HNT.out, ← List.append_assoc, List.length_append, HNL.out]; rfl
          refine ⟨kk + 1, _, _, nl + 1, by omega, by go_num, e1, by have := HBND.out (kk + 1) (by omega); omega, ?_, ?_, HN10.out, HF10.out.trans HSET.out⟩
          · unfold Hid; rw [set_blk HBQ.out]; rfl
          · unfold Hid
            rw [HNT.out, ← List.append_assoc, List.map_append]
            have e2 : ([(x1, x2).1 + kk].map iv : List Value) = [.int .i64 ((x1 : Int) + (kk : Int))] := by show [Value.int .i64 (((x1 + kk : Nat)) : Int)] = _; rw [Int.natCast_add]
            rw [e2]
            exact own_frk HOW10.out HSET.out (fun q hq e => by have h1 := HN10.out q hq; have h2 := HWB5.out; omega)
end Go.Proofs.Ytdehojhipiklmaa
