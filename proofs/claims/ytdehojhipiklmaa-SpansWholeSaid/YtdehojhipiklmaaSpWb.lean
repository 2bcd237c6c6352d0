/- The law SpansWhole: its second loop. -/
import Derived.Test.YtdehojhipiklmaaSpWa
namespace Go.Proofs.Ytdehojhipiklmaa
open Go.RowKit Go.Shelf

theorem only_use {P : Program} {code : Code} {Q : Exit → Act → World → Prop} {a : Act} {w : World} {i : Nat} (h : Code.wp P code (OnlyExit i (fun a w => Q (.exit i) a w)) a w) : Code.wp P code Q a w :=
  wp_mono h (fun e a w h => by cases e <;> first | exact h.elim | (obtain ⟨rfl, h⟩ := h; exact h))
/-- the box of want holds those numbers -/
def Want (w5 w : World) (wb : Nat) (l : List Nat) : Prop := ∃ al cl, w.heap[wb]? = some (.cells #[.slice al l.length cl] 50 (0, 0)) ∧ w.ownsRow 0 3 1 (.slice al l.length cl) l.length (l.map iv) ∧ (∀ q, (Value.slice al l.length cl).ownBlock = some q → w5.heap.size ≤ q)
set_option maxRecDepth 1000000 in
set_option maxHeartbeats 8000000 in
theorem wh_outer (c0 c1 c2 c3 c4 c5 c7 c8 c12 c13 c14 c15 c16 c17 c18 c19 c20 c21 c22 c23 c24 c25 c26 c27 c28 c29 c30 c31 c32 c33 c34 c35 c36 c37 c38 c39 c40 c41 c42 c43 c44 c45 c46 c47 c48 c49 c50 c51 c52 c53 c54 c55 c56 c57 c58 c59 c60 c61 c62 c63 c64 c65 c66 c67 c68 c69 c70 c71 c72 c73 c74 c75 c76 c77 c78 c79 c80 c81 c82 c83 c84 c85 c86 c87 c88 c89 c90 c91 c92 c93 c94 c95 c96 c97 c98 c99 c100 c101 c102 c103 c104 c105 c106 c107 c108 c109 c110 c111 c112 c113 c114 c115 c116 c117 c118 c119 c120 c121 c122 c123 c124 c125 c126 c127 c128 c129 c130 c131 c132 c133 c134 c135 c136 c137 c138 c139 c140 c141 c142 c143 c144 c145 c146 c147 c148 c149 c150 c151 c152 c153 c154 c155 c156 c157 c158 c159 c160 c161 c162 c163 c164 c165 c166 c167 c168 c169 c170 c171 c172 c173 c174 c175 c176 c177 c178 c179 c180 c181 c182 c183 c184 c185 c186 c187 c188 c189 c190 c191 c192 c193 c194 c195 c196 c197 c198 : Value) (a3 : Option Addr) (m cp wb : Nat) (L : List Sp) (w5 : World) (R0 : Act → World → Prop)
    (hG : GoodB L) (hsum : sumN L ≤ 2400) (hm : L.length = m) (hm40 : (m : Int) ≤ 40) (hE : Elems spV 2 w5 a3 L) (hbn : 0 < L.length → ∀ b o, a3 = some ⟨b, o, none⟩ → ¬ b = wb) (hbx : w5.heap[wb]? = some (.cells #[.slice none 0 0] 50 (0, 0)))
    (hexit : ∀ (u10 u11 u12 u66 u67 u68 u69 u70 u71 u72 u73 u74 u75 u76 u77 u78 u79 u80 u81 u82 u83 u84 u85 u86 u87 u88 u89 u90 u91 u92 u93 u94 u95 u96 u97 u98 u99 u100 u101 u102 u103 u104 u105 u106 u107 u108 u109 u110 u111 u112 u113 u114 u115 u116 u117 u118 u119 u120 u121 u122 u123 u124 : Value) (wq : World), Want w5 wq wb (nums L) → Fr (fun j => j = wb) w5 wq → R0 ⟨List.toArray (c0 :: c1 :: c2 :: c3 :: c4 :: c5 :: (.slice a3 m cp) :: c7 :: c8 :: (.pointer (some ⟨wb, 0, none⟩)) :: u10 :: u11 :: u12 :: c13 :: c14 :: c15 :: c16 :: c17 :: c18 :: c19 :: c20 :: c21 :: c22 :: c23 :: c24 :: c25 :: c26 :: c27 :: c28 :: c29 :: c30 :: c31 :: c32 :: c33 :: c34 :: c35 :: c36 :: c37 :: c38 :: c39 :: c40 :: c41 :: c42 :: c43 :: c44 :: c45 :: c46 :: c47 :: c48 :: c49 :: c50 :: c51 :: c52 :: c53 :: c54 :: c55 :: c56 :: c57 :: c58 :: c59 :: c60 :: c61 :: c62 :: c63 :: c64 :: c65 :: u66 :: u67 :: u68 :: u69 :: u70 :: u71 :: u72 :: u73 :: u74 :: u75 :: u76 :: u77 :: u78 :: u79 :: u80 :: u81 :: u82 :: u83 :: u84 :: u85 :: u86 :: u87 :: u88 :: u89 :: u90 :: u91 :: u92 :: u93 :: u94 :: u95 :: u96 :: u97 :: u98 :: u99 :: u100 :: u101 :: u102 :: u103 :: u104 :: u105 :: u106 :: u107 :: u108 :: u109 :: u110 :: u111 :: u112 :: u113 :: u114 :: u115 :: u116 :: u117 :: u118 :: u119 :: u120 :: u121 :: u122 :: u123 :: u124 :: c125 :: c126 :: c127 :: c128 :: c129 :: c130 :: c131 :: c132 :: c133 :: c134 :: c135 :: c136 :: c137 :: c138 :: c139 :: c140 :: c141 :: c142 :: c143 :: c144 :: c145 :: c146 :: c147 :: c148 :: c149 :: c150 :: c151 :: c152 :: c153 :: c154 :: c155 :: c156 :: c157 :: c158 :: c159 :: c160 :: c161 :: c162 :: c163 :: c164 :: c165 :: c166 :: c167 :: c168 :: c169 :: c170 :: c171 :: c172 :: c173 :: c174 :: c175 :: c176 :: c177 :: c178 :: c179 :: c180 :: c181 :: c182 :: c183 :: c184 :: c185 :: c186 :: c187 :: c188 :: c189 :: c190 :: c191 :: c192 :: c193 :: c194 :: c195 :: c196 :: c197 :: c198 :: []), []⟩ wq) :
    Code.wp Try.prog (whLoop 1) (OnlyExit 2 R0) ⟨List.toArray (c0 :: c1 :: c2 :: c3 :: c4 :: c5 :: (.slice a3 m cp) :: c7 :: c8 :: (.pointer (some ⟨wb, 0, none⟩)) :: (.int .i64 (-1)) :: (.int .i64 0) :: c12 :: c13 :: c14 :: c15 :: c16 :: c17 :: c18 :: c19 :: c20 :: c21 :: c22 :: c23 :: c24 :: c25 :: c26 :: c27 :: c28 :: c29 :: c30 :: c31 :: c32 :: c33 :: c34 :: c35 :: c36 :: c37 :: c38 :: c39 :: c40 :: c41 :: c42 :: c43 :: c44 :: c45 :: c46 :: c47 :: c48 :: c49 :: c50 :: c51 :: c52 :: c53 :: c54 :: c55 :: c56 :: c57 :: c58 :: c59 :: c60 :: c61 :: c62 :: c63 :: c64 :: c65 :: c66 :: c67 :: c68 :: c69 :: c70 :: c71 :: c72 :: c73 :: c74 :: c75 :: c76 :: c77 :: c78 :: c79 :: c80 :: c81 :: c82 :: c83 :: c84 :: c85 :: c86 :: c87 :: c88 :: c89 :: c90 :: c91 :: c92 :: c93 :: c94 :: c95 :: c96 :: c97 :: c98 :: c99 :: c100 :: c101 :: c102 :: c103 :: c104 :: c105 :: c106 :: c107 :: c108 :: c109 :: c110 :: c111 :: c112 :: c113 :: c114 :: c115 :: c116 :: c117 :: c118 :: c119 :: c120 :: c121 :: c122 :: c123 :: c124 :: c125 :: c126 :: c127 :: c128 :: c129 :: c130 :: c131 :: c132 :: c133 :: c134 :: c135 :: c136 :: c137 :: c138 :: c139 :: c140 :: c141 :: c142 :: c143 :: c144 :: c145 :: c146 :: c147 :: c148 :: c149 :: c150 :: c151 :: c152 :: c153 :: c154 :: c155 :: c156 :: c157 :: c158 :: c159 :: c160 :: c161 :: c162 :: c163 :: c164 :: c165 :: c166 :: c167 :: c168 :: c169 :: c170 :: c171 :: c172 :: c173 :: c174 :: c175 :: c176 :: c177 :: c178 :: c179 :: c180 :: c181 :: c182 :: c183 :: c184 :: c185 :: c186 :: c187 :: c188 :: c189 :: c190 :: c191 :: c192 :: c193 :: c194 :: c195 :: c196 :: c197 :: c198 :: []), []⟩ w5 := by
  have HG := hid hG
  have HSUM := hid hsum
  have HM := hid hm
  have HE := hid hE
  have HBN := hid hbn
  have HBW := hid hbx
  have HEX := hid hexit
  clear hG hsum hm hE hbn hbx hexit
  conv => arg 2; whnf
  go_loopg [10, 11] m (fun g la i wr => ∃ k : Nat, k + g = m ∧ la = .int .i64 (lastV L k) ∧ i = .int .i64 k ∧ Hid (Want w5 wr wb (nums (L.take k))) ∧ Hid (Fr (fun j => j = wb) w5 wr))
  case atStart => exact ⟨0, by omega, rfl, rfl, ⟨none, 0, HBW.out, ⟨rfl, .inl ⟨rfl, rfl⟩⟩, fun q h => by simp [Value.ownBlock] at h⟩, Fr.refl _ _⟩
  case round =>
    obtain ⟨k, hk, rfl, rfl, HI, HFR⟩ := hrel
    cases gk with
    | zero =>
      obtain rfl : k = m := by omega
      have hT : L.take k = L := by rw [← HM.out, List.take_length]
      have hW := HI.out
      rw [hT] at hW
      have HW := hid hW
      clear hT hW
      go_wp2_with fail
      exact ⟨rfl, HEX.out _ _ _ _ _ _ _ _ _ _ _ _ _ _ _ _ _ _ _ _ _ _ _ _ _ _ _ _ _ _ _ _ _ _ _ _ _ _ _ _ _ _ _ _ _ _ _ _ _ _ _ _ _ _ _ _ _ _ _ _ _ _ wr HW.out HFR.out⟩
    | succ g =>
      have hki : (k : Int) < (m : Int) := by omega
      have hkL : k < L.length := by rw [HM.out]; omega
      obtain ⟨b, o, rfl, hb, c0', c1'⟩ := HE.out.sp2 k hkL
      have hbwb := HBN.out (by omega) b o rfl
      have hlv := lastV_lt L HG.out.1 k hkL
      have HLS := hid (lastV_succ L k hkL)
      have HTK := hid (nums_take L k hkL)
      have hsp := good_pos HG.out.1 hkL
      have hsm := sumN_mem (List.getElem_mem hkL)
      have hsb := HG.out.2 _ (List.getElem_mem hkL)
      obtain ⟨x, hx⟩ : ∃ x, L[k] = x := ⟨_, rfl⟩
      rw [hx] at c0' c1' hlv HLS HTK hsp hsm hsb
      have HC0 := hid c0'
      have HC1 := hid c1'
      have HBL := hid hb
      have HBB := hid hbwb
      have d0 := (HFR.out.cell (p := ⟨b, o + k * 2, none⟩) hb hbwb).trans c0'
      have d1 := (HFR.out.cell (p := ⟨b, o + k * 2 + 1, none⟩) hb hbwb).trans c1'
      clear c0' c1' hx hb hbwb
      obtain ⟨x1, x2⟩ := x
      have hx1 : (x1 : Int) + (x2 : Int) ≤ 1048576 := by have : x1 + x2 ≤ 1048576 := hsb; omega
      have hx2 : (1 : Int) ≤ (x2 : Int) := by have : 1 ≤ x2 := hsp; omega
      have hx3 : (x2 : Int) ≤ 2400 := by have : x2 ≤ sumN L := hsm; have := HSUM.out; omega
      have hlv' : lastV L k < (x1 : Int) := hlv
      obtain ⟨lv, hlvv⟩ : ∃ lv, lastV L k = lv := ⟨_, rfl⟩
      rw [hlvv] at hlv' ⊢
      have HBND : Hid (∀ kk, kk ≤ x2 → (nums (L.take k) ++ (numsOf (x1, x2)).take kk).length ≤ 2400) := fun kk hkk => by
        have h1 := nums_len (L.take k)
        have h2 := sumN_take L (k + 1)
        have h3 := nums_len (L.take (k + 1))
        rw [HTK.out, List.length_append, numsOf_len] at h3
        have h4 := HSUM.out
        rw [List.length_append, List.length_take, numsOf_len]
        have h5 : x2 = (x1, x2).2 := rfl
        omega
      clear hlv hsb hsp hsm hlvv hkL
      go_wp2_with fail
      go_region
      go_wp2_with fail
      obtain ⟨al0, cl0, hbx0, how0, hnew0⟩ := HI.out
      have hWB : wb < w5.heap.size := lt_of_block HBW.out
      refine only_use (i := 4) (wh_inner _ _ _ _ _ _ _ _ _ _ _ _ _ _ _ _ _ _ _ _ _ _ _ _ _ _ _ _ _ _ _ _ _ _ _ _ _ _ _ _ _ _ _ _ _ _ _ _ _ _ _ _ _ _ _ _ _ _ _ _ _ _ _ _ _ _ _ _ _ _ _ _ _ _ _ _ _ _ _ _ _ _ _ _ _ _ _ _ _ _ _ _ _ _ _ _ _ _ _ _ _ _ _ _ _ _ _ _ _ _ _ _ _ _ _ _ _ _ _ _ _ _ _ _ _ _ _ _ _ _ _ _ _ _ _ _ _ _ _ _ _ _ _ _ _ _ _ _ _ _ _ _ _ _ _ _ _ _ _ _ _ _ _ _ _ _ _ _ _ _ _ _ _ _ _ _ _ _ _ _ _ _ _ _ _ _ _ _ _ _ _ _ _ _ _ b o m cp wb k x1 x2 (nums (L.take k)) w5 wr.drew al0 cl0 _ hki hx1 HBL.out HBB.out hWB HC0.out HC1.out HBND.out hbx0 how0.drew hnew0 HFR.out.drew ?_)
      clear d0 d1 hbx0 how0 hnew0 HI
      intro v12 v106 v107 v108 v109 v110 v111 v112 v113 v114 v115 v116 v117 v118 v119 v120 v121 v122 v123 v124 al cl nl wq h1 h2 h3 h4 h5
      have HNX : Hid (Want w5 wq wb (nums (L.take (k + 1)))) := by
        unfold Hid; rw [HTK.out]; subst h1; exact ⟨al, cl, h2, h3, h4⟩
      have HF6 := hid h5
      clear h1 h2 h3 h4 h5
      go_wp2_with fail
      go_roundg g
      case measure => omega
      case rel => exact ⟨k + 1, by omega, by rw [HLS.out], by go_num, HNX.out, HF6.out⟩
end Go.Proofs.Ytdehojhipiklmaa
