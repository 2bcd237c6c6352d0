/- The law SpansWhole: its range over Numbers. -/
import Derived.Test.YtdehojhipiklmaaSpWb
namespace Go.Proofs.Ytdehojhipiklmaa
open Go.RowKit Go.Shelf
attribute [local go_sem] Oper.semAt_some

def rangesOf : Code → List Code
  | .loop c => rangesOf c
  | .seq a b => rangesOf a ++ rangesOf b
  | .block _ c => rangesOf c
  | .cond _ a b => rangesOf a ++ rangesOf b
  | .rangeFunc g ps a b => [.rangeFunc g ps a b]
  | _ => []
noncomputable def whRange : Code := (((Try.f4.body.map rangesOf).getD [])[0]?).getD .skip
/-- left off its end alone -/
def OnlyOn (R : Act → World → Prop) : Exit → Act → World → Prop
  | .normal, a, w => R a w
  | _, _, _ => False
theorem onlyOn_use {P : Program} {code : Code} {Q : Exit → Act → World → Prop} {a : Act} {w : World} (h : Code.wp P code (OnlyOn (fun a w => Q .normal a w)) a w) : Code.wp P code Q a w :=
  wp_mono h (fun e a w h => by cases e <;> first | exact h.elim | exact h)
theorem own_fr {β : Type} (n b : Nat) (hb : n ≤ b) (w : World) (Z : Nat → Prop) : OwnFrom b (fun (_ : β) W => Fr (fun k => Z k ∨ n ≤ k) w W) := fun s A B row hs hg hr => by
  refine hs.then (T := fun k => n ≤ k) ⟨hg.os, hg.tape, hg.output, hg.size, fun k hk hn => hg.block k hk (fun e => ?_)⟩ (fun i _ h => .inr h)
  exact hn (Nat.le_trans hb (hr k e.symm).1)
theorem nums_lt {L : List Sp} (hG : GoodB L) {x : Nat} (h : x ∈ nums L) : x < 1048576 ∧ hasL L x := by
  have h1 := nums_mem.1 h
  obtain ⟨s, hs, h2, h3⟩ := h1
  have := hG.2 s hs
  exact ⟨by omega, s, hs, h2, h3⟩
set_option maxRecDepth 1000000 in
set_option maxHeartbeats 8000000 in
theorem wh_range (c0 c1 c2 c3 c5 c6 c7 c8 c10 c11 c12 c14 c15 c16 c17 c18 c19 c20 c21 c22 c23 c24 c25 c26 c27 c28 c29 c30 c31 c32 c33 c34 c35 c36 c37 c38 c39 c40 c41 c42 c43 c44 c45 c46 c47 c48 c49 c50 c51 c52 c53 c54 c55 c56 c57 c58 c59 c60 c61 c62 c63 c64 c65 c66 c67 c68 c69 c70 c71 c72 c73 c74 c75 c76 c77 c78 c79 c80 c81 c82 c83 c84 c85 c86 c87 c88 c89 c90 c91 c92 c93 c94 c95 c96 c97 c98 c99 c100 c101 c102 c103 c104 c105 c106 c107 c108 c109 c110 c111 c112 c113 c114 c115 c116 c117 c118 c119 c120 c121 c122 c123 c124 c126 c127 c128 c129 c130 c131 c132 c133 c134 c135 c136 c137 c138 c139 c140 c141 c142 c143 c144 c145 c146 c147 c148 c149 c150 c151 c152 c153 c154 c155 c156 c157 c158 c159 c160 c161 c162 c163 c164 c165 c166 c167 c168 c169 c170 c171 c172 c173 c174 c175 c176 c177 c178 c179 c180 c181 c182 c183 c184 c185 c186 c187 c188 c189 c190 c191 c192 c193 c194 c195 c196 c197 c198 : Value) (sb wb nb Bn B p : Nat) (S : Nat → Prop) (L : List Sp) (w6 : World) (ra7 : Option Addr) (cp : Nat) (al : Option Addr) (cl nl : Nat) (R0 : Act → World → Prop)
    (hG : GoodB L) (hsum : nl ≤ 2400) (hnl : (nums L).length = nl) (hS : St w6 p S L) (hSn : ¬ S nb) (hsb : w6.heap[sb]? = some (.cells #[.pointer (some ⟨p, 0, none⟩)] 25 (0, 0))) (hsbn : sb ≠ nb)
    (hwb : w6.heap[wb]? = some (.cells #[.slice al nl cl] 50 (0, 0))) (hwbn : wb ≠ nb) (how : w6.ownsRow 0 3 1 (.slice al nl cl) nl ((nums L).map iv)) (hown : ∀ q, (Value.slice al nl cl).ownBlock = some q → q ≠ nb) (hnb : w6.heap[nb]? = some (.cells #[.int .i64 0] 3 (0, 0)))
    (hBn : Bn < w6.heap.size) (hcn : w6.cell? ⟨Bn, 0, none⟩ = some (.func (.func 42) #[] #[.pointer (some ⟨B, 0, none⟩)])) (hB : B < w6.heap.size) (hc : w6.cell? ⟨B, 0, none⟩ = some (.slice ra7 L.length cp)) (hE : Elems spV 2 w6 ra7 L) (hEn : 0 < L.length → ∀ b o, ra7 = some ⟨b, o, none⟩ → b ≠ nb ∧ b < w6.heap.size)
    (hexit : ∀ (D : Nat) (W : World), w6.heap.size ≤ D → W.heap[nb]? = some (.cells #[.int .i64 (nl : Int)] 3 (0, 0)) → Fr (fun k => k = nb ∨ w6.heap.size ≤ k) w6 W → W.heap[D]? = some (.deferred (some [])) → R0 ⟨List.toArray (c0 :: c1 :: c2 :: c3 :: (.pointer (some ⟨sb, 0, none⟩)) :: c5 :: c6 :: c7 :: c8 :: (.pointer (some ⟨wb, 0, none⟩)) :: c10 :: c11 :: c12 :: (.pointer (some ⟨nb, 0, none⟩)) :: c14 :: c15 :: c16 :: c17 :: c18 :: c19 :: c20 :: c21 :: c22 :: c23 :: c24 :: c25 :: c26 :: c27 :: c28 :: c29 :: c30 :: c31 :: c32 :: c33 :: c34 :: c35 :: c36 :: c37 :: c38 :: c39 :: c40 :: c41 :: c42 :: c43 :: c44 :: c45 :: c46 :: c47 :: c48 :: c49 :: c50 :: c51 :: c52 :: c53 :: c54 :: c55 :: c56 :: c57 :: c58 :: c59 :: c60 :: c61 :: c62 :: c63 :: c64 :: c65 :: c66 :: c67 :: c68 :: c69 :: c70 :: c71 :: c72 :: c73 :: c74 :: c75 :: c76 :: c77 :: c78 :: c79 :: c80 :: c81 :: c82 :: c83 :: c84 :: c85 :: c86 :: c87 :: c88 :: c89 :: c90 :: c91 :: c92 :: c93 :: c94 :: c95 :: c96 :: c97 :: c98 :: c99 :: c100 :: c101 :: c102 :: c103 :: c104 :: c105 :: c106 :: c107 :: c108 :: c109 :: c110 :: c111 :: c112 :: c113 :: c114 :: c115 :: c116 :: c117 :: c118 :: c119 :: c120 :: c121 :: c122 :: c123 :: c124 :: (.func (.func 31) #[] #[.pointer (some ⟨Bn, 0, none⟩)]) :: c126 :: c127 :: c128 :: c129 :: c130 :: c131 :: c132 :: c133 :: c134 :: c135 :: c136 :: c137 :: c138 :: c139 :: c140 :: c141 :: c142 :: c143 :: c144 :: c145 :: c146 :: c147 :: c148 :: c149 :: c150 :: c151 :: c152 :: c153 :: c154 :: c155 :: c156 :: c157 :: c158 :: c159 :: c160 :: c161 :: c162 :: c163 :: c164 :: c165 :: c166 :: c167 :: c168 :: c169 :: c170 :: c171 :: c172 :: c173 :: c174 :: c175 :: c176 :: c177 :: c178 :: c179 :: c180 :: c181 :: c182 :: c183 :: c184 :: c185 :: c186 :: c187 :: c188 :: c189 :: c190 :: c191 :: c192 :: c193 :: c194 :: c195 :: c196 :: c197 :: c198 :: []), [{ target := .collected D, args := #[] }]⟩ W) :
    Code.wp Try.prog whRange (OnlyOn R0) ⟨List.toArray (c0 :: c1 :: c2 :: c3 :: (.pointer (some ⟨sb, 0, none⟩)) :: c5 :: c6 :: c7 :: c8 :: (.pointer (some ⟨wb, 0, none⟩)) :: c10 :: c11 :: c12 :: (.pointer (some ⟨nb, 0, none⟩)) :: c14 :: c15 :: c16 :: c17 :: c18 :: c19 :: c20 :: c21 :: c22 :: c23 :: c24 :: c25 :: c26 :: c27 :: c28 :: c29 :: c30 :: c31 :: c32 :: c33 :: c34 :: c35 :: c36 :: c37 :: c38 :: c39 :: c40 :: c41 :: c42 :: c43 :: c44 :: c45 :: c46 :: c47 :: c48 :: c49 :: c50 :: c51 :: c52 :: c53 :: c54 :: c55 :: c56 :: c57 :: c58 :: c59 :: c60 :: c61 :: c62 :: c63 :: c64 :: c65 :: c66 :: c67 :: c68 :: c69 :: c70 :: c71 :: c72 :: c73 :: c74 :: c75 :: c76 :: c77 :: c78 :: c79 :: c80 :: c81 :: c82 :: c83 :: c84 :: c85 :: c86 :: c87 :: c88 :: c89 :: c90 :: c91 :: c92 :: c93 :: c94 :: c95 :: c96 :: c97 :: c98 :: c99 :: c100 :: c101 :: c102 :: c103 :: c104 :: c105 :: c106 :: c107 :: c108 :: c109 :: c110 :: c111 :: c112 :: c113 :: c114 :: c115 :: c116 :: c117 :: c118 :: c119 :: c120 :: c121 :: c122 :: c123 :: c124 :: (.func (.func 31) #[] #[.pointer (some ⟨Bn, 0, none⟩)]) :: c126 :: c127 :: c128 :: c129 :: c130 :: c131 :: c132 :: c133 :: c134 :: c135 :: c136 :: c137 :: c138 :: c139 :: c140 :: c141 :: c142 :: c143 :: c144 :: c145 :: c146 :: c147 :: c148 :: c149 :: c150 :: c151 :: c152 :: c153 :: c154 :: c155 :: c156 :: c157 :: c158 :: c159 :: c160 :: c161 :: c162 :: c163 :: c164 :: c165 :: c166 :: c167 :: c168 :: c169 :: c170 :: c171 :: c172 :: c173 :: c174 :: c175 :: c176 :: c177 :: c178 :: c179 :: c180 :: c181 :: c182 :: c183 :: c184 :: c185 :: c186 :: c187 :: c188 :: c189 :: c190 :: c191 :: c192 :: c193 :: c194 :: c195 :: c196 :: c197 :: c198 :: []), []⟩ w6 := by
  have HSEQ : Hid (Calm (5 - 1) Try.prog 31 #[.pointer (some ⟨Bn, 0, none⟩)] (fun x : Nat => #[.int .i64 x]) (fun k => k = nb ∨ k = w6.heap.size + 1) (nums L) w6) :=
    nums_calm (5 - 1) Bn B _ ra7 cp L hG w6 hBn hcn hB hc hE (fun hp b o e h => by have := hEn hp b o e; omega)
  have hnz := lt_of_block hnb
  have HEX := hid hexit
  have HG := hid hG
  have HS := hid hS
  have HSN := hid hSn
  have HSB := hid hsb
  have HWB := hid hwb
  have HOW := hid how
  have HOWN := hid hown
  have HNB := hid hnb
  have HNL := hid hnl
  have hI : OwnFrom w6.heap.size (fun (pre : List Nat) W => W.heap[nb]? = some (.cells #[.int .i64 (pre.length : Int)] 3 (0, 0)) ∧ Fr (fun k => k = nb ∨ w6.heap.size ≤ k) w6 W) :=
    OwnFrom.and (Own.from (block_own nb (fun pre : List Nat => .cells #[.int .i64 (pre.length : Int)] 3 (0, 0)) (fun _ => rfl)) _) (own_fr _ _ (Nat.le_refl _) _ _)
  clear hexit hBn hcn hB hc hE hEn hG hS hSn hsb hwb how hown hnb hnl
  conv => arg 2; whnf
  refine wpIn_wide.1 (rangeFunc_calm (n := 5) (gf := 31) (lb := #[.pointer (some ⟨Bn, 0, none⟩)]) rfl (enters_of Try.func31 (by kernel_rfl) rfl) HSEQ.out (.inr rfl)
    (fun k hk h => by omega) (by intro _; rfl)
    (fun pre W => W.heap[nb]? = some (.cells #[.int .i64 (pre.length : Int)] 3 (0, 0)) ∧ Fr (fun k => k = nb ∨ w6.heap.size ≤ k) w6 W) hI ⟨HNB.out, Fr.refl _ _⟩
    (fun x a' _ => a' = ⟨List.toArray (c0 :: c1 :: c2 :: c3 :: (.pointer (some ⟨sb, 0, none⟩)) :: c5 :: c6 :: c7 :: c8 :: (.pointer (some ⟨wb, 0, none⟩)) :: c10 :: c11 :: c12 :: (.pointer (some ⟨nb, 0, none⟩)) :: (.int .i64 (x : Int)) :: c15 :: c16 :: c17 :: c18 :: c19 :: c20 :: c21 :: c22 :: c23 :: c24 :: c25 :: c26 :: c27 :: c28 :: c29 :: c30 :: c31 :: c32 :: c33 :: c34 :: c35 :: c36 :: c37 :: c38 :: c39 :: c40 :: c41 :: c42 :: c43 :: c44 :: c45 :: c46 :: c47 :: c48 :: c49 :: c50 :: c51 :: c52 :: c53 :: c54 :: c55 :: c56 :: c57 :: c58 :: c59 :: c60 :: c61 :: c62 :: c63 :: c64 :: c65 :: c66 :: c67 :: c68 :: c69 :: c70 :: c71 :: c72 :: c73 :: c74 :: c75 :: c76 :: c77 :: c78 :: c79 :: c80 :: c81 :: c82 :: c83 :: c84 :: c85 :: c86 :: c87 :: c88 :: c89 :: c90 :: c91 :: c92 :: c93 :: c94 :: c95 :: c96 :: c97 :: c98 :: c99 :: c100 :: c101 :: c102 :: c103 :: c104 :: c105 :: c106 :: c107 :: c108 :: c109 :: c110 :: c111 :: c112 :: c113 :: c114 :: c115 :: c116 :: c117 :: c118 :: c119 :: c120 :: c121 :: c122 :: c123 :: c124 :: (.func (.func 31) #[] #[.pointer (some ⟨Bn, 0, none⟩)]) :: (.int .i64 (x : Int)) :: c127 :: c128 :: c129 :: c130 :: c131 :: c132 :: c133 :: c134 :: c135 :: c136 :: c137 :: c138 :: c139 :: c140 :: c141 :: c142 :: c143 :: c144 :: c145 :: c146 :: c147 :: c148 :: c149 :: c150 :: c151 :: c152 :: c153 :: c154 :: c155 :: c156 :: c157 :: c158 :: c159 :: c160 :: c161 :: c162 :: c163 :: c164 :: c165 :: c166 :: c167 :: c168 :: c169 :: c170 :: c171 :: c172 :: c173 :: c174 :: c175 :: c176 :: c177 :: c178 :: c179 :: c180 :: c181 :: c182 :: c183 :: c184 :: c185 :: c186 :: c187 :: c188 :: c189 :: c190 :: c191 :: c192 :: c193 :: c194 :: c195 :: c196 :: c197 :: c198 :: []), []⟩) (fun _ _ _ _ _ _ hs _ _ => hs) ?assign ?body ?done)
  case assign =>
    intro l pre x W K hIp hK
    have hK2 := hid (fun a' e => hK a' W (KeepsFrom.refl _ _) (Fr.refl _ _) hIp e)
    clear hIp hK HEX HSEQ hI
    gi_wp2
    exact hK2.out _ rfl
  case body =>
    rintro l pre x a' W ⟨hn, hF⟩ rfl hpre
    have hlt : pre.length < nl := by
      have h1 := hpre.length_le
      rw [List.length_append, HNL.out] at h1
      have h2 : ([x] : List Nat).length = 1 := rfl
      omega
    have hge : (nums L)[pre.length]? = some x := by
      obtain ⟨t, ht⟩ := hpre
      rw [← ht, List.append_assoc, List.getElem?_append_right (Nat.le_refl _)]; simp
    have hxm := nums_lt HG.out (List.mem_of_getElem? hge)
    obtain ⟨g, c2, hv, _⟩ := HOW.out.form (by omega)
    obtain ⟨rfl, rfl⟩ : al = some ⟨g, 0, none⟩ ∧ cl = c2 := by injection hv with e1 _ e3; exact ⟨e1, e3⟩
    have hgz : g < w6.heap.size := by obtain ⟨cs, hc⟩ := own_ty HOW.out (by rfl); exact lt_of_block hc
    have hgn : ¬ (g = nb ∨ w6.heap.size ≤ g) := fun h => h.elim (HOWN.out g rfl) (by omega)
    have hwn : ¬ (wb = nb ∨ w6.heap.size ≤ wb) := fun h => h.elim hwbn (by have := lt_of_block HWB.out; omega)
    have hsn : ¬ (sb = nb ∨ w6.heap.size ≤ sb) := fun h => h.elim hsbn (by have := lt_of_block HSB.out; omega)
    have x0 := (hF.cell (p := ⟨g, pre.length, none⟩) hgz hgn).trans ((own_cells HOW.out).1 pre.length (iv x) (by rw [List.getElem?_map, hge]; rfl))
    have s0 := (cell_blk ((hF.block sb (lt_of_block HSB.out) hsn).trans HSB.out) 0)
    have q0 := (cell_blk ((hF.block wb (lt_of_block HWB.out) hwn).trans HWB.out) 0)
    have n0 := cell_blk hn 0
    simp only [List.getElem?_toArray, List.getElem?_cons_zero] at s0 q0 n0
    have HST := hid (HS.out.fr hF (fun k hk h => h.elim (fun e => HSN.out (by rw [← e]; exact hk)) (fun e => by have := HS.out.lt k hk; omega)))
    have HME : Hid (meetsB L (x : Int) 1 = true) := (meetsB_has L HG.out x hxm.1).2 hxm.2
    have HF := hid hF
    have HN := hid hn
    obtain ⟨k, hk⟩ : ∃ k, pre.length = k := ⟨_, rfl⟩
    have HK := hid hk
    have HNBZ := hid hnz
    rw [hk] at x0 n0 hlt
    have hlt' : (k : Int) < (nl : Int) := by omega
    have hkk : (k : Int) ≤ 2400 := by omega
    clear hge hxm hgn hwn hsn hpre hv hk hF hn HSEQ hI HEX hlt hgz
    gi_wp2_with (refine ⟨trivial, ?_⟩; gi_at_call 20; refine (CallsIn.inRound l ((callsIn_wide (n := _)).2 (sp_Has W p S L HST.out (x : Int)))).mono ?_; rw [HME.out]; rintro e w7 ⟨rfl, hF7⟩; have HF7 := hid hF7; have hb7 := (hF7.block nb (lt_of_block HN.out) id).trans HN.out; have HB7 := hid hb7; have n7 := (cell_blk hb7 0).trans (show _ = some (Value.int .i64 (pre.length : Int)) from rfl); have m7 := free_blk hb7 0; rw [HK.out] at n7; clear hF7 hb7)
    have hf : Fr (fun j => j = nb) W (w7.setCell ⟨nb, 0, none⟩ (.int .i64 ((k : Int) + 1))) := (HF7.out.mono (T := fun j => j = nb) (fun _ _ e => e.elim)).trans (Fr.set1 w7 nb 0 _)
    refine ⟨hf.keepsFrom (fun j hj h => by have := HNBZ.out; omega), hf.mono (fun _ _ h => .inl h), ?_, HF.out.trans (hf.mono (fun _ _ h => .inl h))⟩
    rw [set_blk HB7.out, ← HK.out]; rfl
  case done =>
    rintro D W hD ⟨hn, hF⟩ hK
    rw [HNL.out] at hn
    exact HEX.out D W hD hn hF hK
end Go.Proofs.Ytdehojhipiklmaa
