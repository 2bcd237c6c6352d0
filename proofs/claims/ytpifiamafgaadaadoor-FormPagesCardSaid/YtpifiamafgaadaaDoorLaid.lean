/- What the row's list gives the walks: the table of crc; arguments that came in. -/
import Derived.Test.YtpifiamafgaadaaDoorCrcSum
import Derived.Test.YtpifiamafgaadaaDoorFrame
import Derived.Test.YtpifiamafgaadaaDoorShape
namespace Go.Proofs.YtpifiamafgaadaaDoor
open Go.ChangeShapes Go.WideShapes Go.ChangeAt Go.RowKit

theorem gNib : Tryd.prog.globalNamed "lavabo/crc.nibbles" = some 0 := by kernel_rfl
theorem gNibT : (Tryd.prog.globals[0]?).map (·.type) = some 136 := by kernel_rfl
theorem nibCells : Tryd.prog.cellsOf 136 = 16 := by kernel_rfl
theorem u32Cells : Tryd.prog.cellsOf 132 = 1 := by kernel_rfl
def Laid (w : World) : Prop := TabAt w ∧ 0 < w.heap.size
theorem laid_of {W : World} (h : laidMetH Tryd.prog [("lavabo/crc.nibbles", Rows.laid_lavabo_crc_nibbles)] W) : Laid W := by
  have hT : Lib.TabIs Tryd.prog W "lavabo/crc.nibbles" .u32 (Crc.T.map fun (n : Nat) => (n : Int)) :=
    Lib.tabIs_of_head (rest := []) gNib gNibT Tryd.underlying136 Tryd.underlying132 u32Cells nibCells h
  have hc : TabAt W := fun i hi => by
    have := hT.cell gNib i (by simpa [Crc.T] using hi)
    rw [this, List.getD_eq_getElem?_getD, List.getD_eq_getElem?_getD, List.getElem?_map]
    cases Crc.T[i]? <;> rfl
  refine ⟨hc, ?_⟩
  have := hc 0 (by decide)
  exact lt_of_cell this

set_option maxRecDepth 100000 in
theorem open_bytes {H : Type} {enc : TypeId × Value → H} {W : World} {base : Nat} {v : Value} {d : DataW H} {ps : List MemPlace}
    (hval : Value.okWide Tryd.prog W .any base 97 v) (h : DataW.Trod enc Tryd.prog W 0 (fun _ => true) true 97 v d ps) : ∃ r : BRow, v = r.v ∧ r.Ok W ∧ r.Cap := by
  obtain ⟨a, len, cap, rfl⟩ := okWide_slice Tryd.underlying97 hval
  obtain ⟨fuel, hf⟩ := h
  rcases open_ints Tryd.underlying97 Tryd.underlying5 (by kernel_rfl) hf with ⟨hcs, _⟩ | ⟨x, l, c, zs, hcs, _, hl, hm, hz, _, hcell, hwz⟩
  · simp [Value.cells] at hcs
    obtain ⟨rfl, rfl, rfl⟩ := hcs
    exact ⟨⟨none, 0, []⟩, rfl, ⟨.nil _ _, fun x hx => by simp at hx, by unfold maxLen; simp⟩, Nat.le_refl _, .inl rfl⟩
  · simp [Value.cells] at hcs
    obtain ⟨rfl, rfl, rfl⟩ := hcs
    simp only [if_true] at hz
    have hlen : ((zs.take len).map Int.toNat).length = len := by simp; omega
    have hw : ∀ i, i < len → ∃ n : Nat, n < 256 ∧ zs.getD i 0 = (n : Int) ∧ ((zs.take len).map Int.toNat)[i]? = some n := fun i hi => by
      have hi2 : i < zs.length := by omega
      obtain ⟨b0, b1⟩ := bounds_u8 (hwz zs[i] (List.getElem_mem hi2))
      have e : zs.getD i 0 = zs[i] := by simp [List.getD_eq_getElem?_getD, hi2]
      refine ⟨zs[i].toNat, by omega, by rw [e]; omega, ?_⟩
      simp [hi, hi2]
    refine ⟨⟨some x, cap, (zs.take len).map Int.toNat⟩, ?_, ⟨?_, ?_, ?_⟩, ?_, ?_⟩
    · show Value.slice (some x) len cap = Value.slice (some x) ((zs.take len).map Int.toNat).length cap
      rw [hlen]
    · show Row W (some x) (((zs.take len).map Int.toNat).map byte)
      rcases Nat.eq_zero_or_pos len with h0 | h0
      · subst h0; exact .inl (by simp)
      · have hc0 := hcell 0 (by omega)
        obtain ⟨b, off, spot⟩ := x
        have hspot : spot = none := by simpa [Addr.add] using World.cell?_spot hc0
        subst hspot
        refine .inr ⟨b, off, rfl, lt_of_cell hc0, fun i hi => ?_⟩
        have hi' : i < len := by rw [List.length_map, hlen] at hi; exact hi
        obtain ⟨n, _, h1, h2⟩ := hw i hi'
        have := hcell i (by omega)
        rw [h1] at this
        have e3 : (((zs.take len).map Int.toNat).map byte).getD i undef = byte n := by
          rw [List.getD_eq_getElem?_getD, List.getElem?_map, h2]; rfl
        rw [e3]
        rcases Nat.eq_zero_or_pos i with hz0 | hz0
        · subst hz0; exact this
        · simpa [Addr.add, show i ≠ 0 from by omega] using this
    · intro y hy
      obtain ⟨i, hi, rfl⟩ := List.getElem_of_mem hy
      have hi' : i < len := by rw [← hlen]; exact hi
      obtain ⟨n, hn, _, h2⟩ := hw i hi'
      rw [List.getElem?_eq_getElem hi] at h2
      cases h2
      exact hn
    · show ((zs.take len).map Int.toNat).length ≤ maxLen
      omega
    · show ((zs.take len).map Int.toNat).length ≤ cap
      omega
    · show cap = 0 ∨ ∃ b o, some x = some ⟨b, o, none⟩
      rcases Nat.eq_zero_or_pos cap with h0 | h0
      · exact .inl h0
      · have hc0 := hcell 0 (by omega)
        obtain ⟨b, off, spot⟩ := x
        have hspot : spot = none := by simpa [Addr.add] using World.cell?_spot hc0
        subst hspot
        exact .inr ⟨b, off, rfl⟩
end Go.Proofs.YtpifiamafgaadaaDoor
