/- The law FieldSeals: every input. -/
import Derived.Test.YtopheimplclfcaaDoorFdSeals
namespace Go.Proofs.YtopheimplclfcaaDoor
open Go.RowKit

theorem law_FieldSeals (w : World) (bs : List Nat) (hb : bs.length = 64 ∧ ∀ x ∈ bs, x < 256) (r : SRow) (hr : r.Ok w (.arr 2 (.int .i64))) (x : Int × Int) (wx : (Lit.int .i64 x.1).wf = true ∧ (Lit.int .i64 x.2).wf = true) (hL : Laid w) :
    Calls Tryd.prog 4 #[.agg (blkA bs), r.v, i2v x] w fun e w' => e = .returned (.bool true) ∧ Fr No w w' := by
  obtain ⟨xs, hv, hP, hm⟩ := pairs_of hr
  rw [hv]
  exact seals_in w bs hb.1 hb.2 r.a r.cap xs hm hP x.1 x.2 wx.2 hL
end Go.Proofs.YtopheimplclfcaaDoor
