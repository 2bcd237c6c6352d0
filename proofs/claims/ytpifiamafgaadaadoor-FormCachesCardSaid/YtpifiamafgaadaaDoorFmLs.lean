/- forms: super and record of the law -/
import Derived.Test.YtpifiamafgaadaaDoorFmU
import Derived.Test.YtpifiamafgaadaaDoorFmX
namespace Go.Proofs.YtpifiamafgaadaaDoor
open Go.RowKit Go.Shelf
set_option maxRecDepth 1000000 in
set_option maxHeartbeats 4000000 in
theorem lw_super (w : World) (i b s j p g t : Int) : Calls Tryd.prog 8 #[.agg #[.int .i64 i, .int .i64 b, .int .i64 s, .int .i64 j, .int .i64 p, .int .i64 g, .int .i64 t]] w fun e w' => ∃ v, e = .returned v ∧ Refs w' v (superN i b s j p g t) w.heap.size ∧ Fr No w w' := by
  go_enter Tryd.func8, Tryd.ntmps8
  have HF := hid ((Fr.refl No w).alloc (.cells #[.int .i64 i, .int .i64 b, .int .i64 s, .int .i64 j, .int .i64 p, .int .i64 g, .int .i64 t] 23))
  go_wp2_with (go_at_call 19; refine (rf_Super _ i b s j p g t).mono ?_; rintro e w1 ⟨v, rfl, hR, hF1⟩; have HR := hid (hR.lower HF.out.size); have HF1 := hid (HF.out.trans hF1); clear hR hF1)
  go_ret
  exact ⟨_, rfl, HR.out, HF1.out⟩
set_option maxRecDepth 1000000 in
set_option maxHeartbeats 4000000 in
theorem lw_record (w : World) (q l o b s u : Int) (d : Bool) : Calls Tryd.prog 9 #[.agg #[.int .i64 q, .int .i64 l, .int .i64 o, .int .i64 b, .int .i64 s, .bool d, .int .i64 u]] w fun e w' => ∃ v, e = .returned v ∧ Refs w' v (recR q l o ⟨b, s, d, u⟩) w.heap.size ∧ Fr No w w' := by
  go_enter Tryd.func9, Tryd.ntmps9
  have HF := hid ((Fr.refl No w).alloc (.cells #[.int .i64 q, .int .i64 l, .int .i64 o, .int .i64 b, .int .i64 s, .bool d, .int .i64 u] 25))
  go_wp2_with (go_at_call 20; refine (rf_Record _ q l o b s u d).mono ?_; rintro e w1 ⟨v, rfl, hR, hF1⟩; have HR := hid (hR.lower HF.out.size); have HF1 := hid (HF.out.trans hF1); clear hR hF1)
  go_ret
  exact ⟨_, rfl, HR.out, HF1.out⟩
end Go.Proofs.YtpifiamafgaadaaDoor
