/- forms: page of the law -/
import Derived.Test.YtpifiamafgaadaaDoorFmV
import Derived.Test.YtpifiamafgaadaaDoorFmW
import Derived.Test.YtpifiamafgaadaaDoorFmI
import Derived.Test.YtpifiamafgaadaaDoorFmY
import Derived.Test.YtpifiamafgaadaaDoorFmK
namespace Go.Proofs.YtpifiamafgaadaaDoor
open Go.RowKit Go.Shelf
/-- a page's numbers of the reference, its first k entries' -/
def pgR (q n o m h : Int) (a b c d : EntI) : Nat → List NumI
  | 0 => [⟨q, 6, 0, 1099511627776⟩, ⟨n, 2, 0, h⟩, ⟨o, 2, 1, 256⟩, ⟨m, 1, 0, 4⟩]
  | k + 1 => pgR q n o m h a b c d k ++ entR (entAt a b c d k) (decide (m ≤ (k : Int)))
theorem entR_len (e : EntI) (z : Bool) : (entR e z).length = 4 := by cases z <;> rfl
theorem pgR_len (q n o m h : Int) (a b c d : EntI) : ∀ k, (pgR q n o m h a b c d k).length = 4 + 4 * k
  | 0 => rfl
  | k + 1 => by rw [pgR, List.length_append, pgR_len q n o m h a b c d k, entR_len]; omega
theorem pgR_four (q n o m h : Int) (a b c d : EntI) : pgR q n o m h a b c d 4 = pageR q n o m h a b c d := by
  simp [pgR, pageR, entAt]
theorem page_ent {w : World} {X : Nat} {q n o m : Int} {a b c d : EntI} {PA : Array Value} {T : TypeId} (hP : pageA q n o m a b c d = PA) (h : w.heap[X]? = some (.cells PA T (0, 0))) (k : Nat) (hk : k < 4) : w.rangeAt X (4 + k * 4) (entV (entAt a b c d k)) := fun j v hv => by
  have hj : j < 4 := (List.getElem?_eq_some_iff.1 hv).1
  rw [cell_blk h, ← hP, ← hv]
  obtain rfl | rfl | rfl | rfl : k = 0 ∨ k = 1 ∨ k = 2 ∨ k = 3 := by omega
  all_goals
    obtain rfl | rfl | rfl | rfl : j = 0 ∨ j = 1 ∨ j = 2 ∨ j = 3 := by omega
    all_goals rfl
set_option maxRecDepth 1000000 in
set_option maxHeartbeats 4000000 in
theorem lw_page (w : World) (q n o m : Int) (a b c d : EntI) : Calls Tryd.prog 12 #[.agg (pageA q n o m a b c d)] w fun e w' => ∃ v, e = .returned v ∧ Refs w' v (pageR q n o m (IntKind.i64.wrap (o - 1)) a b c d) w.heap.size ∧ Fr No w w' := by
  obtain ⟨PA, hPA⟩ : ∃ A, pageA q n o m a b c d = A := ⟨_, rfl⟩
  rw [hPA]
  have hb := heap_new w (.cells PA 42)
  have c0 : (w.alloc (.cells PA 42)).cell? ⟨w.heap.size, 0, none⟩ = some (.int .i64 q) := by rw [cell_blk hb, ← hPA]; rfl
  have c1 : (w.alloc (.cells PA 42)).cell? ⟨w.heap.size, 1, none⟩ = some (.int .i64 n) := by rw [cell_blk hb, ← hPA]; rfl
  have c2 : (w.alloc (.cells PA 42)).cell? ⟨w.heap.size, 2, none⟩ = some (.int .i64 o) := by rw [cell_blk hb, ← hPA]; rfl
  have c3 : (w.alloc (.cells PA 42)).cell? ⟨w.heap.size, 3, none⟩ = some (.int .i64 m) := by rw [cell_blk hb, ← hPA]; rfl
  have HPA := hid hPA
  have HB := hid hb
  have HF := hid ((Fr.refl No w).alloc (.cells PA 42))
  clear hPA hb
  go_enter Tryd.func12, Tryd.ntmps12
  go_wp2_with (go_at_call 25; refine (rf_Page _ q n o m).mono ?_; rintro e w1 ⟨v, rfl, hR, hF1⟩; have HR1 := hid (hR.lower (B' := w.heap.size + 1) (by simp)); have HF1 := hid (HF.out.trans hF1); have HB1 := hid ((hF1.block w.heap.size (lt_of_block HB.out) id).trans HB.out); clear hR hF1)
  obtain ⟨X, hX⟩ : ∃ b, w.heap.size = b := ⟨_, rfl⟩
  have HXW := hid hX
  rw [hX] at HB1 ⊢
  have HR1 : Hid (Refs w1 v (pgR q n o m (IntKind.i64.wrap (o - 1)) a b c d 0) (X + 1)) := by rw [← hX]; exact HR1.out
  clear hX c0 c1 c2 c3 HB HF
  go_loopg [3, 4] 4 (fun gk v i wr => ∃ k : Nat, k + gk = 4 ∧ i = .int .i64 k ∧ Hid (Refs wr v (pgR q n o m (IntKind.i64.wrap (o - 1)) a b c d k) (X + 1)) ∧ Hid (Fr No w wr) ∧ Hid (wr.heap[X]? = some (.cells PA 42 (0, 0))))
  case atStart => exact ⟨0, by omega, rfl, HR1.out, HF1.out, HB1.out⟩
  case round =>
    obtain ⟨k, hk, rfl, HR, HF, HB⟩ := hrel
    cases gk with
    | succ gk =>
      have hk4 : k < 4 := by omega
      have hk5 : (k : Int) < 4 := by omega
      have hrg := page_ent HPA.out HB.out k hk4
      have hPL := pgR_len q n o m (IntKind.i64.wrap (o - 1)) a b c d k
      obtain ⟨⟨eb, es, ed, eu⟩, hek⟩ : ∃ e, entAt a b c d k = e := ⟨_, rfl⟩
      rw [hek] at hrg
      have HRG := hid (show wr.rangeAt X (4 + k * 4) [.int .i64 eb, .int .i64 es, .bool ed, .int .i64 eu] from hrg)
      have hFE := (Fr.refl No wr).alloc (.cells #[.int .i64 eb, .int .i64 es, .bool ed, .int .i64 eu] 39)
      have c3 : (wr.alloc (.cells #[.int .i64 eb, .int .i64 es, .bool ed, .int .i64 eu] 39)).cell? ⟨X, 3, none⟩ = some (.int .i64 m) := by
        rw [hFE.cell (p := ⟨X, 3, none⟩) (lt_of_block HB.out) id, cell_blk HB.out, ← HPA.out]; rfl
      have HRe := hid (HR.out.no hFE)
      have HFe := hid (HF.out.trans hFE)
      have HBe := hid ((hFE.block X (lt_of_block HB.out) id).trans HB.out)
      have HLp := hid hPL
      have HEN := hid (show entAt a b c d k = ⟨eb, es, ed, eu⟩ from hek)
      clear hrg hek hFE HR HF HB hPL
      by_cases hm : m ≤ (k : Int)
      case' pos =>
        have hmd : decide (m ≤ (k : Int)) = true := by simp [hm]
        have HZ := hid (show pgR q n o m (IntKind.i64.wrap (o - 1)) a b c d k ++ entR ⟨eb, es, ed, eu⟩ true = pgR q n o m (IntKind.i64.wrap (o - 1)) a b c d (k + 1) from by rw [pgR, HEN.out, hmd])
        have HEC := hid (fun W => rf_Entry W eb es eu ed true)
      case' neg =>
        have hmd : decide (m ≤ (k : Int)) = false := by simp [hm]
        have HZ := hid (show pgR q n o m (IntKind.i64.wrap (o - 1)) a b c d k ++ entR ⟨eb, es, ed, eu⟩ false = pgR q n o m (IntKind.i64.wrap (o - 1)) a b c d (k + 1) from by rw [pgR, HEN.out, hmd])
        have HEC := hid (fun W => rf_Entry W eb es eu ed false)
      all_goals
        have hXB := lt_of_block HBe.out
        go_wp2_with (first
          | (at_builtin; refine wpList_append_refs rfl (.tmp 24) (.tmp 37) rfl _ _ rfl rfl _ _ (X + 1) (X + 1) HRy.out HE.out (by rw [entR_len]; omega) (by rw [HLp.out, entR_len]; omega) (lt_of_block HBy.out) ?_; intro v' wq hN hF; have HNq := hid hN; have HFq := hid (HFy.out.then hF (fun i hi e => by have e : X + 1 ≤ i := e; have := HXW.out; omega)); have HBq := hid ((hF.block X (lt_of_block HBy.out) (fun e => by have e : X + 1 ≤ X := e; omega)).trans HBy.out); clear hN hF)
          | (go_at_call 26; refine (HEC.out _).mono ?_; rintro e wy ⟨v2, rfl, hE, hF⟩; have HE := hid (hE.lower (B' := X + 1) (lt_of_block HBe.out)); have HRy := hid (HRe.out.no hF); have HFy := hid (HFe.out.trans hF); have HBy := hid ((hF.block X (lt_of_block HBe.out) id).trans HBe.out); clear hE hF)
          | (refine list_val rfl (.agg #[.int .i64 eb, .int .i64 es, .bool ed, .int .i64 eu]) (exec_load_mid 39 (.tmp 22) rfl X (4 + k * 4) rfl [.int .i64 eb, .int .i64 es, .bool ed, .int .i64 eu] _ HRG.out Tryd.underlying39 rfl info4) ?_))
        have HR2 : Hid (Refs wq v' (pgR q n o m (IntKind.i64.wrap (o - 1)) a b c d (k + 1)) (X + 1)) := by have := HNq.out; rw [HZ.out] at this; exact this
        go_roundg gk
        case measure => omega
        case rel => exact ⟨k + 1, by omega, by go_num, HR2, HFq, HBq⟩
    | zero =>
      obtain rfl : k = 4 := by omega
      go_wp2_with fail
      go_ret
      exact ⟨_, rfl, by rw [← pgR_four]; exact HR.out.lower (by have := HXW.out; omega), HF.out⟩
end Go.Proofs.YtpifiamafgaadaaDoor
