/- index: New. -/
import Derived.Test.YtfggllhflibfcaaIxF
import Derived.Carry
namespace Go.Proofs.Ytfggllhflibfcaa
open Go.RowKit Go.Maps
/-- may there be such an index? -/
def newOk (a b : Int) : Bool := decide (1 ≤ a ∧ a ≤ 4096 ∧ 1 ≤ b ∧ b ≤ 1024)
theorem ix_New_bad (w : World) (a b : Int) (h : newOk a b = false) : Calls Try.prog 10 #[.int .i64 a, .int .i64 b] w fun e w' => e = .returned (.tuple #[.pointer none, .int .i64 24]) ∧ w' = w := by
  have h' : ¬ (1 ≤ a ∧ a ≤ 4096 ∧ 1 ≤ b ∧ b ≤ 1024) := by simpa [newOk] using h
  rcases (by omega : a < 1 ∨ (1 ≤ a ∧ 4096 < a) ∨ (1 ≤ a ∧ a ≤ 4096 ∧ b < 1) ∨ (1 ≤ a ∧ a ≤ 4096 ∧ 1 ≤ b ∧ 1024 < b)) with h | ⟨h1, h⟩ | ⟨h1, h2, h⟩ | ⟨h1, h2, h3, h⟩
  all_goals
    clear h'
    go_enter Try.func10, Try.ntmps10
    go_wp2_with fail
    go_ret2
    exact ⟨rfl, rfl⟩
set_option maxRecDepth 100000 in
set_option maxHeartbeats 1000000 in
theorem ix_New (w : World) (n m : Nat) (h0 : 1 ≤ n) (h1 : n ≤ 4096) (h2 : 1 ≤ m) (h3 : m ≤ 1024) : Calls Try.prog 10 #[.int .i64 (n : Int), .int .i64 (m : Int)] w fun e w' => ∃ p S, e = .returned (.tuple #[.pointer (some ⟨p, 0, none⟩), .int .i64 0]) ∧ Ix w' p S (List.replicate n none) m 0 ∧ (∀ k, S k → w.heap.size ≤ k) ∧ Fr No w w' := by
  have hmm := @run_makeMap Try.prog
  go_enter Try.func10, Try.ntmps10
  go_wp2_with (first | (go_at_call 25; refine (ix_nowhere _).mono ?_; rintro e w1 ⟨rfl, hF⟩; have HF1 := hid hF; clear hF) | (go_at_call 24; refine (ix_Repeat _ _ n (heap_new w1 _) h0 h1).mono ?_; rintro e w2 ⟨G, rfl, hG, hO, hF⟩; have HG := hid hG; have HO := hid hO; have HF2 := hid ((HF1.out.alloc (.cells #[.int .i64 (-1), .bool false] 44)).trans hF); clear hG hO hF))
  go_ret2
  have hs := HF2.out.size
  have hg := HG.out
  have hs1 := HF1.out.size
  rw [World.size_alloc] at hg
  have hgl : G < w2.heap.size := by obtain ⟨cs, hc⟩ := own_ty HO.out (by rfl); exact lt_of_block hc
  have hF : Fr No w2 ((w2.alloc (.map #[] 0)).alloc (.cells #[.slice (some ⟨G, 0, none⟩) n n, .map (some w2.heap.size), .int .i64 (m : Int)] 64)) := ((Fr.refl No w2).alloc _).alloc _
  have hF1 : Fr No (w2.alloc (.map #[] 0)) ((w2.alloc (.map #[] 0)).alloc (.cells #[.slice (some ⟨G, 0, none⟩) n n, .map (some w2.heap.size), .int .i64 (m : Int)] 64)) := (Fr.refl No _).alloc _
  refine ⟨w2.heap.size + 1, fun k => k = G ∨ k = w2.heap.size ∨ k = w2.heap.size + 1, rfl, ⟨G, w2.heap.size, n, .map [], ⟨?_, ?_, ?_, MapR.nil n, Uniq.replicate n, ?_, ?_, h3, by omega⟩, .inr (.inr rfl), .inl rfl, .inr (.inl rfl), ?_⟩, ?_, HF2.out.trans hF⟩
  · have := heap_new (w2.alloc (.map #[] 0)) (.cells #[.slice (some ⟨G, 0, none⟩) n n, .map (some w2.heap.size), .int .i64 (m : Int)] 64)
    rw [World.size_alloc] at this
    rw [List.length_replicate]; exact this
  · rw [List.length_replicate]
    exact own_frk HO.out hF (fun _ _ => id)
  · exact MapIn.blk (World.ownsMap_made w2 _ _ _) (hF1.block w2.heap.size (by simp) id)
  · intro i x d hi
    rw [List.getElem?_replicate] at hi
    split at hi <;> cases hi
  · rw [List.length_replicate]; omega
  · intro k hk
    simp only [World.size_alloc]
    omega
  · intro k hk
    omega
end Go.Proofs.Ytfggllhflibfcaa
