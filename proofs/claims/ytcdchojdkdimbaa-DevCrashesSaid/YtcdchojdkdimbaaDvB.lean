/- dev: an open write as a value; a slice literal of one write. -/
import Derived.Test.YtcdchojdkdimbaaDv
import Derived.Test.YtcdchojdkdimbaaBuild
import Derived.Great.BuildSlice
namespace Go.Proofs.Ytcdchojdkdimbaa
open Go.RowKit

section
variable {P : Program}
theorem built_two {t : TypeId} {it : TypeInfo} {fields : Array Field} {z : Value} {places : List (Nat × Nat)} (hit : P.info? t = some it) (hz : it.zero = some z) (hu : P.underlying t = some (.struct fields))
    (hp : fields.toList.mapM (fun f => (P.info? f.type).map fun i => (f.offset, i.size)) = some places) (v0 v1 : Value) (h0 : places[0]? = some (0, v0.cells.size)) (h1 : places[1]? = some (v0.cells.size, v1.cells.size)) (hb : v0.cells.size + v1.cells.size = z.cells.size) :
    P.built t [(0, v0), (1, v1)] = some (v0.cells.toList ++ v1.cells.toList).toArray := by
  unfold Program.built
  simp only [hit, hu, hz, hp, Instr.fill, List.getElem?_toArray, h0, h1]
  have e0 := fold_set v0.cells 0 z.cells (by omega)
  rw [if_neg (by simp; omega), e0]
  have hs : ((z.cells.toList.take 0 ++ v0.cells.toList ++ z.cells.toList.drop (0 + v0.cells.size)).toArray).size = z.cells.size := by simp; omega
  have e1 := fold_set v1.cells v0.cells.size _ (by rw [hs]; omega)
  rw [if_neg (by rw [hs]; simp; omega), e1]
  simp
  omega
theorem fill_one (z : Array Value) (v : Value) (h : v.cells.size = z.size) : Instr.fill (fun i => some (i * z.size, z.size)) z [(0, v)] = some v.cells := by
  simp only [Instr.fill, Nat.zero_mul]
  have e0 := fold_set v.cells 0 z (by omega)
  rw [if_neg (by simp; omega), e0]
  simp
  rw [List.drop_eq_nil_of_le (by simp; omega)]
  simp
end
theorem wk_len (x : Nat × List Nat) (h : x.2.length = 64) : (wk x).length = 65 := by simp [wk, bk_len, h]
theorem wk_one (x : Nat × List Nat) : ∀ u ∈ wk x, u.oneCell' = true := by
  intro u hu
  rcases List.mem_cons.1 hu with rfl | hu
  · rfl
  · exact bk_one _ u hu
theorem wr_build_of {t : TypeId} {z : Value} (hz : ((Try.prog.info? t).bind (·.zero)) = some z) (hzs : z.cells.size = 65) (fields : Array Field) (hu : Try.prog.underlying t = some (.struct fields)) (hp : fields.toList.mapM (fun f => (Try.prog.info? f.type).map fun i => (f.offset, i.size)) = some [(0, 1), (1, 64)])
    (s : Nat) (B : List Nat) (h : B.length = 64) (w : World) : (Instr.build t #[(0, .int .i64 s), (1, .agg (blkA B))]).run Try.prog w = .ok (.agg (wk (s, B)).toArray) w := by
  obtain ⟨it, hit, hz'⟩ := Option.bind_eq_some_iff.1 hz
  refine run_build w t _ _ ?_
  have hsz : (Value.agg (blkA B)).cells.size = 64 := by show (blkA B).size = 64; rw [blkA_size, h]
  have := built_two hit hz' hu hp (.int .i64 s) (.agg (blkA B)) (by rfl) (by rw [hsz]; rfl) (by rw [hsz, hzs]; rfl)
  exact this
theorem wr_build (s : Nat) (B : List Nat) (h : B.length = 64) (w : World) : (Instr.build 68 #[(0, .int .i64 s), (1, .agg (blkA B))]).run Try.prog w = .ok (.agg (wk (s, B)).toArray) w :=
  wr_build_of (z := .agg (wk (0, zeros)).toArray) (by kernel_rfl) (by kernel_rfl) _ Try.underlying68 (by kernel_rfl) s B h w
theorem Wr_build (s : Nat) (B : List Nat) (h : B.length = 64) (w : World) : (Instr.build 70 #[(0, .int .i64 s), (1, .agg (blkA B))]).run Try.prog w = .ok (.agg (wk (s, B)).toArray) w :=
  wr_build_of (z := .agg (wk (0, zeros)).toArray) (by kernel_rfl) (by kernel_rfl) _ Try.underlying70 (by kernel_rfl) s B h w
theorem range_one (z : Array Value) (n : Nat) (hn : 0 < n) (h : z.size = n) : (Array.range (1 * n)).map (z[· % z.size]!) = z := by
  apply Array.ext
  · simp [h]
  · intro i h1 h2
    simp [Nat.mod_eq_of_lt h2, h2]
theorem wr_slice_of {T t : TypeId} {z : Value} (hT : Try.prog.underlying T = some (.slice t)) (hi : (Try.prog.info? t).map (fun i => (i.zero, i.size, i.bytes)) = some (some z, 65, 72)) (hzs : z.cells.size = 65)
    (x : Nat × List Nat) (h : x.2.length = 64) (w : World) : (Instr.buildSlice T 1 #[(0, .agg (wk x).toArray)]).run Try.prog w = .ok (.slice (some ⟨w.heap.size, 0, none⟩) 1 1) (w.alloc (.cells (wk x).toArray t)) := by
  obtain ⟨i0, hi0, h1, h2, h3⟩ := info_parts hi
  refine run_buildSlice w T t 1 _ (wk x).toArray i0 z hT hi0 h1 (by rw [h2]; decide) (by rw [h2]; decide) ?_
  rw [h2, range_one z.cells 65 (by decide) hzs]
  have := fill_one z.cells (.agg (wk x).toArray) (by show (wk x).toArray.size = _; rw [hzs, List.size_toArray, wk_len x h])
  rw [hzs] at this
  exact this
theorem wr_slice (x : Nat × List Nat) (h : x.2.length = 64) (w : World) : (Instr.buildSlice 60 1 #[(0, .agg (wk x).toArray)]).run Try.prog w = .ok (.slice (some ⟨w.heap.size, 0, none⟩) 1 1) (w.alloc (.cells (wk x).toArray 68)) :=
  wr_slice_of Try.underlying60 wr_info (by kernel_rfl) x h w
theorem Wr_slice (x : Nat × List Nat) (h : x.2.length = 64) (w : World) : (Instr.buildSlice 36 1 #[(0, .agg (wk x).toArray)]).run Try.prog w = .ok (.slice (some ⟨w.heap.size, 0, none⟩) 1 1) (w.alloc (.cells (wk x).toArray 70)) :=
  wr_slice_of Try.underlying36 Wr_info (by kernel_rfl) x h w
end Go.Proofs.Ytcdchojdkdimbaa
