/- forms: numbers that are told by closures. -/
import Derived.Test.YtpifiamafgaadaaDoorFmMath
import Derived.Test.YtpifiamafgaadaaDoorSeq
import Derived.Laws.EntriesVeiled
import Derived.Shelf.Abstract
namespace Go.Proofs.YtpifiamafgaadaaDoor
open Go.RowKit Go.Shelf
theorem heap_more {w : World} {q : Nat} {o o' : Obj} (h : w.heap[q]? = some o) : (w.alloc o').heap[q]? = some o := (((Fr.refl No w).alloc o').block q (lt_of_block h) id).trans h
/-- a function's value -/
def IsF (v : Value) : Prop := ∃ g lb, v = .func (.func g) #[] lb
theorem IsF.one {v : Value} (h : IsF v) : v.oneCell' = true := by obtain ⟨g, lb, rfl⟩ := h; rfl
/-- a number as it lies in a row -/
def numV (x : NumI) (ft fs : Value) : Value := .agg #[.int .i64 (x.size : Int), .int .i64 x.lo, .int .i64 x.hi, ft, fs]
/-- a closure that tells n, as long as the blocks of R are as they were -/
def Tells (w : World) (fv : Value) (n : Int) (R : Nat → Prop) : Prop := ∃ gf lb, fv = .func (.func gf) #[] lb ∧ (∀ args w, (callFunc gf args).run Tryd.prog w = .ok (.enter gf args) w) ∧
  ∀ (S : Nat → Prop) (w' : World), Fr S w w' → (∀ k, R k → ¬ S k) → Calls Tryd.prog gf lb w' fun e w'' => e = .returned (.int .i64 n) ∧ w'' = w'
theorem Tells.fr {w w1 : World} {fv : Value} {n : Int} {R S : Nat → Prop} (h : Tells w fv n R) (f : Fr S w w1) (hR : ∀ k, R k → ¬ S k) : Tells w1 fv n R := by
  obtain ⟨gf, lb, rfl, he, hc⟩ := h
  exact ⟨gf, lb, rfl, he, fun S' w' f' h' => hc (fun k => S k ∨ S' k) w' ((f.mono (fun _ _ h => .inl h)).then f' (fun _ _ h => .inr h)) (fun k hk h => h.elim (hR k hk) (h' k hk))⟩
theorem Tells.no {w w1 : World} {fv : Value} {n : Int} {R : Nat → Prop} (h : Tells w fv n R) (f : Fr No w w1) : Tells w1 fv n R := h.fr f (fun _ _ h => h)
set_option maxRecDepth 100000 in
theorem fm_tell (w : World) (P B o : Nat) (n : Int) (hp : w.cell? ⟨P, 0, none⟩ = some (.pointer (some ⟨B, o, none⟩))) (hb : w.cell? ⟨B, o, none⟩ = some (.int .i64 n)) : Calls Tryd.prog 52 #[.pointer (some ⟨P, 0, none⟩)] w fun e w' => e = .returned (.int .i64 n) ∧ w' = w := by
  go_enter Tryd.func52, Tryd.ntmps52
  go_wp2_with fail
  go_ret
  exact ⟨rfl, rfl⟩
theorem num_size : (Tryd.prog.info? 87).map (·.size) = some 5 := by kernel_rfl
set_option maxRecDepth 100000 in
theorem fm_whole (w : World) (B o : Nat) (size : Nat) (lo hi n : Int) (hb : w.cell? ⟨B, o, none⟩ = some (.int .i64 n)) : Calls Tryd.prog 32 #[.pointer (some ⟨B, o, none⟩), .int .i64 (size : Int), .int .i64 lo, .int .i64 hi] w fun e w' =>
    ∃ ft fs, e = .returned (numV ⟨n, size, lo, hi⟩ ft fs) ∧ Tells w' ft n (fun k => k = B ∨ k = w.heap.size) ∧ Fr No w w' ∧ IsF fs ∧ w.heap.size < w'.heap.size := by
  have hlt : B < w.heap.size := lt_of_cell hb
  go_enter Tryd.func32, Tryd.ntmps32
  go_wp2_with fail
  have hx := heap_new w (.cells #[.pointer (some ⟨B, o, none⟩)] 91)
  have hy := heap_new (w.alloc (.cells #[.pointer (some ⟨B, o, none⟩)] 91)) (.cells #[.int .i64 (size : Int), .int .i64 lo, .int .i64 hi, .func (.func 52) #[] #[.pointer (some ⟨w.heap.size, 0, none⟩)], .func (.func 53) #[] #[.pointer (some ⟨w.heap.size, 0, none⟩)]] 87)
  rw [World.size_alloc] at hy
  have hF := ((Fr.refl No w).alloc (.cells #[.pointer (some ⟨B, o, none⟩)] 91)).alloc (.cells #[.int .i64 (size : Int), .int .i64 lo, .int .i64 hi, .func (.func 52) #[] #[.pointer (some ⟨w.heap.size, 0, none⟩)], .func (.func 53) #[] #[.pointer (some ⟨w.heap.size, 0, none⟩)]] 87)
  refine bodyPost_ret (v := numV ⟨n, size, lo, hi⟩ (.func (.func 52) #[] #[.pointer (some ⟨w.heap.size, 0, none⟩)]) (.func (.func 53) #[] #[.pointer (some ⟨w.heap.size, 0, none⟩)])) (results_cell_row (fn := Tryd.f32) (p := 8) rfl _ _ (w.heap.size + 1) 87 _ (0, 0) _ rfl hy Tryd.underlying87 rfl num_size) rfl ⟨_, _, rfl, ⟨_, _, rfl, enters_of Tryd.func52 (by kernel_rfl) rfl, fun S w' f hS => ?_⟩, hF, ⟨_, _, rfl⟩, by simp only [World.size_alloc]; omega⟩
  exact fm_tell w' w.heap.size B o n ((f.cell (p := ⟨w.heap.size, 0, none⟩) (by simp; omega) (hS _ (.inr rfl))).trans ((cell_blk (heap_more hx) 0).trans rfl)) ((f.cell (p := ⟨B, o, none⟩) (by simp; omega) (hS _ (.inl rfl))).trans ((hF.cell (p := ⟨B, o, none⟩) hlt id).trans hb))
set_option maxRecDepth 100000 in
theorem fm_ftell (w : World) (P B o : Nat) (d : Bool) (hp : w.cell? ⟨P, 0, none⟩ = some (.pointer (some ⟨B, o, none⟩))) (hb : w.cell? ⟨B, o, none⟩ = some (.bool d)) : Calls Tryd.prog 61 #[.pointer (some ⟨P, 0, none⟩)] w fun e w' => e = .returned (.int .i64 (bitI d)) ∧ w' = w := by
  cases d
  all_goals
    go_enter Tryd.func61, Tryd.ntmps61
    go_wp2_with fail
    go_ret
    exact ⟨rfl, rfl⟩
set_option maxRecDepth 100000 in
theorem fm_flag (w : World) (B o : Nat) (d : Bool) (hb : w.cell? ⟨B, o, none⟩ = some (.bool d)) : Calls Tryd.prog 54 #[.pointer (some ⟨B, o, none⟩)] w fun e w' =>
    ∃ ft fs, e = .returned (numV ⟨bitI d, 1, 0, 1⟩ ft fs) ∧ Tells w' ft (bitI d) (fun k => k = B ∨ k = w.heap.size) ∧ Fr No w w' ∧ IsF fs ∧ w.heap.size < w'.heap.size := by
  have hlt : B < w.heap.size := lt_of_cell hb
  go_enter Tryd.func54, Tryd.ntmps54
  go_wp2_with fail
  have hx := heap_new w (.cells #[.pointer (some ⟨B, o, none⟩)] 94)
  have hy := heap_new (w.alloc (.cells #[.pointer (some ⟨B, o, none⟩)] 94)) (.cells #[.int .i64 1, .int .i64 0, .int .i64 1, .func (.func 61) #[] #[.pointer (some ⟨w.heap.size, 0, none⟩)], .func (.func 62) #[] #[.pointer (some ⟨w.heap.size, 0, none⟩)]] 87)
  rw [World.size_alloc] at hy
  have hF := ((Fr.refl No w).alloc (.cells #[.pointer (some ⟨B, o, none⟩)] 94)).alloc (.cells #[.int .i64 1, .int .i64 0, .int .i64 1, .func (.func 61) #[] #[.pointer (some ⟨w.heap.size, 0, none⟩)], .func (.func 62) #[] #[.pointer (some ⟨w.heap.size, 0, none⟩)]] 87)
  refine bodyPost_ret (v := numV ⟨bitI d, 1, 0, 1⟩ (.func (.func 61) #[] #[.pointer (some ⟨w.heap.size, 0, none⟩)]) (.func (.func 62) #[] #[.pointer (some ⟨w.heap.size, 0, none⟩)])) (results_cell_row (fn := Tryd.f54) (p := 2) rfl _ _ (w.heap.size + 1) 87 _ (0, 0) _ rfl hy Tryd.underlying87 rfl num_size) rfl ⟨_, _, rfl, ⟨_, _, rfl, enters_of Tryd.func61 (by kernel_rfl) rfl, fun S w' f hS => ?_⟩, hF, ⟨_, _, rfl⟩, by simp only [World.size_alloc]; omega⟩
  exact fm_ftell w' w.heap.size B o d ((f.cell (p := ⟨w.heap.size, 0, none⟩) (by simp; omega) (hS _ (.inr rfl))).trans ((cell_blk (heap_more hx) 0).trans rfl)) ((f.cell (p := ⟨B, o, none⟩) (by simp; omega) (hS _ (.inl rfl))).trans ((hF.cell (p := ⟨B, o, none⟩) hlt id).trans hb))
theorem fm_row (w : World) (v : Value) : Calls Tryd.prog 31 #[v] w fun e w' => e = .returned v ∧ w' = w := by
  go_enter Tryd.func31, Tryd.ntmps31
  go_wp2_with fail
  go_ret
  exact ⟨rfl, rfl⟩
theorem fm_supers (w : World) : Calls Tryd.prog 14 #[] w fun e w' => e = .returned (.agg #[.int .i64 1, .func (.func 30) #[] #[], .func (.func 33) #[] #[]]) ∧ Fr No w w' := by
  go_enter Tryd.func14, Tryd.ntmps14
  go_wp2_with fail
  exact bodyPost_ret (results_cell_row (fn := Tryd.f14) (p := 0) rfl _ _ w.heap.size 50 _ (0, 0) _ rfl (heap_new w _) Tryd.underlying50 rfl (by kernel_rfl)) rfl ⟨rfl, (Fr.refl No w).alloc _⟩
end Go.Proofs.YtpifiamafgaadaaDoor
