/- index: the reference: New. -/
import Derived.Test.YtfggllhflibfcaaIxH
import Derived.Deep.AppendLies
namespace Go.Proofs.Ytfggllhflibfcaa
open Go.RowKit Go.Maps
def sV (q : Pl) : List Value := [.int .i64 (plS q)]
def dV (q : Pl) : List Value := [.bool (plD q)]
theorem sV_len (q : Pl) : (sV q).length = 1 := rfl
theorem dV_len (q : Pl) : (dV q).length = 1 := rfl
/-- the reference's index: slots as L1 has them, dirty as L2 -/
structure RfV (w : World) (p : Nat) (S : Nat → Prop) (L1 L2 : List Pl) (m : Nat) (vs vd : Value) : Prop where
  blk : w.heap[p]? = some (.cells #[vs, vd, .int .i64 (m : Int)] 67 (0, 0))
  row : w.ownsRow 0 3 1 vs L1.length (L1.flatMap sV)
  dir : w.ownsRow 0 4 1 vd L2.length (L2.flatMap dV)
  sp : S p
  ss : ∀ k, vs.ownBlock = some k → S k
  sd : ∀ k, vd.ownBlock = some k → S k
  lt : ∀ k, S k → k < w.heap.size
def Rf (w : World) (p : Nat) (S : Nat → Prop) (L : List Pl) (m : Nat) : Prop := ∃ vs vd, RfV w p S L L m vs vd
theorem RfV.fr {S T : Nat → Prop} {w w' : World} {p m : Nat} {L1 L2 : List Pl} {vs vd : Value} (h : RfV w p S L1 L2 m vs vd) (f : Fr T w w') (hT : ∀ k, S k → ¬ T k) : RfV w' p S L1 L2 m vs vd :=
  ⟨(f.block p (lt_of_block h.blk) (hT p h.sp)).trans h.blk, own_frk h.row f (fun k hk => hT k (h.ss k hk)), own_frk h.dir f (fun k hk => hT k (h.sd k hk)), h.sp, h.ss, h.sd, fun k hk => f.lt (h.lt k hk)⟩
theorem Rf.fr {S T : Nat → Prop} {w w' : World} {p m : Nat} {L : List Pl} (h : Rf w p S L m) (f : Fr T w w') (hT : ∀ k, S k → ¬ T k) : Rf w' p S L m := by
  obtain ⟨vs, vd, h⟩ := h
  exact ⟨vs, vd, h.fr f hT⟩
theorem Rf.no {S : Nat → Prop} {w w' : World} {p m : Nat} {L : List Pl} (h : Rf w p S L m) (f : Fr No w w') : Rf w' p S L m := h.fr f (fun _ _ => id)
theorem Rf.lt {S : Nat → Prop} {w : World} {p m : Nat} {L : List Pl} (h : Rf w p S L m) : ∀ k, S k → k < w.heap.size := by obtain ⟨_, _, h⟩ := h; exact h.lt
theorem Rf.sp {S : Nat → Prop} {w : World} {p m : Nat} {L : List Pl} (h : Rf w p S L m) : S p := by obtain ⟨_, _, h⟩ := h; exact h.sp
theorem RfV.cells {S : Nat → Prop} {w : World} {p m : Nat} {L1 L2 : List Pl} {vs vd : Value} (h : RfV w p S L1 L2 m vs vd) : w.cell? ⟨p, 0, none⟩ = some vs ∧ w.cell? ⟨p, 1, none⟩ = some vd ∧ w.cell? ⟨p, 2, none⟩ = some (.int .i64 (m : Int)) ∧ ∀ k, w.frozen? ⟨p, k, none⟩ = false :=
  ⟨by rw [cell_blk h.blk]; rfl, by rw [cell_blk h.blk]; rfl, by rw [cell_blk h.blk]; rfl, fun k => free_blk h.blk k⟩
theorem RfV.ne {S : Nat → Prop} {w : World} {p m : Nat} {L1 L2 : List Pl} {vs vd : Value} (h : RfV w p S L1 L2 m vs vd) : (∀ k, vs.ownBlock = some k → k ≠ p) ∧ (∀ k, vd.ownBlock = some k → k ≠ p) ∧ (∀ k, vs.ownBlock = some k → ¬ vd.ownBlock = some k) :=
  ⟨fun k hk e => by obtain ⟨cs, h1⟩ := own_ty h.row hk; exact ne_ty h1 h.blk (by decide) e, fun k hk e => by obtain ⟨cs, h1⟩ := own_ty h.dir hk; exact ne_ty h1 h.blk (by decide) e, fun k hk e => by obtain ⟨cs, h1⟩ := own_ty h.row hk; obtain ⟨ds, h2⟩ := own_ty h.dir e; exact ne_ty h1 h2 (by decide) rfl⟩
theorem RfV.putS {w : World} {p m : Nat} {S : Nat → Prop} {L1 L2 l : List Pl} {vs vd : Value} (h : RfV w p S L1 L2 m vs vd) (v : Value) (hv : w.ownsRow 0 3 1 v l.length (l.flatMap sV)) (hs : ∀ k, v.ownBlock = some k → S k) :
    RfV (w.setCell ⟨p, 0, none⟩ v) p S l L2 m v vd := by
  have f := Fr.set1 w p 0 v
  refine ⟨set_blk h.blk 0 v, own_frk hv f (fun k hk e => ?_), own_frk h.dir f h.ne.2.1, h.sp, hs, h.sd, fun k hk => by rw [size_set]; exact h.lt k hk⟩
  obtain ⟨x, hx⟩ := own_ty hv hk
  exact ne_ty hx h.blk (by decide) e
theorem RfV.putD {w : World} {p m : Nat} {S : Nat → Prop} {L1 L2 l : List Pl} {vs vd : Value} (h : RfV w p S L1 L2 m vs vd) (v : Value) (hv : w.ownsRow 0 4 1 v l.length (l.flatMap dV)) (hs : ∀ k, v.ownBlock = some k → S k) :
    RfV (w.setCell ⟨p, 1, none⟩ v) p S L1 l m vs v := by
  have f := Fr.set1 w p 1 v
  refine ⟨set_blk h.blk 1 v, own_frk h.row f h.ne.1, own_frk hv f (fun k hk e => ?_), h.sp, h.ss, hs, fun k hk => by rw [size_set]; exact h.lt k hk⟩
  obtain ⟨x, hx⟩ := own_ty hv hk
  exact ne_ty hx h.blk (by decide) e
theorem RfV.wide {w : World} {p m : Nat} {S T : Nat → Prop} {L1 L2 : List Pl} {vs vd : Value} (h : RfV w p S L1 L2 m vs vd) (hS : ∀ k, S k → T k) (hT : ∀ k, T k → k < w.heap.size) : RfV w p T L1 L2 m vs vd :=
  ⟨h.blk, h.row, h.dir, hS _ h.sp, fun k hk => hS k (h.ss k hk), fun k hk => hS k (h.sd k hk), hT⟩
/-- what is new since b -/
abbrev Since (b : Nat) (w : World) : Nat → Prop := fun j => b ≤ j ∧ j < w.heap.size
theorem RfV.appS {w0 wr w1 : World} {p m b g cap k : Nat} {L1 L2 : List Pl} {vs vd : Value} {o : Obj} {q : Pl} (h : RfV wr p (Since b wr) L1 L2 m vs vd) (hkk : L1.length = k) (hb : w0.heap.size = b) (hF : Fr No w0 wr) (hown : w1.ownsRow 0 3 1 (.slice (some ⟨g, 0, none⟩) (k + 1) cap) (k + 1) (L1.flatMap sV ++ sV q))
    (hgrow : (wr.alloc o).grownBy w1 vs.ownBlock) (hat : vs.ownBlock = some g ∨ g = (wr.alloc o).heap.size) (hgl : g < w1.heap.size) :
    (∀ k, w1.frozen? ⟨p, k, none⟩ = false) ∧ (w1.cell? ⟨p, 0, none⟩ = some vs ∧ w1.cell? ⟨p, 1, none⟩ = some vd) ∧ RfV (w1.setCell ⟨p, 0, none⟩ (.slice (some ⟨g, 0, none⟩) (k + 1) cap)) p (Since b (w1.setCell ⟨p, 0, none⟩ (.slice (some ⟨g, 0, none⟩) (k + 1) cap))) (L1 ++ [q]) L2 m (.slice (some ⟨g, 0, none⟩) (k + 1) cap) vd ∧
    Fr No w0 (w1.setCell ⟨p, 0, none⟩ (.slice (some ⟨g, 0, none⟩) (k + 1) cap)) := by
  have hA := h.fr ((Fr.refl No wr).alloc o) (fun _ _ => id)
  have f1 : Fr (fun k => vs.ownBlock = some k) (wr.alloc o) w1 := (Fr.refl _ _).grown hgrow (fun k e _ => e)
  have hblk := (f1.block p (lt_of_block hA.blk) (fun e => hA.ne.1 _ e rfl)).trans hA.blk
  have hsz := f1.size
  have hsz0 := hF.size
  have hs2 : wr.heap.size < (wr.alloc o).heap.size := by simp
  have hwp := h.sp.2
  have h1 : RfV w1 p (Since b w1) (L1 ++ [q]) L2 m vs vd → True := fun _ => trivial
  have hown' : w1.ownsRow 0 3 1 (.slice (some ⟨g, 0, none⟩) (k + 1) cap) (L1 ++ [q]).length ((L1 ++ [q]).flatMap sV) := by
    rw [List.length_append, List.flatMap_append, List.length_singleton, List.flatMap_singleton, hkk]; exact hown
  have hdir := own_frk hA.dir f1 (fun k hk e => hA.ne.2.2 k e hk)
  have f2 := Fr.set1 w1 p 0 (.slice (some ⟨g, 0, none⟩) (k + 1) cap)
  have hgb : b ≤ g := by
    rcases hat with e | e
    · exact (h.ss g e).1
    · omega
  refine ⟨fun k => free_blk hblk k, ⟨by rw [cell_blk hblk]; rfl, by rw [cell_blk hblk]; rfl⟩, ⟨set_blk hblk 0 _, own_frk hown' f2 (fun j hj e => ?_), own_frk hdir f2 h.ne.2.1, ⟨h.sp.1, by rw [size_set]; omega⟩, fun j hj => ?_, fun k hk => ⟨(h.sd k hk).1, by rw [size_set]; have := (h.sd k hk).2; omega⟩, fun k hk => hk.2⟩, ?_⟩
  · obtain ⟨x, hx⟩ := own_ty hown' hj
    exact ne_ty hx hblk (by decide) e
  · have e : g = j := by simpa [Value.ownBlock] using hj
    exact ⟨by omega, by rw [size_set]; omega⟩
  · exact ((hF.alloc o).then f1 (fun i hi e => absurd hi (by have := (h.ss i e).1; omega))).then f2 (fun i hi e => absurd hi (by have := h.sp.1; omega))
theorem RfV.appD {w0 wr w1 : World} {p m b g cap k : Nat} {L1 L2 : List Pl} {vs vd : Value} {o : Obj} {q : Pl} (h : RfV wr p (Since b wr) L1 L2 m vs vd) (hkk : L2.length = k) (hb : w0.heap.size = b) (hF : Fr No w0 wr) (hown : w1.ownsRow 0 4 1 (.slice (some ⟨g, 0, none⟩) (k + 1) cap) (k + 1) (L2.flatMap dV ++ dV q))
    (hgrow : (wr.alloc o).grownBy w1 vd.ownBlock) (hat : vd.ownBlock = some g ∨ g = (wr.alloc o).heap.size) (hgl : g < w1.heap.size) :
    (∀ k, w1.frozen? ⟨p, k, none⟩ = false) ∧ (w1.cell? ⟨p, 0, none⟩ = some vs ∧ w1.cell? ⟨p, 1, none⟩ = some vd) ∧ RfV (w1.setCell ⟨p, 1, none⟩ (.slice (some ⟨g, 0, none⟩) (k + 1) cap)) p (Since b (w1.setCell ⟨p, 1, none⟩ (.slice (some ⟨g, 0, none⟩) (k + 1) cap))) L1 (L2 ++ [q]) m vs (.slice (some ⟨g, 0, none⟩) (k + 1) cap) ∧
    Fr No w0 (w1.setCell ⟨p, 1, none⟩ (.slice (some ⟨g, 0, none⟩) (k + 1) cap)) := by
  have hA := h.fr ((Fr.refl No wr).alloc o) (fun _ _ => id)
  have f1 : Fr (fun k => vd.ownBlock = some k) (wr.alloc o) w1 := (Fr.refl _ _).grown hgrow (fun k e _ => e)
  have hblk := (f1.block p (lt_of_block hA.blk) (fun e => hA.ne.2.1 _ e rfl)).trans hA.blk
  have hsz := f1.size
  have hsz0 := hF.size
  have hs2 : wr.heap.size < (wr.alloc o).heap.size := by simp
  have hwp := h.sp.2
  have hown' : w1.ownsRow 0 4 1 (.slice (some ⟨g, 0, none⟩) (k + 1) cap) (L2 ++ [q]).length ((L2 ++ [q]).flatMap dV) := by
    rw [List.length_append, List.flatMap_append, List.length_singleton, List.flatMap_singleton, hkk]; exact hown
  have hrow := own_frk hA.row f1 (fun k hk e => hA.ne.2.2 k hk e)
  have f2 := Fr.set1 w1 p 1 (.slice (some ⟨g, 0, none⟩) (k + 1) cap)
  have hgb : b ≤ g := by
    rcases hat with e | e
    · exact (h.sd g e).1
    · omega
  refine ⟨fun k => free_blk hblk k, ⟨by rw [cell_blk hblk]; rfl, by rw [cell_blk hblk]; rfl⟩, ⟨set_blk hblk 1 _, own_frk hrow f2 h.ne.1, own_frk hown' f2 (fun j hj e => ?_), ⟨h.sp.1, by rw [size_set]; omega⟩, fun k hk => ⟨(h.ss k hk).1, by rw [size_set]; have := (h.ss k hk).2; omega⟩, fun j hj => ?_, fun k hk => hk.2⟩, ?_⟩
  · obtain ⟨x, hx⟩ := own_ty hown' hj
    exact ne_ty hx hblk (by decide) e
  · have e : g = j := by simpa [Value.ownBlock] using hj
    exact ⟨by omega, by rw [size_set]; omega⟩
  · exact ((hF.alloc o).then f1 (fun i hi e => absurd hi (by have := (h.sd i e).1; omega))).then f2 (fun i hi e => absurd hi (by have := h.sp.1; omega))
theorem int_info : (Try.prog.info? 3).map (fun i => (i.zero, i.size, i.bytes)) = some (some (.int .i64 0), 1, 8) := by kernel_rfl
theorem bool_info : (Try.prog.info? 4).map (fun i => (i.zero, i.size, i.bytes)) = some (some (.bool false), 1, 1) := by kernel_rfl
set_option maxRecDepth 100000 in
set_option maxHeartbeats 1000000 in
theorem rf_New (w : World) (n m : Nat) (hn : n ≤ 4096) : Calls Try.prog 11 #[.int .i64 n, .int .i64 m] w fun e w' => ∃ p S, e = .returned (.pointer (some ⟨p, 0, none⟩)) ∧ Rf w' p S (List.replicate n none) m ∧ (∀ k, S k → w.heap.size ≤ k) ∧ Fr No w w' := by
  obtain ⟨i0, hi, hz0, hz1, hz2⟩ := info_parts int_info
  obtain ⟨j0, hj, hy0, hy1, hy2⟩ := info_parts bool_info
  have hn' : (n : Int) ≤ 4096 := by omega
  go_enter Try.func11, Try.ntmps11
  go_wp2_with fail
  have hA := heap_new w (.cells #[.slice none 0 0, .slice none 0 0, .int .i64 (m : Int)] 67)
  have HV0 : Hid (RfV (w.alloc (.cells #[.slice none 0 0, .slice none 0 0, .int .i64 (m : Int)] 67)) w.heap.size (Since w.heap.size (w.alloc (.cells #[.slice none 0 0, .slice none 0 0, .int .i64 (m : Int)] 67))) (List.replicate 0 none) (List.replicate 0 none) m (.slice none 0 0) (.slice none 0 0)) :=
    ⟨hA, World.ownsRow_nil _ _ _ _, World.ownsRow_nil _ _ _ _, ⟨Nat.le_refl _, by simp⟩, fun k hk => by simp [Value.ownBlock] at hk, fun k hk => by simp [Value.ownBlock] at hk, fun k hk => hk.2⟩
  have HF0 := hid ((Fr.refl No w).alloc (.cells #[.slice none 0 0, .slice none 0 0, .int .i64 (m : Int)] 67))
  clear hA
  obtain ⟨p, hp⟩ : ∃ p, w.heap.size = p := ⟨_, rfl⟩
  have HP := hid hp
  rw [hp] at HV0 ⊢
  clear hp
  go_loopg [6] n (fun g i wr => ∃ (k : Nat) (vs vd : Value), k + g = n ∧ i = .int .i64 k ∧ Hid (RfV wr p (Since p wr) (List.replicate k none) (List.replicate k none) m vs vd) ∧ Hid (Fr No w wr))
  case atStart => exact ⟨0, _, _, by omega, rfl, HV0, HF0⟩
  case round =>
    obtain ⟨k, vs, vd, hk, rfl, HV, HF⟩ := hrel
    cases gk with
    | zero =>
      obtain rfl : k = n := by omega
      go_wp2_with fail
      try rw [Exit.noGoto_ret]
      go_ret
      exact ⟨_, _, rfl, ⟨_, _, HV.out⟩, fun j hj => by rw [HP.out]; exact hj.1, HF.out⟩
    | succ gk =>
      have hkk : k ≤ 4096 := by omega
      obtain ⟨L, hL⟩ : ∃ L, L = List.replicate k (none : Pl) := ⟨_, rfl⟩
      have hlk : L.length = k := by rw [hL, List.length_replicate]
      have HN : Hid (L ++ [none] = List.replicate (k + 1) none) := by unfold Hid; rw [hL, List.replicate_succ']
      rw [← hL] at HV
      have HLK := hid hlk
      obtain ⟨c0, c1, _, f0⟩ := HV.out.cells
      have HR := hid (show wr.ownsRow 0 3 1 vs k (L.flatMap sV) by rw [← hlk]; exact HV.out.row)
      have HNB := hid (World.news_of_block (heap_new wr (.cells #[.int .i64 (-1)] 3)))
      clear f0 hL hlk
      go_wp2_with (first
        | (at_builtin; refine wpList_append_lies _ rfl (.tmp 19) (.tmp 20) 57 rfl 0 3 i0 (.int .i64 0) 1 8 Try.underlying57 hi hz0 hz1 hz2 (by kernel_rfl) (by decide) vs k _ rfl (HR.out.alloc _) ⟨wr.heap.size, 0, none⟩ 1 1 (sV none) rfl rfl HNB.out (by simp [sV, Value.oneCell']) (by decide) (by unfold maxLen; omega) (by omega) (Nat.zero_le _) _ rfl ?_; intro g1 cap1 w1 hown hgrow hgat hgl; obtain ⟨hfz, ⟨hcc, hcd⟩, hv1, hf1⟩ := HV.out.appS (q := none) HLK.out HP.out HF.out hown hgrow hgat hgl; have hf00 := hfz 0; have HV1 := hid hv1; have HF1 := hid hf1; clear hown hgrow hgat hgl hfz hv1 hf1)
        | (at_builtin; refine wpList_append_lies _ rfl (.tmp 28) (.tmp 29) 65 rfl 0 4 j0 (.bool false) 1 1 Try.underlying65 hj hy0 hy1 hy2 (by kernel_rfl) (by decide) vd k (L.flatMap dV) rfl ((show (w1.setCell ⟨p, 0, none⟩ (.slice (some ⟨g1, 0, none⟩) (k + 1) cap1)).ownsRow 0 4 1 vd k (L.flatMap dV) by have := HV1.out.dir; rw [HLK.out] at this; exact this).alloc _) ⟨(w1.setCell ⟨p, 0, none⟩ (.slice (some ⟨g1, 0, none⟩) (k + 1) cap1)).heap.size, 0, none⟩ 1 1 (dV none) (by simp [Act.eval, Act.put]) rfl (World.news_of_block (heap_new (w1.setCell ⟨p, 0, none⟩ (.slice (some ⟨g1, 0, none⟩) (k + 1) cap1)) (.cells #[.bool false] 4))) (by simp [dV, Value.oneCell']) (by decide) (by unfold maxLen; omega) (by omega) (Nat.zero_le _) _ rfl ?_; intro g2 cap2 w2 hown hgrow hgat hgl; obtain ⟨hfz, ⟨hcc2, hcd2⟩, hv1, hf1⟩ := HV1.out.appD (q := none) HLK.out HP.out HF1.out hown hgrow hgat hgl; have hf01 := hfz 1; have HV2 := hid hv1; have HF2 := hid hf1; clear hown hgrow hgat hgl hfz hv1 hf1))
      rw [HN.out] at HV2
      go_roundg gk
      case measure => omega
      case rel => exact ⟨k + 1, _, _, by omega, by go_num, HV2, HF2⟩
/-- is there such a block? -/
def rightI (L : List Pl) (x : Int) : Bool := decide (0 ≤ x ∧ x < L.length)
theorem rf_Right (w : World) (p m : Nat) (S : Nat → Prop) (L : List Pl) (h : Rf w p S L m) (x : Int) : Calls Try.prog 31 #[.pointer (some ⟨p, 0, none⟩), .int .i64 x] w fun e w' => e = .returned (.bool (rightI L x)) ∧ w' = w := by
  obtain ⟨vs, vd, h⟩ := h
  obtain ⟨c0, c1, c2, _⟩ := h.cells
  obtain ⟨a, cap, rfl⟩ := own_form h.row
  clear h
  unfold rightI
  by_cases h0 : 0 ≤ x
  · by_cases h1 : x < L.length
    all_goals
      go_enter Try.func31, Try.ntmps31
      go_wp2
      go_ret
      simp [h0, h1]
  · go_enter Try.func31, Try.ntmps31
    go_wp2
    go_ret
    simp [h0] <;> omega
/-- cells of the rows -/
theorem RfV.at {S : Nat → Prop} {w : World} {p m : Nat} {L1 L2 : List Pl} {vs vd : Value} (h : RfV w p S L1 L2 m vs vd) (i : Nat) (hi : i < L1.length) : ∃ g cap, vs = .slice (some ⟨g, 0, none⟩) L1.length cap ∧ g < w.heap.size ∧ w.cell? ⟨g, i, none⟩ = some (.int .i64 (plS L1[i])) ∧ w.frozen? ⟨g, i, none⟩ = false := by
  obtain ⟨g, cap, hv, _, hl, hr, hf⟩ := own_at h.row (fun x _ => sV_len x) i hi
  refine ⟨g, cap, hv, hl, ?_, ?_⟩
  · have := hr 0 _ rfl
    simpa using this
  · have := (hf 0 (by omega)).2
    simpa using this
theorem RfV.dat {S : Nat → Prop} {w : World} {p m : Nat} {L1 L2 : List Pl} {vs vd : Value} (h : RfV w p S L1 L2 m vs vd) (i : Nat) (hi : i < L2.length) : ∃ g cap, vd = .slice (some ⟨g, 0, none⟩) L2.length cap ∧ g < w.heap.size ∧ w.cell? ⟨g, i, none⟩ = some (.bool (plD L2[i])) ∧ w.frozen? ⟨g, i, none⟩ = false := by
  obtain ⟨g, cap, hv, _, hl, hr, hf⟩ := own_at h.dir (fun x _ => dV_len x) i hi
  refine ⟨g, cap, hv, hl, ?_, ?_⟩
  · have := hr 0 _ rfl
    simpa using this
  · have := (hf 0 (by omega)).2
    simpa using this
/-- where a slot's block is; −1: none -/
def ratI (L : List Pl) (s : Int) : Int := match atS L s with | some i => (i : Int) | none => -1
theorem ratI_hit {L : List Pl} {s : Int} {k : Nat} (hk : k < L.length) (hn : ∀ j (hj : j < L.length), j < k → isAt s L[j] = false) (h : isAt s L[k] = true) : ratI L s = k := by
  have : atS L s = some k := by
    unfold atS
    rw [List.findIdx?_eq_some_iff_getElem]
    exact ⟨hk, h, fun j hj => by rw [hn j (by omega) hj]; decide⟩
  unfold ratI; rw [this]
theorem ratI_miss {L : List Pl} {s : Int} (hn : ∀ j (hj : j < L.length), isAt s L[j] = false) : ratI L s = -1 := by
  have : atS L s = none := by
    unfold atS
    rw [List.findIdx?_eq_none_iff]
    intro p hp
    obtain ⟨j, hj, rfl⟩ := List.getElem_of_mem hp
    exact hn j hj
  unfold ratI; rw [this]
theorem isAt_eq (s : Int) (q : Pl) : isAt s q = (((plS q) == s) && decide (0 ≤ s)) := by
  cases q with
  | none => simp only [isAt, plS]; by_cases h : (-1 : Int) = s <;> simp [h]; omega
  | some q =>
    obtain ⟨x, d⟩ := q
    simp only [isAt, plS]
    by_cases h : (x : Int) = s
    · subst h; simp
    · simp [h]
set_option maxRecDepth 100000 in
set_option maxHeartbeats 1000000 in
theorem rf_At (w : World) (p m : Nat) (S : Nat → Prop) (L : List Pl) (h : Rf w p S L m) (hl : L.length ≤ 4096) (s : Int) : Calls Try.prog 32 #[.pointer (some ⟨p, 0, none⟩), .int .i64 s] w fun e w' => e = .returned (.int .i64 (ratI L s)) ∧ w' = w := by
  obtain ⟨vs, vd, h⟩ := h
  have HV := hid h
  obtain ⟨c0, c1, c2, _⟩ := h.cells
  obtain ⟨a, cap, rfl⟩ := own_form h.row
  clear h
  have hl' : (L.length : Int) ≤ 4096 := by omega
  go_enter Try.func32, Try.ntmps32
  go_wp2_with fail
  go_loopg [5] L.length (fun g i wr => ∃ k : Nat, k + g = L.length ∧ i = .int .i64 k ∧ Hid (∀ j (hj : j < L.length), j < k → isAt s L[j] = false) ∧ wr = w)
  case atStart => exact ⟨0, by omega, rfl, fun j hj h => by omega, rfl⟩
  case round =>
    obtain ⟨k, hk, rfl, HM, rfl⟩ := hrel
    cases gk with
    | zero =>
      obtain rfl : k = L.length := by omega
      have HR := hid (ratI_miss (fun j hj => HM.out j hj hj))
      go_wp2_with fail
      try rw [Exit.noGoto_ret]
      go_ret
      exact ⟨by rw [HR.out]; rfl, rfl⟩
    | succ gk =>
      have hkm : k < L.length := by omega
      have hki : (k : Int) < (L.length : Int) := by omega
      obtain ⟨g, cp, hv, hgl, hc, _⟩ := HV.out.at k hkm
      cases hv
      obtain ⟨q, hq⟩ : ∃ q, L[k] = q := ⟨_, rfl⟩
      rw [hq] at hc
      have HQ := hid hq
      clear hq
      obtain ⟨r1, hr1⟩ : ∃ r, ((plS q) == s) = r := ⟨_, rfl⟩
      have HA := hid (isAt_eq s q)
      rw [hr1] at HA
      cases r1 with
      | false =>
        have HM2 : Hid (∀ j (hj : j < L.length), j < k + 1 → isAt s L[j] = false) := fun j hj h => by
          rcases (by omega : j < k ∨ j = k) with h | h
          · exact HM.out j hj h
          · subst h; rw [HQ.out, HA.out]; rfl
        go_wp2_with fail
        go_roundg gk
        case measure => omega
        case rel => exact ⟨k + 1, by omega, by go_num, HM2, rfl⟩
      | true =>
        by_cases hs : 0 ≤ s
        · have HR := hid (ratI_hit hkm HM.out (by rw [HQ.out, HA.out]; simp [hs]))
          go_wp2_with fail
          try rw [Exit.noGoto_ret]
          go_ret
          exact ⟨by rw [HR.out]; rfl, rfl⟩
        · have HM2 : Hid (∀ j (hj : j < L.length), j < k + 1 → isAt s L[j] = false) := fun j hj h => by
            rcases (by omega : j < k ∨ j = k) with h | h
            · exact HM.out j hj h
            · subst h; rw [HQ.out, HA.out]; simp [hs]
          go_wp2_with fail
          go_roundg gk
          case measure => omega
          case rel => exact ⟨k + 1, by omega, by go_num, HM2, rfl⟩
end Go.Proofs.Ytfggllhflibfcaa
