/- forms: the rows of numbers. -/
import Derived.Test.YtpifiamafgaadaaDoorFmR
namespace Go.Proofs.YtpifiamafgaadaaDoor
open Go.RowKit Go.Shelf
set_option maxRecDepth 1000000 in
set_option maxHeartbeats 4000000 in
theorem fm_place (w : World) (X o0 o1 o2 o3 : Nat) (b s u : Int) (d : Bool) (c0 : w.cell? ⟨X, o0, none⟩ = some (.int .i64 b)) (c1 : w.cell? ⟨X, o1, none⟩ = some (.int .i64 s)) (c2 : w.cell? ⟨X, o2, none⟩ = some (.bool d)) (c3 : w.cell? ⟨X, o3, none⟩ = some (.int .i64 u)) :
    Calls Tryd.prog 35 #[.pointer (some ⟨X, o0, none⟩), .pointer (some ⟨X, o1, none⟩), .pointer (some ⟨X, o2, none⟩), .pointer (some ⟨X, o3, none⟩)] w fun e w' => ∃ v, e = .returned v ∧ Nums w' v (entP ⟨b, s, d, u⟩) (fun q => q = X) w.heap.size ∧ Fr No w w' := by
  have hX := lt_of_cell c0
  have HF0 := hid (Fr.refl No w)
  go_enter Tryd.func35, Tryd.ntmps35
  go_wp2_with (first
    | (go_at_call 31; refine (fm_row _ _).mono ?_; rintro e w6 ⟨rfl, rfl⟩)
    | (refine list_buildS rfl 82 4 _ rfl _ (by simp [Act.eval, Act.put]) _ _ HBS.out ?_; obtain ⟨w5, hw⟩ : ∃ W, w4.alloc (.cells (List.flatMap numL [((⟨b, 2, 0, 4095⟩, ft1, fs1) : NumT), ((⟨s, 2, 0, 1023⟩, ft2, fs2) : NumT), ((⟨bitI d, 1, 0, 1⟩, ft3, fs3) : NumT), ((⟨u, 4, 0, 4294967295⟩, ft4, fs4) : NumT)]).toArray 87) = W := ⟨_, rfl⟩; rw [hw] at HN HF5 ⊢; clear hw HBS)
    | (go_at_call 32; refine (fm_wholeB w3 X o3 4 0 4294967295 u c3 w.heap.size HF3.out.size).mono ?_; rintro e w4 ⟨ft4, fs4, rfl, hT, h1, hF⟩; have HT4 := hid hT; have HO4 := hid h1; have HS4 := hid hF; have HF4 := hid (HF3.out.trans hF); clear hT h1 hF c3; have HN := hid (nums_new [((⟨b, 2, 0, 4095⟩, ft1, fs1) : NumT), ((⟨s, 2, 0, 1023⟩, ft2, fs2) : NumT), ((⟨bitI d, 1, 0, 1⟩, ft3, fs3) : NumT), ((⟨u, 4, 0, 4294967295⟩, ft4, fs4) : NumT)] (by simp) (by simp) w4 w.heap.size HF4.out.size (fun q => q = X) (List.forall_mem_cons.2 ⟨(((HT1.out.no HS2.out).no HS3.out).no HS4.out), (List.forall_mem_cons.2 ⟨((HT2.out.no HS3.out).no HS4.out), (List.forall_mem_cons.2 ⟨(HT3.out.no HS4.out), (List.forall_mem_cons.2 ⟨HT4.out, (fun _ h => by cases h)⟩)⟩)⟩)⟩) (List.forall_mem_cons.2 ⟨HO1.out, (List.forall_mem_cons.2 ⟨HO2.out, (List.forall_mem_cons.2 ⟨HO3.out, (List.forall_mem_cons.2 ⟨HO4.out, (fun _ h => by cases h)⟩)⟩)⟩)⟩) _ rfl); have HF5 := hid (HF4.out.alloc (.cells (List.flatMap numL [((⟨b, 2, 0, 4095⟩, ft1, fs1) : NumT), ((⟨s, 2, 0, 1023⟩, ft2, fs2) : NumT), ((⟨bitI d, 1, 0, 1⟩, ft3, fs3) : NumT), ((⟨u, 4, 0, 4294967295⟩, ft4, fs4) : NumT)]).toArray 87)); have HBS := hid (num_slice [((⟨b, 2, 0, 4095⟩, ft1, fs1) : NumT), ((⟨s, 2, 0, 1023⟩, ft2, fs2) : NumT), ((⟨bitI d, 1, 0, 1⟩, ft3, fs3) : NumT), ((⟨u, 4, 0, 4294967295⟩, ft4, fs4) : NumT)] (by simp) (by simp) w4 #[(0, numT ((⟨b, 2, 0, 4095⟩, ft1, fs1) : NumT)), (1, numT ((⟨s, 2, 0, 1023⟩, ft2, fs2) : NumT)), (2, numT ((⟨bitI d, 1, 0, 1⟩, ft3, fs3) : NumT)), (3, numT ((⟨u, 4, 0, 4294967295⟩, ft4, fs4) : NumT))] rfl))
    | (go_at_call 54; refine (fm_flagB w2 X o2 d c2 w.heap.size HF2.out.size).mono ?_; rintro e w3 ⟨ft3, fs3, rfl, hT, h1, hF⟩; have HT3 := hid hT; have HO3 := hid h1; have HS3 := hid hF; have HF3 := hid (HF2.out.trans hF); have c3 := (hF.cell (p := ⟨X, o3, none⟩) (HF2.out.lt hX) id).trans c3; clear hT h1 hF c2)
    | (go_at_call 32; refine (fm_wholeB w1 X o1 2 0 1023 s c1 w.heap.size HF1.out.size).mono ?_; rintro e w2 ⟨ft2, fs2, rfl, hT, h1, hF⟩; have HT2 := hid hT; have HO2 := hid h1; have HS2 := hid hF; have HF2 := hid (HF1.out.trans hF); have c2 := (hF.cell (p := ⟨X, o2, none⟩) (HF1.out.lt hX) id).trans c2; have c3 := (hF.cell (p := ⟨X, o3, none⟩) (HF1.out.lt hX) id).trans c3; clear hT h1 hF c1)
    | (go_at_call 32; refine (fm_wholeB w X o0 2 0 4095 b c0 w.heap.size HF0.out.size).mono ?_; rintro e w1 ⟨ft1, fs1, rfl, hT, h1, hF⟩; have HT1 := hid hT; have HO1 := hid h1; have HS1 := hid hF; have HF1 := hid (HF0.out.trans hF); have c1 := (hF.cell (p := ⟨X, o1, none⟩) (HF0.out.lt hX) id).trans c1; have c2 := (hF.cell (p := ⟨X, o2, none⟩) (HF0.out.lt hX) id).trans c2; have c3 := (hF.cell (p := ⟨X, o3, none⟩) (HF0.out.lt hX) id).trans c3; clear hT h1 hF c0))
  go_ret
  exact ⟨_, rfl, HN.out, HF5.out⟩
end Go.Proofs.YtpifiamafgaadaaDoor
