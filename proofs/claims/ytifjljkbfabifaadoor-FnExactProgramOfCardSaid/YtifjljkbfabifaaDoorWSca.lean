/-
  The walk of impl's ScopesAfter. Conditions: the graph lies in memory and is fair; the errors lie where they were laid. (gensca.py writes this text.)
-/
import Derived.Test.YtifjljkbfabifaaDoorWVisC
namespace Go.Proofs.YtifjljkbfabifaaDoor
open Go Go.RowKit Go.Maps
/-- Which number each scope has in the program. -/
def afterL (ss : List Sc) : List Nat := numU (List.replicate ss.length 0) 0 (orP ss 0)
theorem afterL_length (ss : List Sc) : (afterL ss).length = ss.length := by unfold afterL; rw [numU_length, List.length_replicate]
theorem owns_of_row {w : World} {B g : Nat} {l : List Nat} (h : Row w g 3 (numVals l)) (hB : B ≤ g) (hl : l.length ≤ 1000) : w.ownsRow B 3 1 (.slice (some ⟨g, 0, none⟩) l.length l.length) l.length (numVals l) := by
  refine ⟨by unfold numVals; simp, .inr ⟨g, l.length, (numVals l).toArray, rfl, hB, h, Nat.le_refl _, by unfold maxLen; omega, by unfold numVals; simp, ?_⟩⟩
  show List.take (l.length * 1) _ = _
  rw [List.take_of_length_le (by simp [numVals])]
set_option maxRecDepth 100000 in
set_option maxHeartbeats 8000000 in
theorem implAfter_any (ss : List Sc) (hF : Fair ss) (oa : Option Addr) (cap : Nat) (w : World) (hc : HoldsScopes w oa ss) (hE : TreeErrs w) :
    Calls Tryd.prog 33 #[.agg #[.slice oa ss.length cap]] w (ListGot (Valid ss) (afterL ss) w) := by
  have hb0 := (Below.refl w.heap.size w).alloc (Nat.le_refl _) (.cells #[.slice oa ss.length cap] 30)
  have C := Lib.hid (hF.tree oa cap _ (hc.below hb0 (Nat.le_refl _)) (hE.below hb0 hE.size))
  have HB0 := Lib.hid hb0
  clear hF hc hE hb0
  go_enter Tryd.func33, Tryd.ntmps33
  go_wp2_with fail
  refine C.out.mono ?_
  rintro e w1 (⟨hv, ⟨tp, p, rfl⟩, hb⟩ | ⟨hv, T, M1, M2, v, ds, rfl, hb, hT⟩)
  · have HV := Lib.hid hv
    have HB := Lib.hid (HB0.out.trans (hb.mono HB0.out.size))
    clear hv hb
    go_wp2
    go_ret2
    exact .inl ⟨HV.out, rfl, HB.out⟩
  · have HV := Lib.hid hv
    have HB := Lib.hid (HB0.out.trans (hb.mono HB0.out.size))
    have HT := Lib.hid hT
    have hdl := hT.hold.len
    have h6 := hv.count
    obtain ⟨g, cap', rfl, hgB, hg, hslot⟩ := hT.tree.slot (hT.ne hv)
    obtain ⟨d0, hd0⟩ : ∃ d, ds[0]? = some d := ⟨_, List.getElem?_eq_getElem (by omega)⟩
    have HD0 := Lib.hid hd0
    have hs0 := hslot 0 d0 hd0
    unfold Nd.ptr at hs0
    have HS0 := Lib.hid hs0
    have t0 := hT.tree.box.cell (i := 0) (by rfl)
    have HT0 := Lib.hid t0
    obtain ⟨i0, hi0, hz0, hz1, hz2⟩ := info_parts infoInt
    have HDL := Lib.hid hdl
    have hd6 : ds.length ≤ 6 := by omega
    have p0 : (0 : Int) < ((ds.length : Nat) : Int) := by omega
    have p1 : 0 < ds.length := by omega
    clear hv hb hT hslot hs0 hd0 hdl h6
    go_wp2_with (at_make; refine wpList_make_full _ rfl _ _ 39 rfl w1.heap.size 3 i0 _ 1 Tryd.underlying39 hi0 hz0 hz1 .i64 .i64 _ _ ds.length rfl rfl rfl rfl (by rw [hz2]; omega) (by unfold maxLen; omega) (Nat.le_refl _) ?_; intro w2 hown hg1; have hb2 : Below w1.heap.size w1 w2 := ⟨hg1.os, hg1.tape, hg1.output, hg1.size, fun k hk => hg1.block k hk (by simp)⟩; have hbA := (Below.refl w2.heap.size w2).alloc (Nat.le_refl _) (.cells #[.int .i64 0, .slice (some ⟨w1.heap.size, 0, none⟩) ds.length ds.length] 112); have hb3 := hb2.trans (hbA.mono hb2.size); have t3 := (hb3.cell (p := ⟨T, 0, none⟩) HT.out.tree.box.lt).trans HT0.out; have s3 := (hb3.cell (p := ⟨g, 0, none⟩) hg).trans HS0.out)
    have HB2 := Lib.hid hb2
    have HR2 : Hid (Row w2 w1.heap.size 3 (numVals (List.replicate ds.length 0))) := Lib.hid (by
      have h1 := Row.of_owns hown rfl
      have e : (madeCells (Value.int .i64 0).cells (ds.length * 1)).toList = numVals (List.replicate ds.length 0) := by
        have hc : (Value.int .i64 0).cells = #[.int .i64 0] := rfl
        unfold numVals madeCells
        rw [hc]
        simp [Nat.mod_one]
        refine List.ext_getElem (by simp) fun i h1 h2 => ?_
        simp
      rw [← e]
      exact h1)
    clear hown hg1
    have HB3 := Lib.hid hb3
    have h12 := HR2.out.lt
    have HCT : Hid (CtIs (w2.alloc (.cells #[.int .i64 0, .slice (some ⟨w1.heap.size, 0, none⟩) ds.length ds.length] 112)) w2.heap.size w1.heap.size ds.length 0 (List.replicate ds.length 0)) := Lib.hid ⟨by
      have h := Row.new w2 [.int .i64 0, .slice (some ⟨w1.heap.size, 0, none⟩) ds.length ds.length] 112
      rw [List.length_replicate]
      exact h, HR2.out.alloc _⟩
    have HVS := Lib.hid (visitC_any HV.out HT.out (C := w2.heap.size) (G := w1.heap.size) (cp := ds.length) HB2.out.size (Nat.le_refl _) ss.length 0 (by omega) d0 HD0.out _ 0 (List.replicate ds.length 0) HB3.out HCT.out (by rw [List.length_replicate, HDL.out]) (by have := (or_zero HV.out).2; have := HDL.out; omega))
    clear hb2 hbA hb3 t0
    try go_wp2_with fail
    refine HVS.out.mono ?_
    rintro e w4 ⟨rfl, hct, htu⟩
    have HC4 := Lib.hid hct
    have hbx := htu.under HB3.out HB2.out.size (Nat.le_refl _)
    have HBX := Lib.hid (HB.out.trans (hbx.mono HB.out.size))
    have c1 := hct.box.cell (i := 1) (by rfl)
    rw [numU_length, List.length_replicate] at c1
    clear hct htu hbx HVS t3 s3
    go_wp2
    go_ret2
    refine .inr ⟨HV.out, _, rfl, ?_, HBX.out⟩
    have h := owns_of_row HC4.out.row HB.out.size (by rw [numU_length, List.length_replicate]; omega)
    unfold afterL
    rw [← HDL.out]
    rw [numU_length, List.length_replicate] at h ⊢
    exact h
end Go.Proofs.YtifjljkbfabifaaDoor
