/-
  The walks of the given l3Imported, l3From, l3Way, l3LookUp, ImportedScopes, ImportedOf and LookUp. Condition: the argument's memory holds the graph.
-/
import Derived.Test.YtoijapbffhkbbaaDoorWTable
namespace Go.Proofs.YtoijapbffhkbbaaDoor
open Go Go.RowKit Go.Maps
set_option maxRecDepth 100000 in
theorem specImported_any (ss : List Sc) (hv : Valid ss) (hf : FitsScopes ss) (oa : Option Addr) (cap : Nat) (s : Nat) (hs : s < ss.length) (w : World) (hc : HoldsScopes w oa ss) :
    Calls Tryd.prog 97 #[.agg #[.slice oa ss.length cap], .int .i64 (s : Int)] w (NumsGot (impP ss s) w) := by
  have hb0 := (Below.refl w.heap.size w).alloc (Nat.le_refl _) (.cells #[.slice oa ss.length cap] 30)
  have C := Lib.hid (specTable_any ss hv hf oa cap _ (hc.below hb0 (Nat.le_refl _)))
  have HB0 := Lib.hid hb0
  have h6 := hv.count.2
  have HTP := Lib.hid (tabP_get ss ss.length hs)
  clear hv hf hc hb0
  go_enter Tryd.func97, Tryd.ntmps97
  go_wp2_with fail
  refine C.out.mono ?_
  rintro e w1 ⟨ot, ct, rfl, -, hown, hb1⟩
  obtain ⟨b, off, u, rfl, hbl, hcell, hu⟩ := hown s _ HTP.out
  obtain ⟨ou, cu, rfl, -⟩ := holdsInts_of_owns hu
  have HU := Lib.hid (ownsRow_lower hu (by simp : w.heap.size ≤ (w.alloc (.cells #[.slice oa ss.length cap] 30)).heap.size))
  have HB1 := Lib.hid (HB0.out.trans (hb1.mono HB0.out.size))
  clear hown hb1 hu
  go_wp2
  go_ret
  exact ⟨_, rfl, HU.out, HB1.out⟩
set_option maxRecDepth 100000 in
theorem specImportedScopes_any (ss : List Sc) (hf : FitsScopes ss) (oa : Option Addr) (cap : Nat) (n : Int) (w : World) (hc : HoldsScopes w oa ss) :
    Calls Tryd.prog 39 #[.agg #[.slice oa ss.length cap], .int .i64 n] w (ListGot2 (HasScope ss n) (impP ss n.toNat) w) := by
  have hb0 := (Below.refl w.heap.size w).alloc (Nat.le_refl _) (.cells #[.slice oa ss.length cap] 30)
  have C := Lib.hid (specScope_any ss hf oa cap n _ (hc.below hb0 (Nat.le_refl _)))
  have R := Lib.hid (Row.new w [.slice oa ss.length cap] 30)
  have HB0 := Lib.hid hb0
  have HC := Lib.hid hc
  have HF := Lib.hid hf
  clear hf hc hb0
  go_enter Tryd.func39, Tryd.ntmps39
  go_wp2_with fail
  refine C.out.mono ?_
  rintro e w1 ⟨b, rfl, hv, hb⟩
  have HB := Lib.hid (HB0.out.trans (hb.mono HB0.out.size))
  have R1 := Lib.hid (R.out.below hb R.out.lt)
  have c1 := R1.out.cell (i := 0) (by rfl)
  have HV := Lib.hid hv
  clear hb hv
  cases b
  · have HN : Hid (¬ HasScope ss n) := Lib.hid (fun h => by have := HV.out.2 h; cases this)
    go_wp2
    go_ret2
    exact .inl ⟨HN.out, _, rfl, HB.out.alloc HB.out.size _⟩
  · have HH := Lib.hid (HV.out.1 rfl)
    obtain ⟨s, rfl⟩ : ∃ s : Nat, n = (s : Int) := ⟨n.toNat, by have := HH.out.2.1; omega⟩
    have C2 := Lib.hid (specImported_any ss HH.out.1 HF.out oa cap s (by have := HH.out.2.2; omega) _ (HC.out.below HB.out (Nat.le_refl _)))
    go_wp2_with fail
    refine C2.out.mono ?_
    rintro e w2 ⟨v, rfl, hrow, hb2⟩
    have HB2 := Lib.hid (HB.out.trans (hb2.mono HB.out.size))
    have HR := Lib.hid (ownsRow_lower hrow HB.out.size)
    clear hb2 hrow
    go_wp2
    go_ret2
    exact .inr ⟨HH.out, v, rfl, HR.out, HB2.out⟩
set_option maxRecDepth 100000 in
set_option maxHeartbeats 4000000 in
theorem specFrom_any (ss : List Sc) (hv : Valid ss) (hf : FitsScopes ss) (oa : Option Addr) (cap : Nat) (s : Nat) (hs : s < ss.length) (nm : ByteArray) (w : World) (hc : HoldsScopes w oa ss) :
    Calls Tryd.prog 85 #[.agg #[.slice oa ss.length cap], .int .i64 (s : Int), .string nm] w (PlsGot (fromP ss (impP ss s) nm) w) := by
  have hb0 := (Below.refl w.heap.size w).alloc (Nat.le_refl _) (.cells #[.slice oa ss.length cap] 30)
  have R := Lib.hid (Row.new w [.slice oa ss.length cap] 30)
  have g2 := R.out.cell (i := 0) (by rfl)
  have HB0 := Lib.hid hb0
  have HC := Lib.hid hc
  have HV := Lib.hid hv
  have HF := Lib.hid hf
  have HS := Lib.hid hs
  clear hv hf hc hb0 hs
  go_enter Tryd.func85, Tryd.ntmps85
  go_wp2
  go_cut [6] (fun s6 wx => ∃ o4 c4, s6 = .slice o4 (fromP ss (impP ss s) nm).length c4 ∧ wx.ownsRow w.heap.size 43 2 (.slice o4 (fromP ss (impP ss s) nm).length c4) (fromP ss (impP ss s) nm).length (placeCells (fromP ss (impP ss s) nm)) ∧ Below w.heap.size w wx)
  case first =>
    go_region_held3 (fun w' => w'.cell? ⟨w.heap.size, 0, none⟩ = some (.slice oa ss.length cap))
      (first | exact g2 | exact cell_drew g2 | exact cell_grow hb3 (cell_drew g2) | exact cell_grow hb4 (cell_grow hb3 (cell_drew g2)))
      (first | (go_at_call 97; refine (specImported_any ss HV.out HF.out oa cap s HS.out _ (HC.out.below HB0.out.drew (Nat.le_refl _))).mono ?_; rintro e w3 ⟨u3, rfl, hrow3, hb3⟩; obtain ⟨o3, c3, rfl, hi3⟩ := holdsInts_of_owns hrow3) | (go_at_call 135; refine (specFromBy_any ss HV.out oa cap (impP ss s) (impP_ok HV.out s).1 (by have := impP_length HV.out s; omega) o3 c3 nm _ (HC.out.below (HB0.out.drew.trans (hb3.mono HB0.out.drew.size)) (Nat.le_refl _)) hi3).mono ?_; rintro e w4 ⟨v4, rfl, hrow4, hb4⟩; obtain ⟨o4, c4, rfl⟩ := ownsRow_slice hrow4))
    all_goals go_wp2
    all_goals go_meet
    all_goals exact ⟨o4, c4, rfl, ownsRow_lower hrow4 (Nat.le_trans HB0.out.drew.size hb3.size), (HB0.out.drew.trans (hb3.mono HB0.out.drew.size)).trans (hb4.mono (Nat.le_trans HB0.out.drew.size hb3.size))⟩
  case rest =>
    obtain ⟨o4, c4, rfl, hrow4, hbc⟩ := hcut
    have HR := Lib.hid hrow4
    have HBC := Lib.hid hbc
    clear hrow4 hbc
    go_wp2
    go_ret
    exact ⟨_, rfl, HR.out, HBC.out⟩
set_option maxRecDepth 100000 in
theorem specImportedOf_any (ss : List Sc) (hf : FitsScopes ss) (oa : Option Addr) (cap : Nat) (n : Int) (nm : ByteArray) (w : World) (hc : HoldsScopes w oa ss) :
    Calls Tryd.prog 38 #[.agg #[.slice oa ss.length cap], .int .i64 n, .string nm] w (PlGot2 (ownOk ss n nm) (fromP ss (impP ss n.toNat) nm) w) := by
  have hb0 := (Below.refl w.heap.size w).alloc (Nat.le_refl _) (.cells #[.slice oa ss.length cap] 30)
  have C := Lib.hid (asked_any ss hf oa cap n nm _ (hc.below hb0 (Nat.le_refl _)))
  have R := Lib.hid (Row.new w [.slice oa ss.length cap] 30)
  have HB0 := Lib.hid hb0
  have HC := Lib.hid hc
  have HF := Lib.hid hf
  clear hf hc hb0
  go_enter Tryd.func38, Tryd.ntmps38
  go_wp2_with fail
  refine C.out.mono ?_
  rintro e w1 ⟨b, rfl, hv, hb⟩
  have HB := Lib.hid (HB0.out.trans (hb.mono HB0.out.size))
  have R1 := Lib.hid (R.out.below hb R.out.lt)
  have c1 := R1.out.cell (i := 0) (by rfl)
  have HV := Lib.hid hv
  clear hb hv
  cases b
  · have HN : Hid (¬ ownOk ss n nm) := Lib.hid (fun h => by have := HV.out.2 h; cases this)
    go_wp2
    go_ret2
    exact .inl ⟨HN.out, _, rfl, HB.out.alloc HB.out.size _⟩
  · have HH := Lib.hid (HV.out.1 rfl)
    obtain ⟨s, rfl⟩ : ∃ s : Nat, n = (s : Int) := ⟨n.toNat, by have := HH.out.1.2.1; omega⟩
    have C2 := Lib.hid (specFrom_any ss HH.out.1.1 HF.out oa cap s (by have := HH.out.1.2.2; omega) nm _ (HC.out.below HB.out (Nat.le_refl _)))
    go_wp2_with fail
    refine C2.out.mono ?_
    rintro e w2 ⟨v, rfl, hrow, hb2⟩
    have HB2 := Lib.hid (HB.out.trans (hb2.mono HB.out.size))
    have HR := Lib.hid (ownsRow_lower hrow HB.out.size)
    clear hb2 hrow
    go_wp2
    go_ret2
    exact .inr ⟨HH.out, v, rfl, HR.out, HB2.out⟩
set_option maxRecDepth 100000 in
set_option maxHeartbeats 4000000 in
theorem specWay_any (ss : List Sc) (hv : Valid ss) (hf : FitsScopes ss) (oa : Option Addr) (cap : Nat) (s : Nat) (hs : s < ss.length) (nm : ByteArray) (w : World) (hc : HoldsScopes w oa ss) :
    Calls Tryd.prog 136 #[.agg #[.slice oa ss.length cap], .int .i64 (s : Int), .string nm] w (WayGot (lookP ss s nm) w) := by
  have hb0 := (Below.refl w.heap.size w).alloc (Nat.le_refl _) (.cells #[.slice oa ss.length cap] 30)
  have R := Lib.hid (Row.new w [.slice oa ss.length cap] 30)
  have g2 := R.out.cell (i := 0) (by rfl)
  have HB0 := Lib.hid hb0
  have HC := Lib.hid hc
  have HV := Lib.hid hv
  have HF := Lib.hid hf
  have HS := Lib.hid hs
  clear hv hf hc hb0 hs
  go_enter Tryd.func136, Tryd.ntmps136
  go_wp2
  go_cut [6, 7, 8] (fun s6 s7 s8 wx => s6 = .int .i64 (lookP ss s nm).scope ∧ s7 = .int .i64 (lookP ss s nm).way ∧ ∃ o4 c4, s8 = .slice o4 (lookP ss s nm).places.length c4 ∧ wx.ownsRow w.heap.size 43 2 (.slice o4 (lookP ss s nm).places.length c4) (lookP ss s nm).places.length (placeCells (lookP ss s nm).places) ∧ Below w.heap.size w wx)
  case first =>
    go_region_held3 (fun w' => w'.cell? ⟨w.heap.size, 0, none⟩ = some (.slice oa ss.length cap))
      (first | exact g2 | exact cell_drew g2 | exact cell_grow hb3 (cell_drew g2) | exact cell_grow hb4 (cell_grow hb3 (cell_drew g2)))
      (first | (go_at_call 141; refine (specTable_any ss HV.out HF.out oa cap _ (HC.out.below HB0.out.drew (Nat.le_refl _))).mono ?_; rintro e w3 ⟨o3, c3, rfl, ht3, -, hb3⟩) | (go_at_call 174; refine (specWayBy_any ss HV.out oa cap ss.length (Nat.le_refl _) o3 c3 s HS.out nm _ (HC.out.below (HB0.out.drew.trans (hb3.mono HB0.out.drew.size)) (Nat.le_refl _)) ht3).mono ?_; rintro e w4 ⟨v4, rfl, hrow4, hb4⟩; obtain ⟨o4, c4, rfl⟩ := ownsRow_slice hrow4))
    all_goals go_wp2
    all_goals go_meet
    all_goals exact ⟨rfl, rfl, o4, c4, rfl, ownsRow_lower hrow4 (Nat.le_trans HB0.out.drew.size hb3.size), (HB0.out.drew.trans (hb3.mono HB0.out.drew.size)).trans (hb4.mono (Nat.le_trans HB0.out.drew.size hb3.size))⟩
  case rest =>
    obtain ⟨rfl, rfl, o4, c4, rfl, hrow4, hbc⟩ := hcut
    have HR := Lib.hid hrow4
    have HBC := Lib.hid hbc
    clear hrow4 hbc
    go_wp2
    go_ret3
    exact ⟨_, rfl, HR.out, HBC.out⟩
set_option maxRecDepth 100000 in
theorem specLookUp3_any (ss : List Sc) (hv : Valid ss) (hf : FitsScopes ss) (oa : Option Addr) (cap : Nat) (s : Nat) (hs : s < ss.length) (nm : ByteArray) (w : World) (hc : HoldsScopes w oa ss) :
    Calls Tryd.prog 86 #[.agg #[.slice oa ss.length cap], .int .i64 (s : Int), .string nm] w (PlsGot (lookP ss s nm).places w) := by
  have hb0 := (Below.refl w.heap.size w).alloc (Nat.le_refl _) (.cells #[.slice oa ss.length cap] 30)
  have C := Lib.hid (specWay_any ss hv hf oa cap s hs nm _ (hc.below hb0 (Nat.le_refl _)))
  have HB0 := Lib.hid hb0
  clear hv hf hc hb0 hs
  go_enter Tryd.func86, Tryd.ntmps86
  go_wp2_with fail
  refine C.out.mono ?_
  rintro e w1 ⟨u, rfl, hrow, hb⟩
  have HB := Lib.hid (HB0.out.trans (hb.mono HB0.out.size))
  have HR := Lib.hid (ownsRow_lower hrow HB0.out.size)
  clear hb hrow
  go_wp2
  go_ret
  exact ⟨_, rfl, HR.out, HB.out⟩
end Go.Proofs.YtoijapbffhkbbaaDoor
