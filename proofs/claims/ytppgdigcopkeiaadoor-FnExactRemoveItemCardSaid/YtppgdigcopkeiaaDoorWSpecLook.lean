/-
  The walks of the given l3Imported, l3From, l3Way, l3LookUp, ImportedScopes, ImportedOf and LookUp. Condition: the argument's memory holds the graph.
-/
import Derived.Test.YtppgdigcopkeiaaDoorWTable
namespace Go.Proofs.YtppgdigcopkeiaaDoor
open Go Go.RowKit Go.Maps
set_option maxRecDepth 100000 in
set_option maxHeartbeats 4000000 in
theorem specWay_any (ss : List Sc) (hv : Valid ss) (hf : FitsScopes ss) (oa : Option Addr) (cap : Nat) (s : Nat) (hs : s < ss.length) (nm : ByteArray) (w : World) (hc : HoldsScopes w oa ss) :
    Calls Tryd.prog 168 #[.agg #[.slice oa ss.length cap], .int .i64 (s : Int), .string nm] w (WayGot (lookP ss s nm) w) := by
  have hb0 := (Below.refl w.heap.size w).alloc (Nat.le_refl _) (.cells #[.slice oa ss.length cap] 30)
  have R := Lib.hid (Row.new w [.slice oa ss.length cap] 30)
  have g2 := R.out.cell (i := 0) (by rfl)
  have HB0 := Lib.hid hb0
  have HC := Lib.hid hc
  have HV := Lib.hid hv
  have HF := Lib.hid hf
  have HS := Lib.hid hs
  clear hv hf hc hb0 hs
  go_enter Tryd.func168, Tryd.ntmps168
  go_wp2
  go_cut [6, 7, 8] (fun s6 s7 s8 wx => s6 = .int .i64 (lookP ss s nm).scope ∧ s7 = .int .i64 (lookP ss s nm).way ∧ ∃ o4 c4, s8 = .slice o4 (lookP ss s nm).places.length c4 ∧ wx.ownsRow w.heap.size 34 2 (.slice o4 (lookP ss s nm).places.length c4) (lookP ss s nm).places.length (placeCells (lookP ss s nm).places) ∧ Below w.heap.size w wx)
  case first =>
    go_region_held3 (fun w' => w'.cell? ⟨w.heap.size, 0, none⟩ = some (.slice oa ss.length cap))
      (first | exact g2 | exact cell_drew g2 | exact cell_grow hb3 (cell_drew g2) | exact cell_grow hb4 (cell_grow hb3 (cell_drew g2)))
      (first | (go_at_call 173; refine (specTable_any ss HV.out HF.out oa cap _ (HC.out.below HB0.out.drew (Nat.le_refl _))).mono ?_; rintro e w3 ⟨o3, c3, rfl, ht3, -, hb3⟩) | (go_at_call 179; refine (specWayBy_any ss HV.out oa cap ss.length (Nat.le_refl _) o3 c3 s HS.out nm _ (HC.out.below (HB0.out.drew.trans (hb3.mono HB0.out.drew.size)) (Nat.le_refl _)) ht3).mono ?_; rintro e w4 ⟨v4, rfl, hrow4, hb4⟩; obtain ⟨o4, c4, rfl⟩ := ownsRow_slice hrow4))
    all_goals go_wp2
    all_goals go_meet
    all_goals exact ⟨rfl, rfl, o4, c4, rfl, ownsRow_lower hrow4 (Nat.le_trans HB0.out.drew.size hb3.size), (HB0.out.drew.trans (hb3.mono HB0.out.drew.size)).trans (hb4.mono (Nat.le_trans HB0.out.drew.size hb3.size))⟩
  case rest =>
    obtain ⟨rfl, rfl, o4, c4, rfl, hrow4, hbc⟩ := hcut
    have HR := Lib.hid hrow4
    have HBC := Lib.hid hbc
    clear hrow4 hbc
    go_wp2
    go_ret3
    exact ⟨_, rfl, HR.out, HBC.out⟩
set_option maxRecDepth 100000 in
theorem specLookUp3_any (ss : List Sc) (hv : Valid ss) (hf : FitsScopes ss) (oa : Option Addr) (cap : Nat) (s : Nat) (hs : s < ss.length) (nm : ByteArray) (w : World) (hc : HoldsScopes w oa ss) :
    Calls Tryd.prog 143 #[.agg #[.slice oa ss.length cap], .int .i64 (s : Int), .string nm] w (PlsGot (lookP ss s nm).places w) := by
  have hb0 := (Below.refl w.heap.size w).alloc (Nat.le_refl _) (.cells #[.slice oa ss.length cap] 30)
  have C := Lib.hid (specWay_any ss hv hf oa cap s hs nm _ (hc.below hb0 (Nat.le_refl _)))
  have HB0 := Lib.hid hb0
  clear hv hf hc hb0 hs
  go_enter Tryd.func143, Tryd.ntmps143
  go_wp2_with fail
  refine C.out.mono ?_
  rintro e w1 ⟨u, rfl, hrow, hb⟩
  have HB := Lib.hid (HB0.out.trans (hb.mono HB0.out.size))
  have HR := Lib.hid (ownsRow_lower hrow HB0.out.size)
  clear hb hrow
  go_wp2
  go_ret
  exact ⟨_, rfl, HR.out, HB.out⟩
end Go.Proofs.YtppgdigcopkeiaaDoor
