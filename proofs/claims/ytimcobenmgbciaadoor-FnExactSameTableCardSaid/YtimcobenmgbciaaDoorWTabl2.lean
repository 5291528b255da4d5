/-
  The walks of the given and of impl's SameTable. Conditions: the arguments' memory holds the graphs; impl's: the package-level errors hold errors.
-/
import Derived.Test.YtimcobenmgbciaaDoorWTabl
import Derived.Test.YtimcobenmgbciaaDoorWShapeS
import Derived.Test.YtimcobenmgbciaaDoorWChgS
namespace Go.Proofs.YtimcobenmgbciaaDoor
open Go Go.RowKit
/-- All items of two graphs mean the same. -/
def SameTab (ss tt : List Sc) : Prop := SameSh ss tt ∧ chgA ss tt = []
set_option maxRecDepth 100000 in
set_option maxHeartbeats 8000000 in
theorem specSameTable_any (ss tt : List Sc) (hF : Fair ss) (hG : Fair tt) (oa ob : Option Addr) (ca cb : Nat) (w : World) (hc : HoldsScopes w oa ss) (hd : HoldsScopes w ob tt) :
    Calls Tryd.prog 49 #[.agg #[.slice oa ss.length ca], .agg #[.slice ob tt.length cb]] w fun e w' => ∃ b : Bool, e = .returned (.bool b) ∧ (b = true ↔ SameTab ss tt) ∧ Below w.heap.size w w' := by
  have hb0 := ((Below.refl w.heap.size w).alloc (Nat.le_refl _) (.cells #[.slice oa ss.length ca] 25)).alloc (by simp) (.cells #[.slice ob tt.length cb] 25)
  have R1 := Lib.hid ((Row.new w [.slice oa ss.length ca] 25).alloc (.cells #[.slice ob tt.length cb] 25))
  have R2 := Row.new (w.alloc (.cells #[.slice oa ss.length ca] 25)) [.slice ob tt.length cb] 25
  rw [World.size_alloc] at R2
  have R2 := Lib.hid R2
  have C := Lib.hid (specSameShape_any ss tt hF hG oa ob ca cb _ (hc.below hb0 (Nat.le_refl _)) (hd.below hb0 (Nat.le_refl _)))
  have HB := Lib.hid hb0
  have HF := Lib.hid hF
  have HG := Lib.hid hG
  have HC := Lib.hid hc
  have HD := Lib.hid hd
  have g1 := R1.out.cell (i := 0) (v := .slice oa ss.length ca) (by rfl)
  have g2 := R2.out.cell (i := 0) (v := .slice ob tt.length cb) (by rfl)
  clear hF hG hc hd hb0
  go_enter Tryd.func49, Tryd.ntmps49
  go_wp2_with fail
  refine C.out.mono ?_
  rintro e w1 ⟨b, rfl, hv, hb1⟩
  have HV := Lib.hid hv
  have HB1 := Lib.hid (HB.out.trans (hb1.mono HB.out.size))
  have R1a := Lib.hid (R1.out.below hb1 R1.out.lt)
  have R2a := Lib.hid (R2.out.below hb1 R2.out.lt)
  have g1 := R1a.out.cell (i := 0) (v := .slice oa ss.length ca) (by rfl)
  have g2 := R2a.out.cell (i := 0) (v := .slice ob tt.length cb) (by rfl)
  clear hv hb1
  cases b
  · have HN : Hid (¬ SameTab ss tt) := Lib.hid (fun h => by have := HV.out.2 h.1; cases this)
    go_wp2
    go_ret
    exact ⟨false, rfl, ⟨fun h => (by cases h), fun h => absurd h HN.out⟩, HB1.out⟩
  · have HSH := Lib.hid (HV.out.1 rfl)
    have C2 := Lib.hid (l7Changes_any ss tt HSH.out.1 HSH.out.2.1 HF.out.fits HG.out.fits (SameSh.sub HSH.out.2.2) oa ob ca cb w1 (HC.out.below HB1.out (Nat.le_refl _)) (HD.out.below HB1.out (Nat.le_refl _)))
    go_wp2_with fail
    refine C2.out.mono ?_
    rintro e w2 ⟨v2, rfl, hr, hb2⟩
    have HB2 := Lib.hid (HB1.out.trans (hb2.mono HB1.out.size))
    obtain ⟨o2, c2, rfl⟩ := ownsRow_slice hr
    clear hr hb2
    by_cases hz : chgA ss tt = []
    · have HS : Hid (SameTab ss tt) := Lib.hid ⟨HSH.out, hz⟩
      have k0 : (((chgA ss tt).length : Int) == 0) = true := by rw [hz]; rfl
      clear hz
      go_wp2
      go_ret
      exact ⟨true, rfl, ⟨fun _ => HS.out, fun _ => rfl⟩, HB2.out⟩
    · have HN : Hid (¬ SameTab ss tt) := Lib.hid (fun h => hz h.2)
      have k0 : (((chgA ss tt).length : Int) == 0) = false := beq_eq_false_iff_ne.2 (by have := List.length_pos_iff.2 hz; omega)
      clear hz
      go_wp2
      go_ret
      exact ⟨false, rfl, ⟨fun h => (by cases h), fun h => absurd h HN.out⟩, HB2.out⟩
set_option maxRecDepth 100000 in
set_option maxHeartbeats 8000000 in
theorem implSameTable_any (ss tt : List Sc) (hF : Fair ss) (hG : Fair tt) (oa ob : Option Addr) (ca cb : Nat) (w : World) (hc : HoldsScopes w oa ss) (hd : HoldsScopes w ob tt) (hE : TreeErrs w) :
    Calls Tryd.prog 50 #[.agg #[.slice oa ss.length ca], .agg #[.slice ob tt.length cb]] w fun e w' => ∃ b : Bool, e = .returned (.bool b) ∧ (b = true ↔ SameTab ss tt) ∧ Below w.heap.size w w' := by
  have hb0 := ((Below.refl w.heap.size w).alloc (Nat.le_refl _) (.cells #[.slice oa ss.length ca] 25)).alloc (by simp) (.cells #[.slice ob tt.length cb] 25)
  have R1 := Lib.hid ((Row.new w [.slice oa ss.length ca] 25).alloc (.cells #[.slice ob tt.length cb] 25))
  have R2 := Row.new (w.alloc (.cells #[.slice oa ss.length ca] 25)) [.slice ob tt.length cb] 25
  rw [World.size_alloc] at R2
  have R2 := Lib.hid R2
  have C := Lib.hid (implSameShape_any ss tt hF hG oa ob ca cb _ (hc.below hb0 (Nat.le_refl _)) (hd.below hb0 (Nat.le_refl _)) (hE.below hb0 hE.size))
  have HB := Lib.hid hb0
  have HF := Lib.hid hF
  have HG := Lib.hid hG
  have HC := Lib.hid hc
  have HD := Lib.hid hd
  have HE := Lib.hid hE
  have g1 := R1.out.cell (i := 0) (v := .slice oa ss.length ca) (by rfl)
  have g2 := R2.out.cell (i := 0) (v := .slice ob tt.length cb) (by rfl)
  clear hF hG hc hd hb0
  go_enter Tryd.func50, Tryd.ntmps50
  go_wp2_with fail
  refine C.out.mono ?_
  rintro e w1 ⟨b, rfl, hv, hb1⟩
  have HV := Lib.hid hv
  have HB1 := Lib.hid (HB.out.trans (hb1.mono HB.out.size))
  have R1a := Lib.hid (R1.out.below hb1 R1.out.lt)
  have R2a := Lib.hid (R2.out.below hb1 R2.out.lt)
  have g1 := R1a.out.cell (i := 0) (v := .slice oa ss.length ca) (by rfl)
  have g2 := R2a.out.cell (i := 0) (v := .slice ob tt.length cb) (by rfl)
  clear hv hb1
  cases b
  · have HN : Hid (¬ SameTab ss tt) := Lib.hid (fun h => by have := HV.out.2 h.1; cases this)
    go_wp2
    go_ret
    exact ⟨false, rfl, ⟨fun h => (by cases h), fun h => absurd h HN.out⟩, HB1.out⟩
  · have HSH := Lib.hid (HV.out.1 rfl)
    have C2 := Lib.hid (resolutionOf_any ss HF.out oa ca w1 (HC.out.below HB1.out (Nat.le_refl _)) (HE.out.below HB1.out HE.out.size))
    go_wp2_with fail
    refine C2.out.mono ?_
    rintro e w2 (⟨hn, _⟩ | ⟨_, RA, TA, M1, M2, MR, va, dsA, lA, rfl, hb2, hRA⟩)
    · exact absurd HSH.out.1 hn
    have HB2 := Lib.hid (HB1.out.trans (hb2.mono HB1.out.size))
    have R2b := Lib.hid (R2a.out.below hb2 R2a.out.lt)
    have g2 := R2b.out.cell (i := 0) (v := .slice ob tt.length cb) (by rfl)
    have HRA := Lib.hid hRA
    have C3 := Lib.hid (resolutionOf_any tt HG.out ob cb w2 (HD.out.below HB2.out (Nat.le_refl _)) (HE.out.below HB2.out HE.out.size))
    clear hb2 hRA
    go_wp2_with fail
    refine C3.out.mono ?_
    rintro e w3 (⟨hn, _⟩ | ⟨_, RB, TB, N1, N2, NR, vb, dsB, lB, rfl, hb3, hRB⟩)
    · exact absurd HSH.out.2.1 hn
    have HB3 := Lib.hid (HB2.out.trans (hb3.mono HB2.out.size))
    have C4 := Lib.hid (sameTable_any HSH.out.1 HSH.out.2.1 (SameSh.sub HSH.out.2.2) (HRA.out.below hb3) hRB)
    clear hb3 hRB
    go_wp2_with fail
    refine C4.out.mono ?_
    rintro e w4 ⟨q, rfl, hq, hb4⟩
    have HB4 := Lib.hid (HB3.out.trans (hb4.mono HB3.out.size))
    have HQ : Hid (q = true ↔ SameTab ss tt) := Lib.hid ⟨fun h => ⟨HSH.out, hq.1 h⟩, fun h => hq.2 h.2⟩
    clear hq hb4
    go_wp2
    go_ret
    exact ⟨q, rfl, HQ.out, HB4.out⟩
end Go.Proofs.YtimcobenmgbciaaDoor
