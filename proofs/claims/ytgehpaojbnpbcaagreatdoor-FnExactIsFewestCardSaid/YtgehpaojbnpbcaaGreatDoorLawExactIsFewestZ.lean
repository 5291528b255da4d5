/-
  The walk of the law FnExactIsFewest: at every argument it returns true, and only new memory is written. Condition: the package-level errors hold errors. (gen9laws.py writes this text.)
-/
import Derived.Test.YtgehpaojbnpbcaaGreatDoorJBZ
import Derived.Test.YtgehpaojbnpbcaaGreatDoorWIsFewZ
namespace Go.Proofs.YtgehpaojbnpbcaaGreatDoor
open Go Go.RowKit
set_option maxRecDepth 100000 in
set_option maxHeartbeats 4000000 in
theorem lawExactIsFewest (ss : List Sc) (oa : Option Addr) (cap : Nat)  (w : World) (hf : FitsScopes ss) (hI : I64Scopes ss) (hc : HoldsScopes w oa ss) (hE : FewErrs w) :
    Calls Tryz.prog 4 #[.agg #[.slice oa ss.length cap]] w fun e w' => e = .returned (.bool true) ∧ Below w.heap.size w w' := by
  have hb0 := (Below.refl w.heap.size w).alloc (Nat.le_refl _) (.cells #[.slice oa ss.length cap] 24)
  have C0 := Lib.hid (szGraph_any ss oa cap 1048576 _ hf (hc.below hb0 (Nat.le_refl _)) (by omega) (by omega))
  have HB0 := Lib.hid hb0
  have R0 := Lib.hid (Row.new w [.slice oa ss.length cap] 24)
  by_cases hn : wScopes ss ≤ 1048576
  · have HF := Lib.hid (Fair.of_weight hf hI hn)
    rw [rest_pos (by omega)] at C0
    have h0 : (0 : Int) ≤ 1048576 - (wScopes ss : Int) := by omega
    have HC := Lib.hid hc
    have HE := Lib.hid hE
    have HW := Lib.hid hn
    clear hn hc hE hb0 hf hI
    go_enter Tryz.func4, Tryz.ntmps4
    go_wp2_with fail
    refine C0.out.mono ?_
    rintro e w1 ⟨rfl, hb1⟩
    have B1 := Lib.hid (belowS HB0.out hb1)
    have R1 := Lib.hid (R0.out.below hb1 R0.out.lt)
    have c1 := R1.out.cell (i := 0) (by rfl)
    clear hb1
    go_wp2_with fail
    refine (toGraph_holds HF.out oa cap HC.out B1.out).mono ?_
    rintro e w2 ⟨g2, rfl, hh2, hb2⟩
    have B2 := Lib.hid (belowS B1.out hb2)
    have R2 := Lib.hid (R1.out.below hb2 R1.out.lt)
    have H2 := Lib.hid hh2
    clear hb2 hh2 c1
    go_wp2_with fail
    refine (specIsFew_any ss HF.out _ _ _ H2.out).mono ?_
    intro e w3 hgot
    obtain ⟨q, rfl, hv, hb3⟩ := hgot
    have V3 := Lib.hid hv
    have B3 := Lib.hid (belowS B2.out hb3)
    have R3 := Lib.hid (R2.out.below hb3 R2.out.lt)
    have c3 := R3.out.cell (i := 0) (by rfl)
    clear hb3 hv
    go_wp2_with fail
    refine (toGraph_holds HF.out oa cap HC.out B3.out).mono ?_
    rintro e w4 ⟨g4, rfl, hh4, hb4⟩
    have B4 := Lib.hid (belowS B3.out hb4)
    have hbA := (Below.refl w4.heap.size w4).alloc (Nat.le_refl _) (.cells #[.slice (some ⟨g4, 0, none⟩) ss.length ss.length] 28)
    have RA := Lib.hid (Row.new w4 [.slice (some ⟨g4, 0, none⟩) ss.length ss.length] 28)
    have BA := Lib.hid (belowS B4.out hbA)
    have R4 := Lib.hid ((R3.out.below hb4 R3.out.lt).alloc (.cells #[.slice (some ⟨g4, 0, none⟩) ss.length ss.length] 28))
    have HA := Lib.hid (hh4.below hbA (Nat.le_refl _))
    clear hb4 hh4 hbA
    go_wp2_with fail
    refine (implIsFew_any ss HF.out _ _ _ HA.out (HE.out.at BA.out)).mono ?_
    intro e w5 hgot5
    obtain ⟨q', rfl, hv5, hb5⟩ := hgot5
    obtain rfl : q' = q := hv5.trans V3.out.symm
    have B5 := Lib.hid (belowS BA.out hb5)
    have R5 := Lib.hid (R4.out.below hb5 R4.out.lt)
    have RX := Lib.hid (RA.out.below hb5 RA.out.lt)
    have H5 := Lib.hid (HA.out.below hb5 (Nat.le_refl _))
    clear hb5 hv5
    have hbb : (q' != q') = false := by simp
    have c5 := R5.out.cell (i := 0) (by rfl)
    have d5 := RX.out.cell (i := 0) (by rfl)
    have c5' := (((Below.refl _ _).drew).cell (p := ⟨w.heap.size, 0, none⟩) R5.out.lt).trans c5
    have d5' := (((Below.refl _ _).drew).cell (p := ⟨w4.heap.size, 0, none⟩) RX.out.lt).trans d5
    go_wp2
    go_cut [26] (fun s wx => s = .bool false ∧ Below w5.heap.size w5 wx)
    case first =>
      go_region_with (first
        | (go_at_call 8; refine (toGraph_holds HF.out oa cap HC.out B5.out.drew).mono ?_; rintro e w6 ⟨g6, rfl, hh6, hb6⟩; have H6 := Lib.hid hh6; have B6 := Lib.hid (show Below w5.heap.size w5 w6 from ((Below.refl _ _).drew).trans hb6); have d6 := (RX.out.below B6.out RX.out.lt).cell (i := 0) (by rfl); clear hh6 hb6)
        | (go_at_call 10; refine (eqGraph_fair HF.out H5.out H6.out B6.out (Below.refl _ _)).mono ?_; rintro e w7 ⟨rfl, hb7⟩; have B7 := Lib.hid (belowS B6.out hb7); clear hb7))
      all_goals go_wp2
      all_goals go_meet
      all_goals exact ⟨rfl, B7.out⟩
    case rest =>
      obtain ⟨rfl, hbc⟩ := hcut
      have BE := Lib.hid (belowS B5.out hbc)
      clear hbc
      go_wp2
      go_ret
      exact ⟨rfl, BE.out⟩
  · rw [rest_neg (by omega)] at C0
    clear hn hc hE hb0 hf hI
    go_enter Tryz.func4, Tryz.ntmps4
    go_wp2_with fail
    refine C0.out.mono ?_
    rintro e w1 ⟨rfl, hb1⟩
    have B1 := Lib.hid (belowS HB0.out hb1)
    clear hb1
    go_wp2
    go_ret
    exact ⟨rfl, B1.out⟩
end Go.Proofs.YtgehpaojbnpbcaaGreatDoor
