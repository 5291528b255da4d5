/-
  The walk of the law FnExactBadNaming: at every argument it returns true, and only new memory is written. Condition: the package-level errors hold errors.
-/
import Derived.Test.YtgehpaojbnpbcaaGreatDoorJBZ
import Derived.Test.YtgehpaojbnpbcaaGreatDoorWGdnSZ
import Derived.Test.YtgehpaojbnpbcaaGreatDoorWBdnIZ
namespace Go.Proofs.YtgehpaojbnpbcaaGreatDoor
open Go Go.RowKit
set_option maxRecDepth 100000 in
set_option maxHeartbeats 4000000 in
theorem lawExactBadNaming (ss : List Sc) (oa : Option Addr) (cap : Nat) (nm : ByteArray) (w : World) (hf : FitsScopes ss) (hI : I64Scopes ss) (hc : HoldsScopes w oa ss) (hE : NmgErrs w) :
    Calls Tryz.prog 5 #[.agg #[.slice oa ss.length cap], .string nm] w fun e w' => e = .returned (.bool true) ∧ Below w.heap.size w w' := by
  have hb0 := (Below.refl w.heap.size w).alloc (Nat.le_refl _) (.cells #[.slice oa ss.length cap] 24)
  have C0 := Lib.hid (szGraph_any ss oa cap 1048576 _ hf (hc.below hb0 (Nat.le_refl _)) (by omega) (by omega))
  have HB0 := Lib.hid hb0
  have R0 := Lib.hid (Row.new w [.slice oa ss.length cap] 24)
  by_cases hs : 1048576 < nm.size
  · have hs' : (1048576 : Int) < (nm.size : Int) := by omega
    clear C0 hc hE hf hI hs
    go_enter Tryz.func5, Tryz.ntmps5
    go_wp2
    go_ret
    exact ⟨rfl, HB0.out⟩
  have hs' : ¬ (1048576 : Int) < (nm.size : Int) := by omega
  have HNA := Lib.hid (Nat.not_lt.1 hs)
  clear hs
  by_cases hn : wScopes ss ≤ 1048576
  · have HF := Lib.hid (Fair.of_weight hf hI hn)
    rw [rest_pos (by omega)] at C0
    have h0 : (0 : Int) ≤ 1048576 - (wScopes ss : Int) := by omega
    have HC := Lib.hid hc
    have HE := Lib.hid hE
    have HW := Lib.hid hn
    clear hn hc hE hb0 hf hI
    go_enter Tryz.func5, Tryz.ntmps5
    go_wp2_with fail
    refine C0.out.mono ?_
    rintro e w1 ⟨rfl, hb1⟩
    have B1 := Lib.hid (belowS HB0.out hb1)
    have R1 := Lib.hid (R0.out.below hb1 R0.out.lt)
    have c1 := R1.out.cell (i := 0) (by rfl)
    clear hb1
    go_wp2_with fail
    refine (toGraph_holds HF.out oa cap HC.out B1.out).mono ?_
    rintro e w2 ⟨g2, rfl, hh2, hb2⟩
    have B2 := Lib.hid (belowS B1.out hb2)
    have R2 := Lib.hid (R1.out.below hb2 R1.out.lt)
    have H2 := Lib.hid hh2
    clear hb2 hh2 c1
    go_wp2_with fail
    refine (specBadNaming_any ss HF.out _ _ nm HNA.out _ H2.out).mono ?_
    intro e w3 hgot
    obtain ⟨oW, cW, xs, b, rfl, hv, hints, hb3⟩ := hgot.val
    have V3 := Lib.hid hv
    have I3 := Lib.hid hints
    have hx6 := hv.small (fun h => by have := filtL_short h.1.1 (chgAB ss (nmgG ss nm)); rw [chgA_eq]; omega)
    have B3 := Lib.hid (belowS B2.out hb3)
    have R3 := Lib.hid (R2.out.below hb3 R2.out.lt)
    have c3 := R3.out.cell (i := 0) (by rfl)
    clear hb3 hv hgot hints
    go_wp2_with fail
    refine (toGraph_own HF.out.count HF.out.items oa cap HC.out B3.out).mono ?_
    rintro e w4 ⟨g4, vs4, rfl, hh4, ho4, hb4⟩
    have N4 := Lib.hid hb4
    have O4 := Lib.hid ho4
    have hbA := (Below.refl w4.heap.size w4).alloc (Nat.le_refl _) (.cells #[.slice (some ⟨g4, 0, none⟩) ss.length ss.length] 28)
    have RA := Lib.hid (Row.new w4 [.slice (some ⟨g4, 0, none⟩) ss.length ss.length] 28)
    have NA := Lib.hid (belowN N4.out hbA (Nat.le_refl _))
    have OA := Lib.hid (O4.out.below hbA)
    have HA := Lib.hid (hh4.below hbA (Nat.le_refl _))
    clear hb4 hh4 ho4 hbA c3
    go_wp2_with fail
    refine (implBadNaming_any ss HF.out _ _ nm HNA.out _ HA.out (HE.out.at (belowS B3.out NA.out))).mono ?_
    intro e w5 hgot5
    obtain ⟨o5, c5, ys, b', rfl, hv5, hi5, hw5, hb5⟩ := hgot5.val
    obtain ⟨rfl, rfl⟩ := hv5.same V3.out
    have N5 := Lib.hid (belowN NA.out hb5 (Nat.le_refl _))
    have RX := Lib.hid (RA.out.below hb5 RA.out.lt)
    have H5 := Lib.hid (HA.out.below hb5 (Nat.le_refl _))
    have O5 := Lib.hid (OA.out.below hb5)
    have I5 := Lib.hid hi5
    have W5 := Lib.hid hw5
    clear hb5 hv5 hgot5 hi5 hw5
    have hbb : (b' == b') = true := by simp
    go_wp2_with fail
    refine (eqPlaceS_arg ys o5 oW c5 cW _ (by omega) I5.out (I3.out.below N5.out)).mono ?_
    rintro e w6 ⟨rfl, hb6⟩
    have N6 := Lib.hid (belowN N5.out hb6 (Nat.le_refl _))
    have RX6 := Lib.hid (RX.out.below hb6 RX.out.lt)
    have H6 := Lib.hid (H5.out.below hb6 (Nat.le_refl _))
    have O6 := Lib.hid (O5.out.below hb6)
    have I6 := Lib.hid (I5.out.below hb6)
    have W6 := Lib.hid (W5.out.below hb6)
    have R6 := Lib.hid (R3.out.below N6.out R3.out.lt)
    have c6 := R6.out.cell (i := 0) (by rfl)
    have d6 := RX6.out.cell (i := 0) (by rfl)
    have c6' := (((Below.refl _ _).drew).cell (p := ⟨w.heap.size, 0, none⟩) R6.out.lt).trans c6
    have d6' := (((Below.refl _ _).drew).cell (p := ⟨w4.heap.size, 0, none⟩) RX6.out.lt).trans d6
    clear hb6
    go_wp2
    go_cut [52] (fun s wx => s = .bool false ∧ Below w6.heap.size w6 wx)
    case first =>
      go_region_with (first
        | (go_at_call 8; refine (toGraph_holds HF.out oa cap HC.out (belowS B3.out N6.out).drew).mono ?_; rintro e w7 ⟨g7, rfl, hh7, hb7⟩; have H7 := Lib.hid hh7; have B7 := Lib.hid (show Below w6.heap.size w6 w7 from ((Below.refl _ _).drew).trans hb7); have d7 := (RX6.out.below B7.out RX6.out.lt).cell (i := 0) (by rfl); clear hh7 hb7)
        | (go_at_call 10; refine (eqGraph_fair HF.out H6.out H7.out B7.out (Below.refl _ _)).mono ?_; rintro e w8 ⟨rfl, hb8⟩; have B8 := Lib.hid (belowS B7.out hb8); clear hb8))
      all_goals go_wp2
      all_goals go_meet
      all_goals exact ⟨rfl, B8.out⟩
    case rest =>
      obtain ⟨rfl, hbc⟩ := hcut
      have NC := Lib.hid (belowN N6.out hbc (Nat.le_refl _))
      have RXc := Lib.hid (RX6.out.below hbc RX6.out.lt)
      have OC := Lib.hid (O6.out.below hbc)
      have IC := Lib.hid (I6.out.below hbc)
      have WC := Lib.hid (W6.out.below hbc)
      have dc := RXc.out.cell (i := 0) (by rfl)
      clear hbc c6 d6 c6' d6'
      go_wp2_with fail
      refine (markGraph_any g4 _ _ _ vs4 ss 1 _ HW.out (by omega) (by omega) OC.out).mono ?_
      rintro e w7 ⟨rfl, hm7⟩
      have N7 := Lib.hid (NC.out.trans (hm7.below (Nat.le_refl _) NC.out.size))
      have W7 := Lib.hid (WC.out.mid (by simp) hm7)
      have I7 := Lib.hid (IC.out.mid_own WC.out (by simp) hm7)
      have hmk : decide ((1 : Int) + (marks ss : Int) < 0) = false := by simp; omega
      have hml : marks ss ≤ 3145728 := by have := marks_le ss; have := HW.out; omega
      clear hm7 dc
      go_wp2_with fail
      refine (eqPlaceS_arg ys o5 oW c5 cW _ (by omega) I7.out (I3.out.below N7.out)).mono ?_
      rintro e w8 ⟨rfl, hb8⟩
      have N8 := Lib.hid (belowN N7.out hb8 (Nat.le_refl _))
      have W8 := Lib.hid (W7.out.below hb8)
      clear hb8
      go_wp2_with fail
      refine (markPlaceS_any o5 ys.length c5 _ 1 _ (by omega) (by omega) (by omega) W8.out).mono ?_
      rintro e w9 ⟨rfl, hm9, hb9⟩
      have N9 := Lib.hid (N8.out.trans (hb9.mono (Nat.le_trans N4.out.size (by simp))))
      have M9 := Lib.hid hm9
      clear hm9 hb9
      have hq0 : decide ((1 : Int) + 2 * (ys.length : Int) < 0) = false := by simp; omega
      have hqq : ((1 : Int) + 2 * (ys.length : Int) == 1 + 2 * (ys.length : Int)) = true := by simp
      go_wp2_with fail
      refine (heldPlaceS_any o5 ys.length c5 1 _ (by omega) (by omega) (by omega) M9.out).mono ?_
      rintro e w10 ⟨rfl, hb10⟩
      have N10 := Lib.hid (belowN N9.out hb10 (Nat.le_refl _))
      have M10 := Lib.hid (M9.out.below hb10)
      have R10 := Lib.hid (R3.out.below N10.out R3.out.lt)
      have c10 := R10.out.cell (i := 0) (by rfl)
      clear hb10
      go_wp2_with fail
      refine (toGraph_holds HF.out oa cap HC.out (belowS B3.out N10.out)).mono ?_
      rintro e w11 ⟨g11, rfl, hh11, hb11⟩
      have N11 := Lib.hid (belowN N10.out hb11 (Nat.le_refl _))
      have M11 := Lib.hid (M10.out.below hb11)
      have H11 := Lib.hid hh11
      clear hb11 hh11 c10
      go_wp2_with fail
      refine (implBadNaming_any ss HF.out _ _ nm HNA.out _ H11.out (HE.out.at (belowS B3.out N11.out))).mono ?_
      intro e w12 hgot12
      obtain ⟨o12, c12, zs, b2, rfl, hv12, hi12, -, hb12⟩ := hgot12.val
      obtain ⟨rfl, rfl⟩ := hv12.same V3.out
      have N12 := Lib.hid (belowN N11.out hb12 (Nat.le_refl _))
      have M12 := Lib.hid (M11.out.below hb12)
      have I12 := Lib.hid hi12
      clear hb12 hv12 hgot12 hi12
      go_wp2_with fail
      refine (eqPlaceS_arg _ o12 oW c12 cW _ (by omega) I12.out (I3.out.below N12.out)).mono ?_
      rintro e w13 ⟨rfl, hb13⟩
      have N13 := Lib.hid (belowN N12.out hb13 (Nat.le_refl _))
      have M13 := Lib.hid (M12.out.below hb13)
      clear hb13
      go_wp2_with fail
      refine (heldPlaceS_any o5 _ c5 1 _ (by omega) (by omega) (by omega) M13.out).mono ?_
      rintro e w14 ⟨rfl, hb14⟩
      have N14 := Lib.hid (belowS B3.out (belowN N13.out hb14 (Nat.le_refl _)))
      clear hb14
      go_wp2
      go_ret
      exact ⟨rfl, N14.out⟩
  · rw [rest_neg (by omega)] at C0
    clear hn hc hE hb0 hf hI
    go_enter Tryz.func5, Tryz.ntmps5
    go_wp2_with fail
    refine C0.out.mono ?_
    rintro e w1 ⟨rfl, hb1⟩
    have B1 := Lib.hid (belowS HB0.out hb1)
    clear hb1
    go_wp2
    go_ret
    exact ⟨rfl, B1.out⟩
end Go.Proofs.YtgehpaojbnpbcaaGreatDoor
