/-
  The walk of the law FnExactFewestGraph: at every argument it returns true, and only new memory is written. Condition: the package-level errors hold errors. (gen9laws.py writes this text.)
-/
import Derived.Test.YtgehpaojbnpbcaaGreatDoorJBZ
import Derived.Test.YtgehpaojbnpbcaaGreatDoorJTZ
import Derived.Test.YtgehpaojbnpbcaaGreatDoorWFewGZ
namespace Go.Proofs.YtgehpaojbnpbcaaGreatDoor
open Go Go.RowKit
theorem OwnGr.holdsAtF {w : World} {B n c : Nat} {o : Option Addr} {l : List Sc} {hs : List Value} (h : OwnGr w B (.slice o n c) l hs) : HoldsScopes w o l := by
  obtain ⟨ov, cv, he, hh⟩ := h.holds
  simp only [Value.slice.injEq] at he
  rw [he.1]
  exact hh
theorem below_alF (W : World) (o : Obj) : Below W.heap.size W (W.alloc o) := (Below.refl _ _).alloc (Nat.le_refl _) o
set_option maxRecDepth 100000 in
set_option maxHeartbeats 16000000 in
theorem lawExactFewestGraph (ss : List Sc) (oa : Option Addr) (cap : Nat) (w : World) (hf : FitsScopes ss) (hI : I64Scopes ss) (hc : HoldsScopes w oa ss) (hE : FewErrs w) :
    Calls Tryz.prog 3 #[.agg #[.slice oa ss.length cap]] w fun e w' => e = .returned (.bool true) ∧ Below w.heap.size w w' := by
  have hb0 := (Below.refl w.heap.size w).alloc (Nat.le_refl _) (.cells #[.slice oa ss.length cap] 24)
  have C0 := Lib.hid (szGraph_any ss oa cap 1048576 _ hf (hc.below hb0 (Nat.le_refl _)) (by omega) (by omega))
  have HB0 := Lib.hid hb0
  have R0 := Lib.hid (Row.new w [.slice oa ss.length cap] 24)
  by_cases hn : wScopes ss ≤ 1048576
  · have HF := Lib.hid (Fair.of_weight hf hI hn)
    rw [rest_pos (by omega)] at C0
    have h0 : (0 : Int) ≤ 1048576 - (wScopes ss : Int) := by omega
    have HC := Lib.hid hc
    have HE := Lib.hid hE
    have HW := Lib.hid hn
    clear hn hc hE hb0 hf hI
    go_enter Tryz.func3, Tryz.ntmps3
    go_wp2_with fail
    refine C0.out.mono ?_
    rintro e w1 ⟨rfl, hb1⟩
    have B1 := Lib.hid (belowS HB0.out hb1)
    have R1 := Lib.hid (R0.out.below hb1 R0.out.lt)
    have c1 := R1.out.cell (i := 0) (by rfl)
    clear hb1
    go_wp2_with fail
    refine (toGraph_holds HF.out oa cap HC.out B1.out).mono ?_
    rintro e w2 ⟨g2, rfl, hh2, hb2⟩
    have B2a := Lib.hid (belowS B1.out hb2)
    have R2a := Lib.hid (R1.out.below hb2 R1.out.lt)
    have H2 := Lib.hid hh2
    clear hb2 hh2 c1
    go_wp2_with fail
    refine (specFewG_any ss HF.out _ _ _ H2.out).mono ?_
    intro e w3 hgot
    obtain ⟨oW, cW, xs, hsW, ok, rfl, hv, hhW, hOW, hb3⟩ := hgot.val
    have hbx := hb3.trans (((Below.refl w3.heap.size w3).alloc (Nat.le_refl _) (.cells #[.slice oW xs.length cW] 28)).mono hb3.size)
    have V2 := Lib.hid hv
    have SM := Lib.hid (hv.small (fun h => fewOkG.small h))
    have B2 := Lib.hid (belowS B2a.out hbx)
    have R2 := Lib.hid (R2a.out.below hbx R2a.out.lt)
    have I2 := Lib.hid (Row.new w3 [.slice oW xs.length cW] 28)
    have W2 := Lib.hid (hhW.below ((Below.refl w3.heap.size w3).alloc (Nat.le_refl _) (.cells #[.slice oW xs.length cW] 28)) (Nat.le_refl _))
    have c2 := R2.out.cell (i := 0) (by rfl)
    clear hb3 hbx hv hgot hhW hOW
    go_wp2_with fail
    generalize (w3.alloc (.cells #[.slice oW xs.length cW] 28)) = wc at *
    refine (toGraph_own HF.out.count HF.out.items oa cap HC.out B2.out).mono ?_
    rintro e w4 ⟨g4, vs4, rfl, hh4, ho4, hb4⟩
    have hbA := hb4.trans ((below_alF w4 (.cells #[.slice (some ⟨g4, 0, none⟩) ss.length ss.length] 28)).mono hb4.size)
    have RA := Lib.hid (Row.new w4 [.slice (some ⟨g4, 0, none⟩) ss.length ss.length] 28)
    have NA := Lib.hid hbA
    have OA := Lib.hid (ho4.below (below_alF w4 (.cells #[.slice (some ⟨g4, 0, none⟩) ss.length ss.length] 28)))
    have HA := Lib.hid (hh4.below (below_alF w4 (.cells #[.slice (some ⟨g4, 0, none⟩) ss.length ss.length] 28)) (Nat.le_refl _))
    have BA := Lib.hid (belowS B2.out hbA)
    have HS4 := Lib.hid (below_alF w4 (.cells #[.slice (some ⟨g4, 0, none⟩) ss.length ss.length] 28)).size
    have R4 := Lib.hid (R2.out.below hbA R2.out.lt)
    have d0 := RA.out.cell (i := 0) (by rfl)
    clear hb4 hh4 ho4 hbA c2
    go_wp2_with fail
    generalize w4.alloc (.cells #[.slice (some ⟨g4, 0, none⟩) ss.length ss.length] 28) = wA at *
    refine (implFewG_any ss HF.out _ _ _ HA.out (HE.out.at BA.out)).mono ?_
    intro e w5 hgot
    obtain ⟨o9, c9, ys, hs9, ok9, rfl, hv9, hh9, hO9, hb5⟩ := hgot.val
    obtain ⟨rfl, rfl⟩ := V2.out.same hv9
    have hbx := hb5.trans (((Below.refl w5.heap.size w5).alloc (Nat.le_refl _) (.cells #[.slice o9 xs.length c9] 28)).mono hb5.size)
    have G9 : Hid (wA.heap.size ≤ w5.heap.size) := Lib.hid hb5.size
    have N5 := Lib.hid (belowN NA.out hbx (Nat.le_refl _))
    have RX5 := Lib.hid (RA.out.below hbx RA.out.lt)
    have H5 := Lib.hid (HA.out.below hbx (Nat.le_refl _))
    have O5 := Lib.hid (OA.out.below hbx)
    have J5 := Lib.hid (Row.new w5 [.slice o9 xs.length c9] 28)
    have G5 := Lib.hid (hO9.below ((Below.refl w5.heap.size w5).alloc (Nat.le_refl _) (.cells #[.slice o9 xs.length c9] 28)))
    have K5 := Lib.hid (hh9.below ((Below.refl w5.heap.size w5).alloc (Nat.le_refl _) (.cells #[.slice o9 xs.length c9] 28)) (Nat.le_refl _))
    have hbb : (ok == ok) = true := by simp
    have hbn : (ok != ok) = false := by simp
    have e6 := (I2.out.below N5.out I2.out.lt).cell (i := 0) (by rfl)
    have e9 := J5.out.cell (i := 0) (by rfl)
    have W5 := Lib.hid (W2.out.below N5.out (Nat.le_refl _))
    clear hb5 hbx hgot hv9 hh9 hO9 d0
    go_wp2_with fail
    generalize (w5.alloc (.cells #[.slice o9 xs.length c9] 28)) = wX at *
    refine (eqGraph_same xs o9 oW c9 cW _ (by have := SM.out.len; omega) (fun s hs => by have := SM.out.items s hs; omega) K5.out W5.out).mono ?_
    rintro e w6 ⟨rfl, hb6⟩
    have N6 := Lib.hid (belowN N5.out hb6 (Nat.le_refl _))
    have RX6 := Lib.hid (RX5.out.below hb6 RX5.out.lt)
    have H6 := Lib.hid (H5.out.below hb6 (Nat.le_refl _))
    have O6 := Lib.hid (O5.out.below hb6)
    have J6 := Lib.hid (J5.out.below hb6 J5.out.lt)
    have G6 := Lib.hid (G5.out.below hb6)
    have R6 := Lib.hid (R2.out.below N6.out R2.out.lt)
    clear hb6 e6 e9
    have c6 := R6.out.cell (i := 0) (by rfl)
    have d6 := RX6.out.cell (i := 0) (by rfl)
    have c6' := (((Below.refl _ _).drew).cell (p := ⟨w.heap.size, 0, none⟩) R6.out.lt).trans c6
    have d6' := (((Below.refl _ _).drew).cell (p := ⟨w4.heap.size, 0, none⟩) RX6.out.lt).trans d6
    go_wp2
    go_cut [45] (fun s wx => s = .bool false ∧ Below w6.heap.size w6 wx)
    case first =>
      go_region_with (first
        | (go_at_call 8; refine (toGraph_holds HF.out oa cap HC.out (belowS B2.out N6.out).drew).mono ?_; rintro e w7 ⟨g7, rfl, hh7, hb7⟩; have H7 := Lib.hid hh7; have B7 := Lib.hid (show Below w6.heap.size w6 w7 from ((Below.refl _ _).drew).trans hb7); have d7 := (RX6.out.below B7.out RX6.out.lt).cell (i := 0) (by rfl); clear hh7 hb7)
        | (go_at_call 10; refine (eqGraph_fair HF.out H6.out H7.out B7.out (Below.refl _ _)).mono ?_; rintro e w8 ⟨rfl, hb8⟩; have B8 := Lib.hid (belowS B7.out hb8); clear hb8))
      all_goals go_wp2
      all_goals go_meet
      all_goals exact ⟨rfl, B8.out⟩
    case rest =>
      obtain ⟨rfl, hbc⟩ := hcut
      have NC := Lib.hid (belowN N6.out hbc (Nat.le_refl _))
      have OC := Lib.hid (O6.out.below hbc)
      have JC := Lib.hid (J6.out.below hbc J6.out.lt)
      have GC := Lib.hid (G6.out.below hbc)
      have dc := (RX6.out.below hbc RX6.out.lt).cell (i := 0) (by rfl)
      clear hbc c6 d6 c6' d6'
      go_wp2_with fail
      refine (markGraph_any g4 _ _ _ vs4 ss 1 _ HW.out (by omega) (by omega) OC.out).mono ?_
      rintro e w7 ⟨rfl, hm7⟩
      have N7 := Lib.hid (NC.out.trans (hm7.below (Nat.le_refl _) NC.out.size))
      have J7 := Lib.hid (JC.out.same (hm7.rest w5.heap.size JC.out.lt (.inr (Nat.le_trans HS4.out G9.out))))
      have G7 := Lib.hid (GC.out.mid HS4.out hm7)
      have hmk : decide ((1 : Int) + (marks ss : Int) < 0) = false := by simp; omega
      have hml : marks ss ≤ 3145728 := by have := marks_le ss; have := HW.out; omega
      have e6 := (I2.out.below N7.out I2.out.lt).cell (i := 0) (by rfl)
      have e9 := J7.out.cell (i := 0) (by rfl)
      clear hm7 dc
      go_wp2_with fail
      refine (eqGraph_same xs o9 oW c9 cW _ (by have := SM.out.len; omega) (fun s hs => by have := SM.out.items s hs; omega) G7.out.holdsAtF (W2.out.below N7.out (Nat.le_refl _))).mono ?_
      rintro e w8 ⟨rfl, hb8⟩
      have N8 := Lib.hid (belowN N7.out hb8 (Nat.le_refl _))
      have J8 := Lib.hid (J7.out.below hb8 J7.out.lt)
      have G8 := Lib.hid (G7.out.below hb8)
      have e9 := J8.out.cell (i := 0) (by rfl)
      have hwA : wA.heap.size ≤ w8.heap.size := Nat.le_trans G9.out (Nat.le_of_lt J8.out.lt)
      have hmx := SM.out.marks
      clear hb8 e6
      go_wp2_with fail
      refine (markGraph_own (.slice o9 xs.length c9) wA.heap.size xs hs9 _ hwA (by have := SM.out.len; omega) (fun s hs => by have := SM.out.items s hs; omega) hmx G8.out).mono ?_
      rintro e w9 ⟨rfl, hm9, hb9, hk9⟩
      have N9 := Lib.hid (N8.out.trans (hb9.mono NA.out.size))
      have J9 := Lib.hid (hk9 w5.heap.size _ _ J8.out (by decide) (by decide))
      have M9 := Lib.hid hm9
      have e9 := J9.out.cell (i := 0) (by rfl)
      have hq0 : decide ((1 : Int) + (marks xs : Int) < 0) = false := by simp; omega
      have hqq : ((1 : Int) + (marks xs : Int) == 1 + (marks xs : Int)) = true := by simp
      have hqn : ((1 : Int) + (marks xs : Int) != 1 + (marks xs : Int)) = false := by simp
      clear hm9 hb9 hk9
      go_wp2_with fail
      refine (heldGraph_marked (.slice o9 xs.length c9) xs _ (by have := SM.out.len; omega) (fun s hs => by have := SM.out.items s hs; omega) hmx M9.out).mono ?_
      rintro e w10 ⟨rfl, hb10⟩
      have N10 := Lib.hid (belowN N9.out hb10 (Nat.le_refl _))
      have J10 := Lib.hid (J9.out.below hb10 J9.out.lt)
      have M10 := Lib.hid (M9.out.below hb10)
      have B10 := Lib.hid (belowS B2.out N10.out)
      have R10 := Lib.hid (R2.out.below N10.out R2.out.lt)
      have c0 := R10.out.cell (i := 0) (by rfl)
      clear hb10 e9
      go_wp2_with fail
      refine (toGraph_holds HF.out oa cap HC.out B10.out).mono ?_
      rintro e w11 ⟨g11, rfl, hh11, hb11⟩
      have N11 := Lib.hid (belowN N10.out hb11 (Nat.le_refl _))
      have H11 := Lib.hid hh11
      have J11 := Lib.hid (J10.out.below hb11 J10.out.lt)
      have M11 := Lib.hid (M10.out.below hb11)
      clear hb11 hh11 c0
      go_wp2_with fail
      refine (implFewG_any ss HF.out _ _ _ H11.out (HE.out.at (belowS B2.out N11.out))).mono ?_
      intro e w12 hgot
      obtain ⟨o14, c14, zs, hs14, ok14, rfl, hv14, hh14, hO14, hb12⟩ := hgot.val
      obtain ⟨rfl, rfl⟩ := V2.out.same hv14
      have hbx := hb12.trans (((Below.refl w12.heap.size w12).alloc (Nat.le_refl _) (.cells #[.slice o14 xs.length c14] 28)).mono hb12.size)
      have N12 := Lib.hid (belowN N11.out hbx (Nat.le_refl _))
      have J12 := Lib.hid (J11.out.below hbx J11.out.lt)
      have M12 := Lib.hid (M11.out.below hbx)
      have L12 := Lib.hid (Row.new w12 [.slice o14 xs.length c14] 28)
      have K12 := Lib.hid (hh14.below ((Below.refl w12.heap.size w12).alloc (Nat.le_refl _) (.cells #[.slice o14 xs.length c14] 28)) (Nat.le_refl _))
      have e14 := L12.out.cell (i := 0) (by rfl)
      have e6 := (I2.out.below N12.out I2.out.lt).cell (i := 0) (by rfl)
      have W12 := Lib.hid (W2.out.below N12.out (Nat.le_refl _))
      clear hb12 hbx hgot hv14 hh14 hO14
      go_wp2_with fail
      generalize (w12.alloc (.cells #[.slice o14 xs.length c14] 28)) = wY at *
      refine (eqGraph_same xs o14 oW c14 cW _ (by have := SM.out.len; omega) (fun s hs => by have := SM.out.items s hs; omega) K12.out W12.out).mono ?_
      rintro e w13 ⟨rfl, hb13⟩
      have N13 := Lib.hid (belowN N12.out hb13 (Nat.le_refl _))
      have J13 := Lib.hid (J12.out.below hb13 J12.out.lt)
      have M13 := Lib.hid (M12.out.below hb13)
      have e9 := J13.out.cell (i := 0) (by rfl)
      clear hb13 e14 e6
      go_wp2_with fail
      refine (heldGraph_marked (.slice o9 xs.length c9) xs _ (by have := SM.out.len; omega) (fun s hs => by have := SM.out.items s hs; omega) hmx M13.out).mono ?_
      rintro e w14 ⟨rfl, hb14⟩
      have N14 := Lib.hid (belowS B2.out (belowN N13.out hb14 (Nat.le_refl _)))
      clear hb14 e9
      go_wp2
      go_ret
      exact ⟨rfl, N14.out⟩
  · rw [rest_neg (by omega)] at C0
    clear hn hc hE hb0 hf hI
    go_enter Tryz.func3, Tryz.ntmps3
    go_wp2_with fail
    refine C0.out.mono ?_
    rintro e w1 ⟨rfl, hb1⟩
    have B1 := Lib.hid (belowS HB0.out hb1)
    clear hb1
    go_wp2
    go_ret
    exact ⟨rfl, B1.out⟩
end Go.Proofs.YtgehpaojbnpbcaaGreatDoor
