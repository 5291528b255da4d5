/-
  The walk of the law FnExactConflictsOf: at every argument it returns true, and only new memory is written. Condition: the package-level errors hold errors.
-/
import Derived.Test.YtgbbhiihhcdpbaaGreatDoorJBZ
import Derived.Test.YtgbbhiihhcdpbaaGreatDoorJRZ
import Derived.Deep.RegionHeld3
namespace Go.Proofs.YtgbbhiihhcdpbaaGreatDoor
open Go Go.RowKit
theorem ownPl_lowerT {w : World} {B B' n : Nat} {oa : Option Addr} (h : OwnPl w B oa n) (hB : B' ≤ B) : OwnPl w B' oa n := by
  rcases h with h | ⟨g, vs, h1, h2, h3⟩
  · exact .inl h
  · exact .inr ⟨g, vs, h1, Nat.le_trans hB h2, h3⟩
theorem grow_cellT {W W' : World} {p : Addr} {v : Value} (hb : Below W.heap.size W W') (h : W.cell? p = some v) : W'.cell? p = some v := (hb.cell (World.block_lt_of_cell? _ _ h)).trans h
theorem held_ofT {w w1 W : World} {p0 p1 p2 : Addr} {v0 v1 v2 : Value} (c0 : w1.cell? p0 = some v0) (c1 : w1.cell? p1 = some v1) (c2 : w1.cell? p2 = some v2) (B1 : Below w.heap.size w w1) (hb : Below w1.heap.size w1 W) :
    W.cell? p0 = some v0 ∧ W.cell? p1 = some v1 ∧ W.cell? p2 = some v2 ∧ Below w.heap.size w W ∧ Below w1.heap.size w1 W :=
  ⟨grow_cellT hb c0, grow_cellT hb c1, grow_cellT hb c2, B1.trans (hb.mono B1.size), hb⟩
set_option maxRecDepth 100000 in
set_option maxHeartbeats 8000000 in
theorem lawExactConflictsOf (ss : List Sc) (oa : Option Addr) (cap : Nat) (a b : Int) (w : World) (hf : FitsScopes ss) (hI : I64Scopes ss) (hc : HoldsScopes w oa ss) (hE : FewErrs w) (ha : (Lit.int .i64 a).wf = true) (hb' : (Lit.int .i64 b).wf = true) :
    Calls Tryz.prog 7 #[.agg #[.slice oa ss.length cap], .agg #[.int .i64 a, .int .i64 b]] w fun e w' => e = .returned (.bool true) ∧ Below w.heap.size w w' := by
  have hb0 := ((Below.refl w.heap.size w).alloc (Nat.le_refl _) (.cells #[.slice oa ss.length cap] 54)).alloc (by simp) (.cells #[.int .i64 a, .int .i64 b] 59)
  have C0 := Lib.hid (szGraph_any ss oa cap 1048576 _ hf (hc.below hb0 (Nat.le_refl _)) (by omega) (by omega))
  have HB0 := Lib.hid hb0
  have R0 := Lib.hid ((Row.new w [.slice oa ss.length cap] 54).alloc (.cells #[.int .i64 a, .int .i64 b] 59))
  have hP0 := Row.new (w.alloc (.cells #[.slice oa ss.length cap] 54)) [.int .i64 a, .int .i64 b] 59
  rw [World.size_alloc] at hP0
  have P0 := Lib.hid hP0
  clear hP0
  by_cases hn : wScopes ss ≤ 1048576
  · have HF := Lib.hid (Fair.of_weight hf hI hn)
    rw [rest_pos (by omega)] at C0
    have h0 : (0 : Int) ≤ 1048576 - (wScopes ss : Int) := by omega
    have HC := Lib.hid hc
    have HE := Lib.hid hE
    have HW := Lib.hid hn
    have HWF := Lib.hid (And.intro ha hb')
    clear hn hc hE hb0 hf hI ha hb'
    go_enter Tryz.func7, Tryz.ntmps7
    go_wp2_with fail
    refine C0.out.mono ?_
    rintro e w1 ⟨rfl, hb1⟩
    have hB := belowS HB0.out hb1
    have R1 := Lib.hid (R0.out.below hb1 R0.out.lt)
    have P1 := Lib.hid (P0.out.below hb1 P0.out.lt)
    have c0 := R1.out.cell (i := 0) (by rfl)
    have p0 := P1.out.cell (i := 0) (by rfl)
    have p1 := P1.out.cell (i := 1) (by rfl)
    have B1 := Lib.hid hB
    clear hb1
    go_wp2
    go_cut [6, 7] (fun s6 s7 wx => ∃ (oW : Option Addr) (cW : Nat) (xs : List (Int × Int)) (q : Bool), s6 = .slice oW xs.length cW ∧ s7 = .bool q ∧ plVal (conflOk ss (a, b)) (conflP ss (a, b)) xs q ∧ ArgPlaces wx oW xs ∧ Below w1.heap.size w1 wx)
    case first =>
      go_region_held3 (fun w' => w'.cell? ⟨w.heap.size, 0, none⟩ = some (.slice oa ss.length cap) ∧ w'.cell? ⟨w.heap.size + 1, 0, none⟩ = some (.int .i64 a) ∧ w'.cell? ⟨w.heap.size + 1, 1, none⟩ = some (.int .i64 b) ∧ Below w.heap.size w w' ∧ Below w1.heap.size w1 w')
        (first
          | exact held_ofT c0 p0 p1 B1.out (Below.refl _ _)
          | exact held_ofT c0 p0 p1 B1.out (Below.refl _ _).drew
          | exact held_ofT c0 p0 p1 B1.out hBs
          | exact held_ofT c0 p0 p1 B1.out hBp
          | exact held_ofT c0 p0 p1 B1.out hBg)
        (first
          | (go_at_call 37; refine (toGraph_holds HF.out oa cap HC.out (And.left (And.right (And.right (And.right (by assumption)))))).mono ?_; rintro e wg ⟨gg, rfl, hhg, hbg⟩; have hBg := Below.trans (show Below w1.heap.size w1 _ from (And.right (And.right (And.right (And.right (by assumption)))))) (hbg.mono (Below.size (And.right (And.right (And.right (And.right (by assumption))))))))
          | (go_at_call 42; refine (toPlace_any a b _).mono ?_; rintro e wp ⟨rfl, hbp⟩; have hBp := Below.trans (show Below w1.heap.size w1 _ from (And.right (And.right (And.right (And.right (by assumption)))))) (hbp.mono (Below.size (And.right (And.right (And.right (And.right (by assumption))))))); try (have hhg := HoldsScopes.below hhg hbp (Nat.le_refl _)))
          | (go_at_call 32; refine (specConfl_any ss HF.out (Nat.le_trans (placed_weightH 0 ss) HW.out) _ _ a b _ hhg).mono ?_; intro e ws hgot; obtain ⟨oW, cW, xs, q, rfl, hv, hints, hbs⟩ := hgot.val; have hBs := Below.trans (show Below w1.heap.size w1 _ from (And.right (And.right (And.right (And.right (by assumption)))))) (hbs.mono (Below.size (And.right (And.right (And.right (And.right (by assumption)))))))))
      all_goals go_wp2
      all_goals go_meet
      all_goals exact ⟨oW, cW, xs, q, rfl, rfl, hv, hints, hBs⟩
    case rest =>
      obtain ⟨oW, cW, xs, b1, rfl, rfl, hv, hints, hbc⟩ := hcut
      obtain ⟨w3, rfl⟩ : ∃ w3, w3 = wc := ⟨wc, rfl⟩
      have V3 := Lib.hid hv
      have I3 := Lib.hid hints
      have hx6 := hv.small (fun h => by have h1 := cfUp_length ss (posOf (dclP ss) (a, b)).toNat (dclP ss).length; have h2 := h.2.1; unfold conflP; omega)
      have B3 := Lib.hid (belowS B1.out hbc)
      have R3 := Lib.hid (R1.out.below hbc R1.out.lt)
      have P3 := Lib.hid (P1.out.below hbc P1.out.lt)
      have c3 := R3.out.cell (i := 0) (by rfl)
      clear hbc hv hints c0 p0 p1
      go_wp2_with fail
      refine (toGraph_own HF.out.count HF.out.items oa cap HC.out B3.out).mono ?_
      rintro e w4 ⟨g4, vs4, rfl, hh4, ho4, hb4⟩
      have N4 := Lib.hid hb4
      have O4 := Lib.hid ho4
      have hbA := (Below.refl w4.heap.size w4).alloc (Nat.le_refl _) (.cells #[.slice (some ⟨g4, 0, none⟩) ss.length ss.length] 25)
      have RA := Lib.hid (Row.new w4 [.slice (some ⟨g4, 0, none⟩) ss.length ss.length] 25)
      have NA := Lib.hid (belowN N4.out hbA (Nat.le_refl _))
      have OA := Lib.hid (O4.out.below hbA)
      have HA := Lib.hid (hh4.below hbA (Nat.le_refl _))
      clear hb4 hh4 ho4 hbA c3
      have P4 := Lib.hid (P3.out.below NA.out P3.out.lt)
      have BA := Lib.hid (belowS B3.out NA.out)
      go_wp2
      have hsA : w4.heap.size ≤ (w4.alloc (.cells #[.slice (some ⟨g4, 0, none⟩) ss.length ss.length] 25)).heap.size := by simp
      generalize w4.alloc (.cells #[.slice (some ⟨g4, 0, none⟩) ss.length ss.length] 25) = wA at *
      have d0 := RA.out.cell (i := 0) (by rfl)
      have q0 := P4.out.cell (i := 0) (by rfl)
      have q1 := P4.out.cell (i := 1) (by rfl)
      go_cut [9, 10] (fun s9 s10 wx => ∃ (o5 : Option Addr) (c5 : Nat) (ys : List (Int × Int)) (q : Bool), s9 = .slice o5 ys.length c5 ∧ s10 = .bool q ∧ plVal (conflOk ss (a, b)) (conflP ss (a, b)) ys q ∧ ArgPlaces wx o5 ys ∧ OwnPl wx wA.heap.size o5 ys.length ∧ Below wA.heap.size wA wx)
      case first =>
        go_region_held3 (fun w' => w'.cell? ⟨w4.heap.size, 0, none⟩ = some (.slice (some ⟨g4, 0, none⟩) ss.length ss.length) ∧ w'.cell? ⟨w.heap.size + 1, 0, none⟩ = some (.int .i64 a) ∧ w'.cell? ⟨w.heap.size + 1, 1, none⟩ = some (.int .i64 b) ∧ Below w.heap.size w w' ∧ Below wA.heap.size wA w')
          (first
            | exact held_ofT d0 q0 q1 BA.out (Below.refl _ _)
            | exact held_ofT d0 q0 q1 BA.out (Below.refl _ _).drew
            | exact held_ofT d0 q0 q1 BA.out hBs
            | exact held_ofT d0 q0 q1 BA.out hBp)
          (first
            | (go_at_call 42; refine (toPlace_any a b _).mono ?_; rintro e wp ⟨rfl, hbp⟩; have hBp := Below.trans (show Below wA.heap.size wA _ from (And.right (And.right (And.right (And.right (by assumption)))))) (hbp.mono (Below.size (And.right (And.right (And.right (And.right (by assumption))))))))
            | (go_at_call 31; refine (implConfl_any ss HF.out _ _ a b _ (HA.out.below (show Below wA.heap.size wA _ from (And.right (And.right (And.right (And.right (by assumption)))))) (Nat.le_refl _)) (HE.out.at (And.left (And.right (And.right (And.right (by assumption))))))).mono ?_; intro e ws hgot; obtain ⟨o5, c5, ys, q, rfl, hv, hints, hw, hbs⟩ := hgot.val; have hw5 := ownPl_lowerT hw (Below.size (show Below wA.heap.size wA _ from (And.right (And.right (And.right (And.right (by assumption))))))); have hBs := Below.trans (show Below wA.heap.size wA _ from (And.right (And.right (And.right (And.right (by assumption)))))) (hbs.mono (Below.size (And.right (And.right (And.right (And.right (by assumption)))))))))
        all_goals go_wp2
        all_goals go_meet
        all_goals exact ⟨o5, c5, ys, q, rfl, rfl, hv, hints, hw5, hBs⟩
      case rest =>
        obtain ⟨o5, c5, ys, b', rfl, rfl, hv5, hi5, hw5, hb5⟩ := hcut
        obtain ⟨w5, rfl⟩ : ∃ w5, w5 = wc := ⟨wc, rfl⟩
        obtain ⟨rfl, rfl⟩ := hv5.same V3.out
        have N5 := Lib.hid (belowN NA.out hb5 (Nat.le_refl _))
        have RX := Lib.hid (RA.out.below hb5 RA.out.lt)
        have H5 := Lib.hid (HA.out.below hb5 (Nat.le_refl _))
        have O5 := Lib.hid (OA.out.below hb5)
        have I5 := Lib.hid hi5
        have W5 := Lib.hid hw5
        clear hb5 hv5 hi5 hw5 d0 q0 q1
        have hbb : (b' == b') = true := by simp
        go_wp2_with fail
        refine (eqPlaceS_arg ys o5 oW c5 cW _ (by omega) I5.out (I3.out.below N5.out)).mono ?_
        rintro e w6 ⟨rfl, hb6⟩
        have N6 := Lib.hid (belowN N5.out hb6 (Nat.le_refl _))
        have RX6 := Lib.hid (RX.out.below hb6 RX.out.lt)
        have H6 := Lib.hid (H5.out.below hb6 (Nat.le_refl _))
        have O6 := Lib.hid (O5.out.below hb6)
        have I6 := Lib.hid (I5.out.below hb6)
        have W6 := Lib.hid (W5.out.below hb6)
        have R6 := Lib.hid (R3.out.below N6.out R3.out.lt)
        have c6 := R6.out.cell (i := 0) (by rfl)
        have d6 := RX6.out.cell (i := 0) (by rfl)
        have c6' := (((Below.refl _ _).drew).cell (p := ⟨w.heap.size, 0, none⟩) R6.out.lt).trans c6
        have d6' := (((Below.refl _ _).drew).cell (p := ⟨w4.heap.size, 0, none⟩) RX6.out.lt).trans d6
        clear hb6
        go_wp2
        go_cut [51] (fun s wx => s = .bool false ∧ Below w6.heap.size w6 wx)
        case first =>
          go_region_with (first
            | (go_at_call 37; refine (toGraph_holds HF.out oa cap HC.out (belowS B3.out N6.out).drew).mono ?_; rintro e w7 ⟨g7, rfl, hh7, hb7⟩; have H7 := Lib.hid hh7; have B7 := Lib.hid (show Below w6.heap.size w6 w7 from ((Below.refl _ _).drew).trans hb7); have d7 := (RX6.out.below B7.out RX6.out.lt).cell (i := 0) (by rfl); clear hh7 hb7)
            | (go_at_call 39; refine (eqGraph_fair HF.out H6.out H7.out B7.out (Below.refl _ _)).mono ?_; rintro e w8 ⟨rfl, hb8⟩; have B8 := Lib.hid (belowS B7.out hb8); clear hb8))
          all_goals go_wp2
          all_goals go_meet
          all_goals exact ⟨rfl, B8.out⟩
        case rest =>
          obtain ⟨rfl, hbc⟩ := hcut
          have NC := Lib.hid (belowN N6.out hbc (Nat.le_refl _))
          have RXc := Lib.hid (RX6.out.below hbc RX6.out.lt)
          have OC := Lib.hid (O6.out.below hbc)
          have IC := Lib.hid (I6.out.below hbc)
          have WC := Lib.hid (W6.out.below hbc)
          have dc := RXc.out.cell (i := 0) (by rfl)
          clear hbc c6 d6 c6' d6'
          go_wp2_with fail
          refine (markGraph_any g4 _ _ _ vs4 ss 1 _ HW.out (by omega) (by omega) OC.out).mono ?_
          rintro e w7 ⟨rfl, hm7⟩
          have N7 := Lib.hid (NC.out.trans (hm7.below (Nat.le_refl _) NC.out.size))
          have W7 := Lib.hid (WC.out.mid hsA hm7)
          have I7 := Lib.hid (IC.out.mid_own WC.out hsA hm7)
          have hmk : decide ((1 : Int) + (marks ss : Int) < 0) = false := by simp; omega
          have hml : marks ss ≤ 3145728 := by have := marks_le ss; have := HW.out; omega
          clear hm7 dc
          go_wp2_with fail
          refine (eqPlaceS_arg ys o5 oW c5 cW _ (by omega) I7.out (I3.out.below N7.out)).mono ?_
          rintro e w8 ⟨rfl, hb8⟩
          have N8 := Lib.hid (belowN N7.out hb8 (Nat.le_refl _))
          have W8 := Lib.hid (W7.out.below hb8)
          clear hb8
          go_wp2_with fail
          refine (markPlaceS_any o5 ys.length c5 _ 1 _ (by omega) (by omega) (by omega) W8.out).mono ?_
          rintro e w9 ⟨rfl, hm9, hb9⟩
          have N9 := Lib.hid (N8.out.trans (hb9.mono (Nat.le_trans N4.out.size hsA)))
          have M9 := Lib.hid hm9
          clear hm9 hb9
          have hq0 : decide ((1 : Int) + 2 * (ys.length : Int) < 0) = false := by simp; omega
          have hqq : ((1 : Int) + 2 * (ys.length : Int) == 1 + 2 * (ys.length : Int)) = true := by simp
          go_wp2_with fail
          refine (heldPlaceS_any o5 ys.length c5 1 _ (by omega) (by omega) (by omega) M9.out).mono ?_
          rintro e w10 ⟨rfl, hb10⟩
          have N10 := Lib.hid (belowN N9.out hb10 (Nat.le_refl _))
          have M10 := Lib.hid (M9.out.below hb10)
          have R10 := Lib.hid (R3.out.below N10.out R3.out.lt)
          have c10 := R10.out.cell (i := 0) (by rfl)
          clear hb10
          have P10 := Lib.hid (P3.out.below N10.out P3.out.lt)
          have B10 := Lib.hid (belowS B3.out N10.out)
          have q0 := P10.out.cell (i := 0) (by rfl)
          have q1 := P10.out.cell (i := 1) (by rfl)
          go_wp2
          go_cut [14, 15] (fun s14 s15 wx => ∃ (o12 : Option Addr) (c12 : Nat) (zs : List (Int × Int)) (q : Bool), s14 = .slice o12 zs.length c12 ∧ s15 = .bool q ∧ plVal (conflOk ss (a, b)) (conflP ss (a, b)) zs q ∧ ArgPlaces wx o12 zs ∧ Below w10.heap.size w10 wx)
          case first =>
            go_region_held3 (fun w' => w'.cell? ⟨w.heap.size, 0, none⟩ = some (.slice oa ss.length cap) ∧ w'.cell? ⟨w.heap.size + 1, 0, none⟩ = some (.int .i64 a) ∧ w'.cell? ⟨w.heap.size + 1, 1, none⟩ = some (.int .i64 b) ∧ Below w.heap.size w w' ∧ Below w10.heap.size w10 w')
              (first
                | exact held_ofT c10 q0 q1 B10.out (Below.refl _ _)
                | exact held_ofT c10 q0 q1 B10.out (Below.refl _ _).drew
                | exact held_ofT c10 q0 q1 B10.out hBs
                | exact held_ofT c10 q0 q1 B10.out hBp
                | exact held_ofT c10 q0 q1 B10.out hBg)
              (first
                | (go_at_call 37; refine (toGraph_holds HF.out oa cap HC.out (And.left (And.right (And.right (And.right (by assumption)))))).mono ?_; rintro e wg ⟨gg, rfl, hhg, hbg⟩; have hBg := Below.trans (show Below w10.heap.size w10 _ from (And.right (And.right (And.right (And.right (by assumption)))))) (hbg.mono (Below.size (And.right (And.right (And.right (And.right (by assumption))))))))
                | (go_at_call 42; refine (toPlace_any a b _).mono ?_; rintro e wp ⟨rfl, hbp⟩; have hBp := Below.trans (show Below w10.heap.size w10 _ from (And.right (And.right (And.right (And.right (by assumption)))))) (hbp.mono (Below.size (And.right (And.right (And.right (And.right (by assumption))))))); try (have hhg := HoldsScopes.below hhg hbp (Nat.le_refl _)))
                | (go_at_call 31; refine (implConfl_any ss HF.out _ _ a b _ hhg (HE.out.at (And.left (And.right (And.right (And.right (by assumption))))))).mono ?_; intro e ws hgot; obtain ⟨o12, c12, zs, q, rfl, hv, hints, -, hbs⟩ := hgot.val; have hBs := Below.trans (show Below w10.heap.size w10 _ from (And.right (And.right (And.right (And.right (by assumption)))))) (hbs.mono (Below.size (And.right (And.right (And.right (And.right (by assumption)))))))))
            all_goals go_wp2
            all_goals go_meet
            all_goals exact ⟨o12, c12, zs, q, rfl, rfl, hv, hints, hBs⟩
          case rest =>
            obtain ⟨o12, c12, zs, b2, rfl, rfl, hv12, hi12, hbc⟩ := hcut
            obtain ⟨w12, rfl⟩ : ∃ w12, w12 = wc := ⟨wc, rfl⟩
            obtain ⟨rfl, rfl⟩ := hv12.same V3.out
            have N12 := Lib.hid (belowN N10.out hbc (Nat.le_refl _))
            have M12 := Lib.hid (M10.out.below hbc)
            have I12 := Lib.hid hi12
            clear hbc hv12 hi12 c10 q0 q1
            go_wp2_with fail
            refine (eqPlaceS_arg _ o12 oW c12 cW _ (by omega) I12.out (I3.out.below N12.out)).mono ?_
            rintro e w13 ⟨rfl, hb13⟩
            have N13 := Lib.hid (belowN N12.out hb13 (Nat.le_refl _))
            have M13 := Lib.hid (M12.out.below hb13)
            clear hb13
            go_wp2_with fail
            refine (heldPlaceS_any o5 _ c5 1 _ (by omega) (by omega) (by omega) M13.out).mono ?_
            rintro e w14 ⟨rfl, hb14⟩
            have N14 := Lib.hid (belowS B3.out (belowN N13.out hb14 (Nat.le_refl _)))
            clear hb14
            go_wp2
            go_ret
            exact ⟨rfl, N14.out⟩
  · rw [rest_neg (by omega)] at C0
    clear hn hc hE hb0 hf hI
    go_enter Tryz.func7, Tryz.ntmps7
    go_wp2_with fail
    refine C0.out.mono ?_
    rintro e w1 ⟨rfl, hb1⟩
    have B1 := Lib.hid (belowS HB0.out hb1)
    clear hb1
    go_wp2
    go_ret
    exact ⟨rfl, B1.out⟩
end Go.Proofs.YtgbbhiihhcdpbaaGreatDoor
