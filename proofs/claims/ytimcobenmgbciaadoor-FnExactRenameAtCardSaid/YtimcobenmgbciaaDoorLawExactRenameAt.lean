/-
  The walk of the law FnExactRenameAt: at every argument it returns true, and only new memory is written. Condition: the package-level errors hold errors. (The results are graphs that lie in boxes; genlawgrp.py writes this text.)
-/
import Derived.Test.YtimcobenmgbciaaDoorGrBoxP
import Derived.Test.YtimcobenmgbciaaDoorWRenI
namespace Go.Proofs.YtimcobenmgbciaaDoor
open Go Go.RowKit
set_option maxRecDepth 100000 in
set_option maxHeartbeats 16000000 in
theorem lawExactRenameAt (ss : List Sc) (oa : Option Addr) (cap : Nat) (a b : Int) (nm : ByteArray) (w : World) (hf : FitsScopes ss) (hI : I64Scopes ss) (hc : HoldsScopes w oa ss) (hE : TreeErrs w) (ha : (Lit.int .i64 a).wf = true) (hb' : (Lit.int .i64 b).wf = true) :
    Calls Tryd.prog 7 #[.agg #[.slice oa ss.length cap], .agg #[.int .i64 a, .int .i64 b], .string nm] w fun e w' => e = .returned (.bool true) ∧ Below w.heap.size w w' := by
  have hb0 := ((Below.refl w.heap.size w).alloc (Nat.le_refl _) (.cells #[.slice oa ss.length cap] 48)).alloc (by simp) (.cells #[.int .i64 a, .int .i64 b] 49)
  have C0 := Lib.hid (szGraph_any ss oa cap 1048576 _ hf (hc.below hb0 (Nat.le_refl _)) (by omega) (by omega))
  have HB0 := Lib.hid hb0
  have R0 := Lib.hid ((Row.new w [.slice oa ss.length cap] 48).alloc (.cells #[.int .i64 a, .int .i64 b] 49))
  have hP0 := Row.new (w.alloc (.cells #[.slice oa ss.length cap] 48)) [.int .i64 a, .int .i64 b] 49
  rw [World.size_alloc] at hP0
  have P0 := Lib.hid hP0
  clear hP0
  by_cases hs : 1048576 < nm.size
  · have hs' : (1048576 : Int) < (nm.size : Int) := by omega
    clear C0 hc hE hf hI hs ha hb'
    go_enter Tryd.func7, Tryd.ntmps7
    go_wp2
    go_ret
    exact ⟨rfl, HB0.out⟩
  have hs' : ¬ (1048576 : Int) < (nm.size : Int) := by omega
  clear hs
  by_cases hn : wScopes ss ≤ 1048576
  · have HF := Lib.hid (Fair.of_weight hf hI hn)
    rw [rest_pos (by omega)] at C0
    have h0 : (0 : Int) ≤ 1048576 - (wScopes ss : Int) := by omega
    have HC := Lib.hid hc
    have HE := Lib.hid hE
    have HW := Lib.hid hn
    have HWF := Lib.hid (And.intro ha hb')
    clear hn hc hE hb0 hf hI ha hb'
    go_enter Tryd.func7, Tryd.ntmps7
    go_wp2_with fail
    refine C0.out.mono ?_
    rintro e w1 ⟨rfl, hb1⟩
    have hB := belowS HB0.out hb1
    have R1 := Lib.hid (R0.out.below hb1 R0.out.lt)
    have P1 := Lib.hid (P0.out.below hb1 P0.out.lt)
    have c0 := R1.out.cell (i := 0) (by rfl)
    have p0 := P1.out.cell (i := 0) (by rfl)
    have p1 := P1.out.cell (i := 1) (by rfl)
    have B1 := Lib.hid hB
    clear hb1 hB
    go_wp2
    go_cut [8, 9] (fun s8 s9 wx => ∃ (ok : Bool) (g : Nat), s8 = .pointer (some ⟨g, 0, none⟩) ∧ s9 = .bool ok ∧ GrBox (renOk ss a b nm) (renG ss a b nm) w1.heap.size wx g ok ∧ Below w1.heap.size w1 wx)
    case first =>
      go_region_held3 (fun w' => w'.cell? ⟨w.heap.size, 0, none⟩ = some (.slice oa ss.length cap) ∧ w'.cell? ⟨w.heap.size + 1, 0, none⟩ = some (.int .i64 a) ∧ w'.cell? ⟨w.heap.size + 1, 1, none⟩ = some (.int .i64 b) ∧ Below w.heap.size w w' ∧ Below w1.heap.size w1 w')
        (first
          | exact held_of c0 p0 p1 B1.out (Below.refl _ _)
          | exact held_of c0 p0 p1 B1.out (Below.refl _ _).drew
          | exact held_of c0 p0 p1 B1.out ((Below.refl _ _).alloc (Nat.le_refl _) _).drew
          | exact held_of c0 p0 p1 B1.out hBs
          | exact held_of c0 p0 p1 B1.out hBp
          | exact held_of c0 p0 p1 B1.out hBg
          | exact held_of c0 p0 p1 B1.out (hBs.alloc hBs.size _)
          | exact held_of c0 p0 p1 B1.out (hBp.alloc hBp.size _)
          | exact held_of c0 p0 p1 B1.out (hBg.alloc hBg.size _)
          | exact held_of c0 p0 p1 B1.out (hBs.setCell (Nat.le_refl _) _)
          | exact held_of c0 p0 p1 B1.out (hBs.setCell hBg.size _)
          | exact held_of c0 p0 p1 B1.out (hBs.setCell hBp.size _))
        (first
          | (go_at_call 33; refine (toGraph_holds HF.out oa cap HC.out (And.left (And.right (And.right (And.right (by assumption)))))).mono ?_; rintro e wg ⟨gg, rfl, hhg, hbg⟩; have hBg := Below.trans (show Below w1.heap.size w1 _ from (And.right (And.right (And.right (And.right (by assumption)))))) (hbg.mono (Below.size (And.right (And.right (And.right (And.right (by assumption))))))); (first | (have hz := Row.below hz hbg hz.lt; have z0 := hz.cell (i := 0) (by rfl); have zf0 := hz.frozen 0) | (have hz := Row.below (Row.new _ [.slice none 0 0] 25) hbg (by simp); (try simp only [drew_size] at hz); have z0 := hz.cell (i := 0) (by rfl); have zf0 := hz.frozen 0) | (have hz := Row.below (Row.drew (Row.new _ [.slice none 0 0] 25)) hbg (by simp); (try simp only [drew_size] at hz); have z0 := hz.cell (i := 0) (by rfl); have zf0 := hz.frozen 0) | skip))
          | (go_at_call 34; refine (toPlace_any a b _).mono ?_; rintro e wp ⟨rfl, hbp⟩; have hBp := Below.trans (show Below w1.heap.size w1 _ from (And.right (And.right (And.right (And.right (by assumption)))))) (hbp.mono (Below.size (And.right (And.right (And.right (And.right (by assumption))))))); try (have hhg := HoldsScopes.below hhg (show Below _ _ _ from by first | exact hbp | exact (below_al _ _).trans (hbp.mono (by simp))) (Nat.le_refl _)); (first | (have hz := Row.below hz hbp hz.lt; have z0 := hz.cell (i := 0) (by rfl); have zf0 := hz.frozen 0) | (have hz := Row.below (Row.new _ [.slice none 0 0] 25) hbp (by simp); (try simp only [drew_size] at hz); have z0 := hz.cell (i := 0) (by rfl); have zf0 := hz.frozen 0) | (have hz := Row.below (Row.drew (Row.new _ [.slice none 0 0] 25)) hbp (by simp); (try simp only [drew_size] at hz); have z0 := hz.cell (i := 0) (by rfl); have zf0 := hz.frozen 0) | skip))
          | (go_at_call 43; refine (specRenameAt_any ss HF.out _ _ a b nm _ (by first | exact hhg | exact hhg.below (below_al _ _) (Nat.le_refl _))).mono ?_; intro e ws hgot; obtain ⟨oX, cX, zs, hsX, ok, rfl, hv, -, hO, hbs⟩ := hgot.val; have hO := hO.lower (Below.size (show Below w1.heap.size w1 _ from (And.right (And.right (And.right (And.right (by assumption))))))); have hBs := Below.trans (show Below w1.heap.size w1 _ from (And.right (And.right (And.right (And.right (by assumption)))))) (hbs.mono (Below.size (And.right (And.right (And.right (And.right (by assumption))))))); (first | (have hz := Row.below hz hbs hz.lt; have z0 := hz.cell (i := 0) (by rfl); have zf0 := hz.frozen 0) | (have hz := Row.below (Row.new _ [.slice none 0 0] 25) hbs (by simp); (try simp only [drew_size] at hz); have z0 := hz.cell (i := 0) (by rfl); have zf0 := hz.frozen 0) | (have hz := Row.below (Row.drew (Row.new _ [.slice none 0 0] 25)) hbs (by simp); (try simp only [drew_size] at hz); have z0 := hz.cell (i := 0) (by rfl); have zf0 := hz.frozen 0) | skip)))
      all_goals go_wp2
      all_goals go_meet
      all_goals first
        | exact ⟨ok, _, rfl, rfl, GrBox.new hv hO hBs.size, hBs.alloc hBs.size _⟩
        | exact ⟨ok, _, rfl, rfl, GrBox.set hv hO hz hBp.size, hBs.setCell hBp.size _⟩
        | exact ⟨ok, _, rfl, rfl, GrBox.set hv hO hz hBg.size, hBs.setCell hBg.size _⟩
        | exact ⟨ok, _, rfl, rfl, GrBox.set hv hO hz (Nat.le_refl _), hBs.setCell (Nat.le_refl _) _⟩
    case rest =>
      obtain ⟨ok, g6, rfl, rfl, ⟨oW, cW, xs, hsW, hv, hg6, hr6, hh6, -⟩, hbc⟩ := hcut
      have V2 := Lib.hid hv
      have SM := Lib.hid (hv.small (fun h => ⟨by have := h.valid.count; omega, fun s hs => by have := h.valid.five s hs; omega⟩))
      have B2 := Lib.hid (belowS B1.out hbc)
      have R2 := Lib.hid (R1.out.below hbc R1.out.lt)
      have P2 := Lib.hid (P1.out.below hbc P1.out.lt)
      have I2 := Lib.hid hr6
      have W2 := Lib.hid hh6
      have c2 := R2.out.cell (i := 0) (by rfl)
      clear hbc hr6 hv hg6 hh6 c0 p0 p1
      go_wp2_with fail
      refine (toGraph_own HF.out.count HF.out.items oa cap HC.out B2.out).mono ?_
      rintro e w4 ⟨g4, vs4, rfl, hh4, ho4, hb4⟩
      have hbA := hb4.trans ((below_al w4 (.cells #[.slice (some ⟨g4, 0, none⟩) ss.length ss.length] 25)).mono hb4.size)
      have RA := Lib.hid (Row.new w4 [.slice (some ⟨g4, 0, none⟩) ss.length ss.length] 25)
      have NA := Lib.hid hbA
      have OA := Lib.hid (ho4.below (below_al w4 (.cells #[.slice (some ⟨g4, 0, none⟩) ss.length ss.length] 25)))
      have HA := Lib.hid (hh4.below (below_al w4 (.cells #[.slice (some ⟨g4, 0, none⟩) ss.length ss.length] 25)) (Nat.le_refl _))
      have BA := Lib.hid (belowS B2.out hbA)
      have HS4 := Lib.hid (below_al w4 (.cells #[.slice (some ⟨g4, 0, none⟩) ss.length ss.length] 25)).size
      have R4 := Lib.hid (R2.out.below hbA R2.out.lt)
      have P4 := Lib.hid (P2.out.below hbA P2.out.lt)
      clear hb4 hh4 ho4 hbA c2
      go_wp2
      generalize w4.alloc (.cells #[.slice (some ⟨g4, 0, none⟩) ss.length ss.length] 25) = wA at *
      have d0 := RA.out.cell (i := 0) (by rfl)
      have q0 := P4.out.cell (i := 0) (by rfl)
      have q1 := P4.out.cell (i := 1) (by rfl)
      go_cut [11, 12] (fun s11 s12 wx => ∃ (ok : Bool) (g : Nat), s11 = .pointer (some ⟨g, 0, none⟩) ∧ s12 = .bool ok ∧ GrBox (renOk ss a b nm) (renG ss a b nm) wA.heap.size wx g ok ∧ Below wA.heap.size wA wx)
      case first =>
        go_region_held3 (fun w' => w'.cell? ⟨w4.heap.size, 0, none⟩ = some (.slice (some ⟨g4, 0, none⟩) ss.length ss.length) ∧ w'.cell? ⟨w.heap.size + 1, 0, none⟩ = some (.int .i64 a) ∧ w'.cell? ⟨w.heap.size + 1, 1, none⟩ = some (.int .i64 b) ∧ Below w.heap.size w w' ∧ Below wA.heap.size wA w')
          (first
            | exact held_of d0 q0 q1 BA.out (Below.refl _ _)
            | exact held_of d0 q0 q1 BA.out (Below.refl _ _).drew
            | exact held_of d0 q0 q1 BA.out ((Below.refl _ _).alloc (Nat.le_refl _) _).drew
            | exact held_of d0 q0 q1 BA.out hBs
            | exact held_of d0 q0 q1 BA.out hBp
            | exact held_of d0 q0 q1 BA.out hBg
            | exact held_of d0 q0 q1 BA.out (hBs.alloc hBs.size _)
            | exact held_of d0 q0 q1 BA.out (hBp.alloc hBp.size _)
            | exact held_of d0 q0 q1 BA.out (hBg.alloc hBg.size _)
            | exact held_of d0 q0 q1 BA.out (hBs.setCell (Nat.le_refl _) _)
            | exact held_of d0 q0 q1 BA.out (hBs.setCell hBg.size _)
            | exact held_of d0 q0 q1 BA.out (hBs.setCell hBp.size _))
          (first
            | (go_at_call 34; refine (toPlace_any a b _).mono ?_; rintro e wp ⟨rfl, hbp⟩; have hBp := Below.trans (show Below wA.heap.size wA _ from (And.right (And.right (And.right (And.right (by assumption)))))) (hbp.mono (Below.size (And.right (And.right (And.right (And.right (by assumption))))))); (first | (have hz := Row.below hz hbp hz.lt; have z0 := hz.cell (i := 0) (by rfl); have zf0 := hz.frozen 0) | (have hz := Row.below (Row.new _ [.slice none 0 0] 25) hbp (by simp); (try simp only [drew_size] at hz); have z0 := hz.cell (i := 0) (by rfl); have zf0 := hz.frozen 0) | (have hz := Row.below (Row.drew (Row.new _ [.slice none 0 0] 25)) hbp (by simp); (try simp only [drew_size] at hz); have z0 := hz.cell (i := 0) (by rfl); have zf0 := hz.frozen 0) | skip))
            | (go_at_call 44; refine (implRenameAt_any ss HF.out _ _ a b nm HWF.out.1 HWF.out.2 _ (HA.out.below (show Below wA.heap.size wA _ from (And.right (And.right (And.right (And.right (by assumption)))))) (Nat.le_refl _)) (HE.out.at (And.left (And.right (And.right (And.right (by assumption))))))).mono ?_; intro e ws hgot; obtain ⟨oX, cX, zs, hsX, ok, rfl, hv, -, hO, hbs⟩ := hgot.val; have hO := hO.lower (Below.size (show Below wA.heap.size wA _ from (And.right (And.right (And.right (And.right (by assumption))))))); have hBs := Below.trans (show Below wA.heap.size wA _ from (And.right (And.right (And.right (And.right (by assumption)))))) (hbs.mono (Below.size (And.right (And.right (And.right (And.right (by assumption))))))); (first | (have hz := Row.below hz hbs hz.lt; have z0 := hz.cell (i := 0) (by rfl); have zf0 := hz.frozen 0) | (have hz := Row.below (Row.new _ [.slice none 0 0] 25) hbs (by simp); (try simp only [drew_size] at hz); have z0 := hz.cell (i := 0) (by rfl); have zf0 := hz.frozen 0) | (have hz := Row.below (Row.drew (Row.new _ [.slice none 0 0] 25)) hbs (by simp); (try simp only [drew_size] at hz); have z0 := hz.cell (i := 0) (by rfl); have zf0 := hz.frozen 0) | skip)))
        all_goals go_wp2
        all_goals go_meet
        all_goals first
          | exact ⟨ok, _, rfl, rfl, GrBox.new hv hO hBs.size, hBs.alloc hBs.size _⟩
          | exact ⟨ok, _, rfl, rfl, GrBox.set hv hO hz hBp.size, hBs.setCell hBp.size _⟩
          | exact ⟨ok, _, rfl, rfl, GrBox.set hv hO hz hBg.size, hBs.setCell hBg.size _⟩
          | exact ⟨ok, _, rfl, rfl, GrBox.set hv hO hz (Nat.le_refl _), hBs.setCell (Nat.le_refl _) _⟩
      case rest =>
        obtain ⟨ok9, g9, rfl, rfl, ⟨o9, c9, ys, hs9, hv9, hg9, hr9, hh9, hO9⟩, hbc⟩ := hcut
        obtain ⟨rfl, rfl⟩ := V2.out.same hv9
        have G9 := Lib.hid hg9
        have N5 := Lib.hid (belowN NA.out hbc (Nat.le_refl _))
        have RX5 := Lib.hid (RA.out.below hbc RA.out.lt)
        have H5 := Lib.hid (HA.out.below hbc (Nat.le_refl _))
        have O5 := Lib.hid (OA.out.below hbc)
        have J5 := Lib.hid hr9
        have G5 := Lib.hid hO9
        have K5 := Lib.hid hh9
        have hbb : (ok == ok) = true := by simp
        have hbn : (ok != ok) = false := by simp
        have e6 := (I2.out.below N5.out I2.out.lt).cell (i := 0) (by rfl)
        have e9 := J5.out.cell (i := 0) (by rfl)
        have W5 := Lib.hid (W2.out.below N5.out (Nat.le_refl _))
        clear hbc hr9 hv9 hh9 hO9 hg9 d0 q0 q1
        go_wp2_with fail
        refine (eqGraph_same xs o9 oW c9 cW _ (by have := SM.out.len; omega) (fun s hs => by have := SM.out.items s hs; omega) K5.out W5.out).mono ?_
        rintro e w6 ⟨rfl, hb6⟩
        have N6 := Lib.hid (belowN N5.out hb6 (Nat.le_refl _))
        have RX6 := Lib.hid (RX5.out.below hb6 RX5.out.lt)
        have H6 := Lib.hid (H5.out.below hb6 (Nat.le_refl _))
        have O6 := Lib.hid (O5.out.below hb6)
        have J6 := Lib.hid (J5.out.below hb6 J5.out.lt)
        have G6 := Lib.hid (G5.out.below hb6)
        have R6 := Lib.hid (R2.out.below N6.out R2.out.lt)
        clear hb6 e6 e9
        have c6 := R6.out.cell (i := 0) (by rfl)
        have d6 := RX6.out.cell (i := 0) (by rfl)
        have c6' := (((Below.refl _ _).drew).cell (p := ⟨w.heap.size, 0, none⟩) R6.out.lt).trans c6
        have d6' := (((Below.refl _ _).drew).cell (p := ⟨w4.heap.size, 0, none⟩) RX6.out.lt).trans d6
        go_wp2
        go_cut [58] (fun s wx => s = .bool false ∧ Below w6.heap.size w6 wx)
        case first =>
          go_region_with (first
            | (go_at_call 33; refine (toGraph_holds HF.out oa cap HC.out (belowS B2.out N6.out).drew).mono ?_; rintro e w7 ⟨g7, rfl, hh7, hb7⟩; have H7 := Lib.hid hh7; have B7 := Lib.hid (show Below w6.heap.size w6 w7 from ((Below.refl _ _).drew).trans hb7); have d7 := (RX6.out.below B7.out RX6.out.lt).cell (i := 0) (by rfl); clear hh7 hb7)
            | (go_at_call 36; refine (eqGraph_fair HF.out H6.out H7.out B7.out (Below.refl _ _)).mono ?_; rintro e w8 ⟨rfl, hb8⟩; have B8 := Lib.hid (belowS B7.out hb8); clear hb8))
          all_goals go_wp2
          all_goals go_meet
          all_goals exact ⟨rfl, B8.out⟩
        case rest =>
          obtain ⟨rfl, hbc⟩ := hcut
          have NC := Lib.hid (belowN N6.out hbc (Nat.le_refl _))
          have OC := Lib.hid (O6.out.below hbc)
          have JC := Lib.hid (J6.out.below hbc J6.out.lt)
          have GC := Lib.hid (G6.out.below hbc)
          have dc := (RX6.out.below hbc RX6.out.lt).cell (i := 0) (by rfl)
          clear hbc c6 d6 c6' d6'
          go_wp2_with fail
          refine (markGraph_any g4 _ _ _ vs4 ss 1 _ HW.out (by omega) (by omega) OC.out).mono ?_
          rintro e w7 ⟨rfl, hm7⟩
          have N7 := Lib.hid (NC.out.trans (hm7.below (Nat.le_refl _) NC.out.size))
          have J7 := Lib.hid (JC.out.same (hm7.rest g9 JC.out.lt (.inr (Nat.le_trans HS4.out G9.out))))
          have G7 := Lib.hid (GC.out.mid HS4.out hm7)
          have hmk : decide ((1 : Int) + (marks ss : Int) < 0) = false := by simp; omega
          have hml : marks ss ≤ 3145728 := by have := marks_le ss; have := HW.out; omega
          have e6 := (I2.out.below N7.out I2.out.lt).cell (i := 0) (by rfl)
          have e9 := J7.out.cell (i := 0) (by rfl)
          clear hm7 dc
          go_wp2_with fail
          refine (eqGraph_same xs o9 oW c9 cW _ (by have := SM.out.len; omega) (fun s hs => by have := SM.out.items s hs; omega) G7.out.holds_at (W2.out.below N7.out (Nat.le_refl _))).mono ?_
          rintro e w8 ⟨rfl, hb8⟩
          have N8 := Lib.hid (belowN N7.out hb8 (Nat.le_refl _))
          have J8 := Lib.hid (J7.out.below hb8 J7.out.lt)
          have G8 := Lib.hid (G7.out.below hb8)
          have e9 := J8.out.cell (i := 0) (by rfl)
          have hwA : wA.heap.size ≤ w8.heap.size := Nat.le_trans G9.out (Nat.le_of_lt J8.out.lt)
          have hmx := SM.out.marks
          clear hb8 e6
          go_wp2_with fail
          refine (markGraph_own (.slice o9 xs.length c9) wA.heap.size xs hs9 _ hwA (by have := SM.out.len; omega) (fun s hs => by have := SM.out.items s hs; omega) hmx G8.out).mono ?_
          rintro e w9 ⟨rfl, hm9, hb9, hk9⟩
          have N9 := Lib.hid (N8.out.trans (hb9.mono NA.out.size))
          have J9 := Lib.hid (hk9 g9 _ _ J8.out (by decide) (by decide))
          have M9 := Lib.hid hm9
          have e9 := J9.out.cell (i := 0) (by rfl)
          have hq0 : decide ((1 : Int) + (marks xs : Int) < 0) = false := by simp; omega
          have hqq : ((1 : Int) + (marks xs : Int) == 1 + (marks xs : Int)) = true := by simp
          have hqn : ((1 : Int) + (marks xs : Int) != 1 + (marks xs : Int)) = false := by simp
          clear hm9 hb9 hk9
          go_wp2_with fail
          refine (heldGraph_marked (.slice o9 xs.length c9) xs _ (by have := SM.out.len; omega) (fun s hs => by have := SM.out.items s hs; omega) hmx M9.out).mono ?_
          rintro e w10 ⟨rfl, hb10⟩
          have N10 := Lib.hid (belowN N9.out hb10 (Nat.le_refl _))
          have J10 := Lib.hid (J9.out.below hb10 J9.out.lt)
          have M10 := Lib.hid (M9.out.below hb10)
          have B10 := Lib.hid (belowS B2.out N10.out)
          have R10 := Lib.hid (R2.out.below N10.out R2.out.lt)
          have P10 := Lib.hid (P2.out.below N10.out P2.out.lt)
          have c0 := R10.out.cell (i := 0) (by rfl)
          have p0 := P10.out.cell (i := 0) (by rfl)
          have p1 := P10.out.cell (i := 1) (by rfl)
          clear hb10 e9
          go_wp2
          go_cut [16, 17] (fun s16 s17 wx => ∃ (ok : Bool) (g : Nat), s16 = .pointer (some ⟨g, 0, none⟩) ∧ s17 = .bool ok ∧ GrBox (renOk ss a b nm) (renG ss a b nm) w10.heap.size wx g ok ∧ Below w10.heap.size w10 wx)
          case first =>
            go_region_held3 (fun w' => w'.cell? ⟨w.heap.size, 0, none⟩ = some (.slice oa ss.length cap) ∧ w'.cell? ⟨w.heap.size + 1, 0, none⟩ = some (.int .i64 a) ∧ w'.cell? ⟨w.heap.size + 1, 1, none⟩ = some (.int .i64 b) ∧ Below w.heap.size w w' ∧ Below w10.heap.size w10 w')
              (first
                | exact held_of c0 p0 p1 B10.out (Below.refl _ _)
                | exact held_of c0 p0 p1 B10.out (Below.refl _ _).drew
                | exact held_of c0 p0 p1 B10.out ((Below.refl _ _).alloc (Nat.le_refl _) _).drew
                | exact held_of c0 p0 p1 B10.out hBs
                | exact held_of c0 p0 p1 B10.out hBp
                | exact held_of c0 p0 p1 B10.out hBg
                | exact held_of c0 p0 p1 B10.out (hBs.alloc hBs.size _)
                | exact held_of c0 p0 p1 B10.out (hBp.alloc hBp.size _)
                | exact held_of c0 p0 p1 B10.out (hBg.alloc hBg.size _)
                | exact held_of c0 p0 p1 B10.out (hBs.setCell (Nat.le_refl _) _)
                | exact held_of c0 p0 p1 B10.out (hBs.setCell hBg.size _)
                | exact held_of c0 p0 p1 B10.out (hBs.setCell hBp.size _))
              (first
                | (go_at_call 33; refine (toGraph_holds HF.out oa cap HC.out (And.left (And.right (And.right (And.right (by assumption)))))).mono ?_; rintro e wg ⟨gg, rfl, hhg, hbg⟩; have hBg := Below.trans (show Below w10.heap.size w10 _ from (And.right (And.right (And.right (And.right (by assumption)))))) (hbg.mono (Below.size (And.right (And.right (And.right (And.right (by assumption))))))); (first | (have hz := Row.below hz hbg hz.lt; have z0 := hz.cell (i := 0) (by rfl); have zf0 := hz.frozen 0) | (have hz := Row.below (Row.new _ [.slice none 0 0] 25) hbg (by simp); (try simp only [drew_size] at hz); have z0 := hz.cell (i := 0) (by rfl); have zf0 := hz.frozen 0) | (have hz := Row.below (Row.drew (Row.new _ [.slice none 0 0] 25)) hbg (by simp); (try simp only [drew_size] at hz); have z0 := hz.cell (i := 0) (by rfl); have zf0 := hz.frozen 0) | skip))
                | (go_at_call 34; refine (toPlace_any a b _).mono ?_; rintro e wp ⟨rfl, hbp⟩; have hBp := Below.trans (show Below w10.heap.size w10 _ from (And.right (And.right (And.right (And.right (by assumption)))))) (hbp.mono (Below.size (And.right (And.right (And.right (And.right (by assumption))))))); try (have hhg := HoldsScopes.below hhg (show Below _ _ _ from by first | exact hbp | exact (below_al _ _).trans (hbp.mono (by simp))) (Nat.le_refl _)); (first | (have hz := Row.below hz hbp hz.lt; have z0 := hz.cell (i := 0) (by rfl); have zf0 := hz.frozen 0) | (have hz := Row.below (Row.new _ [.slice none 0 0] 25) hbp (by simp); (try simp only [drew_size] at hz); have z0 := hz.cell (i := 0) (by rfl); have zf0 := hz.frozen 0) | (have hz := Row.below (Row.drew (Row.new _ [.slice none 0 0] 25)) hbp (by simp); (try simp only [drew_size] at hz); have z0 := hz.cell (i := 0) (by rfl); have zf0 := hz.frozen 0) | skip))
                | (go_at_call 44; refine (implRenameAt_any ss HF.out _ _ a b nm HWF.out.1 HWF.out.2 _ (by first | exact hhg | exact hhg.below (below_al _ _) (Nat.le_refl _)) (HE.out.at (And.left (And.right (And.right (And.right (by assumption))))))).mono ?_; intro e ws hgot; obtain ⟨oX, cX, zs, hsX, ok, rfl, hv, -, hO, hbs⟩ := hgot.val; have hO := hO.lower (Below.size (show Below w10.heap.size w10 _ from (And.right (And.right (And.right (And.right (by assumption))))))); have hBs := Below.trans (show Below w10.heap.size w10 _ from (And.right (And.right (And.right (And.right (by assumption)))))) (hbs.mono (Below.size (And.right (And.right (And.right (And.right (by assumption))))))); (first | (have hz := Row.below hz hbs hz.lt; have z0 := hz.cell (i := 0) (by rfl); have zf0 := hz.frozen 0) | (have hz := Row.below (Row.new _ [.slice none 0 0] 25) hbs (by simp); (try simp only [drew_size] at hz); have z0 := hz.cell (i := 0) (by rfl); have zf0 := hz.frozen 0) | (have hz := Row.below (Row.drew (Row.new _ [.slice none 0 0] 25)) hbs (by simp); (try simp only [drew_size] at hz); have z0 := hz.cell (i := 0) (by rfl); have zf0 := hz.frozen 0) | skip)))
            all_goals go_wp2
            all_goals go_meet
            all_goals first
              | exact ⟨ok, _, rfl, rfl, GrBox.new hv hO hBs.size, hBs.alloc hBs.size _⟩
              | exact ⟨ok, _, rfl, rfl, GrBox.set hv hO hz hBp.size, hBs.setCell hBp.size _⟩
              | exact ⟨ok, _, rfl, rfl, GrBox.set hv hO hz hBg.size, hBs.setCell hBg.size _⟩
              | exact ⟨ok, _, rfl, rfl, GrBox.set hv hO hz (Nat.le_refl _), hBs.setCell (Nat.le_refl _) _⟩
          case rest =>
            obtain ⟨ok14, g14, rfl, rfl, ⟨o14, c14, zs, hs14, hv14, hg14, hr14, hh14, -⟩, hbc⟩ := hcut
            obtain ⟨rfl, rfl⟩ := V2.out.same hv14
            have N11 := Lib.hid (belowN N10.out hbc (Nat.le_refl _))
            have J11 := Lib.hid (J10.out.below hbc J10.out.lt)
            have M11 := Lib.hid (M10.out.below hbc)
            have K11 := Lib.hid hh14
            have e14 := hr14.cell (i := 0) (by rfl)
            have e6 := (I2.out.below N11.out I2.out.lt).cell (i := 0) (by rfl)
            have W11 := Lib.hid (W2.out.below N11.out (Nat.le_refl _))
            clear hbc hr14 hv14 hh14 hg14 c0 p0 p1
            go_wp2_with fail
            refine (eqGraph_same xs o14 oW c14 cW _ (by have := SM.out.len; omega) (fun s hs => by have := SM.out.items s hs; omega) K11.out W11.out).mono ?_
            rintro e w12 ⟨rfl, hb12⟩
            have N12 := Lib.hid (belowN N11.out hb12 (Nat.le_refl _))
            have J12 := Lib.hid (J11.out.below hb12 J11.out.lt)
            have M12 := Lib.hid (M11.out.below hb12)
            have e9 := J12.out.cell (i := 0) (by rfl)
            clear hb12 e14 e6
            go_wp2_with fail
            refine (heldGraph_marked (.slice o9 xs.length c9) xs _ (by have := SM.out.len; omega) (fun s hs => by have := SM.out.items s hs; omega) hmx M12.out).mono ?_
            rintro e w13 ⟨rfl, hb13⟩
            have N13 := Lib.hid (belowS B2.out (belowN N12.out hb13 (Nat.le_refl _)))
            clear hb13 e9
            go_wp2
            go_ret
            exact ⟨rfl, N13.out⟩
  · rw [rest_neg (by omega)] at C0
    clear hn hc hE hb0 hf hI
    go_enter Tryd.func7, Tryd.ntmps7
    go_wp2_with fail
    refine C0.out.mono ?_
    rintro e w1 ⟨rfl, hb1⟩
    have B1 := Lib.hid (belowS HB0.out hb1)
    clear hb1
    go_wp2
    go_ret
    exact ⟨rfl, B1.out⟩
end Go.Proofs.YtimcobenmgbciaaDoor
