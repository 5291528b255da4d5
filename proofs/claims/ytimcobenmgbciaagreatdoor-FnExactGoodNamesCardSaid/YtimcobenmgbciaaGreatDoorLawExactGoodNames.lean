/-
  The walk of the law FnExactGoodNames: at every argument it returns true, and only new memory is written. Condition: the package-level errors hold errors.
-/
import Derived.Test.YtimcobenmgbciaaGreatDoorJB
import Derived.Test.YtimcobenmgbciaaGreatDoorWGoodS
import Derived.Test.YtimcobenmgbciaaGreatDoorWGoodI
import Derived.Deep.RegionHeld3
namespace Go.Proofs.YtimcobenmgbciaaGreatDoor
open Go Go.RowKit
theorem grow_cellU9 {W W' : World} {p : Addr} {v : Value} (hb : Below W.heap.size W W') (h : W.cell? p = some v) : W'.cell? p = some v := (hb.cell (World.block_lt_of_cell? _ _ h)).trans h
theorem below_alU9 (W : World) (o : Obj) : Below W.heap.size W (W.alloc o) := (Below.refl _ _).alloc (Nat.le_refl _) o
theorem held_ofU9 {w w1 W : World} {p0 p1 p2 : Addr} {v0 v1 v2 : Value} (c0 : w1.cell? p0 = some v0) (c1 : w1.cell? p1 = some v1) (c2 : w1.cell? p2 = some v2) (B1 : Below w.heap.size w w1) (hb : Below w1.heap.size w1 W) :
    W.cell? p0 = some v0 ∧ W.cell? p1 = some v1 ∧ W.cell? p2 = some v2 ∧ Below w.heap.size w W ∧ Below w1.heap.size w1 W :=
  ⟨grow_cellU9 hb c0, grow_cellU9 hb c1, grow_cellU9 hb c2, B1.trans (hb.mono B1.size), hb⟩
set_option maxRecDepth 100000 in
set_option maxHeartbeats 8000000 in
theorem lawExactGoodNames (ss : List Sc) (oa : Option Addr) (cap : Nat) (a b : Int) (w : World) (hf : FitsScopes ss) (hI : I64Scopes ss) (hc : HoldsScopes w oa ss) (hE : DeclErrs w) (ha : (Lit.int .i64 a).wf = true) (hb' : (Lit.int .i64 b).wf = true) :
    Calls Tryz.prog 3 #[.agg #[.slice oa ss.length cap], .agg #[.int .i64 a, .int .i64 b]] w fun e w' => e = .returned (.bool true) ∧ Below w.heap.size w w' := by
  have hb0 := ((Below.refl w.heap.size w).alloc (Nat.le_refl _) (.cells #[.slice oa ss.length cap] 24)).alloc (by simp) (.cells #[.int .i64 a, .int .i64 b] 26)
  have C0 := Lib.hid (szGraph_any ss oa cap 1048576 _ hf (hc.below hb0 (Nat.le_refl _)) (by omega) (by omega))
  have HB0 := Lib.hid hb0
  have R0 := Lib.hid ((Row.new w [.slice oa ss.length cap] 24).alloc (.cells #[.int .i64 a, .int .i64 b] 26))
  have hP0 := Row.new (w.alloc (.cells #[.slice oa ss.length cap] 24)) [.int .i64 a, .int .i64 b] 26
  rw [World.size_alloc] at hP0
  have P0 := Lib.hid hP0
  clear hP0
  by_cases hn : wScopes ss ≤ 1048576
  · have HF := Lib.hid (Fair.of_weight hf hI hn)
    rw [rest_pos (by omega)] at C0
    have h0 : (0 : Int) ≤ 1048576 - (wScopes ss : Int) := by omega
    have HC := Lib.hid hc
    have HE := Lib.hid hE
    have HWF := Lib.hid (And.intro ha hb')
    clear hn hc hE hb0 hf hI ha hb'
    go_enter Tryz.func3, Tryz.ntmps3
    go_wp2_with fail
    refine C0.out.mono ?_
    rintro e w1 ⟨rfl, hb1⟩
    have hB := belowS HB0.out hb1
    have R1 := Lib.hid (R0.out.below hb1 R0.out.lt)
    have P1 := Lib.hid (P0.out.below hb1 P0.out.lt)
    have c0 := R1.out.cell (i := 0) (by rfl)
    have p0 := P1.out.cell (i := 0) (by rfl)
    have p1 := P1.out.cell (i := 1) (by rfl)
    have B1 := Lib.hid hB
    clear hb1
    go_wp2
    go_cut [6, 7] (fun s6 s7 wx => ∃ (str : ByteArray) (ok : Bool), s6 = .string str ∧ s7 = .bool ok ∧ goodR ss a b str ok ∧ Below w1.heap.size w1 wx)
    case first =>
      go_region_held3 (fun w' => w'.cell? ⟨w.heap.size, 0, none⟩ = some (.slice oa ss.length cap) ∧ w'.cell? ⟨w.heap.size + 1, 0, none⟩ = some (.int .i64 a) ∧ w'.cell? ⟨w.heap.size + 1, 1, none⟩ = some (.int .i64 b) ∧ Below w.heap.size w w' ∧ Below w1.heap.size w1 w')
        (first
          | exact held_ofU9 c0 p0 p1 B1.out (Below.refl _ _)
          | exact held_ofU9 c0 p0 p1 B1.out (Below.refl _ _).drew
          | exact held_ofU9 c0 p0 p1 B1.out hBs
          | exact held_ofU9 c0 p0 p1 B1.out hBp
          | exact held_ofU9 c0 p0 p1 B1.out hBg)
        (first
          | (go_at_call 7; refine (toGraph_holds HF.out oa cap HC.out (And.left (And.right (And.right (And.right (by assumption)))))).mono ?_; rintro e wg ⟨gg, rfl, hhg, hbg⟩; have hBg := Below.trans (show Below w1.heap.size w1 _ from (And.right (And.right (And.right (And.right (by assumption)))))) (hbg.mono (Below.size (And.right (And.right (And.right (And.right (by assumption))))))))
          | (go_at_call 8; refine (toPlace_any a b _).mono ?_; rintro e wp ⟨rfl, hbp⟩; have hBp := Below.trans (show Below w1.heap.size w1 _ from (And.right (And.right (And.right (And.right (by assumption)))))) (hbp.mono (Below.size (And.right (And.right (And.right (And.right (by assumption))))))); try (have hhg := HoldsScopes.below hhg hbp (Nat.le_refl _)))
          | (go_at_call 6; refine (specGoodNames_any ss HF.out _ _ a b _ hhg).mono ?_; rintro e ws ⟨str, ok, rfl, hv, hbs⟩; have hBs := Below.trans (show Below w1.heap.size w1 _ from (And.right (And.right (And.right (And.right (by assumption)))))) (hbs.mono (Below.size (And.right (And.right (And.right (And.right (by assumption)))))))))
      all_goals go_wp2
      all_goals go_meet
      all_goals exact ⟨str, ok, rfl, rfl, hv, hBs⟩
    case rest =>
      obtain ⟨z0, k0, rfl, rfl, hv, hbc⟩ := hcut
      have B2 := Lib.hid (belowS B1.out hbc)
      have R2 := Lib.hid (R1.out.below hbc R1.out.lt)
      have P2 := Lib.hid (P1.out.below hbc P1.out.lt)
      have V2 := Lib.hid hv
      have c2 := R2.out.cell (i := 0) (by rfl)
      clear hbc hv c0 p0 p1
      go_wp2_with fail
      refine (toGraph_holds HF.out oa cap HC.out B2.out).mono ?_
      rintro e w4 ⟨g4, rfl, hh4, hb4⟩
      have hbA := hb4.trans ((below_alU9 w4 (.cells #[.slice (some ⟨g4, 0, none⟩) ss.length ss.length] 32)).mono hb4.size)
      have RA := Lib.hid (Row.new w4 [.slice (some ⟨g4, 0, none⟩) ss.length ss.length] 32)
      have BA := Lib.hid (belowS B2.out hbA)
      have R4 := Lib.hid (R2.out.below hbA R2.out.lt)
      have P4 := Lib.hid (P2.out.below hbA P2.out.lt)
      have HA := Lib.hid (hh4.below (below_alU9 w4 (.cells #[.slice (some ⟨g4, 0, none⟩) ss.length ss.length] 32)) (Nat.le_refl _))
      clear hb4 hh4 hbA c2
      go_wp2
      generalize w4.alloc (.cells #[.slice (some ⟨g4, 0, none⟩) ss.length ss.length] 32) = wA at *
      have d0 := RA.out.cell (i := 0) (by rfl)
      have q0 := P4.out.cell (i := 0) (by rfl)
      have q1 := P4.out.cell (i := 1) (by rfl)
      go_cut [9, 10] (fun s9 s10 wx => ∃ (str : ByteArray) (ok : Bool), s9 = .string str ∧ s10 = .bool ok ∧ goodR ss a b str ok ∧ Below wA.heap.size wA wx)
      case first =>
        go_region_held3 (fun w' => w'.cell? ⟨w4.heap.size, 0, none⟩ = some (.slice (some ⟨g4, 0, none⟩) ss.length ss.length) ∧ w'.cell? ⟨w.heap.size + 1, 0, none⟩ = some (.int .i64 a) ∧ w'.cell? ⟨w.heap.size + 1, 1, none⟩ = some (.int .i64 b) ∧ Below w.heap.size w w' ∧ Below wA.heap.size wA w')
        (first
          | exact held_ofU9 d0 q0 q1 BA.out (Below.refl _ _)
          | exact held_ofU9 d0 q0 q1 BA.out (Below.refl _ _).drew
          | exact held_ofU9 d0 q0 q1 BA.out hBs
          | exact held_ofU9 d0 q0 q1 BA.out hBp)
        (first
          | (go_at_call 8; refine (toPlace_any a b _).mono ?_; rintro e wp ⟨rfl, hbp⟩; have hBp := Below.trans (show Below wA.heap.size wA _ from (And.right (And.right (And.right (And.right (by assumption)))))) (hbp.mono (Below.size (And.right (And.right (And.right (And.right (by assumption))))))))
          | (go_at_call 9; refine (implGoodNames_any ss HF.out _ _ a b HWF.out.1 HWF.out.2 _ (HA.out.below (show Below wA.heap.size wA _ from (And.right (And.right (And.right (And.right (by assumption)))))) (Nat.le_refl _)) (HE.out.at (And.left (And.right (And.right (And.right (by assumption))))))).mono ?_; rintro e ws ⟨str, ok, rfl, hv, hbs⟩; have hBs := Below.trans (show Below wA.heap.size wA _ from (And.right (And.right (And.right (And.right (by assumption)))))) (hbs.mono (Below.size (And.right (And.right (And.right (And.right (by assumption)))))))))
        all_goals go_wp2
        all_goals go_meet
        all_goals exact ⟨str, ok, rfl, rfl, hv, hBs⟩
      case rest =>
        obtain ⟨z, k, rfl, rfl, hv, hbc⟩ := hcut
        obtain ⟨rfl, rfl⟩ := V2.out.same hv
        have B6 := Lib.hid (belowS BA.out hbc)
        have R6 := Lib.hid (R4.out.below hbc R4.out.lt)
        have RX6 := Lib.hid (RA.out.below hbc RA.out.lt)
        have H6 := Lib.hid (HA.out.below hbc (Nat.le_refl _))
        clear hbc hv d0 q0 q1
        have c5 := R6.out.cell (i := 0) (by rfl)
        have d5 := RX6.out.cell (i := 0) (by rfl)
        obtain ⟨w6, rfl⟩ : ∃ w6, w6 = wc := ⟨wc, rfl⟩
        have c5' := (((Below.refl _ _).drew).cell (p := ⟨w.heap.size, 0, none⟩) R6.out.lt).trans c5
        have d5' := (((Below.refl _ _).drew).cell (p := ⟨w4.heap.size, 0, none⟩) RX6.out.lt).trans d5
        have hzz : (z0.toList == z0.toList) = true := by simp
        have hkk : (k0 == k0) = true := by simp
        have hkn : (k0 != k0) = false := by simp
        have hzn : (z0.toList != z0.toList) = false := by simp
        go_wp2
        go_cut [45] (fun s wx => s = .bool false ∧ Below w6.heap.size w6 wx)
        case first =>
          go_region_with (first
            | (go_at_call 7; refine (toGraph_holds HF.out oa cap HC.out B6.out.drew).mono ?_; rintro e w7 ⟨g7, rfl, hh7, hb7⟩; have H7 := Lib.hid hh7; have B7 := Lib.hid (show Below w6.heap.size w6 w7 from ((Below.refl _ _).drew).trans hb7); have d6 := (RX6.out.below B7.out RX6.out.lt).cell (i := 0) (by rfl); clear hh7 hb7)
            | (go_at_call 10; refine (eqGraph_fair HF.out H6.out H7.out B7.out (Below.refl _ _)).mono ?_; rintro e w8 ⟨rfl, hb8⟩; have B8 := Lib.hid (belowS B7.out hb8); clear hb8))
          all_goals go_wp2
          all_goals go_meet
          all_goals exact ⟨rfl, B8.out⟩
        case rest =>
          obtain ⟨rfl, hbc⟩ := hcut
          have BE := Lib.hid (belowS B6.out hbc)
          clear hbc
          go_wp2
          go_ret
          exact ⟨rfl, BE.out⟩
  · rw [rest_neg (by omega)] at C0
    clear hn hc hE hb0 hf hI
    go_enter Tryz.func3, Tryz.ntmps3
    go_wp2_with fail
    refine C0.out.mono ?_
    rintro e w1 ⟨rfl, hb1⟩
    have B1 := Lib.hid (belowS HB0.out hb1)
    clear hb1
    go_wp2
    go_ret
    exact ⟨rfl, B1.out⟩
end Go.Proofs.YtimcobenmgbciaaGreatDoor
