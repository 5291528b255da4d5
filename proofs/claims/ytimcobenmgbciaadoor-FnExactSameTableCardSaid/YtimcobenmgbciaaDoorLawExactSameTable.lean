/-
  The walk of the law FnExactSameTable: at every argument it returns true, and only new memory is written. Condition: the package-level errors hold errors. (genlaw2g.py writes this text.)
-/
import Derived.Test.YtimcobenmgbciaaDoorJB
import Derived.Test.YtimcobenmgbciaaDoorJC
import Derived.Test.YtimcobenmgbciaaDoorWTabl2
namespace Go.Proofs.YtimcobenmgbciaaDoor
open Go Go.RowKit
theorem grow_cellSameTable {W W' : World} {p : Addr} {v : Value} (hb : Below W.heap.size W W') (h : W.cell? p = some v) : W'.cell? p = some v := (hb.cell (World.block_lt_of_cell? _ _ h)).trans h
theorem below_alSameTable (W : World) (o : Obj) : Below W.heap.size W (W.alloc o) := (Below.refl _ _).alloc (Nat.le_refl _) o
set_option maxRecDepth 100000 in
set_option maxHeartbeats 8000000 in
theorem lawExactSameTable (ss tt : List Sc) (oa ob : Option Addr) (ca cb : Nat) (w : World) (hf : FitsScopes ss) (hI : I64Scopes ss) (hf2 : FitsScopes tt) (hI2 : I64Scopes tt) (hc : HoldsScopes w oa ss) (hd : HoldsScopes w ob tt) (hE : TreeErrs w) :
    Calls Tryd.prog 10 #[.agg #[.slice oa ss.length ca], .agg #[.slice ob tt.length cb]] w fun e w' => e = .returned (.bool true) ∧ Below w.heap.size w w' := by
  have hb0 := ((Below.refl w.heap.size w).alloc (Nat.le_refl _) (.cells #[.slice oa ss.length ca] 48)).alloc (by simp) (.cells #[.slice ob tt.length cb] 48)
  have C0 := Lib.hid (szGraph_any ss oa ca 1048576 _ hf (hc.below hb0 (Nat.le_refl _)) (by omega) (by omega))
  have HB0 := Lib.hid hb0
  have R0 := Lib.hid ((Row.new w [.slice oa ss.length ca] 48).alloc (.cells #[.slice ob tt.length cb] 48))
  have hP0 := Row.new (w.alloc (.cells #[.slice oa ss.length ca] 48)) [.slice ob tt.length cb] 48
  rw [World.size_alloc] at hP0
  have P0 := Lib.hid hP0
  clear hP0
  by_cases hn : wScopes ss ≤ 1048576
  · have HF := Lib.hid (Fair.of_weight hf hI hn)
    rw [rest_pos (by omega)] at C0
    have h0 : (0 : Int) ≤ 1048576 - (wScopes ss : Int) := by omega
    have HC := Lib.hid hc
    have HD := Lib.hid hd
    have HE := Lib.hid hE
    have HT := Lib.hid (And.intro hf2 hI2)
    clear hn hc hd hE hb0 hf hI hf2 hI2
    go_enter Tryd.func10, Tryd.ntmps10
    go_wp2_with fail
    refine C0.out.mono ?_
    rintro e w1 ⟨rfl, hb1⟩
    have hB := belowS HB0.out hb1
    have R1 := Lib.hid (R0.out.below hb1 R0.out.lt)
    have P1 := Lib.hid (P0.out.below hb1 P0.out.lt)
    have c1 := P1.out.cell (i := 0) (v := .slice ob tt.length cb) (by rfl)
    have B1 := Lib.hid hB
    have C1 := Lib.hid (szGraph_any tt ob cb (1048576 - (wScopes ss : Int)) w1 HT.out.1 (HD.out.below hB (Nat.le_refl _)) h0 (by omega))
    clear hb1 hB
    by_cases hn2 : wScopes tt ≤ 1048576 - wScopes ss
    · have HG := Lib.hid (Fair.of_weight HT.out.1 HT.out.2 (Nat.le_trans hn2 (Nat.sub_le _ _)))
      rw [rest_pos (by omega)] at C1
      have h1 : (0 : Int) ≤ 1048576 - (wScopes ss : Int) - (wScopes tt : Int) := by omega
      clear hn2
      go_wp2_with fail
      refine C1.out.mono ?_
      rintro e w2 ⟨rfl, hb2⟩
      have B2 := Lib.hid (belowS B1.out hb2)
      have R2 := Lib.hid (R1.out.below hb2 R1.out.lt)
      have P2 := Lib.hid (P1.out.below hb2 P1.out.lt)
      have c0 := R2.out.cell (i := 0) (v := .slice oa ss.length ca) (by rfl)
      have c1 := P2.out.cell (i := 0) (v := .slice ob tt.length cb) (by rfl)
      clear hb2
      go_wp2
      go_cut [6] (fun s6 wx => ∃ z : Bool, s6 = .bool z ∧ (z = true ↔ SameTab ss tt) ∧ Below w2.heap.size w2 wx)
      case first =>
        refine wp_region_kept (S := fun w' => w'.cell? ⟨w.heap.size, 0, none⟩ = some (.slice oa ss.length ca) ∧ w'.cell? ⟨w.heap.size + 1, 0, none⟩ = some (.slice ob tt.length cb)) 20 (by kernel_rfl) ?_
        have hS0 := And.intro (cell_drew c0) (cell_drew c1)
        refine KeptAny.take (i := 0) (v := ?_) (by kernel_rfl) rfl rfl (by kernel_rfl) (by kernel_rfl) (by kernel_rfl) (fun _ _ _ h => h) (by rfl) (fun w' hw' => ?_) (fun _ => rfl) hS0 ?_
        rotate_left
        · (obtain ⟨g0, g1⟩ := hw'; go_simp; try with_reducible rfl)
        refine KeptAny.take (i := 2) (v := ?_) (by kernel_rfl) rfl rfl (by kernel_rfl) (by kernel_rfl) (by kernel_rfl) (fun _ _ _ h => h) (by rfl) (fun w' hw' => ?_) (fun _ => rfl) hS0 ?_
        rotate_left
        · (obtain ⟨g0, g1⟩ := hw'; go_simp; try with_reducible rfl)
        have HD0 : Hid (Below w2.heap.size w2 w2.drew) := Lib.hid ((Below.refl _ _).drew)
        have HS0 := Lib.hid hS0
        clear hS0 c0 c1
        refine KeptAny.one (i := 1) (by kernel_rfl) rfl (by rfl) (fun K hK => ?_)
        go_simp
        refine ⟨trivial, ?_⟩
        refine ((callsIn_wide (n := 5)).2 (toGraph_holds HF.out oa ca HC.out (belowS B2.out HD0.out))).mono ?_
        rintro e wa ⟨ga, rfl, hha, hb⟩
        have HD1 := Lib.hid (belowS HD0.out hb)
        have HS1 := Lib.hid (And.intro (grow_cellSameTable hb HS0.out.1) (grow_cellSameTable hb HS0.out.2))
        have HHA := Lib.hid hha
        clear hb hha
        refine hK.out _ _ HS1.out (fun _ => ?_)
        clear hK
        refine KeptAny.one (i := 3) (by kernel_rfl) rfl (by rfl) (fun K hK => ?_)
        go_simp
        refine ⟨trivial, ?_⟩
        refine ((callsIn_wide (n := 5)).2 (toGraph_holds HG.out ob cb HD.out (belowS B2.out HD1.out))).mono ?_
        rintro e wb ⟨gb, rfl, hhb, hb⟩
        have HD2 := Lib.hid (belowS HD1.out hb)
        have HS2 := Lib.hid (And.intro (grow_cellSameTable hb HS1.out.1) (grow_cellSameTable hb HS1.out.2))
        have HHB := Lib.hid (And.intro (HHA.out.below hb (Nat.le_refl _)) hhb)
        clear hb hhb
        refine hK.out _ _ HS2.out (fun _ => ?_)
        clear hK
        refine KeptAny.one (i := 4) (by kernel_rfl) rfl (by rfl) (fun K hK => ?_)
        go_simp
        refine ⟨trivial, ?_⟩
        refine ((callsIn_wide (n := 5)).2 (specSameTable_any ss tt HF.out HG.out _ _ _ _ _ HHB.out.1 HHB.out.2)).mono ?_
        rintro e wc ⟨z, rfl, hz, hb⟩
        have HD3 := Lib.hid (belowS HD2.out hb)
        have HS3 := Lib.hid (And.intro (grow_cellSameTable hb HS2.out.1) (grow_cellSameTable hb HS2.out.2))
        have HZ := Lib.hid hz
        clear hb hz
        refine hK.out _ _ HS3.out (fun _ => ?_)
        clear hK
        refine KeptAny.one (i := 5) (by kernel_rfl) rfl (by rfl) (fun K hK => ?_)
        go_simp
        refine hK.out _ _ HS3.out (fun _ => ?_)
        clear hK
        refine KeptAny.done (by kernel_rfl) ?_ _
        go_wp2
        go_meet
        exact ⟨z, rfl, HZ.out, HD3.out⟩
      case rest =>
        obtain ⟨z0, rfl, hv, hbc⟩ := hcut
        have B3 := Lib.hid (belowS B2.out hbc)
        have R3 := Lib.hid (R2.out.below hbc R2.out.lt)
        have P3 := Lib.hid (P2.out.below hbc P2.out.lt)
        have V2 := Lib.hid hv
        have c3 := R3.out.cell (i := 0) (v := .slice oa ss.length ca) (by rfl)
        clear hbc hv c0 c1
        go_wp2_with fail
        refine (toGraph_holds HF.out oa ca HC.out B3.out).mono ?_
        rintro e w4 ⟨g4, rfl, hh4, hb4⟩
        have hbA := hb4.trans ((below_alSameTable w4 (.cells #[.slice (some ⟨g4, 0, none⟩) ss.length ss.length] 25)).mono hb4.size)
        have RA := Lib.hid (Row.new w4 [.slice (some ⟨g4, 0, none⟩) ss.length ss.length] 25)
        have BA := Lib.hid (belowS B3.out hbA)
        have R4 := Lib.hid (R3.out.below hbA R3.out.lt)
        have P4 := Lib.hid (P3.out.below hbA P3.out.lt)
        have HA := Lib.hid (hh4.below (below_alSameTable w4 (.cells #[.slice (some ⟨g4, 0, none⟩) ss.length ss.length] 25)) (Nat.le_refl _))
        have p4 := P4.out.cell (i := 0) (v := .slice ob tt.length cb) (by rfl)
        clear hb4 hh4 hbA c3
        go_wp2_with fail
        generalize w4.alloc (.cells #[.slice (some ⟨g4, 0, none⟩) ss.length ss.length] 25) = wA at *
        refine (toGraph_holds HG.out ob cb HD.out BA.out).mono ?_
        rintro e w5 ⟨g5, rfl, hh5, hb5⟩
        have hbB := hb5.trans ((below_alSameTable w5 (.cells #[.slice (some ⟨g5, 0, none⟩) tt.length tt.length] 25)).mono hb5.size)
        have RB := Lib.hid (Row.new w5 [.slice (some ⟨g5, 0, none⟩) tt.length tt.length] 25)
        have BB := Lib.hid (belowS BA.out hbB)
        have R5 := Lib.hid (R4.out.below hbB R4.out.lt)
        have P5 := Lib.hid (P4.out.below hbB P4.out.lt)
        have RA5 := Lib.hid (RA.out.below hbB RA.out.lt)
        have HA5 := Lib.hid (HA.out.below hbB (Nat.le_refl _))
        have HB5 := Lib.hid (hh5.below (below_alSameTable w5 (.cells #[.slice (some ⟨g5, 0, none⟩) tt.length tt.length] 25)) (Nat.le_refl _))
        have d0 := RA5.out.cell (i := 0) (v := .slice (some ⟨g4, 0, none⟩) ss.length ss.length) (by rfl)
        have d1 := RB.out.cell (i := 0) (v := .slice (some ⟨g5, 0, none⟩) tt.length tt.length) (by rfl)
        clear hb5 hh5 hbB p4
        go_wp2_with fail
        generalize w5.alloc (.cells #[.slice (some ⟨g5, 0, none⟩) tt.length tt.length] 25) = wB at *
        refine (implSameTable_any ss tt HF.out HG.out _ _ _ _ _ HA5.out HB5.out (HE.out.at BB.out)).mono ?_
        rintro e w6 ⟨z, rfl, hv, hb6⟩
        obtain rfl : z0 = z := by
          have h := V2.out
          cases z0 <;> cases z <;> simp_all
        have B6 := Lib.hid (belowS BB.out hb6)
        have R6 := Lib.hid (R5.out.below hb6 R5.out.lt)
        have P6 := Lib.hid (P5.out.below hb6 P5.out.lt)
        have RA6 := Lib.hid (RA5.out.below hb6 RA5.out.lt)
        have RB6 := Lib.hid (RB.out.below hb6 RB.out.lt)
        have HA6 := Lib.hid (HA5.out.below hb6 (Nat.le_refl _))
        have HB6 := Lib.hid (HB5.out.below hb6 (Nat.le_refl _))
        clear hb6 hv d0 d1
        have c5 := R6.out.cell (i := 0) (v := .slice oa ss.length ca) (by rfl)
        have d5 := RA6.out.cell (i := 0) (v := .slice (some ⟨g4, 0, none⟩) ss.length ss.length) (by rfl)
        have c5' := (((Below.refl _ _).drew).cell (p := ⟨w.heap.size, 0, none⟩) R6.out.lt).trans c5
        have d5' := (((Below.refl _ _).drew).cell (p := ⟨w4.heap.size, 0, none⟩) RA6.out.lt).trans d5
        have hzz : (z0 == z0) = true := by simp
        have hzn : (z0 != z0) = false := by simp
        go_wp2
        go_cut [39] (fun s wx => s = .bool false ∧ Below w6.heap.size w6 wx)
        case first =>
          go_region_with (first
            | (go_at_call 33; refine (toGraph_holds HF.out oa ca HC.out B6.out.drew).mono ?_; rintro e w7 ⟨g7, rfl, hh7, hb7⟩; have H7 := Lib.hid hh7; have B7 := Lib.hid (show Below w6.heap.size w6 w7 from ((Below.refl _ _).drew).trans hb7); have d6 := (RA6.out.below B7.out RA6.out.lt).cell (i := 0) (by rfl); clear hh7 hb7)
            | (go_at_call 36; refine (eqGraph_fair HF.out HA6.out H7.out B7.out (Below.refl _ _)).mono ?_; rintro e w8 ⟨rfl, hb8⟩; have B8 := Lib.hid (belowS B7.out hb8); clear hb8))
          all_goals go_wp2
          all_goals go_meet
          all_goals exact ⟨rfl, B8.out⟩
        case rest =>
          obtain ⟨rfl, hbc⟩ := hcut
          have BE := Lib.hid (belowS B6.out hbc)
          have P7 := Lib.hid (P6.out.below hbc P6.out.lt)
          have RB7 := Lib.hid (RB6.out.below hbc RB6.out.lt)
          have HB7 := Lib.hid (HB6.out.below hbc (Nat.le_refl _))
          clear hbc c5 d5 c5' d5'
          obtain ⟨w7, rfl⟩ : ∃ w7, w7 = wc := ⟨wc, rfl⟩
          have c5 := P7.out.cell (i := 0) (v := .slice ob tt.length cb) (by rfl)
          have d5 := RB7.out.cell (i := 0) (v := .slice (some ⟨g5, 0, none⟩) tt.length tt.length) (by rfl)
          have c5' := (((Below.refl _ _).drew).cell (p := ⟨w.heap.size + 1, 0, none⟩) P7.out.lt).trans c5
          have d5' := (((Below.refl _ _).drew).cell (p := ⟨w5.heap.size, 0, none⟩) RB7.out.lt).trans d5
          go_wp2
          go_cut [44] (fun s wx => s = .bool false ∧ Below w7.heap.size w7 wx)
          case first =>
            go_region_with (first
              | (go_at_call 33; refine (toGraph_holds HG.out ob cb HD.out BE.out.drew).mono ?_; rintro e w8 ⟨g8, rfl, hh8, hb8⟩; have H8 := Lib.hid hh8; have B8 := Lib.hid (show Below w7.heap.size w7 w8 from ((Below.refl _ _).drew).trans hb8); have d6 := (RB7.out.below B8.out RB7.out.lt).cell (i := 0) (by rfl); clear hh8 hb8)
              | (go_at_call 36; refine (eqGraph_fair HG.out HB7.out H8.out B8.out (Below.refl _ _)).mono ?_; rintro e w9 ⟨rfl, hb9⟩; have B9 := Lib.hid (belowS B8.out hb9); clear hb9))
            all_goals go_wp2
            all_goals go_meet
            all_goals exact ⟨rfl, B9.out⟩
          case rest =>
            obtain ⟨rfl, hbc⟩ := hcut
            have BF := Lib.hid (belowS BE.out hbc)
            clear hbc
            go_wp2
            go_ret
            exact ⟨rfl, BF.out⟩
    · rw [rest_neg (by omega)] at C1
      clear hn2
      go_wp2_with fail
      refine C1.out.mono ?_
      rintro e w2 ⟨rfl, hb2⟩
      have B2 := Lib.hid (belowS B1.out hb2)
      clear hb2
      go_wp2
      go_ret
      exact ⟨rfl, B2.out⟩
  · rw [rest_neg (by omega)] at C0
    clear hn hc hd hE hb0 hf hI hf2 hI2
    go_enter Tryd.func10, Tryd.ntmps10
    go_wp2_with fail
    refine C0.out.mono ?_
    rintro e w1 ⟨rfl, hb1⟩
    have B1 := Lib.hid (belowS HB0.out hb1)
    clear hb1
    go_wp2
    go_ret
    exact ⟨rfl, B1.out⟩
end Go.Proofs.YtimcobenmgbciaaDoor
