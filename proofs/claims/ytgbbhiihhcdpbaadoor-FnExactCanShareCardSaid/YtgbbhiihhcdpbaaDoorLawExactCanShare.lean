/-
  The walk of the law FnExactCanShare: at every argument it returns true, and only new memory is written. Condition: the package-level errors hold errors. (genlawshr.py writes this text.)
-/
import Derived.Test.YtgbbhiihhcdpbaaDoorJB
import Derived.Test.YtgbbhiihhcdpbaaDoorJQ
namespace Go.Proofs.YtgbbhiihhcdpbaaDoor
open Go Go.RowKit
theorem held5 {W W' : World} {p0 p1 p2 p3 p4 : Addr} {v0 v1 v2 v3 v4 : Value} (h : W.cell? p0 = some v0 ∧ W.cell? p1 = some v1 ∧ W.cell? p2 = some v2 ∧ W.cell? p3 = some v3 ∧ W.cell? p4 = some v4) (hb : Below W.heap.size W W') :
    W'.cell? p0 = some v0 ∧ W'.cell? p1 = some v1 ∧ W'.cell? p2 = some v2 ∧ W'.cell? p3 = some v3 ∧ W'.cell? p4 = some v4 :=
  ⟨cell_grow hb h.1, cell_grow hb h.2.1, cell_grow hb h.2.2.1, cell_grow hb h.2.2.2.1, cell_grow hb h.2.2.2.2⟩
set_option maxRecDepth 100000 in
set_option maxHeartbeats 8000000 in
theorem lawExactCanShare (ss : List Sc) (oa : Option Addr) (cap : Nat) (a b c d : Int) (w : World) (hf : FitsScopes ss) (hI : I64Scopes ss) (hc : HoldsScopes w oa ss) (hE : FewErrs w) :
    Calls Tryd.prog 4 #[.agg #[.slice oa ss.length cap], .agg #[.int .i64 a, .int .i64 b], .agg #[.int .i64 c, .int .i64 d]] w fun e w' => e = .returned (.bool true) ∧ Below w.heap.size w w' := by
  have hb0 := (((Below.refl w.heap.size w).alloc (Nat.le_refl _) (.cells #[.slice oa ss.length cap] 24)).alloc (by simp) (.cells #[.int .i64 a, .int .i64 b] 35)).alloc (by simp; omega) (.cells #[.int .i64 c, .int .i64 d] 35)
  have C0 := Lib.hid (szGraph_any ss oa cap 1048576 _ hf (hc.below hb0 (Nat.le_refl _)) (by omega) (by omega))
  have HB0 := Lib.hid hb0
  have R0 := Lib.hid (((Row.new w [.slice oa ss.length cap] 24).alloc (.cells #[.int .i64 a, .int .i64 b] 35)).alloc (.cells #[.int .i64 c, .int .i64 d] 35))
  have hP0 := (Row.new (w.alloc (.cells #[.slice oa ss.length cap] 24)) [.int .i64 a, .int .i64 b] 35).alloc (.cells #[.int .i64 c, .int .i64 d] 35)
  have hQ0 := Row.new ((w.alloc (.cells #[.slice oa ss.length cap] 24)).alloc (.cells #[.int .i64 a, .int .i64 b] 35)) [.int .i64 c, .int .i64 d] 35
  rw [World.size_alloc] at hP0
  rw [World.size_alloc, World.size_alloc] at hQ0
  have P0 := Lib.hid hP0
  have Q0 := Lib.hid hQ0
  have c0 := R0.out.cell (i := 0) (v := .slice oa ss.length cap) (by rfl)
  clear hP0 hQ0
  by_cases hn : wScopes ss ≤ 1048576
  · have HF := Lib.hid (Fair.of_weight hf hI hn)
    have HPW : Hid ((placed 0 ss).length ≤ 1048576) := Lib.hid (Nat.le_trans (placed_weightH 0 ss) hn)
    rw [rest_pos (by omega)] at C0
    have h0 : (0 : Int) ≤ 1048576 - (wScopes ss : Int) := by omega
    have HC := Lib.hid hc
    have HE := Lib.hid hE
    clear hn hc hE hb0 hf hI
    go_enter Tryd.func4, Tryd.ntmps4
    go_wp2_with fail
    refine C0.out.mono ?_
    rintro e w1 ⟨rfl, hb1⟩
    have B1 := Lib.hid (belowS HB0.out hb1)
    have R1 := Lib.hid (R0.out.below hb1 R0.out.lt)
    have P1 := Lib.hid (P0.out.below hb1 P0.out.lt)
    have Q1 := Lib.hid (Q0.out.below hb1 Q0.out.lt)
    clear hb1 c0
    go_wp2
    have hS0 := And.intro (cell_drew (R1.out.cell (i := 0) (v := .slice oa ss.length cap) (by rfl))) (And.intro (cell_drew (P1.out.cell (i := 0) (v := .int .i64 a) (by rfl))) (And.intro (cell_drew (P1.out.cell (i := 1) (v := .int .i64 b) (by rfl))) (And.intro (cell_drew (Q1.out.cell (i := 0) (v := .int .i64 c) (by rfl))) (cell_drew (Q1.out.cell (i := 1) (v := .int .i64 d) (by rfl))))))
    have HS0 := Lib.hid hS0
    have HD0 := Lib.hid ((Below.refl w1.heap.size w1).drew)
    refine wp_region_kept (S := (fun w' => w'.cell? ⟨w.heap.size, 0, none⟩ = some (.slice oa ss.length cap) ∧ w'.cell? ⟨w.heap.size + 1, 0, none⟩ = some (.int .i64 a) ∧ w'.cell? ⟨w.heap.size + 1, 1, none⟩ = some (.int .i64 b) ∧ w'.cell? ⟨w.heap.size + 1 + 1, 0, none⟩ = some (.int .i64 c) ∧ w'.cell? ⟨w.heap.size + 1 + 1, 1, none⟩ = some (.int .i64 d))) 7 (by kernel_rfl) ?_
    refine KeptAny.tk (v := ?_) 0 hS0 (fun w' hw' => ?_) ?_
    rotate_left
    · (obtain ⟨g0, g1, g2, g3, g4⟩ := hw'; go_simp; try with_reducible rfl)
    refine KeptAny.tk (v := ?_) 2 hS0 (fun w' hw' => ?_) ?_
    rotate_left
    · (obtain ⟨g0, g1, g2, g3, g4⟩ := hw'; go_simp; try with_reducible rfl)
    refine KeptAny.tk (v := ?_) 4 hS0 (fun w' hw' => ?_) ?_
    rotate_left
    · (obtain ⟨g0, g1, g2, g3, g4⟩ := hw'; go_simp; try with_reducible rfl)
    clear hS0
    refine KeptAny.one (i := 1) (by kernel_rfl) rfl (by kernel_rfl) (fun K hK => ?_)
    go_simp
    refine ⟨trivial, ?_⟩
    refine ((callsIn_wide (n := 5)).2 (toGraph_holds HF.out oa cap HC.out (belowS B1.out HD0.out))).mono ?_
    rintro e w2 ⟨g2, rfl, hh2, hb2⟩
    have HX2 := Lib.hid (belowS HD0.out hb2)
    have HH2 := Lib.hid hh2
    have HS2 := Lib.hid (held5 HS0.out hb2)
    refine hK.out _ _ HS2.out (fun _ => ?_)
    clear hK hb2 hh2
    refine KeptAny.one (i := 3) (by kernel_rfl) rfl (by kernel_rfl) (fun K hK => ?_)
    go_simp
    refine ⟨trivial, ?_⟩
    refine ((callsIn_wide (n := 5)).2 (toPlace_any a b w2)).mono ?_
    rintro e w3 ⟨rfl, hb3⟩
    have HX3 := Lib.hid (belowS HX2.out hb3)
    have HH3 := Lib.hid (HH2.out.below hb3 (Nat.le_refl _))
    have HS3 := Lib.hid (held5 HS2.out hb3)
    refine hK.out _ _ HS3.out (fun _ => ?_)
    clear hK hb3
    refine KeptAny.one (i := 5) (by kernel_rfl) rfl (by kernel_rfl) (fun K hK => ?_)
    go_simp
    refine ⟨trivial, ?_⟩
    refine ((callsIn_wide (n := 5)).2 (toPlace_any c d w3)).mono ?_
    rintro e w4 ⟨rfl, hb4⟩
    have HX4 := Lib.hid (belowS HX3.out hb4)
    have HH4 := Lib.hid (HH3.out.below hb4 (Nat.le_refl _))
    have HS4 := Lib.hid (held5 HS3.out hb4)
    refine hK.out _ _ HS4.out (fun _ => ?_)
    clear hK hb4
    refine KeptAny.one (i := 6) (by kernel_rfl) rfl (by kernel_rfl) (fun K hK => ?_)
    go_simp
    refine ⟨trivial, ?_⟩
    refine ((callsIn_wide (n := 5)).2 (specShare_any ss HF.out HPW.out _ _ a b c d w4 HH4.out)).mono ?_
    rintro e w5 ⟨z0, rfl, hz0, hb5⟩
    have HZ0 := Lib.hid hz0
    have HX5 := Lib.hid (belowS HX4.out hb5)
    have B5 := Lib.hid (belowS B1.out HX5.out)
    have HS5 := Lib.hid (held5 HS4.out hb5)
    refine hK.out _ _ HS5.out (fun _ => ?_)
    clear hK hb5 hz0
    refine KeptAny.last (by kernel_rfl) rfl (by kernel_rfl) (fun K hK => ?_)
    go_simp
    refine hK.out _ _ ?_
    clear hK
    refine KeptAny.done (by kernel_rfl) ?_ _
    have c2 := HS5.out.1
    go_wp2_with fail
    refine (toGraph_holds HF.out oa cap HC.out B5.out).mono ?_
    rintro e w6 ⟨g6, rfl, hh6, hb6⟩
    have hbA := hb6.trans (((Below.refl w6.heap.size w6).alloc (Nat.le_refl _) (.cells #[.slice (some ⟨g6, 0, none⟩) ss.length ss.length] 30)).mono hb6.size)
    have RA := Lib.hid (Row.new w6 [.slice (some ⟨g6, 0, none⟩) ss.length ss.length] 30)
    have BA := Lib.hid (belowS B5.out hbA)
    have HXA := Lib.hid (belowS HX5.out hbA)
    have HA := Lib.hid (hh6.below ((Below.refl w6.heap.size w6).alloc (Nat.le_refl _) (.cells #[.slice (some ⟨g6, 0, none⟩) ss.length ss.length] 30)) (Nat.le_refl _))
    have HSA := Lib.hid (held5 HS5.out hbA)
    clear hb6 hh6 hbA c2
    go_wp2
    generalize w6.alloc (.cells #[.slice (some ⟨g6, 0, none⟩) ss.length ss.length] 30) = wA at *
    generalize w6.heap.size = X at *
    have hS0 := And.intro (cell_drew (RA.out.cell (i := 0) (v := .slice (some ⟨g6, 0, none⟩) ss.length ss.length) (by rfl))) (And.intro (cell_drew HSA.out.2.1) (And.intro (cell_drew HSA.out.2.2.1) (And.intro (cell_drew HSA.out.2.2.2.1) (cell_drew HSA.out.2.2.2.2))))
    have HT0 := Lib.hid hS0
    have HDA := Lib.hid ((Below.refl wA.heap.size wA).drew)
    refine wp_region_kept (S := (fun w' => w'.cell? ⟨X, 0, none⟩ = some (.slice (some ⟨g6, 0, none⟩) ss.length ss.length) ∧ w'.cell? ⟨w.heap.size + 1, 0, none⟩ = some (.int .i64 a) ∧ w'.cell? ⟨w.heap.size + 1, 1, none⟩ = some (.int .i64 b) ∧ w'.cell? ⟨w.heap.size + 1 + 1, 0, none⟩ = some (.int .i64 c) ∧ w'.cell? ⟨w.heap.size + 1 + 1, 1, none⟩ = some (.int .i64 d))) 6 (by kernel_rfl) ?_
    refine KeptAny.tk (v := ?_) 0 hS0 (fun w' hw' => ?_) ?_
    rotate_left
    · (obtain ⟨g0, g1, g2, g3, g4⟩ := hw'; go_simp; try with_reducible rfl)
    refine KeptAny.tk (v := ?_) 1 hS0 (fun w' hw' => ?_) ?_
    rotate_left
    · (obtain ⟨g0, g1, g2, g3, g4⟩ := hw'; go_simp; try with_reducible rfl)
    refine KeptAny.tk (v := ?_) 3 hS0 (fun w' hw' => ?_) ?_
    rotate_left
    · (obtain ⟨g0, g1, g2, g3, g4⟩ := hw'; go_simp; try with_reducible rfl)
    clear hS0
    refine KeptAny.one (i := 2) (by kernel_rfl) rfl (by kernel_rfl) (fun K hK => ?_)
    go_simp
    refine ⟨trivial, ?_⟩
    refine ((callsIn_wide (n := 5)).2 (toPlace_any a b wA.drew)).mono ?_
    rintro e w7 ⟨rfl, hb7⟩
    have HX7 := Lib.hid (belowS HDA.out hb7)
    have HT7 := Lib.hid (held5 HT0.out hb7)
    refine hK.out _ _ HT7.out (fun _ => ?_)
    clear hK hb7
    refine KeptAny.one (i := 4) (by kernel_rfl) rfl (by kernel_rfl) (fun K hK => ?_)
    go_simp
    refine ⟨trivial, ?_⟩
    refine ((callsIn_wide (n := 5)).2 (toPlace_any c d w7)).mono ?_
    rintro e w8 ⟨rfl, hb8⟩
    have HX8 := Lib.hid (belowS HX7.out hb8)
    have HT8 := Lib.hid (held5 HT7.out hb8)
    refine hK.out _ _ HT8.out (fun _ => ?_)
    clear hK hb8
    refine KeptAny.one (i := 5) (by kernel_rfl) rfl (by kernel_rfl) (fun K hK => ?_)
    go_simp
    refine ⟨trivial, ?_⟩
    refine ((callsIn_wide (n := 5)).2 (implShare_any ss HF.out _ _ a b c d w8 (HA.out.below HX8.out (Nat.le_refl _)) (HE.out.at (belowS BA.out HX8.out)))).mono ?_
    rintro e w9 ⟨z, rfl, hz, hb9⟩
    obtain rfl : z = z0 := Bool.eq_iff_iff.2 (hz.trans HZ0.out.symm)
    have HX9 := Lib.hid (belowS HX8.out hb9)
    have HT9 := Lib.hid (held5 HT8.out hb9)
    refine hK.out _ _ HT9.out (fun _ => ?_)
    clear hK hb9 hz
    refine KeptAny.last (by kernel_rfl) rfl (by kernel_rfl) (fun K hK => ?_)
    go_simp
    refine hK.out _ _ ?_
    clear hK
    refine KeptAny.done (by kernel_rfl) ?_ _
    have B6 := Lib.hid (belowS BA.out HX9.out)
    have RX6 := Lib.hid (RA.out.below HX9.out RA.out.lt)
    have R6 := Lib.hid (R1.out.below (show Below w1.heap.size w1 w9 from belowS HXA.out HX9.out) R1.out.lt)
    have H6 := Lib.hid (HA.out.below HX9.out (Nat.le_refl _))
    have c5 := R6.out.cell (i := 0) (v := .slice oa ss.length cap) (by rfl)
    have d5 := RX6.out.cell (i := 0) (v := .slice (some ⟨g6, 0, none⟩) ss.length ss.length) (by rfl)
    have c5' := cell_drew c5
    have d5' := cell_drew d5
    have hzz : (z == z) = true := by simp
    have hzn : (z != z) = false := by simp
    go_wp2
    go_cut [38] (fun s wx => s = .bool false ∧ Below w9.heap.size w9 wx)
    case first =>
      go_region_with (first
        | (go_at_call 10; refine (toGraph_holds HF.out oa cap HC.out B6.out.drew).mono ?_; rintro e wt ⟨g7, rfl, hh7, hb7⟩; have H7 := Lib.hid hh7; have B7 := Lib.hid (show Below w9.heap.size w9 wt from ((Below.refl _ _).drew).trans hb7); have d6 := (RX6.out.below B7.out RX6.out.lt).cell (i := 0) (by rfl); clear hh7 hb7)
        | (go_at_call 12; refine (eqGraph_fair HF.out H6.out H7.out B7.out (Below.refl _ _)).mono ?_; rintro e wu ⟨rfl, hb8⟩; have B8 := Lib.hid (belowS B7.out hb8); clear hb8))
      all_goals go_wp2
      all_goals go_meet
      all_goals exact ⟨rfl, B8.out⟩
    case rest =>
      obtain ⟨rfl, hbc⟩ := hcut
      have BE := Lib.hid (belowS B6.out hbc)
      clear hbc
      go_wp2
      go_ret
      exact ⟨rfl, BE.out⟩
  · rw [rest_neg (by omega)] at C0
    clear hn hc hE hb0 hf hI
    go_enter Tryd.func4, Tryd.ntmps4
    go_wp2_with fail
    refine C0.out.mono ?_
    rintro e w1 ⟨rfl, hb1⟩
    have B1 := Lib.hid (belowS HB0.out hb1)
    clear hb1
    go_wp2
    go_ret
    exact ⟨rfl, B1.out⟩
end Go.Proofs.YtgbbhiihhcdpbaaDoor
