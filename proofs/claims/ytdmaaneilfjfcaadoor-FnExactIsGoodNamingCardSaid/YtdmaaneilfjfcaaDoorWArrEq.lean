/-
  Two tables compared as arrays. Plain facts of the program's types.
-/
import Derived.Test.YtdmaaneilfjfcaaDoorJH
import Derived.Laws.StructEq
namespace Go.Proofs.YtdmaaneilfjfcaaDoor
open Go Go.RowKit
theorem sizeInt3 (W : World) : (sizeOf 3).run Tryd.prog W = .ok 1 W := by kernel_rfl
theorem size5 (W : World) : (sizeOf 90).run Tryd.prog W = .ok 5 W := by kernel_rfl
theorem eqInt (d : Nat) (a b : Int) (W : World) : (Op.equalIn (d + 1) 3 (.int .i64 a) (.int .i64 b)).run Tryd.prog W = .ok (a == b) W := by
  rw [Op.equalIn]
  simp only [Sem.run_bind, run_underlying Tryd.underlying3, Result.andThen_ok]
  simp
theorem part5 (c : Nat → Int) (W : World) : (part 3 #[.int .i64 (c 0), .int .i64 (c 1), .int .i64 (c 2), .int .i64 (c 3), .int .i64 (c 4)] 0).run Tryd.prog W = .ok (.int .i64 (c 0)) W ∧ (part 3 #[.int .i64 (c 0), .int .i64 (c 1), .int .i64 (c 2), .int .i64 (c 3), .int .i64 (c 4)] 1).run Tryd.prog W = .ok (.int .i64 (c 1)) W ∧ (part 3 #[.int .i64 (c 0), .int .i64 (c 1), .int .i64 (c 2), .int .i64 (c 3), .int .i64 (c 4)] 2).run Tryd.prog W = .ok (.int .i64 (c 2)) W ∧ (part 3 #[.int .i64 (c 0), .int .i64 (c 1), .int .i64 (c 2), .int .i64 (c 3), .int .i64 (c 4)] 3).run Tryd.prog W = .ok (.int .i64 (c 3)) W ∧ (part 3 #[.int .i64 (c 0), .int .i64 (c 1), .int .i64 (c 2), .int .i64 (c 3), .int .i64 (c 4)] 4).run Tryd.prog W = .ok (.int .i64 (c 4)) W := by
  refine ⟨?_, ?_, ?_, ?_, ?_⟩ <;> kernel_rfl
theorem eq5_run (d : Nat) (c e : Nat → Int) (W : World) : (Op.equalIn (d + 2) 90 (.agg #[.int .i64 (c 0), .int .i64 (c 1), .int .i64 (c 2), .int .i64 (c 3), .int .i64 (c 4)]) (.agg #[.int .i64 (e 0), .int .i64 (e 1), .int .i64 (e 2), .int .i64 (e 3), .int .i64 (e 4)])).run Tryd.prog W =
    .ok (c 0 == e 0 && (c 1 == e 1 && (c 2 == e 2 && (c 3 == e 3 && c 4 == e 4)))) W := by
  obtain ⟨p0, p1, p2, p3, p4⟩ := part5 c W
  obtain ⟨q0, q1, q2, q3, q4⟩ := part5 e W
  rw [show d + 2 = (d + 1) + 1 from rfl, Op.equalIn]
  simp only [Sem.run_bind, run_underlying Tryd.underlying90, Result.andThen_ok, sizeInt3]
  simp only [Std.Legacy.Range.forIn_eq_forIn_range', Std.Legacy.Range.size, Nat.sub_zero, Nat.add_sub_cancel, Nat.div_one, List.range'_succ, List.range'_zero, List.forIn_cons, List.forIn_nil]
  have r0 := eqInt d (c 0) (e 0) W
  have r1 := eqInt d (c 1) (e 1) W
  have r2 := eqInt d (c 2) (e 2) W
  have r3 := eqInt d (c 3) (e 3) W
  have r4 := eqInt d (c 4) (e 4) W
  generalize (c 0 == e 0) = b0 at *
  generalize (c 1 == e 1) = b1 at *
  generalize (c 2 == e 2) = b2 at *
  generalize (c 3 == e 3) = b3 at *
  generalize (c 4 == e 4) = b4 at *
  simp only [Sem.run_bind, Nat.reduceMul, Nat.reduceAdd, p0, q0, Result.andThen_ok, r0]
  cases b0 <;> cases b1 <;> cases b2 <;> cases b3 <;> cases b4 <;> simp [p1, p2, p3, p4, q1, q2, q3, q4, r1, r2, r3, r4]
theorem partT0 (f : Nat → Int) (W : World) : (part 90 (tblL f).toArray 0).run Tryd.prog W = .ok (.agg #[.int .i64 (f 0), .int .i64 (f 1), .int .i64 (f 2), .int .i64 (f 3), .int .i64 (f 4)]) W := by kernel_rfl
theorem partT1 (f : Nat → Int) (W : World) : (part 90 (tblL f).toArray 5).run Tryd.prog W = .ok (.agg #[.int .i64 (f 5), .int .i64 (f 6), .int .i64 (f 7), .int .i64 (f 8), .int .i64 (f 9)]) W := by kernel_rfl
theorem partT2 (f : Nat → Int) (W : World) : (part 90 (tblL f).toArray 10).run Tryd.prog W = .ok (.agg #[.int .i64 (f 10), .int .i64 (f 11), .int .i64 (f 12), .int .i64 (f 13), .int .i64 (f 14)]) W := by kernel_rfl
theorem partT3 (f : Nat → Int) (W : World) : (part 90 (tblL f).toArray 15).run Tryd.prog W = .ok (.agg #[.int .i64 (f 15), .int .i64 (f 16), .int .i64 (f 17), .int .i64 (f 18), .int .i64 (f 19)]) W := by kernel_rfl
theorem partT4 (f : Nat → Int) (W : World) : (part 90 (tblL f).toArray 20).run Tryd.prog W = .ok (.agg #[.int .i64 (f 20), .int .i64 (f 21), .int .i64 (f 22), .int .i64 (f 23), .int .i64 (f 24)]) W := by kernel_rfl
theorem partT5 (f : Nat → Int) (W : World) : (part 90 (tblL f).toArray 25).run Tryd.prog W = .ok (.agg #[.int .i64 (f 25), .int .i64 (f 26), .int .i64 (f 27), .int .i64 (f 28), .int .i64 (f 29)]) W := by kernel_rfl
theorem eqR0 (d : Nat) (f g : Nat → Int) (W : World) : (Op.equalIn (d + 2) 90 (.agg #[.int .i64 (f 0), .int .i64 (f 1), .int .i64 (f 2), .int .i64 (f 3), .int .i64 (f 4)]) (.agg #[.int .i64 (g 0), .int .i64 (g 1), .int .i64 (g 2), .int .i64 (g 3), .int .i64 (g 4)])).run Tryd.prog W = .ok (f 0 == g 0 && (f 1 == g 1 && (f 2 == g 2 && (f 3 == g 3 && f 4 == g 4)))) W := eq5_run d (fun q => f (0 + q)) (fun q => g (0 + q)) W
theorem eqR1 (d : Nat) (f g : Nat → Int) (W : World) : (Op.equalIn (d + 2) 90 (.agg #[.int .i64 (f 5), .int .i64 (f 6), .int .i64 (f 7), .int .i64 (f 8), .int .i64 (f 9)]) (.agg #[.int .i64 (g 5), .int .i64 (g 6), .int .i64 (g 7), .int .i64 (g 8), .int .i64 (g 9)])).run Tryd.prog W = .ok (f 5 == g 5 && (f 6 == g 6 && (f 7 == g 7 && (f 8 == g 8 && f 9 == g 9)))) W := eq5_run d (fun q => f (5 + q)) (fun q => g (5 + q)) W
theorem eqR2 (d : Nat) (f g : Nat → Int) (W : World) : (Op.equalIn (d + 2) 90 (.agg #[.int .i64 (f 10), .int .i64 (f 11), .int .i64 (f 12), .int .i64 (f 13), .int .i64 (f 14)]) (.agg #[.int .i64 (g 10), .int .i64 (g 11), .int .i64 (g 12), .int .i64 (g 13), .int .i64 (g 14)])).run Tryd.prog W = .ok (f 10 == g 10 && (f 11 == g 11 && (f 12 == g 12 && (f 13 == g 13 && f 14 == g 14)))) W := eq5_run d (fun q => f (10 + q)) (fun q => g (10 + q)) W
theorem eqR3 (d : Nat) (f g : Nat → Int) (W : World) : (Op.equalIn (d + 2) 90 (.agg #[.int .i64 (f 15), .int .i64 (f 16), .int .i64 (f 17), .int .i64 (f 18), .int .i64 (f 19)]) (.agg #[.int .i64 (g 15), .int .i64 (g 16), .int .i64 (g 17), .int .i64 (g 18), .int .i64 (g 19)])).run Tryd.prog W = .ok (f 15 == g 15 && (f 16 == g 16 && (f 17 == g 17 && (f 18 == g 18 && f 19 == g 19)))) W := eq5_run d (fun q => f (15 + q)) (fun q => g (15 + q)) W
theorem eqR4 (d : Nat) (f g : Nat → Int) (W : World) : (Op.equalIn (d + 2) 90 (.agg #[.int .i64 (f 20), .int .i64 (f 21), .int .i64 (f 22), .int .i64 (f 23), .int .i64 (f 24)]) (.agg #[.int .i64 (g 20), .int .i64 (g 21), .int .i64 (g 22), .int .i64 (g 23), .int .i64 (g 24)])).run Tryd.prog W = .ok (f 20 == g 20 && (f 21 == g 21 && (f 22 == g 22 && (f 23 == g 23 && f 24 == g 24)))) W := eq5_run d (fun q => f (20 + q)) (fun q => g (20 + q)) W
theorem eqR5 (d : Nat) (f g : Nat → Int) (W : World) : (Op.equalIn (d + 2) 90 (.agg #[.int .i64 (f 25), .int .i64 (f 26), .int .i64 (f 27), .int .i64 (f 28), .int .i64 (f 29)]) (.agg #[.int .i64 (g 25), .int .i64 (g 26), .int .i64 (g 27), .int .i64 (g 28), .int .i64 (g 29)])).run Tryd.prog W = .ok (f 25 == g 25 && (f 26 == g 26 && (f 27 == g 27 && (f 28 == g 28 && f 29 == g 29)))) W := eq5_run d (fun q => f (25 + q)) (fun q => g (25 + q)) W
theorem eqT_run (d : Nat) (f g : Nat → Int) (W : World) : ∃ b, (Op.equalIn (d + 3) 92 (.agg (tblL f).toArray) (.agg (tblL g).toArray)).run Tryd.prog W = .ok b W ∧ (b = true ↔ ∀ k, k < 30 → f k = g k) := by
  have r0 := eqR0 d f g W
  have r1 := eqR1 d f g W
  have r2 := eqR2 d f g W
  have r3 := eqR3 d f g W
  have r4 := eqR4 d f g W
  have r5 := eqR5 d f g W
  obtain ⟨b0, hb0⟩ : ∃ b, (f 0 == g 0 && (f 1 == g 1 && (f 2 == g 2 && (f 3 == g 3 && f 4 == g 4)))) = b := ⟨_, rfl⟩
  obtain ⟨b1, hb1⟩ : ∃ b, (f 5 == g 5 && (f 6 == g 6 && (f 7 == g 7 && (f 8 == g 8 && f 9 == g 9)))) = b := ⟨_, rfl⟩
  obtain ⟨b2, hb2⟩ : ∃ b, (f 10 == g 10 && (f 11 == g 11 && (f 12 == g 12 && (f 13 == g 13 && f 14 == g 14)))) = b := ⟨_, rfl⟩
  obtain ⟨b3, hb3⟩ : ∃ b, (f 15 == g 15 && (f 16 == g 16 && (f 17 == g 17 && (f 18 == g 18 && f 19 == g 19)))) = b := ⟨_, rfl⟩
  obtain ⟨b4, hb4⟩ : ∃ b, (f 20 == g 20 && (f 21 == g 21 && (f 22 == g 22 && (f 23 == g 23 && f 24 == g 24)))) = b := ⟨_, rfl⟩
  obtain ⟨b5, hb5⟩ : ∃ b, (f 25 == g 25 && (f 26 == g 26 && (f 27 == g 27 && (f 28 == g 28 && f 29 == g 29)))) = b := ⟨_, rfl⟩
  rw [hb0] at r0
  rw [hb1] at r1
  rw [hb2] at r2
  rw [hb3] at r3
  rw [hb4] at r4
  rw [hb5] at r5
  refine ⟨b0 && (b1 && (b2 && (b3 && (b4 && b5)))), ?_, ?_⟩
  · rw [show d + 3 = (d + 2) + 1 from rfl, Op.equalIn]
    simp only [Sem.run_bind, run_underlying Tryd.underlying92, Result.andThen_ok, size5]
    simp only [Std.Legacy.Range.forIn_eq_forIn_range', Std.Legacy.Range.size, Nat.sub_zero, Nat.add_sub_cancel, Nat.div_one, List.range'_succ, List.range'_zero, List.forIn_cons, List.forIn_nil]
    simp only [Sem.run_bind, Nat.reduceMul, Nat.reduceAdd, partT0, Result.andThen_ok, r0]
    clear hb0 hb1 hb2 hb3 hb4 hb5
    cases b0 <;> cases b1 <;> cases b2 <;> cases b3 <;> cases b4 <;> cases b5 <;> simp [partT1, partT2, partT3, partT4, partT5, r1, r2, r3, r4, r5]
  · rw [← hb0, ← hb1, ← hb2, ← hb3, ← hb4, ← hb5]
    simp only [Bool.and_eq_true, beq_iff_eq]
    constructor
    · intro h k hk
      have hc : k = 0 ∨ k = 1 ∨ k = 2 ∨ k = 3 ∨ k = 4 ∨ k = 5 ∨ k = 6 ∨ k = 7 ∨ k = 8 ∨ k = 9 ∨ k = 10 ∨ k = 11 ∨ k = 12 ∨ k = 13 ∨ k = 14 ∨ k = 15 ∨ k = 16 ∨ k = 17 ∨ k = 18 ∨ k = 19 ∨ k = 20 ∨ k = 21 ∨ k = 22 ∨ k = 23 ∨ k = 24 ∨ k = 25 ∨ k = 26 ∨ k = 27 ∨ k = 28 ∨ k = 29 := by omega
      rcases hc with rfl | rfl | rfl | rfl | rfl | rfl | rfl | rfl | rfl | rfl | rfl | rfl | rfl | rfl | rfl | rfl | rfl | rfl | rfl | rfl | rfl | rfl | rfl | rfl | rfl | rfl | rfl | rfl | rfl | rfl <;> simp [h]
    · intro h
      simp [h]
end Go.Proofs.YtdmaaneilfjfcaaDoor
