/-
  The walk of impl's staying: all items stay where they are. No condition.
-/
import Derived.Test.YtgehpaojbnpbcaaGreatDoorJEZ
namespace Go.Proofs.YtgehpaojbnpbcaaGreatDoor
open Go Go.RowKit
set_option maxRecDepth 100000 in
theorem staying_any (a b : Int) (W : World) :
    Calls Tryz.prog 37 #[.agg #[.int .i64 a, .int .i64 b]] W fun e W' => e = .returned (.tuple #[.agg #[.int .i64 a, .int .i64 b], .bool true]) ∧ Below W.heap.size W W' := by
  have R1 := (Row.new W [.int .i64 a, .int .i64 b] 59).alloc (.cells #[.int .i64 0, .int .i64 0] 59)
  have R2 := Row.new (W.alloc (.cells #[.int .i64 a, .int .i64 b] 59)) [.int .i64 0, .int .i64 0] 59
  rw [World.size_alloc] at R2
  have p0 := R1.cell (i := 0) (v := .int .i64 a) (by rfl)
  have p1 := R1.cell (i := 1) (v := .int .i64 b) (by rfl)
  have m0 := R2.cell (i := 0) (v := .int .i64 0) (by rfl)
  have m1 := R2.cell (i := 1) (v := .int .i64 0) (by rfl)
  have f0 := R2.frozen 0
  have f1 := R2.frozen 1
  clear R1 R2
  go_enter Tryz.func37, Tryz.ntmps37
  go_wp2
  refine bodyPost_ret (v := .tuple #[.agg #[.int .i64 a, .int .i64 b], .bool true]) (by simp [results, Tryz.results37, go_sem]) rfl ⟨rfl, ((Below.refl _ _).alloc (Nat.le_refl _) _).alloc (by simp) _⟩
theorem stands_stay (w : World) : StandsOk w (.func (.func 37) #[] #[]) some :=
  ⟨_, #[], rfl, enters_of Tryz.func37 (by kernel_rfl) rfl, fun i j W _ _ _ => (staying_any (i : Int) (j : Int) W).mono fun e W' h => ⟨(i : Int), (j : Int), true, h.1, .inl ⟨rfl, rfl⟩, h.2⟩⟩
end Go.Proofs.YtgehpaojbnpbcaaGreatDoor
