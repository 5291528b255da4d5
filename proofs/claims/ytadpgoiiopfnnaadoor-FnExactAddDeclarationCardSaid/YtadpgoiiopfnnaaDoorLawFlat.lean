/-
  What the walks of the exact laws with an answer without memory of its own share. Plain facts.
-/
import Derived.Test.YtadpgoiiopfnnaaDoorLawPls
import Derived.Test.YtadpgoiiopfnnaaDoorWMarksP
namespace Go.Proofs.YtadpgoiiopfnnaaDoor
open Go Go.RowKit
theorem eqPlace_self (a b : Int) (w : World) :
    Calls Tryd.prog 25 #[.agg #[.int .i64 a, .int .i64 b], .agg #[.int .i64 a, .int .i64 b]] w fun e w' => e = .returned (.bool true) ∧ Below w.heap.size w w' :=
  (eqPlace_any a b a b w).mono fun _ _ h => by simpa using h
end Go.Proofs.YtadpgoiiopfnnaaDoor
