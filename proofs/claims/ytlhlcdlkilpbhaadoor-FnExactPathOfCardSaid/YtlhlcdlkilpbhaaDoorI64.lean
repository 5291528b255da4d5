/-
  Numbers of 64 bits. Plain facts.
-/
namespace Go.Proofs.YtlhlcdlkilpbhaaDoor.Sg
/-- A number of 64 bits. -/
def I64 (n : Int) : Prop := -9223372036854775808 ≤ n ∧ n ≤ 9223372036854775807
end Go.Proofs.YtlhlcdlkilpbhaaDoor.Sg
