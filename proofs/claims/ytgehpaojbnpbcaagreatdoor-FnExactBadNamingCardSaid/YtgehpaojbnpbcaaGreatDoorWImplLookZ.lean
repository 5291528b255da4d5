/-
  The walks of impl's ImportedScopes, ImportedOf and LookUp. Conditions: the argument's memory holds the graph; the package-level errors hold errors.
-/
import Derived.Test.YtgehpaojbnpbcaaGreatDoorJEZ
namespace Go.Proofs.YtgehpaojbnpbcaaGreatDoor
open Go Go.RowKit Go.Maps
attribute [local go_sem ↓] field_places
end Go.Proofs.YtgehpaojbnpbcaaGreatDoor
