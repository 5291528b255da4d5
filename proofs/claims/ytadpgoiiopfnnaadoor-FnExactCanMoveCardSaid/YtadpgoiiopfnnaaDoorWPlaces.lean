/-
  The walks of the laws' copies of lists of places: toPlaceS, szPlaceS. Condition: the list has at most 2^20 places.
-/
import Derived.Test.YtadpgoiiopfnnaaDoorWMarksP
namespace Go.Proofs.YtadpgoiiopfnnaaDoor
open Go Go.RowKit
end Go.Proofs.YtadpgoiiopfnnaaDoor
