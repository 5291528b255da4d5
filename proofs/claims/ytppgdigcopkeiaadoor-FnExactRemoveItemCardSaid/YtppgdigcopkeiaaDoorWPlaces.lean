/-
  The walks of the laws' copies of lists of places: toPlaceS, szPlaceS. Condition: the list has at most 2^20 places.
-/
import Derived.Test.YtppgdigcopkeiaaDoorWMarksP
namespace Go.Proofs.YtppgdigcopkeiaaDoor
open Go Go.RowKit
end Go.Proofs.YtppgdigcopkeiaaDoor
