/-
  The walks of the laws' copies of lists of places: toPlaceS, szPlaceS. Condition: the list has at most 2^20 places.
-/
import Derived.Test.YtmfglfhloahmlaaDoorWMarksP
namespace Go.Proofs.YtmfglfhloahmlaaDoor
open Go Go.RowKit
end Go.Proofs.YtmfglfhloahmlaaDoor
