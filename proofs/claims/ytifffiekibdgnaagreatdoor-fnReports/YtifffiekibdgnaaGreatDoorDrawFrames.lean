/- What the law on frames draws: DrawCheck, DrawFramed; pick. -/
import Derived.Test.YtifffiekibdgnaaGreatDoorDrawText
import Derived.Test.YtifffiekibdgnaaGreatDoorDrawSets
namespace Go.Proofs.YtifffiekibdgnaaGreatDoor
open Go.ChangeShapes Go.WideShapes Go.ChangeAt Go.RowKit
end Go.Proofs.YtifffiekibdgnaaGreatDoor
