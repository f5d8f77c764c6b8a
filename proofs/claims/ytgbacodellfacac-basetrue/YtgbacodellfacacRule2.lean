import Derived.Test.YtgbacodellfacacRule
namespace Go.Proofs.Ytgbacodellfacac.Rule
open Go.ChangeShapes Go.WideShapes Go.ChangeAt Go.RowKit
open Lat (within)

/-! ### Ground -/
end Go.Proofs.Ytgbacodellfacac.Rule
