/-
  Whether predicates may be asked by their kinds and arities; whether a fact is one: the document's own answers.
-/
import Derived.Test.YtgbacodellfacacGround2
namespace Go.Proofs.Ytgbacodellfacac.Rule
open Go.ChangeShapes Go.WideShapes Go.ChangeAt Go.RowKit
open Lat (within)

def kindOk (p : Prd) : Bool := !(decide (p.arity < 0) || (decide (2 < p.arity) || (decide (p.kind < 0) || decide (3 < p.kind))))
def kindsOk (ps : List Prd) : Bool := ps.all kindOk

def factFine (ps : List Prd) (f : Fct) : Bool := isPred ps f.pred && (within f.a 0 4 && (within f.b 0 4 && ((decide (1 ≤ arityOf ps f.pred) || f.a == 0) && ((decide (2 ≤ arityOf ps f.pred) || f.b == 0) && Lat.err (kindOf ps f.pred) f.val == 0))))

end Go.Proofs.Ytgbacodellfacac.Rule
