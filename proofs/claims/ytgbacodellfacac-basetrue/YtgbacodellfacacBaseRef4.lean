/-
  What the document's own 'under', 'UnderOf' and 'SameFacts' answer.
-/
import Derived.Test.YtgbacodellfacacBaseRef3
namespace Go.Proofs.Ytgbacodellfacac.Base
open Go.ChangeShapes Go.WideShapes Go.ChangeAt Go.RowKit
open Lat (within join)
open Rule (factFine isPred kindOf arityOf isPred_iff)

theorem kind_four {ps : List Prd} (h : predsOk ps = true) {k : Nat} (hk : k < ps.length) : ps[k].kind = 0 ∨ ps[k].kind = 1 ∨ ps[k].kind = 2 ∨ ps[k].kind = 3 := by
  have := List.all_eq_true.1 h ps[k] (List.getElem_mem hk)
  simp only [predOk, within, Bool.and_eq_true, decide_eq_true_eq] at this
  omega
theorem kindOf_at {ps : List Prd} {k : Nat} (hk : k < ps.length) : kindOf ps (k : Int) = ps[k].kind := by simp [kindOf, hk]

/-- D2 -/
def underOf (ps : List Prd) (f g : List Fct) : Bool × Int := if factsErr ps f ≠ 0 then (false, factsErr ps f) else if factsErr ps g ≠ 0 then (false, factsErr ps g) else (under (kindOf ps) f g, 0)

end Go.Proofs.Ytgbacodellfacac.Base
