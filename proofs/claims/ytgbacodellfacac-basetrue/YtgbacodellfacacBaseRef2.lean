/-
  What the document's own check of facts answers.
-/
import Derived.Test.YtgbacodellfacacBaseRef
import Derived.Test.YtgbacodellfacacLow
namespace Go.Proofs.Ytgbacodellfacac.Base
open Go.ChangeShapes Go.WideShapes Go.ChangeAt Go.RowKit
open Lat (within)
open Rule (factFine isPred kindOf arityOf isPred_iff)

def predOk (p : Prd) : Bool := within p.kind 0 3 && within p.arity 0 2
def predsOk (ps : List Prd) : Bool := ps.all predOk
def nth (f : List Fct) (i : Nat) : Fct := f.getD i ⟨0, 0, 0, 0⟩
def goodAt (ps : List Prd) (f : List Fct) (i : Nat) : Bool := factFine ps (nth f i) && (i == 0 || decide (place (nth f (i - 1)) < place (nth f i)))
def goodTo (ps : List Prd) (f : List Fct) (k : Nat) : Bool := (List.range k).all (goodAt ps f)
/-- D1 -/
def factsErr (ps : List Prd) (f : List Fct) : Int := if 5 < ps.length then 2 else if predsOk ps = false then 2 else if goodTo ps f f.length then 0 else 1

theorem goodTo_succ (ps : List Prd) (f : List Fct) (k : Nat) : goodTo ps f (k + 1) = (goodTo ps f k && goodAt ps f k) := by simp [goodTo, List.range_succ]
theorem goodTo_not {ps : List Prd} {f : List Fct} {k : Nat} (hk : k < f.length) (h : goodAt ps f k = false) : goodTo ps f f.length = false := List.all_eq_false.2 ⟨k, List.mem_range.2 hk, by simp [h]⟩
theorem fine_small {ps : List Prd} {x : Fct} (h5 : ps.length ≤ 5) (h : factFine ps x = true) : Small x := by
  simp only [factFine, Bool.and_eq_true] at h
  obtain ⟨h1, h2, h3, _⟩ := h
  obtain ⟨k, hk, he⟩ := isPred_iff.1 h1
  have g2 : 0 ≤ x.a ∧ x.a ≤ 4 := by simpa [within] using h2
  have g3 : 0 ≤ x.b ∧ x.b ≤ 4 := by simpa [within] using h3
  exact ⟨by omega, by omega, g2.1, g2.2, g3.1, g3.2⟩
theorem hideS {x : Fct} (h : Small x) : Hid (Small x) := h
theorem nth_eq {f : List Fct} {j : Nat} (h : j < f.length) : nth f j = f[j] := by simp [nth, h]

end Go.Proofs.Ytgbacodellfacac.Base
