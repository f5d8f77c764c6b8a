/-
  What package rule and the document's own reckoning of rules answer, call by call, where they only read.
-/
import Derived.Test.YtgbacodellfacacLat
import Derived.Test.YtgbacodellfacacMem
import Derived.Deep.QuietTactic
import Derived.BigQuiet
namespace Go.Proofs.Ytgbacodellfacac.Rule
open Go.ChangeShapes Go.WideShapes Go.ChangeAt Go.RowKit
open Lat (within)

def termOk (t : Tm) : Bool := within t.n 0 (if t.var then 2 else 4)
def argsErr (ts : List Tm) : Int := if ts.all termOk then 0 else 3
def standsIn (v : Int) (t : Tm) : Bool := t.var && t.n == v
def stands (ts : List Tm) (v : Int) : Bool := ts.any (standsIn v)

/-! ### Atoms -/
def kindOf (ps : List Prd) (p : Int) : Int := (ps[p.toNat]?.map Prd.kind).getD 0
def arityOf (ps : List Prd) (p : Int) : Int := (ps[p.toNat]?.map Prd.arity).getD 0
def isPred (ps : List Prd) (p : Int) : Bool := within p 0 ((ps.length : Int) - 1)
def atomErr (ps : List Prd) (a : Atm) : Int := if isPred ps a.pred then (if (a.args.length : Int) = arityOf ps a.pred then argsErr a.args else 1) else 7

theorem isPred_iff {ps : List Prd} {p : Int} : isPred ps p = true ↔ ∃ k : Nat, k < ps.length ∧ p = (k : Int) := by
  simp only [isPred, within, Bool.and_eq_true, decide_eq_true_eq]
  constructor
  · rintro ⟨h0, h1⟩
    exact ⟨p.toNat, by omega, by omega⟩
  · rintro ⟨k, hk, rfl⟩
    omega

end Go.Proofs.Ytgbacodellfacac.Rule
