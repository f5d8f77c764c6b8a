/-
  Which error a rule has, in plain words, and how it is found.
-/
import Derived.Test.YtgbacodellfacabValue
namespace Go.Proofs.Ytgbacodellfacab.Rule
open Go.ChangeShapes Go.WideShapes Go.ChangeAt Go.RowKit
open Lat (within within_c)

def atomOk (ps : List Prd) (l : Ltr) : Bool := atomErr ps l.atom == 0
def bodyErr (ps : List Prd) : List Ltr → Int
  | [] => 0
  | l :: ls => if atomErr ps l.atom = 0 then bodyErr ps ls else atomErr ps l.atom
def asked (r : Rul) (v : Int) : Bool := stands r.head.args v || r.body.any fun l => stands l.atom.args v
def freeR (r : Rul) (v : Int) : Bool := asked r v && !bound r v
/-- B2 -/
def ruleErr (ps : List Prd) (r : Rul) : Int :=
  if atomErr ps r.head ≠ 0 then atomErr ps r.head
  else if 3 < r.body.length then 2
  else if bodyErr ps r.body ≠ 0 then bodyErr ps r.body
  else if freeR r 0 || (freeR r 1 || freeR r 2) then 9
  else valueErr ps r

theorem bodyErr_at {ps : List Prd} : ∀ {ls : List Ltr} {j : Nat} (h : j < ls.length), (ls.take j).all (atomOk ps) = true → atomErr ps ls[j].atom ≠ 0 → bodyErr ps ls = atomErr ps ls[j].atom
  | [], j, h, _, _ => absurd h (by simp)
  | l :: ls, 0, h, _, hn => by
    show bodyErr ps (l :: ls) = atomErr ps l.atom
    rw [bodyErr, if_neg (show ¬ atomErr ps l.atom = 0 from hn)]
  | l :: ls, j + 1, h, ha, hn => by
    simp only [List.take_succ_cons, List.all_cons, Bool.and_eq_true] at ha
    have h0 : atomErr ps l.atom = 0 := by simpa [atomOk] using ha.1
    rw [bodyErr, if_pos h0]
    exact bodyErr_at (by simpa using h) ha.2 hn
theorem bodyErr_none {ps : List Prd} : ∀ {ls : List Ltr}, ls.all (atomOk ps) = true → bodyErr ps ls = 0
  | [], _ => rfl
  | l :: ls, h => by
    simp only [List.all_cons, Bool.and_eq_true] at h
    have h0 : atomErr ps l.atom = 0 := by simpa [atomOk] using h.1
    rw [bodyErr, if_pos h0]
    exact bodyErr_none h.2

theorem ruleErr_head {ps : List Prd} {r : Rul} (h : atomErr ps r.head ≠ 0) : ruleErr ps r = atomErr ps r.head := by rw [ruleErr, if_pos h]
theorem ruleErr_many {ps : List Prd} {r : Rul} (h : atomErr ps r.head = 0) (h3 : 3 < r.body.length) : ruleErr ps r = 2 := by rw [ruleErr, if_neg (by simp [h]), if_pos h3]
theorem ruleErr_body {ps : List Prd} {r : Rul} (h : atomErr ps r.head = 0) (h3 : ¬ 3 < r.body.length) {j : Nat} (hj : j < r.body.length) (ha : (r.body.take j).all (atomOk ps) = true) (hn : atomErr ps r.body[j].atom ≠ 0) : ruleErr ps r = atomErr ps r.body[j].atom := by
  have := bodyErr_at hj ha hn
  rw [ruleErr, if_neg (by simp [h]), if_neg h3, if_pos (by rw [this]; exact hn), this]
theorem ruleErr_free {ps : List Prd} {r : Rul} (h : atomErr ps r.head = 0) (h3 : ¬ 3 < r.body.length) (ha : r.body.all (atomOk ps) = true) (hf : (freeR r 0 || (freeR r 1 || freeR r 2)) = true) : ruleErr ps r = 9 := by
  rw [ruleErr, if_neg (by simp [h]), if_neg h3, if_neg (by rw [bodyErr_none ha]; simp), if_pos hf]
theorem ruleErr_value {ps : List Prd} {r : Rul} (h : atomErr ps r.head = 0) (h3 : ¬ 3 < r.body.length) (ha : r.body.all (atomOk ps) = true) (hf : (freeR r 0 || (freeR r 1 || freeR r 2)) = false) : ruleErr ps r = valueErr ps r := by
  rw [ruleErr, if_neg (by simp [h]), if_neg h3, if_neg (by rw [bodyErr_none ha]; simp), if_neg (by rw [hf]; simp)]
/-- a right atom's predicate is there, and its terms are right -/
theorem atom_right {ps : List Prd} {a : Atm} (h : atomErr ps a = 0) : isPred ps a.pred = true ∧ a.args.all termOk = true := by
  unfold atomErr at h
  split at h
  · rename_i h1
    split at h
    · refine ⟨h1, ?_⟩
      unfold argsErr at h
      split at h
      · assumption
      · cases h
    · cases h
  · cases h
end Go.Proofs.Ytgbacodellfacab.Rule
