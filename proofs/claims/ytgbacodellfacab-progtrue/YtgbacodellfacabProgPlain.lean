/-
  Programs in plain words: which error a program has.
-/
import Derived.Test.YtgbacodellfacabStrataPlain2
import Derived.Test.YtgbacodellfacabRulePlain
namespace Go.Proofs.Ytgbacodellfacab.Prog
open Strata
open Lat (within)
open Rule (isPred ruleErr atomErr isPred_iff)

def edgeOf (r : Rul) (l : Ltr) : Strata.Edge := ⟨r.head.pred.toNat, l.atom.pred.toNat, l.neg⟩
def edges (rs : List Rul) : List Strata.Edge := rs.flatMap fun r => r.body.map (edgeOf r)
def letter (b : Nat) : Bool := decide (97 ≤ b) && decide (b ≤ 122)
def bytes (s : ByteArray) : List Nat := s.data.toList.map UInt8.toNat
/-- C1: a name -/
def isName (s : ByteArray) : Bool := (bytes s).all letter && within (s.size : Int) 1 8
def rulesErr (ps : List Prd) : List Rul → Int
  | [] => 0
  | r :: rs => if ruleErr ps r = 0 then rulesErr ps rs else ruleErr ps r
def twice (ps : List Prd) : Bool := (List.range ps.length).any fun k => (ps.take k).any fun q => q.name.toList == ((ps[k]?.map Prd.name).getD ⟨#[]⟩).toList
/-- C1: what is asked of predicates and rules one by one -/
def partsErr (ps : List Prd) (rs : List Rul) : Int :=
  if 5 < ps.length ∨ 8 < rs.length then 2
  else if ps.any (fun q => !isName q.name) then 5
  else if twice ps then 6
  else if ps.any (fun q => !within q.arity 0 2) then 3
  else if ps.any (fun q => !within q.kind 0 3) then 4
  else rulesErr ps rs
def progErr (ps : List Prd) (rs : List Rul) : Int :=
  if partsErr ps rs ≠ 0 then partsErr ps rs else if (strataL (edges rs) ps.length).isSome then 0 else 8

theorem rulesErr_at {ps : List Prd} : ∀ {rs : List Rul} {j : Nat} (h : j < rs.length), (rs.take j).all (fun r => ruleErr ps r == 0) = true → ruleErr ps rs[j] ≠ 0 → rulesErr ps rs = ruleErr ps rs[j]
  | [], j, h, _, _ => absurd h (by simp)
  | l :: ls, 0, h, _, hn => by
    show rulesErr ps (l :: ls) = ruleErr ps l
    rw [rulesErr, if_neg (show ¬ ruleErr ps l = 0 from hn)]
  | l :: ls, j + 1, h, ha, hn => by
    simp only [List.take_succ_cons, List.all_cons, Bool.and_eq_true] at ha
    have h0 : ruleErr ps l = 0 := by simpa using ha.1
    rw [rulesErr, if_pos h0]
    exact rulesErr_at (by simpa using h) ha.2 hn
theorem rulesErr_none {ps : List Prd} : ∀ {rs : List Rul}, rs.all (fun r => ruleErr ps r == 0) = true → rulesErr ps rs = 0
  | [], _ => rfl
  | l :: ls, h => by
    simp only [List.all_cons, Bool.and_eq_true] at h
    have h0 : ruleErr ps l = 0 := by simpa using h.1
    rw [rulesErr, if_pos h0]
    exact rulesErr_none h.2
theorem rules_all {ps : List Prd} : ∀ {rs : List Rul}, rulesErr ps rs = 0 → ∀ r ∈ rs, ruleErr ps r = 0
  | [], _, r, h => by cases h
  | l :: ls, he, r, h => by
    rw [rulesErr] at he
    split at he
    · rename_i h0
      rcases List.mem_cons.1 h with rfl | h
      · exact h0
      · exact rules_all he r h
    · contradiction
/-- a right rule names predicates that there are -/
structure Right (ps : List Prd) (r : Rul) : Prop where
  head : r.head.pred.toNat < ps.length ∧ r.head.pred = (r.head.pred.toNat : Int)
  body : ∀ l ∈ r.body, l.atom.pred.toNat < ps.length ∧ l.atom.pred = (l.atom.pred.toNat : Int)
  few : r.body.length ≤ 3
theorem body_all {ps : List Prd} : ∀ {ls : List Ltr}, Rule.bodyErr ps ls = 0 → ∀ l ∈ ls, atomErr ps l.atom = 0
  | [], _, r, h => by cases h
  | l :: ls, he, r, h => by
    rw [Rule.bodyErr] at he
    split at he
    · rename_i h0
      rcases List.mem_cons.1 h with rfl | h
      · exact h0
      · exact body_all he r h
    · contradiction
theorem pred_there {ps : List Prd} {a : Atm} (h : atomErr ps a = 0) : a.pred.toNat < ps.length ∧ a.pred = (a.pred.toNat : Int) := by
  obtain ⟨k, hk, he⟩ := isPred_iff.1 (Rule.atom_right h).1
  rw [he]
  exact ⟨by simpa using hk, by simp⟩
theorem right_of {ps : List Prd} {r : Rul} (h : ruleErr ps r = 0) : Right ps r := by
  rw [ruleErr] at h
  split at h
  · contradiction
  · rename_i h1
    split at h
    · contradiction
    · rename_i h2
      split at h
      · contradiction
      · rename_i h3
        exact ⟨pred_there (Classical.not_not.1 h1), fun l hl => pred_there (body_all (Classical.not_not.1 h3) l hl), by omega⟩
theorem parts_zero {ps : List Prd} {rs : List Rul} (h : partsErr ps rs = 0) : ps.length ≤ 5 ∧ rs.length ≤ 8 ∧ ∀ r ∈ rs, Right ps r := by
  rw [partsErr] at h
  split at h
  · contradiction
  · rename_i h1
    split at h
    · contradiction
    · split at h
      · contradiction
      · split at h
        · contradiction
        · split at h
          · contradiction
          · exact ⟨by omega, by omega, fun r hr => right_of (rules_all h r hr)⟩
theorem within_edges {ps : List Prd} {rs : List Rul} (h : ∀ r ∈ rs, Right ps r) : Within (edges rs) ps.length := by
  intro e he
  obtain ⟨r, hr, he⟩ := List.mem_flatMap.1 he
  obtain ⟨l, hl, rfl⟩ := List.mem_map.1 he
  exact ⟨(h r hr).head.1, ((h r hr).body l hl).1⟩
theorem prog_zero {ps : List Prd} {rs : List Rul} (h : progErr ps rs = 0) : partsErr ps rs = 0 ∧ ∃ l, strataL (edges rs) ps.length = some l := by
  rw [progErr] at h
  split at h
  · contradiction
  · rename_i h1
    refine ⟨Classical.not_not.1 h1, ?_⟩
    split at h
    · rename_i h2
      exact Option.isSome_iff_exists.1 h2
    · contradiction
end Go.Proofs.Ytgbacodellfacab.Prog
