/-
  What the document's own reckoning of facts answers, call by call.
-/
import Derived.Test.YtgbacodellfacacFine
import Derived.Test.YtgbacodellfacacBasePlain
import Derived.Deep.RegionHeld3
namespace Go.Proofs.Ytgbacodellfacac.Base
open Go.ChangeShapes Go.WideShapes Go.ChangeAt Go.RowKit
open Lat (within)
open Rule (factFine isPred kindOf arityOf isPred_iff)

def Small (x : Fct) : Prop := 0 ≤ x.pred ∧ x.pred ≤ 1000 ∧ 0 ≤ x.a ∧ x.a ≤ 4 ∧ 0 ≤ x.b ∧ x.b ≤ 4

/-- a fact at a place of memory, its cells -/
theorem fact_cells {w : World} {v : Value} {f : List Fct} (h : factsAt w v f) {j : Nat} (hj : j < f.length) : ∃ b off cap, v = .slice (some ⟨b, off, none⟩) f.length cap ∧ b < w.heap.size ∧ factAt w b (off + j * 4) f[j] := by
  obtain ⟨a, cap, rfl, hm, hx⟩ := h
  rcases hx with rfl | ⟨b, off, rfl, hb, hx⟩
  · simp at hj
  · exact ⟨b, off, cap, rfl, hb, hx j f[j] (by simp [hj])⟩

def findTo (f : List Fct) (pl : Int) : Int := (get f pl).getD 0
theorem get_take {f : List Fct} {j : Nat} (h : j < f.length) (pl : Int) (hn : get (f.take j) pl = none) : get (f.take (j + 1)) pl = if place f[j] = pl then some f[j].val else none := by
  induction f generalizing j with
  | nil => simp at h
  | cons y f ih =>
    cases j with
    | zero => simp [get_cons, get_nil]
    | succ j =>
      simp only [List.take_succ_cons, get_cons] at hn ⊢
      by_cases e : place y = pl
      · rw [if_pos e] at hn; cases hn
      · rw [if_neg e] at hn
        rw [if_neg e, ih (by simpa using h) hn]
        rfl
theorem get_first {f : List Fct} {j : Nat} (h : j < f.length) (pl : Int) (hn : get (f.take j) pl = none) (hp : place f[j] = pl) : get f pl = some f[j].val := by
  induction f generalizing j with
  | nil => simp at h
  | cons y f ih =>
    cases j with
    | zero => rw [get_cons, if_pos (show place y = pl from hp)]; rfl
    | succ j =>
      simp only [List.take_succ_cons, get_cons] at hn
      by_cases e : place y = pl
      · rw [if_pos e] at hn; cases hn
      · rw [if_neg e] at hn
        rw [get_cons, if_neg e]
        exact ih (by simpa using h) hn hp

end Go.Proofs.Ytgbacodellfacac.Base
