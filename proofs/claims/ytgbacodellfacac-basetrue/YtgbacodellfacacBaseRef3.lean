/-
  What the document's own 'FindOf' answers.
-/
import Derived.Test.YtgbacodellfacacBaseRef2
namespace Go.Proofs.Ytgbacodellfacac.Base
open Go.ChangeShapes Go.WideShapes Go.ChangeAt Go.RowKit
open Lat (within)
open Rule (factFine isPred kindOf arityOf isPred_iff)

theorem factsErr_zero {ps : List Prd} {f : List Fct} (h : factsErr ps f = 0) : ps.length ≤ 5 ∧ predsOk ps = true ∧ goodTo ps f f.length = true := by
  unfold factsErr at h
  split at h
  · omega
  · split at h
    · omega
    · split at h
      · rename_i h1 h2 h3
        exact ⟨by omega, by simpa using h2, h3⟩
      · omega
theorem factsErr_is (ps : List Prd) (f : List Fct) : factsErr ps f = 0 ∨ factsErr ps f = 1 ∨ factsErr ps f = 2 := by
  unfold factsErr
  split
  · exact .inr (.inr rfl)
  · split
    · exact .inr (.inr rfl)
    · split
      · exact .inl rfl
      · exact .inr (.inl rfl)
theorem facts_fine {ps : List Prd} {f : List Fct} (h : factsErr ps f = 0) : ∀ y ∈ f, factFine ps y = true := by
  obtain ⟨_, _, h3⟩ := factsErr_zero h
  intro y hy
  obtain ⟨i, hi, rfl⟩ := List.getElem_of_mem hy
  have := List.all_eq_true.1 h3 i (List.mem_range.2 hi)
  simp only [goodAt, nth_eq hi, Bool.and_eq_true] at this
  exact this.1
theorem facts_small {ps : List Prd} {f : List Fct} (h : factsErr ps f = 0) : ∀ y ∈ f, Small y := fun y hy => fine_small (factsErr_zero h).1 (facts_fine h y hy)

theorem fine_of {ps : List Prd} {x : Fct} (h : factFine ps x = true) : Fine ps.length (kindOf ps) x := by
  simp only [factFine, Bool.and_eq_true] at h
  obtain ⟨h1, h2, h3, _, _, h6⟩ := h
  obtain ⟨k, hk, he⟩ := isPred_iff.1 h1
  have g2 : 0 ≤ x.a ∧ x.a ≤ 4 := by simpa [within] using h2
  have g3 : 0 ≤ x.b ∧ x.b ≤ 4 := by simpa [within] using h3
  exact ⟨by omega, by omega, g2.1, g2.2, g3.1, g3.2, by simpa using h6⟩
theorem good_adj {ps : List Prd} {f : List Fct} (h : goodTo ps f f.length = true) (i : Nat) (hi : i + 1 < f.length) : place f[i] < place f[i + 1] := by
  have := List.all_eq_true.1 h (i + 1) (List.mem_range.2 hi)
  simp only [goodAt, Bool.and_eq_true, Nat.add_sub_cancel, nth_eq hi, nth_eq (show i < f.length by omega)] at this
  simpa using this.2
theorem good_lt {ps : List Prd} {f : List Fct} (h : goodTo ps f f.length = true) (i : Nat) : ∀ (d : Nat) (hi : i + d + 1 < f.length), place (f[i]'(by omega)) < place f[i + d + 1] := by
  intro d
  induction d with
  | zero => intro hi; exact good_adj h i hi
  | succ d ih => intro hi; exact Int.lt_trans (ih (by omega)) (good_adj h (i + d + 1) hi)
/-- facts that the document calls right, as plain facts -/
theorem right_of {ps : List Prd} {f : List Fct} (h : factsErr ps f = 0) : Right ps.length (kindOf ps) f := by
  refine ⟨?_, fun x hx => fine_of (facts_fine h x hx)⟩
  rw [Sorted, List.pairwise_iff_getElem]
  intro i j hi hj hij
  obtain ⟨d, rfl⟩ : ∃ d, j = i + d + 1 := ⟨j - i - 1, by omega⟩
  exact good_lt (factsErr_zero h).2.2 i d hj

/-- D2 -/
def findOf (ps : List Prd) (f : List Fct) (x : Fct) : Int × Bool × Int :=
  if factsErr ps f ≠ 0 then (0, false, factsErr ps f) else if factFine ps x = false then (0, false, 1) else (findTo f (place x), (get f (place x)).isSome, 0)

theorem ret_find {n n' : Int} {b b' : Bool} {e e' : Int} (h : (n, b, e) = (n', b', e')) : Ending.returned (.tuple #[.int .i64 n, .bool b, .int .i64 e]) = .returned (.tuple #[.int .i64 n', .bool b', .int .i64 e']) := by cases h; rfl
theorem four_last {w w1 : World} {p a b v : Int} {t : Nat} (h : Below (w.alloc (.cells #[.int .i64 p, .int .i64 a, .int .i64 b, .int .i64 v] t)).heap.size (w.alloc (.cells #[.int .i64 p, .int .i64 a, .int .i64 b, .int .i64 v] t)) w1) :
    w1.cell? ⟨w.heap.size, 0, none⟩ = some (.int .i64 p) ∧ w1.cell? ⟨w.heap.size, 1, none⟩ = some (.int .i64 a) ∧ w1.cell? ⟨w.heap.size, 2, none⟩ = some (.int .i64 b) ∧ w1.cell? ⟨w.heap.size, 3, none⟩ = some (.int .i64 v) := by
  refine ⟨?_, ?_, ?_, ?_⟩ <;> (rw [h.cell (by simp)]; simp [go_sem])

end Go.Proofs.Ytgbacodellfacac.Base
