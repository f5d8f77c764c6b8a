/-
  What the document's own reckoning of Ground answers.
-/
import Derived.Test.YtgbacodellfacacGround
namespace Go.Proofs.Ytgbacodellfacac.Rule
open Go.ChangeShapes Go.WideShapes Go.ChangeAt Go.RowKit
open Lat (within)

/-- what ground's own blocks hold in the middle of its loop -/
structure RRel (w : World) (p : Int) (sv : Value) (v : Vars) (wr : World) (x y : Int) : Prop where
  below : Below w.heap.size w wr
  size : w.heap.size + 1 + 1 + 1 < wr.heap.size
  c1 : wr.cell? ⟨w.heap.size, 1, none⟩ = some sv
  x0 : wr.cell? ⟨w.heap.size + 1, 0, none⟩ = some (.int .i64 v.x)
  x1 : wr.cell? ⟨w.heap.size + 1, 1, none⟩ = some (.int .i64 v.y)
  x2 : wr.cell? ⟨w.heap.size + 1, 2, none⟩ = some (.int .i64 v.z)
  z0 : wr.cell? ⟨w.heap.size + 1 + 1, 0, none⟩ = some (.int .i64 0)
  z1 : wr.cell? ⟨w.heap.size + 1 + 1, 1, none⟩ = some (.int .i64 0)
  z2 : wr.cell? ⟨w.heap.size + 1 + 1, 2, none⟩ = some (.int .i64 0)
  z3 : wr.cell? ⟨w.heap.size + 1 + 1, 3, none⟩ = some (.int .i64 0)
  zf : ∀ o, wr.frozen? ⟨w.heap.size + 1 + 1, o, none⟩ = false
  ap : wr.cell? ⟨w.heap.size + 1 + 1 + 1, 0, none⟩ = some (.int .i64 p)
  a0 : wr.cell? ⟨w.heap.size + 1 + 1 + 1, 1, none⟩ = some (.int .i64 x)
  a1 : wr.cell? ⟨w.heap.size + 1 + 1 + 1, 2, none⟩ = some (.int .i64 y)
  a2 : wr.cell? ⟨w.heap.size + 1 + 1 + 1, 3, none⟩ = some (.int .i64 0)
  af : ∀ o, wr.frozen? ⟨w.heap.size + 1 + 1 + 1, o, none⟩ = false

theorem RRel.set0 {w : World} {p : Int} {sv : Value} {v : Vars} {wr : World} {x y : Int} (h : RRel w p sv v wr x y) (n : Int) : RRel w p sv v (wr.setCell ⟨w.heap.size + 1 + 1 + 1, 1, none⟩ (.int .i64 n)) n y :=
  ⟨h.below.setCell (by simp; omega) _, by rw [size_set]; exact h.size, by rw [cell_block (by omega), h.c1], by rw [cell_block (by omega), h.x0], by rw [cell_block (by omega), h.x1], by rw [cell_block (by omega), h.x2],
    by rw [cell_block (by omega), h.z0], by rw [cell_block (by omega), h.z1], by rw [cell_block (by omega), h.z2], by rw [cell_block (by omega), h.z3], fun o => by rw [frozen_set, h.zf],
    by rw [cell_off (by omega), h.ap], cell_set h.a0, by rw [cell_off (by omega), h.a1], by rw [cell_off (by omega), h.a2], fun o => by rw [frozen_set, h.af]⟩
theorem RRel.set1 {w : World} {p : Int} {sv : Value} {v : Vars} {wr : World} {x y : Int} (h : RRel w p sv v wr x y) (n : Int) : RRel w p sv v (wr.setCell ⟨w.heap.size + 1 + 1 + 1, 2, none⟩ (.int .i64 n)) x n :=
  ⟨h.below.setCell (by simp; omega) _, by rw [size_set]; exact h.size, by rw [cell_block (by omega), h.c1], by rw [cell_block (by omega), h.x0], by rw [cell_block (by omega), h.x1], by rw [cell_block (by omega), h.x2],
    by rw [cell_block (by omega), h.z0], by rw [cell_block (by omega), h.z1], by rw [cell_block (by omega), h.z2], by rw [cell_block (by omega), h.z3], fun o => by rw [frozen_set, h.zf],
    by rw [cell_off (by omega), h.ap], by rw [cell_off (by omega), h.a0], cell_set h.a1, by rw [cell_off (by omega), h.a2], fun o => by rw [frozen_set, h.af]⟩

theorem groundErr_ok {v : Vars} {ts : List Tm} (h : groundErr v ts = 0) : ts.length ≤ 2 ∧ ts.all (groundOk v) = true := by
  unfold groundErr at h
  split at h
  · cases h
  · split at h
    · exact ⟨by omega, by assumption⟩
    · cases h

theorem groundOk_of {v : Vars} {ts : List Tm} (h : ts.all termOk = true) : ts.all (groundOk v) = ts.all (fun t => !t.var || within (v.at t.n) 0 4) := by
  rw [Bool.eq_iff_iff, List.all_eq_true, List.all_eq_true]
  rw [List.all_eq_true] at h
  constructor
  · intro g t ht
    have := g t ht
    obtain ⟨tv, tn⟩ := t
    cases tv
    · rfl
    · simp only [groundOk, Bool.and_eq_true] at this
      exact this.2
  · intro g t ht
    have h1 := h t ht
    have h2 := g t ht
    obtain ⟨tv, tn⟩ := t
    cases tv
    · simp only [groundOk, Bool.and_eq_true]
      exact ⟨h1, h1⟩
    · simp only [groundOk, Bool.and_eq_true]
      exact ⟨h1, h2⟩
theorem groundOk_not {v : Vars} {ts : List Tm} (h : ts.all termOk = false) : ts.all (groundOk v) = false := by
  rw [List.all_eq_false] at *
  obtain ⟨t, ht, hn⟩ := h
  exact ⟨t, ht, by simp only [groundOk, Bool.and_eq_true]; exact fun g => hn g.1⟩

end Go.Proofs.Ytgbacodellfacac.Rule
