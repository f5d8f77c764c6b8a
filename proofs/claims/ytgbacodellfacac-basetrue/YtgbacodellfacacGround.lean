/-
  What Ground of package rule, and the document's own reckoning of it, answer.
-/
import Derived.Test.YtgbacodellfacacRule2
namespace Go.Proofs.Ytgbacodellfacac.Rule
open Go.ChangeShapes Go.WideShapes Go.ChangeAt Go.RowKit
open Lat (within)

structure Vars where
  x : Int
  y : Int
  z : Int
def Vars.at (v : Vars) (n : Int) : Int := if n = 0 then v.x else if n = 1 then v.y else v.z
def Vars.val (v : Vars) : Value := .agg #[.int .i64 v.x, .int .i64 v.y, .int .i64 v.z]
def valOf (v : Vars) (t : Tm) : Int := if t.var then v.at t.n else t.n
def groundOk (v : Vars) (t : Tm) : Bool := termOk t && within (valOf v t) 0 4
def groundErr (v : Vars) (ts : List Tm) : Int := if 2 < ts.length then 1 else if ts.all (groundOk v) then 0 else 3
def argAt (v : Vars) (ts : List Tm) (i : Nat) : Int := (ts[i]?.map (valOf v)).getD 0
def groundTo (v : Vars) (p : Int) (ts : List Tm) : Fct := ⟨p, argAt v ts 0, argAt v ts 1, 0⟩
def groundOf (v : Vars) (p : Int) (ts : List Tm) : Fct := if groundErr v ts = 0 then groundTo v p ts else ⟨0, 0, 0, 0⟩
def Fct.value (f : Fct) : Value := .agg #[.int .i64 f.pred, .int .i64 f.a, .int .i64 f.b, .int .i64 f.val]

theorem argAt_take {v : Vars} {ts : List Tm} {j : Nat} (h : j < ts.length) (i : Nat) : argAt v (ts.take (j + 1)) i = if i = j then valOf v ts[j] else argAt v (ts.take j) i := by
  unfold argAt
  by_cases hi : i = j
  · subst hi; simp [h]
  · rw [if_neg hi]
    by_cases hlt : i < j
    · rw [List.getElem?_take_of_lt (by omega), List.getElem?_take_of_lt hlt]
    · rw [List.getElem?_eq_none (by simp; omega), List.getElem?_eq_none (by simp; omega)]

/-- what Ground's own blocks hold in the middle of its loop -/
structure GRel (w : World) (p : Int) (v : Vars) (wr : World) (x y : Int) : Prop where
  below : Below w.heap.size w wr
  size : w.heap.size + 1 + 1 + 1 < wr.heap.size
  c0 : wr.cell? ⟨w.heap.size, 0, none⟩ = some (.int .i64 p)
  x0 : wr.cell? ⟨w.heap.size + 1, 0, none⟩ = some (.int .i64 v.x)
  x1 : wr.cell? ⟨w.heap.size + 1, 1, none⟩ = some (.int .i64 v.y)
  x2 : wr.cell? ⟨w.heap.size + 1, 2, none⟩ = some (.int .i64 v.z)
  z0 : wr.cell? ⟨w.heap.size + 1 + 1, 0, none⟩ = some (.int .i64 0)
  z1 : wr.cell? ⟨w.heap.size + 1 + 1, 1, none⟩ = some (.int .i64 0)
  z2 : wr.cell? ⟨w.heap.size + 1 + 1, 2, none⟩ = some (.int .i64 0)
  z3 : wr.cell? ⟨w.heap.size + 1 + 1, 3, none⟩ = some (.int .i64 0)
  zf : ∀ o, wr.frozen? ⟨w.heap.size + 1 + 1, o, none⟩ = false
  a0 : wr.cell? ⟨w.heap.size + 1 + 1 + 1, 0, none⟩ = some (.int .i64 x)
  a1 : wr.cell? ⟨w.heap.size + 1 + 1 + 1, 1, none⟩ = some (.int .i64 y)
  af : ∀ o, wr.frozen? ⟨w.heap.size + 1 + 1 + 1, o, none⟩ = false

theorem GRel.lasts {w : World} {p : Int} {v : Vars} {wr w1 : World} {x y : Int} (h : GRel w p v wr x y) (hb : Below wr.heap.size wr w1) : GRel w p v w1 x y := by
  have hs := h.size
  have hs1 := hb.size
  exact ⟨h.below.trans (hb.mono h.below.size), by omega, by rw [cell_lasts hb (by omega), h.c0], by rw [cell_lasts hb (by omega), h.x0], by rw [cell_lasts hb (by omega), h.x1], by rw [cell_lasts hb (by omega), h.x2],
    by rw [cell_lasts hb (by omega), h.z0], by rw [cell_lasts hb (by omega), h.z1], by rw [cell_lasts hb (by omega), h.z2], by rw [cell_lasts hb (by omega), h.z3],
    fun o => by rw [(bcell hb).2 _ _ (by omega), h.zf], by rw [cell_lasts hb (by omega), h.a0], by rw [cell_lasts hb (by omega), h.a1], fun o => by rw [(bcell hb).2 _ _ (by omega), h.af]⟩
theorem GRel.set0 {w : World} {p : Int} {v : Vars} {wr : World} {x y : Int} (h : GRel w p v wr x y) (n : Int) : GRel w p v (wr.setCell ⟨w.heap.size + 1 + 1 + 1, 0, none⟩ (.int .i64 n)) n y :=
  ⟨h.below.setCell (by simp; omega) _, by rw [size_set]; exact h.size, by rw [cell_block (by omega), h.c0], by rw [cell_block (by omega), h.x0], by rw [cell_block (by omega), h.x1], by rw [cell_block (by omega), h.x2],
    by rw [cell_block (by omega), h.z0], by rw [cell_block (by omega), h.z1], by rw [cell_block (by omega), h.z2], by rw [cell_block (by omega), h.z3], fun o => by rw [frozen_set, h.zf],
    cell_set h.a0, by rw [cell_off (by omega), h.a1], fun o => by rw [frozen_set, h.af]⟩
theorem GRel.set1 {w : World} {p : Int} {v : Vars} {wr : World} {x y : Int} (h : GRel w p v wr x y) (n : Int) : GRel w p v (wr.setCell ⟨w.heap.size + 1 + 1 + 1, 1, none⟩ (.int .i64 n)) x n :=
  ⟨h.below.setCell (by simp; omega) _, by rw [size_set]; exact h.size, by rw [cell_block (by omega), h.c0], by rw [cell_block (by omega), h.x0], by rw [cell_block (by omega), h.x1], by rw [cell_block (by omega), h.x2],
    by rw [cell_block (by omega), h.z0], by rw [cell_block (by omega), h.z1], by rw [cell_block (by omega), h.z2], by rw [cell_block (by omega), h.z3], fun o => by rw [frozen_set, h.zf],
    by rw [cell_off (by omega), h.a0], cell_set h.a1, fun o => by rw [frozen_set, h.af]⟩

end Go.Proofs.Ytgbacodellfacac.Rule
