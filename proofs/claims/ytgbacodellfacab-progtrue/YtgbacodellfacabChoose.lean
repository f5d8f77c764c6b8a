/-
  The laws' own 'choose': a number is turned into one that is less than n; and how rows of numbers and truths are read.
-/
import Derived.Test.YtgbacodellfacabProgRef4
namespace Go.Proofs.Ytgbacodellfacab.Prog
open Go.ChangeShapes Go.WideShapes Go.ChangeAt Go.RowKit
open Strata

def chosen (c : Int) (n : Nat) : Nat := ((if c < 0 then -(c + 1) else c) % (n : Int)).toNat
theorem chosen_lt (c : Int) {n : Nat} (h : 0 < n) : chosen c n < n := by
  unfold chosen
  have h1 := Int.emod_lt_of_pos (if c < 0 then -(c + 1) else c) (show (0 : Int) < n by omega)
  have h2 := Int.emod_nonneg (if c < 0 then -(c + 1) else c) (show (n : Int) ≠ 0 by omega)
  omega
theorem chosen_neg {c : Int} {n : Nat} (hn : 0 < n) (h : c < 0) : -(c + 1).tmod (n : Int) = (chosen c n : Int) := by
  unfold chosen
  rw [if_pos h, ← Int.neg_tmod, Int.tmod_eq_emod_of_nonneg (by omega)]
  have h2 := Int.emod_nonneg (-(c + 1)) (show (n : Int) ≠ 0 by omega)
  omega
theorem chosen_pos {c : Int} {n : Nat} (hn : 0 < n) (h : ¬ c < 0) : c % (n : Int) = (chosen c n : Int) := by
  unfold chosen
  rw [if_neg h]
  have h2 := Int.emod_nonneg c (show (n : Int) ≠ 0 by omega)
  omega
set_option maxRecDepth 100000 in
set_option maxHeartbeats 4000000 in
theorem choose_c (c : Int) (n : Nat) (w : World) (hn : 0 < n) (h5 : n ≤ 5) (hc : -9223372036854775808 ≤ c ∧ c ≤ 9223372036854775807) : Calls Try.prog 20 #[.int .i64 c, .int .i64 (n : Int)] w fun e w' => e = .returned (.int .i64 (chosen c n : Int)) ∧ Below w.heap.size w w' := by
  have hn0 : (n : Int) ≠ 0 := by omega
  have hn1 : (n : Int) ≠ -1 := by omega
  by_cases h : c < 0
  · have HC : Hid (-(c + 1).tmod (n : Int) = (chosen c n : Int)) := chosen_neg hn h
    go_enter Try.func20, Try.ntmps20
    go_wp2_with fail
    go_ret
    exact ⟨by rw [← HC.out]; rfl, Below.refl _ _⟩
  · have HC : Hid (c % (n : Int) = (chosen c n : Int)) := chosen_pos hn h
    go_enter Try.func20, Try.ntmps20
    go_wp2_with fail
    go_ret
    exact ⟨by rw [← HC.out]; rfl, Below.refl _ _⟩
theorem wf_range {c : Int} (h : (Lit.int .i64 c).wf = true) : -9223372036854775808 ≤ c ∧ c ≤ 9223372036854775807 := by
  have h' : (decide (IntKind.min .i64 ≤ c) && decide (c ≤ IntKind.max .i64)) = true := h
  rw [Bool.and_eq_true, decide_eq_true_eq, decide_eq_true_eq] at h'
  exact h'
theorem bools_row {w : World} {v : Value} {l : List Bool} {n : Nat} (h : boolsAt w v l) (hl : l.length = n) (hn : 0 < n) : ∃ b off cap, v = .slice (some ⟨b, off, none⟩) n cap ∧ b < w.heap.size ∧ ∀ j, j < n → w.cell? ⟨b, off + j, none⟩ = some (.bool (bat l j)) := by
  subst hl
  obtain ⟨a, cap, rfl, hm, hx⟩ := h
  rcases hx with rfl | ⟨b, off, rfl, hb, hx⟩
  · simp at hn
  · refine ⟨b, off, cap, rfl, hb, fun j hj => ?_⟩
    have := hx j l[j] (List.getElem?_eq_getElem hj)
    rw [Nat.mul_one] at this
    rw [bat, List.getD_eq_getElem?_getD, List.getElem?_eq_getElem hj]
    exact this
theorem ints_row {w : World} {v : Value} {l : List Nat} {n : Nat} (h : intsAt w v l) (hl : l.length = n) (hn : 0 < n) : ∃ b off cap, v = .slice (some ⟨b, off, none⟩) n cap ∧ b < w.heap.size ∧ ∀ j, j < n → w.cell? ⟨b, off + j, none⟩ = some (.int .i64 (at_ l j : Int)) := by
  subst hl
  obtain ⟨a, cap, rfl, hm, hx⟩ := h
  rcases hx with rfl | ⟨b, off, rfl, hb, hx⟩
  · simp at hn
  · refine ⟨b, off, cap, rfl, hb, fun j hj => ?_⟩
    have := hx j l[j] (List.getElem?_eq_getElem hj)
    rw [Nat.mul_one] at this
    rw [at_, List.getD_eq_getElem?_getD, List.getElem?_eq_getElem hj]
    exact this
theorem boxL {w w1 : World} {a b : Value} {t : TypeId} (hb : Below (w.alloc (.cells #[a, b] t)).heap.size (w.alloc (.cells #[a, b] t)) w1) : w1.cell? ⟨w.heap.size, 0, none⟩ = some a ∧ w1.cell? ⟨w.heap.size, 1, none⟩ = some b ∧ w.heap.size < w1.heap.size :=
  ⟨by rw [hb.cell (p := ⟨w.heap.size, 0, none⟩) (by simp)]; simp [go_sem], by rw [hb.cell (p := ⟨w.heap.size, 1, none⟩) (by simp)]; simp [go_sem], by have := hb.size; simp at this; omega⟩
theorem boxO {w1 w2 : World} {B : Nat} {a b : Value} (hb : Below w1.heap.size w1 w2) (h : w1.cell? ⟨B, 0, none⟩ = some a ∧ w1.cell? ⟨B, 1, none⟩ = some b ∧ B < w1.heap.size) : w2.cell? ⟨B, 0, none⟩ = some a ∧ w2.cell? ⟨B, 1, none⟩ = some b ∧ B < w2.heap.size :=
  ⟨(cell_lasts hb h.2.2).trans h.1, (cell_lasts hb h.2.2).trans h.2.1, Nat.lt_of_lt_of_le h.2.2 hb.size⟩
end Go.Proofs.Ytgbacodellfacab.Prog
