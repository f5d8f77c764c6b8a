/-
  Whether predicates may be asked by their kinds and arities; whether a fact is one: the document's own answers.
-/
import Derived.Test.YtabhmlkpbdfjcabGround2
namespace Go.Proofs.Ytabhmlkpbdfjcab.Rule
open Go.ChangeShapes Go.WideShapes Go.ChangeAt Go.RowKit
open Lat (within within_c checkVal_c)

def kindOk (p : Prd) : Bool := !(decide (p.arity < 0) || (decide (2 < p.arity) || (decide (p.kind < 0) || decide (3 < p.kind))))
def kindsOk (ps : List Prd) : Bool := ps.all kindOk

def factFine (ps : List Prd) (f : Fct) : Bool := isPred ps f.pred && (within f.a 0 4 && (within f.b 0 4 && ((decide (1 ≤ arityOf ps f.pred) || f.a == 0) && ((decide (2 ≤ arityOf ps f.pred) || f.b == 0) && Lat.err (kindOf ps f.pred) f.val == 0))))

set_option maxHeartbeats 4000000 in
theorem factFine_c (w : World) (pv : Value) (ps : List Prd) (p a b v : Int) (h : predsAt w pv ps) :
    Calls Try.prog 46 #[pv, .agg #[.int .i64 p, .int .i64 a, .int .i64 b, .int .i64 v]] w fun e w' => e = .returned (.bool (factFine ps ⟨p, a, b, v⟩)) ∧ Below w.heap.size w w' := by
  obtain ⟨pa, cap, rfl, hm, hx⟩ := h
  cases h1 : isPred ps p
  · have e : factFine ps ⟨p, a, b, v⟩ = false := by simp [factFine, h1]
    rw [e]
    have h1' : within p 0 ((ps.length : Int) - 1) = false := h1
    clear e h1 hx
    go_enter Try.func46, Try.ntmps46
    go_wp2_with (first | (go_at_call 35; refine (within_c _ _ _ _).mono ?_; rintro e w' ⟨rfl, rfl⟩) | (go_at_call 73; refine (checkVal_c _ _ _).mono ?_; rintro e w' ⟨rfl, rfl⟩))
    go_ret
    exact ⟨rfl, below_alloc _ _⟩
  cases h2 : within a 0 4
  · have e : factFine ps ⟨p, a, b, v⟩ = false := by simp [factFine, h2]
    rw [e]
    have h1' : within p 0 ((ps.length : Int) - 1) = true := h1
    clear e h1 hx
    go_enter Try.func46, Try.ntmps46
    go_wp2_with (first | (go_at_call 35; refine (within_c _ _ _ _).mono ?_; rintro e w' ⟨rfl, rfl⟩) | (go_at_call 73; refine (checkVal_c _ _ _).mono ?_; rintro e w' ⟨rfl, rfl⟩))
    go_ret
    exact ⟨rfl, below_alloc _ _⟩
  cases h3 : within b 0 4
  · have e : factFine ps ⟨p, a, b, v⟩ = false := by simp [factFine, h3]
    rw [e]
    have h1' : within p 0 ((ps.length : Int) - 1) = true := h1
    clear e h1 hx
    go_enter Try.func46, Try.ntmps46
    go_wp2_with (first | (go_at_call 35; refine (within_c _ _ _ _).mono ?_; rintro e w' ⟨rfl, rfl⟩) | (go_at_call 73; refine (checkVal_c _ _ _).mono ?_; rintro e w' ⟨rfl, rfl⟩))
    go_ret
    exact ⟨rfl, below_alloc _ _⟩
  have h1' : within p 0 ((ps.length : Int) - 1) = true := h1
  obtain ⟨k, hk, rfl⟩ := isPred_iff.1 h1
  obtain ⟨bb, off, rfl, hbl, hx⟩ := hx.resolve_left (by rintro rfl; simp at hk)
  obtain ⟨hc0, hc1, hc2⟩ := hx k ps[k] (by simp [hk])
  have har : arityOf ps (k : Int) = ps[k].arity := by simp [arityOf, hk]
  have hki : kindOf ps (k : Int) = ps[k].kind := by simp [kindOf, hk]
  have e : factFine ps ⟨(k : Int), a, b, v⟩ = ((decide (1 ≤ ps[k].arity) || a == 0) && ((decide (2 ≤ ps[k].arity) || b == 0) && Lat.err ps[k].kind v == 0)) := by simp only [factFine, h1, h2, h3, har, hki, Bool.true_and]
  rw [e]
  clear e har hki hx h1
  generalize ps[k] = q at *
  obtain ⟨qn, qa, qk⟩ := q
  by_cases g1 : 1 ≤ qa
  · have g1' : decide (1 ≤ qa) = true := by simpa using g1
    by_cases g2 : 2 ≤ qa
    · have g2' : decide (2 ≤ qa) = true := by simpa using g2
      cases g5 : (Lat.err qk v == 0)
      all_goals
        simp only [g1', g2', Bool.true_or, Bool.true_and]
        go_enter Try.func46, Try.ntmps46
        go_wp2_with (first | (go_at_call 35; refine (within_c _ _ _ _).mono ?_; rintro e w' ⟨rfl, rfl⟩) | (go_at_call 73; refine (checkVal_c _ _ _).mono ?_; rintro e w' ⟨rfl, rfl⟩))
        go_ret
        exact ⟨rfl, (below_alloc _ _).alloc (by simp) _⟩
    · have g2' : decide (2 ≤ qa) = false := by simpa using g2
      cases g4 : (b == 0)
      · simp only [g1', g2', Bool.true_or, Bool.true_and, Bool.false_or, Bool.false_and]
        go_enter Try.func46, Try.ntmps46
        go_wp2_with (first | (go_at_call 35; refine (within_c _ _ _ _).mono ?_; rintro e w' ⟨rfl, rfl⟩) | (go_at_call 73; refine (checkVal_c _ _ _).mono ?_; rintro e w' ⟨rfl, rfl⟩))
        go_ret
        exact ⟨rfl, (below_alloc _ _).alloc (by simp) _⟩
      · cases g5 : (Lat.err qk v == 0)
        all_goals
          simp only [g1', g2', Bool.true_or, Bool.true_and, Bool.false_or]
          go_enter Try.func46, Try.ntmps46
          go_wp2_with (first | (go_at_call 35; refine (within_c _ _ _ _).mono ?_; rintro e w' ⟨rfl, rfl⟩) | (go_at_call 73; refine (checkVal_c _ _ _).mono ?_; rintro e w' ⟨rfl, rfl⟩))
          go_ret
          exact ⟨rfl, (below_alloc _ _).alloc (by simp) _⟩
  · have g1' : decide (1 ≤ qa) = false := by simpa using g1
    have g2' : decide (2 ≤ qa) = false := by simp; omega
    cases g3 : (a == 0)
    · simp only [g1', Bool.false_or, Bool.false_and]
      go_enter Try.func46, Try.ntmps46
      go_wp2_with (first | (go_at_call 35; refine (within_c _ _ _ _).mono ?_; rintro e w' ⟨rfl, rfl⟩) | (go_at_call 73; refine (checkVal_c _ _ _).mono ?_; rintro e w' ⟨rfl, rfl⟩))
      go_ret
      exact ⟨rfl, (below_alloc _ _).alloc (by simp) _⟩
    · cases g4 : (b == 0)
      · simp only [g1', g2', Bool.true_and, Bool.false_or, Bool.false_and]
        go_enter Try.func46, Try.ntmps46
        go_wp2_with (first | (go_at_call 35; refine (within_c _ _ _ _).mono ?_; rintro e w' ⟨rfl, rfl⟩) | (go_at_call 73; refine (checkVal_c _ _ _).mono ?_; rintro e w' ⟨rfl, rfl⟩))
        go_ret
        exact ⟨rfl, (below_alloc _ _).alloc (by simp) _⟩
      · cases g5 : (Lat.err qk v == 0)
        all_goals
          simp only [g1', g2', Bool.true_and, Bool.false_or]
          go_enter Try.func46, Try.ntmps46
          go_wp2_with (first | (go_at_call 35; refine (within_c _ _ _ _).mono ?_; rintro e w' ⟨rfl, rfl⟩) | (go_at_call 73; refine (checkVal_c _ _ _).mono ?_; rintro e w' ⟨rfl, rfl⟩))
          go_ret
          exact ⟨rfl, (below_alloc _ _).alloc (by simp) _⟩
end Go.Proofs.Ytabhmlkpbdfjcab.Rule
