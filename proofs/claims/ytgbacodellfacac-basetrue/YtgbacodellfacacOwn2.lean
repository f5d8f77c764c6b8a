/-
  Package base: how two facts are ordered; whether a fact is right.
-/
import Derived.Test.YtgbacodellfacacOwn1
namespace Go.Proofs.Ytgbacodellfacac.Base
open Go.ChangeShapes Go.WideShapes Go.ChangeAt Go.RowKit
open Lat (within)
open Rule (factFine isPred kindOf arityOf isPred_iff)

set_option maxRecDepth 100000 in
set_option maxHeartbeats 4000000 in
theorem order_c (p a b v q c d u : Int) (w : World) : Calls Try.prog 10 #[.agg #[.int .i64 p, .int .i64 a, .int .i64 b, .int .i64 v], .agg #[.int .i64 q, .int .i64 c, .int .i64 d, .int .i64 u]] w fun e w' => e = .returned (.int .i64 (cmpF ⟨p, a, b, v⟩ ⟨q, c, d, u⟩)) ∧ Below w.heap.size w w' := by
  go_enter Try.func10, Try.ntmps10
  go_wp2_with fail
  refine wp_called (fun w' => Below w.heap.size w w' ∧ w.heap.size + 2 = w'.heap.size ∧ w'.cell? ⟨w.heap.size, 0, none⟩ = some (.int .i64 p) ∧ w'.cell? ⟨w.heap.size, 1, none⟩ = some (.int .i64 a) ∧ w'.cell? ⟨w.heap.size, 2, none⟩ = some (.int .i64 b) ∧ w'.cell? ⟨w.heap.size + 1, 0, none⟩ = some (.int .i64 q) ∧ w'.cell? ⟨w.heap.size + 1, 1, none⟩ = some (.int .i64 c) ∧ w'.cell? ⟨w.heap.size + 1, 2, none⟩ = some (.int .i64 d)) ⟨(below_alloc _ _).alloc (by simp) _, by simp, by simp [go_sem], by simp [go_sem], by simp [go_sem], by simp [go_sem], by simp [go_sem], by simp [go_sem]⟩ ?_
  rintro W0 ⟨hb0, hs, d0, d1, d2, d3, d4, d5⟩
  have s1 : w.heap.size < W0.heap.size := by omega
  have s2 : w.heap.size + 1 < W0.heap.size := by omega
  have KEEP : Hid (∀ w', Below W0.heap.size W0 w' → (fun w' => Below W0.heap.size W0 w' ∧ w'.cell? ⟨w.heap.size, 0, none⟩ = some (.int .i64 p) ∧ w'.cell? ⟨w.heap.size, 1, none⟩ = some (.int .i64 a) ∧ w'.cell? ⟨w.heap.size, 2, none⟩ = some (.int .i64 b) ∧ w'.cell? ⟨w.heap.size + 1, 0, none⟩ = some (.int .i64 q) ∧ w'.cell? ⟨w.heap.size + 1, 1, none⟩ = some (.int .i64 c) ∧ w'.cell? ⟨w.heap.size + 1, 2, none⟩ = some (.int .i64 d)) w') :=
    fun w' hq => ⟨hq, (cell_lasts hq s1).trans d0, (cell_lasts hq s1).trans d1, (cell_lasts hq s1).trans d2, (cell_lasts hq s2).trans d3, (cell_lasts hq s2).trans d4, (cell_lasts hq s2).trans d5⟩
  clear hs
  go_region_held3 (fun w' => Below W0.heap.size W0 w' ∧ w'.cell? ⟨w.heap.size, 0, none⟩ = some (.int .i64 p) ∧ w'.cell? ⟨w.heap.size, 1, none⟩ = some (.int .i64 a) ∧ w'.cell? ⟨w.heap.size, 2, none⟩ = some (.int .i64 b) ∧ w'.cell? ⟨w.heap.size + 1, 0, none⟩ = some (.int .i64 q) ∧ w'.cell? ⟨w.heap.size + 1, 1, none⟩ = some (.int .i64 c) ∧ w'.cell? ⟨w.heap.size + 1, 2, none⟩ = some (.int .i64 d))
    ((refine KEEP.out _ ?_; (first | exact Below.refl _ _ | exact (Below.refl _ _).drew | exact hk | exact hk.drew | exact hk.alloc hk.size _ | exact (hk.alloc hk.size _).drew | exact hk.drew.alloc hk.size _)))
    (first
      | (go_at_call 23; refine (compare_c _ _ _).mono ?_; rintro e w4 ⟨rfl, hw4⟩; have hk : Below W0.heap.size W0 w4 := (by rw [hw4]; (first | exact Below.refl _ _ | exact (Below.refl _ _).drew | exact hk | exact hk.drew)); clear hw4)
      | (go_at_call 22; refine (or_c _ _ (cmpI p q) (cmpI a c) (cmpI b d) (by simp [go_sem]) (by simp [go_sem]) (by simp [go_sem])).mono ?_; rintro e w5 ⟨rfl, hw5⟩; have hk : Below W0.heap.size W0 w5 := (by rw [hw5]; (first | exact hk.alloc hk.size _ | exact (hk.alloc hk.size _).drew | exact hk.drew.alloc hk.size _)); clear hw5))
  clear KEEP
  go_wp2_with fail
  go_ret
  exact ⟨rfl, hb0.trans (hk.mono hb0.size)⟩

def isArgB (has : Bool) (n : Int) : Bool := within n 0 4 && (has || n == 0)
theorem isArg_is (has : Bool) (n : Int) (r : Bool) (w : World) (h : isArgB has n = r) : Calls Try.prog 36 #[.bool has, .int .i64 n] w fun e w' => e = .returned (.bool r) ∧ w' = w := h ▸ isArg_c has n w

theorem fine_parts {ps : List Prd} {k : Nat} (hk : k < ps.length) (a b v : Int) : factFine ps ⟨(k : Int), a, b, v⟩ = (isArgB (decide (0 < ps[k].arity)) a && (isArgB (decide (1 < ps[k].arity)) b && Lat.err ps[k].kind v == 0)) := by
  have h1 : isPred ps (k : Int) = true := isPred_iff.2 ⟨k, hk, rfl⟩
  have har : arityOf ps (k : Int) = ps[k].arity := by simp [arityOf, hk]
  have hki : kindOf ps (k : Int) = ps[k].kind := by simp [kindOf, hk]
  simp only [factFine, h1, har, hki, Bool.true_and, isArgB]
  rw [show decide (1 ≤ ps[k].arity) = decide (0 < ps[k].arity) from decide_eq_decide.2 (by omega), show decide (2 ≤ ps[k].arity) = decide (1 < ps[k].arity) from decide_eq_decide.2 (by omega)]
  cases within a 0 4 <;> cases within b 0 4 <;> cases (decide (0 < ps[k].arity) || a == 0) <;> simp

set_option maxRecDepth 100000 in
set_option maxHeartbeats 4000000 in
theorem isRight_c (w : World) (pv : Value) (ps : List Prd) (p a b v : Int) (h : predsAt w pv ps) :
    Calls Try.prog 21 #[pv, .agg #[.int .i64 p, .int .i64 a, .int .i64 b, .int .i64 v]] w fun e w' => e = .returned (.bool (factFine ps ⟨p, a, b, v⟩)) ∧ Below w.heap.size w w' := by
  obtain ⟨pa, cap, rfl, hm, hx⟩ := h
  cases h1 : isPred ps p
  · have e : factFine ps ⟨p, a, b, v⟩ = false := by simp [factFine, h1]
    rw [e]
    clear e hx
    by_cases hp : p < 0
    · clear h1
      go_enter Try.func21, Try.ntmps21
      go_wp2_with fail
      go_ret
      exact ⟨rfl, below_alloc _ _⟩
    · have hp2 : (ps.length : Int) ≤ p := by
        refine Classical.byContradiction fun hc => ?_
        have := isPred_iff.2 (⟨p.toNat, by omega, by show p = _; omega⟩ : ∃ k : Nat, k < ps.length ∧ p = (k : Int))
        rw [h1] at this
        cases this
      clear h1
      go_enter Try.func21, Try.ntmps21
      go_wp2_with fail
      go_ret
      exact ⟨rfl, below_alloc _ _⟩
  · obtain ⟨k, hk, rfl⟩ := isPred_iff.1 h1
    obtain ⟨bb, off, rfl, hbl, hx⟩ := hx.resolve_left (by rintro rfl; simp at hk)
    obtain ⟨hc0, hc1, hc2⟩ := hx k ps[k] (by simp [hk])
    rw [fine_parts hk]
    have hk0 : (0 : Int) ≤ (k : Int) := by omega
    have hk1 : (k : Int) < (ps.length : Int) := by omega
    have hk2 : ¬ (k : Int) < 0 := by omega
    have hk3 : ¬ (ps.length : Int) ≤ (k : Int) := by omega
    clear hx h1
    generalize ps[k] = qq at *
    obtain ⟨qn, qa, qk⟩ := qq
    dsimp only at hc0 hc1 hc2 ⊢
    clear hx
    by_cases g1 : 0 < qa
    · have g1' : decide (0 < qa) = true := by simpa using g1
      rw [g1']
      by_cases g2 : 1 < qa
      · have g2' : decide (1 < qa) = true := by simpa using g2
        rw [g2']
        cases r1 : isArgB true a
        · rw [Bool.false_and]
          go_enter Try.func21, Try.ntmps21
          go_wp2_with (first | (go_at_call 36; refine (isArg_is _ _ _ _ (by assumption)).mono ?_; rintro e w' ⟨rfl, rfl⟩) | (go_at_call 33; refine (Lat.check_c _ _ _).mono ?_; rintro e w' ⟨rfl, rfl⟩))
          go_ret
          exact ⟨rfl, (below_alloc _ _).alloc (by simp) _⟩
        · cases r2 : isArgB true b
          · rw [Bool.false_and, Bool.and_false]
            go_enter Try.func21, Try.ntmps21
            go_wp2_with (first | (go_at_call 36; refine (isArg_is _ _ _ _ (by assumption)).mono ?_; rintro e w' ⟨rfl, rfl⟩) | (go_at_call 33; refine (Lat.check_c _ _ _).mono ?_; rintro e w' ⟨rfl, rfl⟩))
            go_ret
            exact ⟨rfl, (below_alloc _ _).alloc (by simp) _⟩
          · cases g5 : (Lat.err qk v == 0)
            all_goals
              rw [Bool.true_and, Bool.true_and]
              go_enter Try.func21, Try.ntmps21
              go_wp2_with (first | (go_at_call 36; refine (isArg_is _ _ _ _ (by assumption)).mono ?_; rintro e w' ⟨rfl, rfl⟩) | (go_at_call 33; refine (Lat.check_c _ _ _).mono ?_; rintro e w' ⟨rfl, rfl⟩))
              go_ret
              exact ⟨rfl, (below_alloc _ _).alloc (by simp) _⟩
      · have g2' : decide (1 < qa) = false := by simpa using g2
        rw [g2']
        cases r1 : isArgB true a
        · rw [Bool.false_and]
          go_enter Try.func21, Try.ntmps21
          go_wp2_with (first | (go_at_call 36; refine (isArg_is _ _ _ _ (by assumption)).mono ?_; rintro e w' ⟨rfl, rfl⟩) | (go_at_call 33; refine (Lat.check_c _ _ _).mono ?_; rintro e w' ⟨rfl, rfl⟩))
          go_ret
          exact ⟨rfl, (below_alloc _ _).alloc (by simp) _⟩
        · cases r2 : isArgB false b
          · rw [Bool.false_and, Bool.and_false]
            go_enter Try.func21, Try.ntmps21
            go_wp2_with (first | (go_at_call 36; refine (isArg_is _ _ _ _ (by assumption)).mono ?_; rintro e w' ⟨rfl, rfl⟩) | (go_at_call 33; refine (Lat.check_c _ _ _).mono ?_; rintro e w' ⟨rfl, rfl⟩))
            go_ret
            exact ⟨rfl, (below_alloc _ _).alloc (by simp) _⟩
          · cases g5 : (Lat.err qk v == 0)
            all_goals
              rw [Bool.true_and, Bool.true_and]
              go_enter Try.func21, Try.ntmps21
              go_wp2_with (first | (go_at_call 36; refine (isArg_is _ _ _ _ (by assumption)).mono ?_; rintro e w' ⟨rfl, rfl⟩) | (go_at_call 33; refine (Lat.check_c _ _ _).mono ?_; rintro e w' ⟨rfl, rfl⟩))
              go_ret
              exact ⟨rfl, (below_alloc _ _).alloc (by simp) _⟩
    · have g1' : decide (0 < qa) = false := by simpa using g1
      have g2 : ¬ 1 < qa := by omega
      have g2' : decide (1 < qa) = false := by simpa using g2
      rw [g1', g2']
      cases r1 : isArgB false a
      · rw [Bool.false_and]
        go_enter Try.func21, Try.ntmps21
        go_wp2_with (first | (go_at_call 36; refine (isArg_is _ _ _ _ (by assumption)).mono ?_; rintro e w' ⟨rfl, rfl⟩) | (go_at_call 33; refine (Lat.check_c _ _ _).mono ?_; rintro e w' ⟨rfl, rfl⟩))
        go_ret
        exact ⟨rfl, (below_alloc _ _).alloc (by simp) _⟩
      · cases r2 : isArgB false b
        · rw [Bool.false_and, Bool.and_false]
          go_enter Try.func21, Try.ntmps21
          go_wp2_with (first | (go_at_call 36; refine (isArg_is _ _ _ _ (by assumption)).mono ?_; rintro e w' ⟨rfl, rfl⟩) | (go_at_call 33; refine (Lat.check_c _ _ _).mono ?_; rintro e w' ⟨rfl, rfl⟩))
          go_ret
          exact ⟨rfl, (below_alloc _ _).alloc (by simp) _⟩
        · cases g5 : (Lat.err qk v == 0)
          all_goals
            rw [Bool.true_and, Bool.true_and]
            go_enter Try.func21, Try.ntmps21
            go_wp2_with (first | (go_at_call 36; refine (isArg_is _ _ _ _ (by assumption)).mono ?_; rintro e w' ⟨rfl, rfl⟩) | (go_at_call 33; refine (Lat.check_c _ _ _).mono ?_; rintro e w' ⟨rfl, rfl⟩))
            go_ret
            exact ⟨rfl, (below_alloc _ _).alloc (by simp) _⟩
end Go.Proofs.Ytgbacodellfacac.Base
