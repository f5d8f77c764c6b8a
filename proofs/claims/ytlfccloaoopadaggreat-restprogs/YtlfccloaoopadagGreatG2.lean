/-
  What package lat and the document's own reckoning of values answer, call by call: one contract for each function on the road of the four laws of values.
-/
import Derived.WalkKit
import Derived.WalkSpells
import Derived.WalkLawsBesides
import Derived.Outline
import Derived.ProofKit
import Derived.OpenShut
import Derived.Laws.EntriesVeiled
import Derived.Test.YtlfccloaoopadagGreatRows
import Derived.Test.YtlfccloaoopadagGreatG1
namespace Go.Proofs.YtlfccloaoopadagGreat.Lat
open Go.ChangeShapes Go.WideShapes Go.ChangeAt Go.RowKit


theorem greatest_c (k : Int) (w : World) :
    Calls Tryz.prog 96 #[.int .i64 k] w fun e w' => e = .returned (.int .i64 (most k)) ∧ w' = w := by
  by_cases h : k = 0
  · have e : most k = 0 := by simp [most, h]
    rw [e]
    subst h
    go_enter Tryz.func96, Tryz.ntmps96
    go_wp2
    go_ret
    exact ⟨rfl, rfl⟩
  · have e : most k = 15 := by simp [most, h]
    rw [e]
    have h' : (k == 0) = false := by simpa using h
    go_enter Tryz.func96, Tryz.ntmps96
    go_wp2
    go_ret
    exact ⟨rfl, rfl⟩

theorem check_c (k v : Int) (w : World) :
    Calls Tryz.prog 67 #[.int .i64 k, .int .i64 v] w fun e w' => e = .returned (.int .i64 (err k v)) ∧ w' = w := by
  by_cases h1 : k < 0
  · have e : err k v = 4 := by simp [err, h1]
    rw [e]
    go_enter Tryz.func67, Tryz.ntmps67
    go_wp2
    go_ret
    exact ⟨rfl, rfl⟩
  by_cases h2 : 4 ≤ k
  · have e : err k v = 4 := by simp [err, h2]
    rw [e]
    go_enter Tryz.func67, Tryz.ntmps67
    go_wp2
    go_ret
    exact ⟨rfl, rfl⟩
  by_cases h3 : v < 0
  · have e : err k v = 3 := by simp [err, h1, h2, h3]
    rw [e]
    go_enter Tryz.func67, Tryz.ntmps67
    go_wp2
    go_ret
    exact ⟨rfl, rfl⟩
  by_cases h4 : most k < v
  · have e : err k v = 3 := by simp [err, h1, h2, h4]
    rw [e]
    go_enter Tryz.func67, Tryz.ntmps67
    go_wp2_with (go_at_call 96; refine (greatest_c _ _).mono ?_; rintro e w' ⟨rfl, rfl⟩)
    go_ret
    exact ⟨rfl, rfl⟩
  · have e : err k v = 0 := by simp [err, h1, h2, h3, h4]
    rw [e]
    go_enter Tryz.func67, Tryz.ntmps67
    go_wp2_with (go_at_call 96; refine (greatest_c _ _).mono ?_; rintro e w' ⟨rfl, rfl⟩)
    go_ret
    exact ⟨rfl, rfl⟩

theorem joins_c (w : World) :
    Calls Tryz.prog 86 #[] w fun e w' => e = .returned (.agg #[.func (.func 121) #[] #[], .func (.func 122) #[] #[], .func (.func 123) #[] #[], .func (.func 124) #[] #[]]) ∧ Below w.heap.size w w' := by
  go_enter Tryz.func86, Tryz.ntmps86
  go_wp2
  exact bodyPost_ret (v := .agg #[.func (.func 121) #[] #[], .func (.func 122) #[] #[], .func (.func 123) #[] #[], .func (.func 124) #[] #[]]) (by simp [results, Tryz.results86, go_sem]) rfl ⟨rfl, (Below.refl _ _).alloc (Nat.le_refl _) _⟩

theorem lifts_c (w : World) :
    Calls Tryz.prog 156 #[] w fun e w' => e = .returned (.agg #[.func (.func 162) #[] #[], .func (.func 163) #[] #[], .func (.func 164) #[] #[], .func (.func 165) #[] #[]]) ∧ Below w.heap.size w w' := by
  go_enter Tryz.func156, Tryz.ntmps156
  go_wp2
  exact bodyPost_ret (v := .agg #[.func (.func 162) #[] #[], .func (.func 163) #[] #[], .func (.func 164) #[] #[], .func (.func 165) #[] #[]]) (by simp [results, Tryz.results156, go_sem]) rfl ⟨rfl, (Below.refl _ _).alloc (Nat.le_refl _) _⟩

theorem join0_c (a b : Int) (w : World) : Calls Tryz.prog 121 #[.int .i64 a, .int .i64 b] w fun e w' => e = .returned (.int .i64 0) ∧ w' = w := by
  go_enter Tryz.func121, Tryz.ntmps121
  go_wp2
  go_ret
  exact ⟨rfl, rfl⟩
theorem join1_c (a b : Int) (w : World) : Calls Tryz.prog 122 #[.int .i64 a, .int .i64 b] w fun e w' => e = .returned (.int .i64 (maxI a b)) ∧ w' = w := by
  unfold maxI
  by_cases h : a < b
  · rw [if_pos h]
    go_enter Tryz.func122, Tryz.ntmps122
    go_wp2
    go_ret
    exact ⟨rfl, rfl⟩
  · rw [if_neg h]
    go_enter Tryz.func122, Tryz.ntmps122
    go_wp2
    go_ret
    exact ⟨rfl, rfl⟩
theorem join2_c (a b : Int) (w : World) : Calls Tryz.prog 123 #[.int .i64 a, .int .i64 b] w fun e w' => e = .returned (.int .i64 (minI a b)) ∧ w' = w := by
  unfold minI
  by_cases h : b < a
  · rw [if_neg (by omega)]
    go_enter Tryz.func123, Tryz.ntmps123
    go_wp2
    go_ret
    exact ⟨rfl, rfl⟩
  · have e : (if a < b then a else b) = a := by by_cases g : a < b <;> simp [g]; omega
    rw [e]
    go_enter Tryz.func123, Tryz.ntmps123
    go_wp2
    go_ret
    exact ⟨rfl, rfl⟩
theorem join3_c (a b : Int) (w : World) : Calls Tryz.prog 124 #[.int .i64 a, .int .i64 b] w fun e w' => e = .returned (.int .i64 (orB a b)) ∧ w' = w := by
  go_enter Tryz.func124, Tryz.ntmps124
  go_wp2
  go_ret
  exact ⟨rfl, rfl⟩
theorem lift0_c (a b : Int) (w : World) : Calls Tryz.prog 162 #[.int .i64 a, .int .i64 b] w fun e w' => e = .returned (.int .i64 0) ∧ w' = w := by
  go_enter Tryz.func162, Tryz.ntmps162
  go_wp2
  go_ret
  exact ⟨rfl, rfl⟩
theorem lift1_c (a b : Int) (w : World) (ha : 0 ≤ a) (ha' : a ≤ 15) (hb : 0 ≤ b) (hb' : b ≤ 15) : Calls Tryz.prog 163 #[.int .i64 a, .int .i64 b] w fun e w' => e = .returned (.int .i64 (cap (a + b))) ∧ w' = w := by
  by_cases h : 15 < a + b
  · have e : cap (a + b) = 15 := by simp [cap, h]
    rw [e]
    go_enter Tryz.func163, Tryz.ntmps163
    go_wp2
    go_ret
    exact ⟨rfl, rfl⟩
  · have e : cap (a + b) = a + b := by simp [cap, h]
    rw [e]
    go_enter Tryz.func163, Tryz.ntmps163
    go_wp2
    go_ret
    exact ⟨rfl, rfl⟩
theorem lift2_c (a b : Int) (w : World) (ha : 0 ≤ a) (ha' : a ≤ 15) (hb : 0 ≤ b) (hb' : b ≤ 15) : Calls Tryz.prog 164 #[.int .i64 a, .int .i64 b] w fun e w' => e = .returned (.int .i64 (cap (a + b))) ∧ w' = w := by
  by_cases h : 15 < a + b
  · have e : cap (a + b) = 15 := by simp [cap, h]
    rw [e]
    go_enter Tryz.func164, Tryz.ntmps164
    go_wp2
    go_ret
    exact ⟨rfl, rfl⟩
  · have e : cap (a + b) = a + b := by simp [cap, h]
    rw [e]
    go_enter Tryz.func164, Tryz.ntmps164
    go_wp2
    go_ret
    exact ⟨rfl, rfl⟩
theorem lift3_c (a b : Int) (w : World) : Calls Tryz.prog 165 #[.int .i64 a, .int .i64 b] w fun e w' => e = .returned (.int .i64 (orB a b)) ∧ w' = w := by
  go_enter Tryz.func165, Tryz.ntmps165
  go_wp2
  go_ret
  exact ⟨rfl, rfl⟩

theorem reckonJ_c (k a b : Int) (w : World) :
    Calls Tryz.prog 85 #[.agg #[.func (.func 121) #[] #[], .func (.func 122) #[] #[], .func (.func 123) #[] #[], .func (.func 124) #[] #[]], .int .i64 k, .int .i64 a, .int .i64 b] w
      fun e w' => e = .returned (.tuple #[.int .i64 (joinOf k a b), .int .i64 (err2 k a b)]) ∧ Below w.heap.size w w' := by
  by_cases h1 : err k a = 0
  · by_cases h2 : err k b = 0
    · have e : err2 k a b = 0 := by simp [err2, h1, h2]
      obtain ⟨hk, ha, ha'⟩ := err_ok h1
      obtain ⟨_, hb, hb'⟩ := err_ok h2
      have e2 : joinOf k a b = join k a b := by simp [joinOf, e]
      rw [e, e2]
      rcases hk with rfl | rfl | rfl | rfl
      · have e3 : join 0 a b = 0 := rfl
        rw [e3]
        clear e e2 e3
        go_enter Tryz.func85, Tryz.ntmps85
        go_wp2_with (first | (go_at_call 67; refine (check_c _ _ _).mono ?_; rintro e w' ⟨rfl, rfl⟩) | (go_at_call 121; refine (join0_c _ _ _).mono ?_; rintro e w' ⟨rfl, rfl⟩))
        go_ret2
        exact ⟨rfl, (Below.refl _ _).alloc (Nat.le_refl _) _⟩
      · have e3 : join 1 a b = maxI a b := rfl
        rw [e3]
        clear e e2 e3
        go_enter Tryz.func85, Tryz.ntmps85
        go_wp2_with (first | (go_at_call 67; refine (check_c _ _ _).mono ?_; rintro e w' ⟨rfl, rfl⟩) | (go_at_call 122; refine (join1_c _ _ _).mono ?_; rintro e w' ⟨rfl, rfl⟩))
        go_ret2
        exact ⟨rfl, (Below.refl _ _).alloc (Nat.le_refl _) _⟩
      · have e3 : join 2 a b = minI a b := rfl
        rw [e3]
        clear e e2 e3
        go_enter Tryz.func85, Tryz.ntmps85
        go_wp2_with (first | (go_at_call 67; refine (check_c _ _ _).mono ?_; rintro e w' ⟨rfl, rfl⟩) | (go_at_call 123; refine (join2_c _ _ _).mono ?_; rintro e w' ⟨rfl, rfl⟩))
        go_ret2
        exact ⟨rfl, (Below.refl _ _).alloc (Nat.le_refl _) _⟩
      · have e3 : join 3 a b = orB a b := rfl
        rw [e3]
        clear e e2 e3
        go_enter Tryz.func85, Tryz.ntmps85
        go_wp2_with (first | (go_at_call 67; refine (check_c _ _ _).mono ?_; rintro e w' ⟨rfl, rfl⟩) | (go_at_call 124; refine (join3_c _ _ _).mono ?_; rintro e w' ⟨rfl, rfl⟩))
        go_ret2
        exact ⟨rfl, (Below.refl _ _).alloc (Nat.le_refl _) _⟩
    · have e : err2 k a b = err k b := by simp [err2, h1]
      have e2 : joinOf k a b = 0 := by simp [joinOf, e, h2]
      rw [e, e2]
      clear e e2
      have h2' : (err k b != 0) = true := by simpa using h2
      go_enter Tryz.func85, Tryz.ntmps85
      go_wp2_with (go_at_call 67; refine (check_c _ _ _).mono ?_; rintro e w' ⟨rfl, rfl⟩)
      go_ret2
      exact ⟨rfl, (Below.refl _ _).alloc (Nat.le_refl _) _⟩
  · have e : err2 k a b = err k a := by simp [err2, h1]
    have e2 : joinOf k a b = 0 := by simp [joinOf, e, h1]
    rw [e, e2]
    clear e e2
    have h1' : (err k a != 0) = true := by simpa using h1
    go_enter Tryz.func85, Tryz.ntmps85
    go_wp2_with (go_at_call 67; refine (check_c _ _ _).mono ?_; rintro e w' ⟨rfl, rfl⟩)
    go_ret2
    exact ⟨rfl, (Below.refl _ _).alloc (Nat.le_refl _) _⟩

theorem reckonL_c (k a b : Int) (w : World) :
    Calls Tryz.prog 85 #[.agg #[.func (.func 162) #[] #[], .func (.func 163) #[] #[], .func (.func 164) #[] #[], .func (.func 165) #[] #[]], .int .i64 k, .int .i64 a, .int .i64 b] w
      fun e w' => e = .returned (.tuple #[.int .i64 (liftOf k a b), .int .i64 (err2 k a b)]) ∧ Below w.heap.size w w' := by
  by_cases h1 : err k a = 0
  · by_cases h2 : err k b = 0
    · have e : err2 k a b = 0 := by simp [err2, h1, h2]
      obtain ⟨hk, ha, ha'⟩ := err_ok h1
      obtain ⟨_, hb, hb'⟩ := err_ok h2
      have e2 : liftOf k a b = lift k a b := by simp [liftOf, e]
      rw [e, e2]
      rcases hk with rfl | rfl | rfl | rfl
      · have e3 : lift 0 a b = 0 := rfl
        rw [e3]
        clear e e2 e3
        go_enter Tryz.func85, Tryz.ntmps85
        go_wp2_with (first | (go_at_call 67; refine (check_c _ _ _).mono ?_; rintro e w' ⟨rfl, rfl⟩) | (go_at_call 162; refine (lift0_c _ _ _).mono ?_; rintro e w' ⟨rfl, rfl⟩))
        go_ret2
        exact ⟨rfl, (Below.refl _ _).alloc (Nat.le_refl _) _⟩
      · have e3 : lift 1 a b = cap (a + b) := rfl
        rw [e3]
        clear e e2 e3
        go_enter Tryz.func85, Tryz.ntmps85
        go_wp2_with (first | (go_at_call 67; refine (check_c _ _ _).mono ?_; rintro e w' ⟨rfl, rfl⟩) | (go_at_call 163; refine (lift1_c _ _ _ (by assumption) (by assumption) (by assumption) (by assumption)).mono ?_; rintro e w' ⟨rfl, rfl⟩))
        go_ret2
        exact ⟨rfl, (Below.refl _ _).alloc (Nat.le_refl _) _⟩
      · have e3 : lift 2 a b = cap (a + b) := rfl
        rw [e3]
        clear e e2 e3
        go_enter Tryz.func85, Tryz.ntmps85
        go_wp2_with (first | (go_at_call 67; refine (check_c _ _ _).mono ?_; rintro e w' ⟨rfl, rfl⟩) | (go_at_call 164; refine (lift2_c _ _ _ (by assumption) (by assumption) (by assumption) (by assumption)).mono ?_; rintro e w' ⟨rfl, rfl⟩))
        go_ret2
        exact ⟨rfl, (Below.refl _ _).alloc (Nat.le_refl _) _⟩
      · have e3 : lift 3 a b = orB a b := rfl
        rw [e3]
        clear e e2 e3
        go_enter Tryz.func85, Tryz.ntmps85
        go_wp2_with (first | (go_at_call 67; refine (check_c _ _ _).mono ?_; rintro e w' ⟨rfl, rfl⟩) | (go_at_call 165; refine (lift3_c _ _ _).mono ?_; rintro e w' ⟨rfl, rfl⟩))
        go_ret2
        exact ⟨rfl, (Below.refl _ _).alloc (Nat.le_refl _) _⟩
    · have e : err2 k a b = err k b := by simp [err2, h1]
      have e2 : liftOf k a b = 0 := by simp [liftOf, e, h2]
      rw [e, e2]
      clear e e2
      have h2' : (err k b != 0) = true := by simpa using h2
      go_enter Tryz.func85, Tryz.ntmps85
      go_wp2_with (go_at_call 67; refine (check_c _ _ _).mono ?_; rintro e w' ⟨rfl, rfl⟩)
      go_ret2
      exact ⟨rfl, (Below.refl _ _).alloc (Nat.le_refl _) _⟩
  · have e : err2 k a b = err k a := by simp [err2, h1]
    have e2 : liftOf k a b = 0 := by simp [liftOf, e, h1]
    rw [e, e2]
    clear e e2
    have h1' : (err k a != 0) = true := by simpa using h1
    go_enter Tryz.func85, Tryz.ntmps85
    go_wp2_with (go_at_call 67; refine (check_c _ _ _).mono ?_; rintro e w' ⟨rfl, rfl⟩)
    go_ret2
    exact ⟨rfl, (Below.refl _ _).alloc (Nat.le_refl _) _⟩

theorem Join_c (k a b : Int) (w : World) :
    Calls Tryz.prog 48 #[.int .i64 k, .int .i64 a, .int .i64 b] w
      fun e w' => e = .returned (.tuple #[.int .i64 (joinOf k a b), .int .i64 (err2 k a b)]) ∧ Below w.heap.size w w' := by
  go_enter Tryz.func48, Tryz.ntmps48
  go_wp2_with fail
  refine (joins_c _).mono ?_
  rintro e w1 ⟨rfl, hb1⟩
  go_wp2_with fail
  refine (reckonJ_c _ _ _ _).mono ?_
  rintro e w2 ⟨rfl, hb2⟩
  go_wp2_with fail
  go_ret2
  exact ⟨rfl, hb1.trans (hb2.mono hb1.size)⟩

theorem Lift_c (k a b : Int) (w : World) :
    Calls Tryz.prog 141 #[.int .i64 k, .int .i64 a, .int .i64 b] w
      fun e w' => e = .returned (.tuple #[.int .i64 (liftOf k a b), .int .i64 (err2 k a b)]) ∧ Below w.heap.size w w' := by
  go_enter Tryz.func141, Tryz.ntmps141
  go_wp2_with fail
  refine (lifts_c _).mono ?_
  rintro e w1 ⟨rfl, hb1⟩
  go_wp2_with fail
  refine (reckonL_c _ _ _ _).mono ?_
  rintro e w2 ⟨rfl, hb2⟩
  go_wp2_with fail
  go_ret2
  exact ⟨rfl, hb1.trans (hb2.mono hb1.size)⟩

theorem Leq_c (k a b : Int) (w : World) :
    Calls Tryz.prog 33 #[.int .i64 k, .int .i64 a, .int .i64 b] w
      fun e w' => e = .returned (.tuple #[.bool (leq k a b), .int .i64 (err2 k a b)]) ∧ Below w.heap.size w w' := by
  by_cases h1 : (err2 k a b == 0) = true
  · by_cases h2 : (joinOf k a b == b) = true
    · have e : leq k a b = true := by simp only [leq, h1, h2]; rfl
      rw [e]
      go_enter Tryz.func33, Tryz.ntmps33
      go_wp2_with fail
      refine (Join_c _ _ _ _).mono ?_
      rintro e w1 ⟨rfl, hb1⟩
      go_wp2_with fail
      go_ret2
      exact ⟨rfl, hb1⟩
    · have h2' : (joinOf k a b == b) = false := by simpa using h2
      have e : leq k a b = false := by simp only [leq, h1, h2']; rfl
      rw [e]
      clear h2
      go_enter Tryz.func33, Tryz.ntmps33
      go_wp2_with fail
      refine (Join_c _ _ _ _).mono ?_
      rintro e w1 ⟨rfl, hb1⟩
      go_wp2_with fail
      go_ret2
      exact ⟨rfl, hb1⟩
  · have h1' : (err2 k a b == 0) = false := by simpa using h1
    have e : leq k a b = false := by simp only [leq, h1']; rfl
    rw [e]
    clear h1
    go_enter Tryz.func33, Tryz.ntmps33
    go_wp2_with fail
    refine (Join_c _ _ _ _).mono ?_
    rintro e w1 ⟨rfl, hb1⟩
    go_wp2_with fail
    go_ret2
    exact ⟨rfl, hb1⟩

/-! ### The document's own reckoning -/
theorem within_c (n lo hi : Int) (w : World) :
    Calls Tryz.prog 54 #[.int .i64 n, .int .i64 lo, .int .i64 hi] w fun e w' => e = .returned (.bool (within n lo hi)) ∧ w' = w := by
  by_cases h1 : lo ≤ n
  · by_cases h2 : n ≤ hi
    · have e : within n lo hi = true := by simp [within, h1, h2]
      rw [e]
      go_enter Tryz.func54, Tryz.ntmps54
      go_wp2
      go_ret
      exact ⟨rfl, rfl⟩
    · have e : within n lo hi = false := by simp [within, h1, h2]
      rw [e]
      have h2' : decide (n ≤ hi) = false := by simpa using h2
      go_enter Tryz.func54, Tryz.ntmps54
      go_wp2
      go_ret
      exact ⟨rfl, rfl⟩
  · have e : within n lo hi = false := by simp [within, h1]
    rw [e]
    have h1' : decide (lo ≤ n) = false := by simpa using h1
    go_enter Tryz.func54, Tryz.ntmps54
    go_wp2
    go_ret
    exact ⟨rfl, rfl⟩

theorem checkVal_c (k v : Int) (w : World) :
    Calls Tryz.prog 92 #[.int .i64 k, .int .i64 v] w fun e w' => e = .returned (.int .i64 (err k v)) ∧ w' = w := by
  by_cases h1 : within k 0 3 = true
  · have hk : 0 ≤ k ∧ k ≤ 3 := by simpa [within] using h1
    by_cases h0 : k = 0
    · subst h0
      by_cases h2 : v = 0
      · subst h2
        have e : err 0 0 = 0 := rfl
        rw [e]
        have h3 : within 0 0 15 = true := rfl
        go_enter Tryz.func92, Tryz.ntmps92
        go_wp2_with (go_at_call 54; refine (within_c _ _ _ _).mono ?_; rintro e w' ⟨rfl, rfl⟩)
        go_ret
        exact ⟨rfl, rfl⟩
      · have e : err 0 v = 3 := by simp [err, most]; omega
        rw [e]
        have h2' : (v != 0) = true := by simpa using h2
        go_enter Tryz.func92, Tryz.ntmps92
        go_wp2_with (go_at_call 54; refine (within_c _ _ _ _).mono ?_; rintro e w' ⟨rfl, rfl⟩)
        go_ret
        exact ⟨rfl, rfl⟩
    · have h0' : (k == 0) = false := by simpa using h0
      by_cases h2 : within v 0 15 = true
      · have hv : 0 ≤ v ∧ v ≤ 15 := by simpa [within] using h2
        have e : err k v = 0 := by
          unfold err most
          rw [if_neg (by omega), if_neg h0, if_neg (by omega)]
        rw [e]
        clear h0
        go_enter Tryz.func92, Tryz.ntmps92
        go_wp2_with (go_at_call 54; refine (within_c _ _ _ _).mono ?_; rintro e w' ⟨rfl, rfl⟩)
        go_ret
        exact ⟨rfl, rfl⟩
      · have h2' : within v 0 15 = false := by simpa using h2
        have hv : v < 0 ∨ 15 < v := by simp [within] at h2; omega
        have e : err k v = 3 := by
          unfold err most
          rw [if_neg (by omega), if_neg h0, if_pos hv]
        rw [e]
        clear h0 h2 hv
        go_enter Tryz.func92, Tryz.ntmps92
        go_wp2_with (go_at_call 54; refine (within_c _ _ _ _).mono ?_; rintro e w' ⟨rfl, rfl⟩)
        go_ret
        exact ⟨rfl, rfl⟩
  · have h1' : within k 0 3 = false := by simpa using h1
    have hk : k < 0 ∨ 4 ≤ k := by simp [within] at h1; omega
    have e : err k v = 4 := by simp [err, hk]
    rw [e]
    clear h1 hk
    go_enter Tryz.func92, Tryz.ntmps92
    go_wp2_with (go_at_call 54; refine (within_c _ _ _ _).mono ?_; rintro e w' ⟨rfl, rfl⟩)
    go_ret
    exact ⟨rfl, rfl⟩

theorem joinR_c (k a b : Int) (w : World) (hk : k = 0 ∨ k = 1 ∨ k = 2 ∨ k = 3) :
    Calls Tryz.prog 91 #[.int .i64 k, .int .i64 a, .int .i64 b] w fun e w' => e = .returned (.int .i64 (join k a b)) ∧ w' = w := by
  rcases hk with rfl | rfl | rfl | rfl
  · have e : join 0 a b = 0 := rfl
    rw [e]
    go_enter Tryz.func91, Tryz.ntmps91
    go_wp2
    go_ret
    exact ⟨rfl, rfl⟩
  · by_cases h : b < a
    · have e : join 1 a b = a := by show maxI a b = a; unfold maxI; rw [if_neg (by omega)]
      rw [e]
      go_enter Tryz.func91, Tryz.ntmps91
      go_wp2
      go_ret
      exact ⟨rfl, rfl⟩
    · have e : join 1 a b = b := by show maxI a b = b; unfold maxI; by_cases g : a < b <;> simp [g]; omega
      rw [e]
      go_enter Tryz.func91, Tryz.ntmps91
      go_wp2
      go_ret
      exact ⟨rfl, rfl⟩
  · by_cases h : a < b
    · have e : join 2 a b = a := by show minI a b = a; unfold minI; rw [if_pos h]
      rw [e]
      go_enter Tryz.func91, Tryz.ntmps91
      go_wp2
      go_ret
      exact ⟨rfl, rfl⟩
    · have e : join 2 a b = b := by show minI a b = b; unfold minI; rw [if_neg h]
      rw [e]
      go_enter Tryz.func91, Tryz.ntmps91
      go_wp2
      go_ret
      exact ⟨rfl, rfl⟩
  · have e : join 3 a b = bits BinOp.or IntKind.i64 a b := rfl
    rw [e]
    go_enter Tryz.func91, Tryz.ntmps91
    go_wp2
    go_ret
    exact ⟨rfl, rfl⟩

theorem liftR_c (k a b : Int) (w : World) (hk : k = 0 ∨ k = 1 ∨ k = 2 ∨ k = 3) (ha : 0 ≤ a) (ha' : a ≤ 15) (hb : 0 ≤ b) (hb' : b ≤ 15) :
    Calls Tryz.prog 90 #[.int .i64 k, .int .i64 a, .int .i64 b] w fun e w' => e = .returned (.int .i64 (lift k a b)) ∧ w' = w := by
  rcases hk with rfl | rfl | rfl | rfl
  · have e : lift 0 a b = 0 := rfl
    rw [e]
    go_enter Tryz.func90, Tryz.ntmps90
    go_wp2
    go_ret
    exact ⟨rfl, rfl⟩
  · by_cases h : 15 < a + b
    · have e : lift 1 a b = 15 := by show cap (a + b) = 15; unfold cap; rw [if_pos h]
      rw [e]
      go_enter Tryz.func90, Tryz.ntmps90
      go_wp2
      go_ret
      exact ⟨rfl, rfl⟩
    · have e : lift 1 a b = a + b := by show cap (a + b) = a + b; unfold cap; rw [if_neg h]
      rw [e]
      go_enter Tryz.func90, Tryz.ntmps90
      go_wp2
      go_ret
      exact ⟨rfl, rfl⟩
  · by_cases h : 15 < a + b
    · have e : lift 2 a b = 15 := by show cap (a + b) = 15; unfold cap; rw [if_pos h]
      rw [e]
      go_enter Tryz.func90, Tryz.ntmps90
      go_wp2
      go_ret
      exact ⟨rfl, rfl⟩
    · have e : lift 2 a b = a + b := by show cap (a + b) = a + b; unfold cap; rw [if_neg h]
      rw [e]
      go_enter Tryz.func90, Tryz.ntmps90
      go_wp2
      go_ret
      exact ⟨rfl, rfl⟩
  · have e : lift 3 a b = bits BinOp.or IntKind.i64 a b := rfl
    rw [e]
    go_enter Tryz.func90, Tryz.ntmps90
    go_wp2
    go_ret
    exact ⟨rfl, rfl⟩

end Go.Proofs.YtlfccloaoopadagGreat.Lat
