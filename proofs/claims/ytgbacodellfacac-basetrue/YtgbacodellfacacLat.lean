/-
  What package lat and the document's own reckoning of values answer, call by call: one contract for each function on the road of the four laws of values.
-/
import Derived.Test.YtgbacodellfacacRows
import Derived.Test.YtgbacodellfacacLatPlain
import Derived.WalkKit
import Derived.WalkSpells
import Derived.WalkLawsBesides
import Derived.Outline
import Derived.ProofKit
import Derived.OpenShut
import Derived.Laws.EntriesVeiled
namespace Go.Proofs.Ytgbacodellfacac.Lat
open Go.ChangeShapes Go.WideShapes Go.ChangeAt Go.RowKit


theorem greatest_c (k : Int) (w : World) :
    Calls Try.prog 42 #[.int .i64 k] w fun e w' => e = .returned (.int .i64 (most k)) ∧ w' = w := by
  by_cases h : k = 0
  · have e : most k = 0 := by simp [most, h]
    rw [e]
    subst h
    go_enter Try.func42, Try.ntmps42
    go_wp2
    go_ret
    exact ⟨rfl, rfl⟩
  · have e : most k = 15 := by simp [most, h]
    rw [e]
    have h' : (k == 0) = false := by simpa using h
    go_enter Try.func42, Try.ntmps42
    go_wp2
    go_ret
    exact ⟨rfl, rfl⟩

theorem check_c (k v : Int) (w : World) :
    Calls Try.prog 33 #[.int .i64 k, .int .i64 v] w fun e w' => e = .returned (.int .i64 (err k v)) ∧ w' = w := by
  by_cases h1 : k < 0
  · have e : err k v = 4 := by simp [err, h1]
    rw [e]
    go_enter Try.func33, Try.ntmps33
    go_wp2
    go_ret
    exact ⟨rfl, rfl⟩
  by_cases h2 : 4 ≤ k
  · have e : err k v = 4 := by simp [err, h2]
    rw [e]
    go_enter Try.func33, Try.ntmps33
    go_wp2
    go_ret
    exact ⟨rfl, rfl⟩
  by_cases h3 : v < 0
  · have e : err k v = 3 := by simp [err, h1, h2, h3]
    rw [e]
    go_enter Try.func33, Try.ntmps33
    go_wp2
    go_ret
    exact ⟨rfl, rfl⟩
  by_cases h4 : most k < v
  · have e : err k v = 3 := by simp [err, h1, h2, h4]
    rw [e]
    go_enter Try.func33, Try.ntmps33
    go_wp2_with (go_at_call 42; refine (greatest_c _ _).mono ?_; rintro e w' ⟨rfl, rfl⟩)
    go_ret
    exact ⟨rfl, rfl⟩
  · have e : err k v = 0 := by simp [err, h1, h2, h3, h4]
    rw [e]
    go_enter Try.func33, Try.ntmps33
    go_wp2_with (go_at_call 42; refine (greatest_c _ _).mono ?_; rintro e w' ⟨rfl, rfl⟩)
    go_ret
    exact ⟨rfl, rfl⟩

theorem joins_c (w : World) :
    Calls Try.prog 26 #[] w fun e w' => e = .returned (.agg #[.func (.func 38) #[] #[], .func (.func 39) #[] #[], .func (.func 40) #[] #[], .func (.func 41) #[] #[]]) ∧ Below w.heap.size w w' := by
  go_enter Try.func26, Try.ntmps26
  go_wp2
  exact bodyPost_ret (v := .agg #[.func (.func 38) #[] #[], .func (.func 39) #[] #[], .func (.func 40) #[] #[], .func (.func 41) #[] #[]]) (by simp [results, Try.results26, go_sem]) rfl ⟨rfl, (Below.refl _ _).alloc (Nat.le_refl _) _⟩

theorem join0_c (a b : Int) (w : World) : Calls Try.prog 38 #[.int .i64 a, .int .i64 b] w fun e w' => e = .returned (.int .i64 0) ∧ w' = w := by
  go_enter Try.func38, Try.ntmps38
  go_wp2
  go_ret
  exact ⟨rfl, rfl⟩
theorem join1_c (a b : Int) (w : World) : Calls Try.prog 39 #[.int .i64 a, .int .i64 b] w fun e w' => e = .returned (.int .i64 (maxI a b)) ∧ w' = w := by
  unfold maxI
  by_cases h : a < b
  · rw [if_pos h]
    go_enter Try.func39, Try.ntmps39
    go_wp2
    go_ret
    exact ⟨rfl, rfl⟩
  · rw [if_neg h]
    go_enter Try.func39, Try.ntmps39
    go_wp2
    go_ret
    exact ⟨rfl, rfl⟩
theorem join2_c (a b : Int) (w : World) : Calls Try.prog 40 #[.int .i64 a, .int .i64 b] w fun e w' => e = .returned (.int .i64 (minI a b)) ∧ w' = w := by
  unfold minI
  by_cases h : b < a
  · rw [if_neg (by omega)]
    go_enter Try.func40, Try.ntmps40
    go_wp2
    go_ret
    exact ⟨rfl, rfl⟩
  · have e : (if a < b then a else b) = a := by by_cases g : a < b <;> simp [g]; omega
    rw [e]
    go_enter Try.func40, Try.ntmps40
    go_wp2
    go_ret
    exact ⟨rfl, rfl⟩
theorem join3_c (a b : Int) (w : World) : Calls Try.prog 41 #[.int .i64 a, .int .i64 b] w fun e w' => e = .returned (.int .i64 (orB a b)) ∧ w' = w := by
  go_enter Try.func41, Try.ntmps41
  go_wp2
  go_ret
  exact ⟨rfl, rfl⟩
theorem reckonJ_c (k a b : Int) (w : World) :
    Calls Try.prog 25 #[.agg #[.func (.func 38) #[] #[], .func (.func 39) #[] #[], .func (.func 40) #[] #[], .func (.func 41) #[] #[]], .int .i64 k, .int .i64 a, .int .i64 b] w
      fun e w' => e = .returned (.tuple #[.int .i64 (joinOf k a b), .int .i64 (err2 k a b)]) ∧ Below w.heap.size w w' := by
  by_cases h1 : err k a = 0
  · by_cases h2 : err k b = 0
    · have e : err2 k a b = 0 := by simp [err2, h1, h2]
      obtain ⟨hk, ha, ha'⟩ := err_ok h1
      obtain ⟨_, hb, hb'⟩ := err_ok h2
      have e2 : joinOf k a b = join k a b := by simp [joinOf, e]
      rw [e, e2]
      rcases hk with rfl | rfl | rfl | rfl
      · have e3 : join 0 a b = 0 := rfl
        rw [e3]
        clear e e2 e3
        go_enter Try.func25, Try.ntmps25
        go_wp2_with (first | (go_at_call 33; refine (check_c _ _ _).mono ?_; rintro e w' ⟨rfl, rfl⟩) | (go_at_call 38; refine (join0_c _ _ _).mono ?_; rintro e w' ⟨rfl, rfl⟩))
        go_ret2
        exact ⟨rfl, (Below.refl _ _).alloc (Nat.le_refl _) _⟩
      · have e3 : join 1 a b = maxI a b := rfl
        rw [e3]
        clear e e2 e3
        go_enter Try.func25, Try.ntmps25
        go_wp2_with (first | (go_at_call 33; refine (check_c _ _ _).mono ?_; rintro e w' ⟨rfl, rfl⟩) | (go_at_call 39; refine (join1_c _ _ _).mono ?_; rintro e w' ⟨rfl, rfl⟩))
        go_ret2
        exact ⟨rfl, (Below.refl _ _).alloc (Nat.le_refl _) _⟩
      · have e3 : join 2 a b = minI a b := rfl
        rw [e3]
        clear e e2 e3
        go_enter Try.func25, Try.ntmps25
        go_wp2_with (first | (go_at_call 33; refine (check_c _ _ _).mono ?_; rintro e w' ⟨rfl, rfl⟩) | (go_at_call 40; refine (join2_c _ _ _).mono ?_; rintro e w' ⟨rfl, rfl⟩))
        go_ret2
        exact ⟨rfl, (Below.refl _ _).alloc (Nat.le_refl _) _⟩
      · have e3 : join 3 a b = orB a b := rfl
        rw [e3]
        clear e e2 e3
        go_enter Try.func25, Try.ntmps25
        go_wp2_with (first | (go_at_call 33; refine (check_c _ _ _).mono ?_; rintro e w' ⟨rfl, rfl⟩) | (go_at_call 41; refine (join3_c _ _ _).mono ?_; rintro e w' ⟨rfl, rfl⟩))
        go_ret2
        exact ⟨rfl, (Below.refl _ _).alloc (Nat.le_refl _) _⟩
    · have e : err2 k a b = err k b := by simp [err2, h1]
      have e2 : joinOf k a b = 0 := by simp [joinOf, e, h2]
      rw [e, e2]
      clear e e2
      have h2' : (err k b != 0) = true := by simpa using h2
      go_enter Try.func25, Try.ntmps25
      go_wp2_with (go_at_call 33; refine (check_c _ _ _).mono ?_; rintro e w' ⟨rfl, rfl⟩)
      go_ret2
      exact ⟨rfl, (Below.refl _ _).alloc (Nat.le_refl _) _⟩
  · have e : err2 k a b = err k a := by simp [err2, h1]
    have e2 : joinOf k a b = 0 := by simp [joinOf, e, h1]
    rw [e, e2]
    clear e e2
    have h1' : (err k a != 0) = true := by simpa using h1
    go_enter Try.func25, Try.ntmps25
    go_wp2_with (go_at_call 33; refine (check_c _ _ _).mono ?_; rintro e w' ⟨rfl, rfl⟩)
    go_ret2
    exact ⟨rfl, (Below.refl _ _).alloc (Nat.le_refl _) _⟩

theorem Join_c (k a b : Int) (w : World) :
    Calls Try.prog 12 #[.int .i64 k, .int .i64 a, .int .i64 b] w
      fun e w' => e = .returned (.tuple #[.int .i64 (joinOf k a b), .int .i64 (err2 k a b)]) ∧ Below w.heap.size w w' := by
  go_enter Try.func12, Try.ntmps12
  go_wp2_with fail
  refine (joins_c _).mono ?_
  rintro e w1 ⟨rfl, hb1⟩
  go_wp2_with fail
  refine (reckonJ_c _ _ _ _).mono ?_
  rintro e w2 ⟨rfl, hb2⟩
  go_wp2_with fail
  go_ret2
  exact ⟨rfl, hb1.trans (hb2.mono hb1.size)⟩

theorem Leq_c (k a b : Int) (w : World) :
    Calls Try.prog 19 #[.int .i64 k, .int .i64 a, .int .i64 b] w
      fun e w' => e = .returned (.tuple #[.bool (leq k a b), .int .i64 (err2 k a b)]) ∧ Below w.heap.size w w' := by
  by_cases h1 : (err2 k a b == 0) = true
  · by_cases h2 : (joinOf k a b == b) = true
    · have e : leq k a b = true := by simp only [leq, h1, h2]; rfl
      rw [e]
      go_enter Try.func19, Try.ntmps19
      go_wp2_with fail
      refine (Join_c _ _ _ _).mono ?_
      rintro e w1 ⟨rfl, hb1⟩
      go_wp2_with fail
      go_ret2
      exact ⟨rfl, hb1⟩
    · have h2' : (joinOf k a b == b) = false := by simpa using h2
      have e : leq k a b = false := by simp only [leq, h1, h2']; rfl
      rw [e]
      clear h2
      go_enter Try.func19, Try.ntmps19
      go_wp2_with fail
      refine (Join_c _ _ _ _).mono ?_
      rintro e w1 ⟨rfl, hb1⟩
      go_wp2_with fail
      go_ret2
      exact ⟨rfl, hb1⟩
  · have h1' : (err2 k a b == 0) = false := by simpa using h1
    have e : leq k a b = false := by simp only [leq, h1']; rfl
    rw [e]
    clear h1
    go_enter Try.func19, Try.ntmps19
    go_wp2_with fail
    refine (Join_c _ _ _ _).mono ?_
    rintro e w1 ⟨rfl, hb1⟩
    go_wp2_with fail
    go_ret2
    exact ⟨rfl, hb1⟩

/-! ### The document's own reckoning -/
end Go.Proofs.Ytgbacodellfacac.Lat
