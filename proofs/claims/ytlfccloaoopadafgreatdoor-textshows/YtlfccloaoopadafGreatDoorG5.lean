/-
  What package lat and the document's own reckoning of values answer, call by call: one contract for each function on the road of the four laws of values.
-/
import Derived.WalkKit
import Derived.WalkSpells
import Derived.WalkLawsBesides
import Derived.Outline
import Derived.ProofKit
import Derived.OpenShut
import Derived.Laws.EntriesVeiled
import Derived.Test.YtlfccloaoopadafGreatDoorRows
import Derived.Test.YtlfccloaoopadafGreatDoorG4
namespace Go.Proofs.YtlfccloaoopadafGreatDoor.Lat
open Go.ChangeShapes Go.WideShapes Go.ChangeAt Go.RowKit


theorem greatest_c (k : Int) (w : World) :
    Calls Tryz.prog 92 #[.int .i64 k] w fun e w' => e = .returned (.int .i64 (most k)) ∧ w' = w := by
  by_cases h : k = 0
  · have e : most k = 0 := by simp [most, h]
    rw [e]
    subst h
    go_enter Tryz.func92, Tryz.ntmps92
    go_wp2
    go_ret
    exact ⟨rfl, rfl⟩
  · have e : most k = 15 := by simp [most, h]
    rw [e]
    have h' : (k == 0) = false := by simpa using h
    go_enter Tryz.func92, Tryz.ntmps92
    go_wp2
    go_ret
    exact ⟨rfl, rfl⟩

theorem check_c (k v : Int) (w : World) :
    Calls Tryz.prog 69 #[.int .i64 k, .int .i64 v] w fun e w' => e = .returned (.int .i64 (err k v)) ∧ w' = w := by
  by_cases h1 : k < 0
  · have e : err k v = 4 := by simp [err, h1]
    rw [e]
    go_enter Tryz.func69, Tryz.ntmps69
    go_wp2
    go_ret
    exact ⟨rfl, rfl⟩
  by_cases h2 : 4 ≤ k
  · have e : err k v = 4 := by simp [err, h2]
    rw [e]
    go_enter Tryz.func69, Tryz.ntmps69
    go_wp2
    go_ret
    exact ⟨rfl, rfl⟩
  by_cases h3 : v < 0
  · have e : err k v = 3 := by simp [err, h1, h2, h3]
    rw [e]
    go_enter Tryz.func69, Tryz.ntmps69
    go_wp2
    go_ret
    exact ⟨rfl, rfl⟩
  by_cases h4 : most k < v
  · have e : err k v = 3 := by simp [err, h1, h2, h4]
    rw [e]
    go_enter Tryz.func69, Tryz.ntmps69
    go_wp2_with (go_at_call 92; refine (greatest_c _ _).mono ?_; rintro e w' ⟨rfl, rfl⟩)
    go_ret
    exact ⟨rfl, rfl⟩
  · have e : err k v = 0 := by simp [err, h1, h2, h3, h4]
    rw [e]
    go_enter Tryz.func69, Tryz.ntmps69
    go_wp2_with (go_at_call 92; refine (greatest_c _ _).mono ?_; rintro e w' ⟨rfl, rfl⟩)
    go_ret
    exact ⟨rfl, rfl⟩

theorem joins_c (w : World) :
    Calls Tryz.prog 150 #[] w fun e w' => e = .returned (.agg #[.func (.func 175) #[] #[], .func (.func 176) #[] #[], .func (.func 177) #[] #[], .func (.func 178) #[] #[]]) ∧ Below w.heap.size w w' := by
  go_enter Tryz.func150, Tryz.ntmps150
  go_wp2
  exact bodyPost_ret (v := .agg #[.func (.func 175) #[] #[], .func (.func 176) #[] #[], .func (.func 177) #[] #[], .func (.func 178) #[] #[]]) (by simp [results, Tryz.results150, go_sem]) rfl ⟨rfl, (Below.refl _ _).alloc (Nat.le_refl _) _⟩

theorem lifts_c (w : World) :
    Calls Tryz.prog 196 #[] w fun e w' => e = .returned (.agg #[.func (.func 202) #[] #[], .func (.func 203) #[] #[], .func (.func 204) #[] #[], .func (.func 205) #[] #[]]) ∧ Below w.heap.size w w' := by
  go_enter Tryz.func196, Tryz.ntmps196
  go_wp2
  exact bodyPost_ret (v := .agg #[.func (.func 202) #[] #[], .func (.func 203) #[] #[], .func (.func 204) #[] #[], .func (.func 205) #[] #[]]) (by simp [results, Tryz.results196, go_sem]) rfl ⟨rfl, (Below.refl _ _).alloc (Nat.le_refl _) _⟩

theorem join0_c (a b : Int) (w : World) : Calls Tryz.prog 175 #[.int .i64 a, .int .i64 b] w fun e w' => e = .returned (.int .i64 0) ∧ w' = w := by
  go_enter Tryz.func175, Tryz.ntmps175
  go_wp2
  go_ret
  exact ⟨rfl, rfl⟩
theorem join1_c (a b : Int) (w : World) : Calls Tryz.prog 176 #[.int .i64 a, .int .i64 b] w fun e w' => e = .returned (.int .i64 (maxI a b)) ∧ w' = w := by
  unfold maxI
  by_cases h : a < b
  · rw [if_pos h]
    go_enter Tryz.func176, Tryz.ntmps176
    go_wp2
    go_ret
    exact ⟨rfl, rfl⟩
  · rw [if_neg h]
    go_enter Tryz.func176, Tryz.ntmps176
    go_wp2
    go_ret
    exact ⟨rfl, rfl⟩
theorem join2_c (a b : Int) (w : World) : Calls Tryz.prog 177 #[.int .i64 a, .int .i64 b] w fun e w' => e = .returned (.int .i64 (minI a b)) ∧ w' = w := by
  unfold minI
  by_cases h : b < a
  · rw [if_neg (by omega)]
    go_enter Tryz.func177, Tryz.ntmps177
    go_wp2
    go_ret
    exact ⟨rfl, rfl⟩
  · have e : (if a < b then a else b) = a := by by_cases g : a < b <;> simp [g]; omega
    rw [e]
    go_enter Tryz.func177, Tryz.ntmps177
    go_wp2
    go_ret
    exact ⟨rfl, rfl⟩
theorem join3_c (a b : Int) (w : World) : Calls Tryz.prog 178 #[.int .i64 a, .int .i64 b] w fun e w' => e = .returned (.int .i64 (orB a b)) ∧ w' = w := by
  go_enter Tryz.func178, Tryz.ntmps178
  go_wp2
  go_ret
  exact ⟨rfl, rfl⟩
theorem lift0_c (a b : Int) (w : World) : Calls Tryz.prog 202 #[.int .i64 a, .int .i64 b] w fun e w' => e = .returned (.int .i64 0) ∧ w' = w := by
  go_enter Tryz.func202, Tryz.ntmps202
  go_wp2
  go_ret
  exact ⟨rfl, rfl⟩
theorem lift1_c (a b : Int) (w : World) (ha : 0 ≤ a) (ha' : a ≤ 15) (hb : 0 ≤ b) (hb' : b ≤ 15) : Calls Tryz.prog 203 #[.int .i64 a, .int .i64 b] w fun e w' => e = .returned (.int .i64 (cap (a + b))) ∧ w' = w := by
  by_cases h : 15 < a + b
  · have e : cap (a + b) = 15 := by simp [cap, h]
    rw [e]
    go_enter Tryz.func203, Tryz.ntmps203
    go_wp2
    go_ret
    exact ⟨rfl, rfl⟩
  · have e : cap (a + b) = a + b := by simp [cap, h]
    rw [e]
    go_enter Tryz.func203, Tryz.ntmps203
    go_wp2
    go_ret
    exact ⟨rfl, rfl⟩
theorem lift2_c (a b : Int) (w : World) (ha : 0 ≤ a) (ha' : a ≤ 15) (hb : 0 ≤ b) (hb' : b ≤ 15) : Calls Tryz.prog 204 #[.int .i64 a, .int .i64 b] w fun e w' => e = .returned (.int .i64 (cap (a + b))) ∧ w' = w := by
  by_cases h : 15 < a + b
  · have e : cap (a + b) = 15 := by simp [cap, h]
    rw [e]
    go_enter Tryz.func204, Tryz.ntmps204
    go_wp2
    go_ret
    exact ⟨rfl, rfl⟩
  · have e : cap (a + b) = a + b := by simp [cap, h]
    rw [e]
    go_enter Tryz.func204, Tryz.ntmps204
    go_wp2
    go_ret
    exact ⟨rfl, rfl⟩
theorem lift3_c (a b : Int) (w : World) : Calls Tryz.prog 205 #[.int .i64 a, .int .i64 b] w fun e w' => e = .returned (.int .i64 (orB a b)) ∧ w' = w := by
  go_enter Tryz.func205, Tryz.ntmps205
  go_wp2
  go_ret
  exact ⟨rfl, rfl⟩

theorem reckonJ_c (k a b : Int) (w : World) :
    Calls Tryz.prog 149 #[.agg #[.func (.func 175) #[] #[], .func (.func 176) #[] #[], .func (.func 177) #[] #[], .func (.func 178) #[] #[]], .int .i64 k, .int .i64 a, .int .i64 b] w
      fun e w' => e = .returned (.tuple #[.int .i64 (joinOf k a b), .int .i64 (err2 k a b)]) ∧ Below w.heap.size w w' := by
  by_cases h1 : err k a = 0
  · by_cases h2 : err k b = 0
    · have e : err2 k a b = 0 := by simp [err2, h1, h2]
      obtain ⟨hk, ha, ha'⟩ := err_ok h1
      obtain ⟨_, hb, hb'⟩ := err_ok h2
      have e2 : joinOf k a b = join k a b := by simp [joinOf, e]
      rw [e, e2]
      rcases hk with rfl | rfl | rfl | rfl
      · have e3 : join 0 a b = 0 := rfl
        rw [e3]
        clear e e2 e3
        go_enter Tryz.func149, Tryz.ntmps149
        go_wp2_with (first | (go_at_call 69; refine (check_c _ _ _).mono ?_; rintro e w' ⟨rfl, rfl⟩) | (go_at_call 175; refine (join0_c _ _ _).mono ?_; rintro e w' ⟨rfl, rfl⟩))
        go_ret2
        exact ⟨rfl, (Below.refl _ _).alloc (Nat.le_refl _) _⟩
      · have e3 : join 1 a b = maxI a b := rfl
        rw [e3]
        clear e e2 e3
        go_enter Tryz.func149, Tryz.ntmps149
        go_wp2_with (first | (go_at_call 69; refine (check_c _ _ _).mono ?_; rintro e w' ⟨rfl, rfl⟩) | (go_at_call 176; refine (join1_c _ _ _).mono ?_; rintro e w' ⟨rfl, rfl⟩))
        go_ret2
        exact ⟨rfl, (Below.refl _ _).alloc (Nat.le_refl _) _⟩
      · have e3 : join 2 a b = minI a b := rfl
        rw [e3]
        clear e e2 e3
        go_enter Tryz.func149, Tryz.ntmps149
        go_wp2_with (first | (go_at_call 69; refine (check_c _ _ _).mono ?_; rintro e w' ⟨rfl, rfl⟩) | (go_at_call 177; refine (join2_c _ _ _).mono ?_; rintro e w' ⟨rfl, rfl⟩))
        go_ret2
        exact ⟨rfl, (Below.refl _ _).alloc (Nat.le_refl _) _⟩
      · have e3 : join 3 a b = orB a b := rfl
        rw [e3]
        clear e e2 e3
        go_enter Tryz.func149, Tryz.ntmps149
        go_wp2_with (first | (go_at_call 69; refine (check_c _ _ _).mono ?_; rintro e w' ⟨rfl, rfl⟩) | (go_at_call 178; refine (join3_c _ _ _).mono ?_; rintro e w' ⟨rfl, rfl⟩))
        go_ret2
        exact ⟨rfl, (Below.refl _ _).alloc (Nat.le_refl _) _⟩
    · have e : err2 k a b = err k b := by simp [err2, h1]
      have e2 : joinOf k a b = 0 := by simp [joinOf, e, h2]
      rw [e, e2]
      clear e e2
      have h2' : (err k b != 0) = true := by simpa using h2
      go_enter Tryz.func149, Tryz.ntmps149
      go_wp2_with (go_at_call 69; refine (check_c _ _ _).mono ?_; rintro e w' ⟨rfl, rfl⟩)
      go_ret2
      exact ⟨rfl, (Below.refl _ _).alloc (Nat.le_refl _) _⟩
  · have e : err2 k a b = err k a := by simp [err2, h1]
    have e2 : joinOf k a b = 0 := by simp [joinOf, e, h1]
    rw [e, e2]
    clear e e2
    have h1' : (err k a != 0) = true := by simpa using h1
    go_enter Tryz.func149, Tryz.ntmps149
    go_wp2_with (go_at_call 69; refine (check_c _ _ _).mono ?_; rintro e w' ⟨rfl, rfl⟩)
    go_ret2
    exact ⟨rfl, (Below.refl _ _).alloc (Nat.le_refl _) _⟩

theorem reckonL_c (k a b : Int) (w : World) :
    Calls Tryz.prog 149 #[.agg #[.func (.func 202) #[] #[], .func (.func 203) #[] #[], .func (.func 204) #[] #[], .func (.func 205) #[] #[]], .int .i64 k, .int .i64 a, .int .i64 b] w
      fun e w' => e = .returned (.tuple #[.int .i64 (liftOf k a b), .int .i64 (err2 k a b)]) ∧ Below w.heap.size w w' := by
  by_cases h1 : err k a = 0
  · by_cases h2 : err k b = 0
    · have e : err2 k a b = 0 := by simp [err2, h1, h2]
      obtain ⟨hk, ha, ha'⟩ := err_ok h1
      obtain ⟨_, hb, hb'⟩ := err_ok h2
      have e2 : liftOf k a b = lift k a b := by simp [liftOf, e]
      rw [e, e2]
      rcases hk with rfl | rfl | rfl | rfl
      · have e3 : lift 0 a b = 0 := rfl
        rw [e3]
        clear e e2 e3
        go_enter Tryz.func149, Tryz.ntmps149
        go_wp2_with (first | (go_at_call 69; refine (check_c _ _ _).mono ?_; rintro e w' ⟨rfl, rfl⟩) | (go_at_call 202; refine (lift0_c _ _ _).mono ?_; rintro e w' ⟨rfl, rfl⟩))
        go_ret2
        exact ⟨rfl, (Below.refl _ _).alloc (Nat.le_refl _) _⟩
      · have e3 : lift 1 a b = cap (a + b) := rfl
        rw [e3]
        clear e e2 e3
        go_enter Tryz.func149, Tryz.ntmps149
        go_wp2_with (first | (go_at_call 69; refine (check_c _ _ _).mono ?_; rintro e w' ⟨rfl, rfl⟩) | (go_at_call 203; refine (lift1_c _ _ _ (by assumption) (by assumption) (by assumption) (by assumption)).mono ?_; rintro e w' ⟨rfl, rfl⟩))
        go_ret2
        exact ⟨rfl, (Below.refl _ _).alloc (Nat.le_refl _) _⟩
      · have e3 : lift 2 a b = cap (a + b) := rfl
        rw [e3]
        clear e e2 e3
        go_enter Tryz.func149, Tryz.ntmps149
        go_wp2_with (first | (go_at_call 69; refine (check_c _ _ _).mono ?_; rintro e w' ⟨rfl, rfl⟩) | (go_at_call 204; refine (lift2_c _ _ _ (by assumption) (by assumption) (by assumption) (by assumption)).mono ?_; rintro e w' ⟨rfl, rfl⟩))
        go_ret2
        exact ⟨rfl, (Below.refl _ _).alloc (Nat.le_refl _) _⟩
      · have e3 : lift 3 a b = orB a b := rfl
        rw [e3]
        clear e e2 e3
        go_enter Tryz.func149, Tryz.ntmps149
        go_wp2_with (first | (go_at_call 69; refine (check_c _ _ _).mono ?_; rintro e w' ⟨rfl, rfl⟩) | (go_at_call 205; refine (lift3_c _ _ _).mono ?_; rintro e w' ⟨rfl, rfl⟩))
        go_ret2
        exact ⟨rfl, (Below.refl _ _).alloc (Nat.le_refl _) _⟩
    · have e : err2 k a b = err k b := by simp [err2, h1]
      have e2 : liftOf k a b = 0 := by simp [liftOf, e, h2]
      rw [e, e2]
      clear e e2
      have h2' : (err k b != 0) = true := by simpa using h2
      go_enter Tryz.func149, Tryz.ntmps149
      go_wp2_with (go_at_call 69; refine (check_c _ _ _).mono ?_; rintro e w' ⟨rfl, rfl⟩)
      go_ret2
      exact ⟨rfl, (Below.refl _ _).alloc (Nat.le_refl _) _⟩
  · have e : err2 k a b = err k a := by simp [err2, h1]
    have e2 : liftOf k a b = 0 := by simp [liftOf, e, h1]
    rw [e, e2]
    clear e e2
    have h1' : (err k a != 0) = true := by simpa using h1
    go_enter Tryz.func149, Tryz.ntmps149
    go_wp2_with (go_at_call 69; refine (check_c _ _ _).mono ?_; rintro e w' ⟨rfl, rfl⟩)
    go_ret2
    exact ⟨rfl, (Below.refl _ _).alloc (Nat.le_refl _) _⟩

theorem Join_c (k a b : Int) (w : World) :
    Calls Tryz.prog 118 #[.int .i64 k, .int .i64 a, .int .i64 b] w
      fun e w' => e = .returned (.tuple #[.int .i64 (joinOf k a b), .int .i64 (err2 k a b)]) ∧ Below w.heap.size w w' := by
  go_enter Tryz.func118, Tryz.ntmps118
  go_wp2_with fail
  refine (joins_c _).mono ?_
  rintro e w1 ⟨rfl, hb1⟩
  go_wp2_with fail
  refine (reckonJ_c _ _ _ _).mono ?_
  rintro e w2 ⟨rfl, hb2⟩
  go_wp2_with fail
  go_ret2
  exact ⟨rfl, hb1.trans (hb2.mono hb1.size)⟩

theorem Lift_c (k a b : Int) (w : World) :
    Calls Tryz.prog 174 #[.int .i64 k, .int .i64 a, .int .i64 b] w
      fun e w' => e = .returned (.tuple #[.int .i64 (liftOf k a b), .int .i64 (err2 k a b)]) ∧ Below w.heap.size w w' := by
  go_enter Tryz.func174, Tryz.ntmps174
  go_wp2_with fail
  refine (lifts_c _).mono ?_
  rintro e w1 ⟨rfl, hb1⟩
  go_wp2_with fail
  refine (reckonL_c _ _ _ _).mono ?_
  rintro e w2 ⟨rfl, hb2⟩
  go_wp2_with fail
  go_ret2
  exact ⟨rfl, hb1.trans (hb2.mono hb1.size)⟩

/-! ### The document's own reckoning -/
theorem within_c (n lo hi : Int) (w : World) :
    Calls Tryz.prog 24 #[.int .i64 n, .int .i64 lo, .int .i64 hi] w fun e w' => e = .returned (.bool (within n lo hi)) ∧ w' = w := by
  by_cases h1 : lo ≤ n
  · by_cases h2 : n ≤ hi
    · have e : within n lo hi = true := by simp [within, h1, h2]
      rw [e]
      go_enter Tryz.func24, Tryz.ntmps24
      go_wp2
      go_ret
      exact ⟨rfl, rfl⟩
    · have e : within n lo hi = false := by simp [within, h1, h2]
      rw [e]
      have h2' : decide (n ≤ hi) = false := by simpa using h2
      go_enter Tryz.func24, Tryz.ntmps24
      go_wp2
      go_ret
      exact ⟨rfl, rfl⟩
  · have e : within n lo hi = false := by simp [within, h1]
    rw [e]
    have h1' : decide (lo ≤ n) = false := by simpa using h1
    go_enter Tryz.func24, Tryz.ntmps24
    go_wp2
    go_ret
    exact ⟨rfl, rfl⟩

theorem checkVal_c (k v : Int) (w : World) :
    Calls Tryz.prog 96 #[.int .i64 k, .int .i64 v] w fun e w' => e = .returned (.int .i64 (err k v)) ∧ w' = w := by
  by_cases h1 : within k 0 3 = true
  · have hk : 0 ≤ k ∧ k ≤ 3 := by simpa [within] using h1
    by_cases h0 : k = 0
    · subst h0
      by_cases h2 : v = 0
      · subst h2
        have e : err 0 0 = 0 := rfl
        rw [e]
        have h3 : within 0 0 15 = true := rfl
        go_enter Tryz.func96, Tryz.ntmps96
        go_wp2_with (go_at_call 24; refine (within_c _ _ _ _).mono ?_; rintro e w' ⟨rfl, rfl⟩)
        go_ret
        exact ⟨rfl, rfl⟩
      · have e : err 0 v = 3 := by simp [err, most]; omega
        rw [e]
        have h2' : (v != 0) = true := by simpa using h2
        go_enter Tryz.func96, Tryz.ntmps96
        go_wp2_with (go_at_call 24; refine (within_c _ _ _ _).mono ?_; rintro e w' ⟨rfl, rfl⟩)
        go_ret
        exact ⟨rfl, rfl⟩
    · have h0' : (k == 0) = false := by simpa using h0
      by_cases h2 : within v 0 15 = true
      · have hv : 0 ≤ v ∧ v ≤ 15 := by simpa [within] using h2
        have e : err k v = 0 := by
          unfold err most
          rw [if_neg (by omega), if_neg h0, if_neg (by omega)]
        rw [e]
        clear h0
        go_enter Tryz.func96, Tryz.ntmps96
        go_wp2_with (go_at_call 24; refine (within_c _ _ _ _).mono ?_; rintro e w' ⟨rfl, rfl⟩)
        go_ret
        exact ⟨rfl, rfl⟩
      · have h2' : within v 0 15 = false := by simpa using h2
        have hv : v < 0 ∨ 15 < v := by simp [within] at h2; omega
        have e : err k v = 3 := by
          unfold err most
          rw [if_neg (by omega), if_neg h0, if_pos hv]
        rw [e]
        clear h0 h2 hv
        go_enter Tryz.func96, Tryz.ntmps96
        go_wp2_with (go_at_call 24; refine (within_c _ _ _ _).mono ?_; rintro e w' ⟨rfl, rfl⟩)
        go_ret
        exact ⟨rfl, rfl⟩
  · have h1' : within k 0 3 = false := by simpa using h1
    have hk : k < 0 ∨ 4 ≤ k := by simp [within] at h1; omega
    have e : err k v = 4 := by simp [err, hk]
    rw [e]
    clear h1 hk
    go_enter Tryz.func96, Tryz.ntmps96
    go_wp2_with (go_at_call 24; refine (within_c _ _ _ _).mono ?_; rintro e w' ⟨rfl, rfl⟩)
    go_ret
    exact ⟨rfl, rfl⟩

end Go.Proofs.YtlfccloaoopadafGreatDoor.Lat
