/-
  Package base, its small parts: how two facts are ordered, and whether a fact is right.
-/
import Derived.Test.YtgbacodellfacacBaseRef3
import Derived.Deep.RegionHeld3
namespace Go.Proofs.Ytgbacodellfacac.Base
open Go.ChangeShapes Go.WideShapes Go.ChangeAt Go.RowKit
open Lat (within)
open Rule (factFine isPred kindOf arityOf isPred_iff)

/-- name this world by what is known of it -/
theorem wp_called {P : Program} {c : Code} {Q : Exit → Act → World → Prop} {a : Act} {W : World} (F : World → Prop) (hF : F W) (h : ∀ W0, F W0 → Code.wp P c Q a W0) : Code.wp P c Q a W := h W hF

def cmpI (x y : Int) : Int := if x < y then -1 else if y < x then 1 else 0
def first (x y z : Int) : Int := if x ≠ 0 then x else if y ≠ 0 then y else z
def cmpF (x y : Fct) : Int := first (cmpI x.pred y.pred) (cmpI x.a y.a) (cmpI x.b y.b)

theorem cmpF_spec {x y : Fct} (hx : Small x) (hy : Small y) : (cmpF x y < 0 ↔ place x < place y) ∧ (cmpF x y = 0 ↔ place x = place y) := by
  obtain ⟨_, _, _, _, _, _⟩ := hx
  obtain ⟨_, _, _, _, _, _⟩ := hy
  unfold cmpF first cmpI place
  by_cases h1 : x.pred < y.pred
  · simp only [h1, if_true]
    simp
    omega
  · by_cases h2 : y.pred < x.pred
    · simp only [h1, h2, if_true, if_false]
      simp
      omega
    · simp only [h1, h2, if_false]
      by_cases h3 : x.a < y.a
      · simp only [h3, if_true]
        simp
        omega
      · by_cases h4 : y.a < x.a
        · simp only [h3, h4, if_true, if_false]
          simp
          omega
        · simp only [h3, h4, if_false]
          by_cases h5 : x.b < y.b
          · simp only [h5, if_true]
            simp
            omega
          · by_cases h6 : y.b < x.b
            · simp only [h5, h6, if_true, if_false]
              simp
              omega
            · simp only [h5, h6, if_false]
              simp
              omega

theorem isNaN_c (x : Int) (w : World) : Calls Try.prog 37 #[.int .i64 x] w fun e w' => e = .returned (.bool false) ∧ w' = w := by
  go_enter Try.func37, Try.ntmps37
  go_wp2
  go_ret
  simp

theorem compare_c (x y : Int) (w : World) : Calls Try.prog 23 #[.int .i64 x, .int .i64 y] w fun e w' => e = .returned (.int .i64 (cmpI x y)) ∧ w' = w := by
  unfold cmpI
  by_cases h1 : x < y
  · rw [if_pos h1]
    go_enter Try.func23, Try.ntmps23
    go_wp2_with (go_at_call 37; refine (isNaN_c _ _).mono ?_; rintro e w' ⟨rfl, rfl⟩)
    go_ret
    exact ⟨rfl, rfl⟩
  · rw [if_neg h1]
    by_cases h2 : y < x
    · rw [if_pos h2]
      go_enter Try.func23, Try.ntmps23
      go_wp2_with (go_at_call 37; refine (isNaN_c _ _).mono ?_; rintro e w' ⟨rfl, rfl⟩)
      go_ret
      exact ⟨rfl, rfl⟩
    · rw [if_neg h2]
      go_enter Try.func23, Try.ntmps23
      go_wp2_with (go_at_call 37; refine (isNaN_c _ _).mono ?_; rintro e w' ⟨rfl, rfl⟩)
      go_ret
      exact ⟨rfl, rfl⟩

theorem or_c (w : World) (b : Nat) (x y z : Int) (h0 : w.cell? ⟨b, 0, none⟩ = some (.int .i64 x)) (h1 : w.cell? ⟨b, 1, none⟩ = some (.int .i64 y)) (h2 : w.cell? ⟨b, 2, none⟩ = some (.int .i64 z)) :
    Calls Try.prog 22 #[.slice (some ⟨b, 0, none⟩) 3 3] w fun e w' => e = .returned (.int .i64 (first x y z)) ∧ w' = w := by
  go_enter Try.func22, Try.ntmps22
  go_wp2_with fail
  go_loop [8] (fun i => ∃ k : Nat, k ≤ 3 ∧ i = .int .i64 k ∧ (0 < k → x = 0) ∧ (1 < k → y = 0) ∧ (2 < k → z = 0)) (fun i => 3 - (intOf i).toNat)
  case atStart => exact ⟨0, by omega, rfl, by omega, by omega, by omega⟩
  case round =>
    obtain ⟨k, hk, rfl, k0, k1, k2⟩ := hrel
    have HK0 : Hid (0 < k → x = 0) := k0
    have HK1 : Hid (1 < k → y = 0) := k1
    have HK2 : Hid (2 < k → z = 0) := k2
    clear k0 k1 k2
    rcases (show k = 0 ∨ k = 1 ∨ k = 2 ∨ k = 3 by omega) with rfl | rfl | rfl | rfl
    · by_cases hx : x = 0
      · have hx' : (x == 0) = true := by simpa using hx
        have HX : Hid (x = 0) := hx
        clear hx
        go_wp2_with fail
        go_round
        case rel => exact ⟨1, by omega, by go_num, fun _ => HX.out, by omega, by omega⟩
        case measure => simp [intOf]
      · have HX : Hid (x ≠ 0) := hx
        go_wp2_with fail
        go_ret
        exact ⟨by rw [first, if_pos HX.out]; rfl, rfl⟩
    · have HX : Hid (x = 0) := HK0.out (by omega)
      by_cases hy : y = 0
      · have hy' : (y == 0) = true := by simpa using hy
        have HY : Hid (y = 0) := hy
        clear hy
        go_wp2_with fail
        go_round
        case rel => exact ⟨2, by omega, by go_num, fun _ => HX.out, fun _ => HY.out, by omega⟩
        case measure => simp [intOf]
      · have HY : Hid (y ≠ 0) := hy
        go_wp2_with fail
        go_ret
        exact ⟨by rw [first, if_neg (by simp [HX.out]), if_pos HY.out]; rfl, rfl⟩
    · have HX : Hid (x = 0) := HK0.out (by omega)
      have HY : Hid (y = 0) := HK1.out (by omega)
      by_cases hz : z = 0
      · have hz' : (z == 0) = true := by simpa using hz
        have HZ : Hid (z = 0) := hz
        clear hz
        go_wp2_with fail
        go_round
        case rel => exact ⟨3, by omega, by go_num, fun _ => HX.out, fun _ => HY.out, fun _ => HZ.out⟩
        case measure => simp [intOf]
      · have HZ : Hid (z ≠ 0) := hz
        go_wp2_with fail
        go_ret
        exact ⟨by rw [first, if_neg (by simp [HX.out]), if_neg (by simp [HY.out])]; rfl, rfl⟩
    · go_wp2_with fail
      go_ret
      exact ⟨by rw [first, if_neg (by simp [HK0.out]), if_neg (by simp [HK1.out]), HK2.out (by omega)]; rfl, rfl⟩

/-- has a fact such an argument? -/
theorem isArg_c (has : Bool) (n : Int) (w : World) : Calls Try.prog 36 #[.bool has, .int .i64 n] w fun e w' => e = .returned (.bool (within n 0 4 && (has || n == 0))) ∧ w' = w := by
  by_cases h0 : n = 0
  · subst h0
    go_enter Try.func36, Try.ntmps36
    go_wp2_with fail
    go_ret
    simp [within]
  · have h0' : (n == 0) = false := by simpa using h0
    cases has
    · go_enter Try.func36, Try.ntmps36
      go_wp2_with fail
      go_ret
      simp [h0]
    · by_cases h1 : 0 < n
      · by_cases h2 : n ≤ 4
        · have e : (within n 0 4 && (true || n == 0)) = true := by simp [within]; omega
          rw [e]
          go_enter Try.func36, Try.ntmps36
          go_wp2_with fail
          go_ret
          exact ⟨rfl, rfl⟩
        · have e : (within n 0 4 && (true || n == 0)) = false := by simp [within]; omega
          rw [e]
          go_enter Try.func36, Try.ntmps36
          go_wp2_with fail
          go_ret
          exact ⟨rfl, rfl⟩
      · have e : (within n 0 4 && (true || n == 0)) = false := by simp [within]; omega
        rw [e]
        go_enter Try.func36, Try.ntmps36
        go_wp2_with fail
        go_ret
        exact ⟨rfl, rfl⟩
end Go.Proofs.Ytgbacodellfacac.Base
