/-
  What package rule and the document's own reckoning of rules answer, call by call, where they only read.
-/
import Derived.Test.YtgbacodellfacabLat
import Derived.Test.YtgbacodellfacabMem
import Derived.Deep.QuietTactic
import Derived.BigQuiet
namespace Go.Proofs.Ytgbacodellfacab.Rule
open Go.ChangeShapes Go.WideShapes Go.ChangeAt Go.RowKit
open Lat (within within_c)

def termOk (t : Tm) : Bool := within t.n 0 (if t.var then 2 else 4)
def argsErr (ts : List Tm) : Int := if ts.all termOk then 0 else 3
def standsIn (v : Int) (t : Tm) : Bool := t.var && t.n == v
def stands (ts : List Tm) (v : Int) : Bool := ts.any (standsIn v)

theorem isConstant_c (n : Int) (w : World) : Calls Try.prog 100 #[.int .i64 n] w fun e w' => e = .returned (.bool (within n 0 4)) ∧ w' = w := by
  by_cases h1 : 0 ≤ n
  · by_cases h2 : n ≤ 4
    · have e : within n 0 4 = true := by simp [within, h1, h2]
      rw [e]
      go_enter Try.func100, Try.ntmps100
      go_wp2
      go_ret
      exact ⟨rfl, rfl⟩
    · have e : within n 0 4 = false := by simp [within, h2]
      rw [e]
      have h2' : decide (n ≤ 4) = false := by simpa using h2
      go_enter Try.func100, Try.ntmps100
      go_wp2
      go_ret
      exact ⟨rfl, rfl⟩
  · have e : within n 0 4 = false := by simp [within, h1]
    rw [e]
    have h1' : decide (0 ≤ n) = false := by simpa using h1
    go_enter Try.func100, Try.ntmps100
    go_wp2
    go_ret
    exact ⟨rfl, rfl⟩

theorem inBounds_c (t : Tm) (w : World) : Calls Try.prog 96 #[.agg #[.bool t.var, .int .i64 t.n]] w fun e w' => e = .returned (.bool (termOk t)) ∧ Below w.heap.size w w' := by
  obtain ⟨v, n⟩ := t
  cases v
  · have e : termOk ⟨false, n⟩ = within n 0 4 := rfl
    rw [e]
    go_enter Try.func96, Try.ntmps96
    go_wp2_with (go_at_call 100; refine (isConstant_c _ _).mono ?_; rintro e w' ⟨rfl, rfl⟩)
    go_ret
    exact ⟨rfl, below_alloc _ _⟩
  · have e : termOk ⟨true, n⟩ = within n 0 2 := rfl
    rw [e]
    by_cases h1 : 0 ≤ n
    · by_cases h2 : n < 3
      · have e : within n 0 2 = true := by simp [within]; omega
        rw [e]
        go_enter Try.func96, Try.ntmps96
        go_wp2
        go_ret
        exact ⟨rfl, below_alloc _ _⟩
      · have e : within n 0 2 = false := by simp [within]; omega
        rw [e]
        have h2' : decide (n < 3) = false := by simpa using h2
        go_enter Try.func96, Try.ntmps96
        go_wp2
        go_ret
        exact ⟨rfl, below_alloc _ _⟩
    · have e : within n 0 2 = false := by simp [within]; omega
      rw [e]
      have h1' : decide (0 ≤ n) = false := by simpa using h1
      go_enter Try.func96, Try.ntmps96
      go_wp2
      go_ret
      exact ⟨rfl, below_alloc _ _⟩

theorem stands_c (w : World) (p : Int) (sv : Value) (v : Int) (ts : List Tm) (h : termsAt w sv ts) :
    Calls Try.prog 65 #[.agg #[.int .i64 p, sv], .int .i64 v] w fun e w' => e = .returned (.bool (stands ts v)) ∧ Below w.heap.size w w' := by
  obtain ⟨a, cap, rfl, hm, hx⟩ := h
  go_enter Try.func65, Try.ntmps65
  go_wp2
  go_loop [5] (fun i => ∃ k : Nat, k ≤ ts.length ∧ i = .int .i64 k ∧ (ts.take k).any (standsIn v) = false) (fun i => ts.length - (intOf i).toNat)
  case atStart => exact ⟨0, Nat.zero_le _, rfl, rfl⟩
  case round =>
    obtain ⟨k, hk, rfl, hall⟩ := hrel
    by_cases hlt : k < ts.length
    · obtain ⟨b, off, rfl, hbl, hx⟩ := hx.resolve_left (by rintro rfl; simp at hlt)
      obtain ⟨hc1, hc2⟩ := hx k ts[k] (by simp [hlt])
      have hst : (ts.take (k + 1)).any (standsIn v) = standsIn v ts[k] := by rw [any_take hlt, hall, Bool.false_or]
      have hs : standsIn v ts[k] = (ts[k].var && ts[k].n == v) := rfl
      have H : Hid ((ts.take (k + 1)).any (standsIn v) = (ts[k].var && ts[k].n == v)) := by rw [← hs]; exact hst
      have H2 : Hid ((ts[k].var && ts[k].n == v) = true → stands ts v = true) := fun h => any_of hlt (hs.trans h)
      clear hx hst hs
      go_wp2
      · go_ret
        exact ⟨ret_bool (H2.out (by simp [*])).symm, below_alloc _ _⟩
      · go_round
        case rel => exact ⟨k + 1, by omega, by go_num, by rw [H.out]; simp [*]⟩
        case measure => simp [intOf]; omega
      · go_round
        case rel => exact ⟨k + 1, by omega, by go_num, by rw [H.out]; simp [*]⟩
        case measure => simp [intOf]; omega
    · have H : Hid (stands ts v = false) := any_take_end hlt hall
      go_wp2
      go_ret
      exact ⟨ret_bool H.out.symm, below_alloc _ _⟩

theorem argsError_c (w : World) (sv : Value) (ts : List Tm) (h : termsAt w sv ts) :
    Calls Try.prog 82 #[sv] w fun e w' => e = .returned (.int .i64 (argsErr ts)) ∧ w' = w := by
  obtain ⟨a, cap, rfl, hm, hx⟩ := h
  go_enter Try.func82, Try.ntmps82
  go_wp2
  go_loop [3] (fun i => ∃ k : Nat, k ≤ ts.length ∧ i = .int .i64 k ∧ (ts.take k).all termOk = true) (fun i => ts.length - (intOf i).toNat)
  case atStart => exact ⟨0, Nat.zero_le _, rfl, rfl⟩
  case round =>
    obtain ⟨k, hk, rfl, hall⟩ := hrel
    by_cases hlt : k < ts.length
    · obtain ⟨b, off, rfl, hbl, hx⟩ := hx.resolve_left (by rintro rfl; simp at hlt)
      obtain ⟨hc1, hc2⟩ := hx k ts[k] (by simp [hlt])
      have H : Hid ((ts.take (k + 1)).all termOk = termOk ts[k]) := by show _ = _; rw [all_take hlt, hall, Bool.true_and]
      have H2 : Hid (termOk ts[k] = false → argsErr ts = 3) := fun h => by rw [argsErr, if_neg (by rw [all_not hlt h]; simp)]
      have H3 : Hid (termOk ts[k] = within ts[k].n 0 (if ts[k].var then 2 else 4)) := rfl
      clear hx hall
      generalize ts[k] = t at *
      obtain ⟨v, n⟩ := t
      cases hw : termOk ⟨v, n⟩
      all_goals
        have hw' : within n 0 (if v then 2 else 4) = _ := H3.out.symm.trans hw
        rw [hw] at H H2
        clear H3 hw
        cases v
        all_goals
          simp only [if_true, if_false, Bool.false_eq_true] at hw'
          go_wp2_with (go_at_call 35; refine (within_c _ _ _ _).mono ?_; rintro e w' ⟨rfl, rfl⟩)
          first
            | (go_ret; exact ⟨ret_int (H2.out (by simp)).symm, rfl⟩)
            | (go_round
               case rel => exact ⟨k + 1, by omega, by go_num, H.out⟩
               case measure => simp [intOf]; omega)
    · have H : Hid (argsErr ts = 0) := by show argsErr ts = 0; rw [argsErr, if_pos (all_take_end hlt hall)]
      go_wp2
      go_ret
      exact ⟨ret_int H.out.symm, rfl⟩

/-! ### Atoms -/
def kindOf (ps : List Prd) (p : Int) : Int := (ps[p.toNat]?.map Prd.kind).getD 0
def arityOf (ps : List Prd) (p : Int) : Int := (ps[p.toNat]?.map Prd.arity).getD 0
def isPred (ps : List Prd) (p : Int) : Bool := within p 0 ((ps.length : Int) - 1)
def atomErr (ps : List Prd) (a : Atm) : Int := if isPred ps a.pred then (if (a.args.length : Int) = arityOf ps a.pred then argsErr a.args else 1) else 7

theorem isPred_iff {ps : List Prd} {p : Int} : isPred ps p = true ↔ ∃ k : Nat, k < ps.length ∧ p = (k : Int) := by
  simp only [isPred, within, Bool.and_eq_true, decide_eq_true_eq]
  constructor
  · rintro ⟨h0, h1⟩
    exact ⟨p.toNat, by omega, by omega⟩
  · rintro ⟨k, hk, rfl⟩
    omega

end Go.Proofs.Ytgbacodellfacab.Rule
