/-
  What package rule and the document's own reckoning of rules answer, call by call, where they only read.
-/
import Derived.Deep.QuietTactic
import Derived.BigQuiet
import Derived.Test.YtlfccloaoopadafGreatDoorG5
import Derived.Test.YtlfccloaoopadafGreatDoorG1
namespace Go.Proofs.YtlfccloaoopadafGreatDoor.Rule
open Go.ChangeShapes Go.WideShapes Go.ChangeAt Go.RowKit
open Lat (within within_c)

def termOk (t : Tm) : Bool := within t.n 0 (if t.var then 2 else 4)
def argsErr (ts : List Tm) : Int := if ts.all termOk then 0 else 3
def standsIn (v : Int) (t : Tm) : Bool := t.var && t.n == v
def stands (ts : List Tm) (v : Int) : Bool := ts.any (standsIn v)

theorem isConstant_c (n : Int) (w : World) : Calls Tryz.prog 180 #[.int .i64 n] w fun e w' => e = .returned (.bool (within n 0 4)) ∧ w' = w := by
  by_cases h1 : 0 ≤ n
  · by_cases h2 : n ≤ 4
    · have e : within n 0 4 = true := by simp [within, h1, h2]
      rw [e]
      go_enter Tryz.func180, Tryz.ntmps180
      go_wp2
      go_ret
      exact ⟨rfl, rfl⟩
    · have e : within n 0 4 = false := by simp [within, h2]
      rw [e]
      have h2' : decide (n ≤ 4) = false := by simpa using h2
      go_enter Tryz.func180, Tryz.ntmps180
      go_wp2
      go_ret
      exact ⟨rfl, rfl⟩
  · have e : within n 0 4 = false := by simp [within, h1]
    rw [e]
    have h1' : decide (0 ≤ n) = false := by simpa using h1
    go_enter Tryz.func180, Tryz.ntmps180
    go_wp2
    go_ret
    exact ⟨rfl, rfl⟩

theorem inBounds_c (t : Tm) (w : World) : Calls Tryz.prog 153 #[.agg #[.bool t.var, .int .i64 t.n]] w fun e w' => e = .returned (.bool (termOk t)) ∧ Below w.heap.size w w' := by
  obtain ⟨v, n⟩ := t
  cases v
  · have e : termOk ⟨false, n⟩ = within n 0 4 := rfl
    rw [e]
    go_enter Tryz.func153, Tryz.ntmps153
    go_wp2_with (go_at_call 180; refine (isConstant_c _ _).mono ?_; rintro e w' ⟨rfl, rfl⟩)
    go_ret
    exact ⟨rfl, below_alloc _ _⟩
  · have e : termOk ⟨true, n⟩ = within n 0 2 := rfl
    rw [e]
    by_cases h1 : 0 ≤ n
    · by_cases h2 : n < 3
      · have e : within n 0 2 = true := by simp [within]; omega
        rw [e]
        go_enter Tryz.func153, Tryz.ntmps153
        go_wp2
        go_ret
        exact ⟨rfl, below_alloc _ _⟩
      · have e : within n 0 2 = false := by simp [within]; omega
        rw [e]
        have h2' : decide (n < 3) = false := by simpa using h2
        go_enter Tryz.func153, Tryz.ntmps153
        go_wp2
        go_ret
        exact ⟨rfl, below_alloc _ _⟩
    · have e : within n 0 2 = false := by simp [within]; omega
      rw [e]
      have h1' : decide (0 ≤ n) = false := by simpa using h1
      go_enter Tryz.func153, Tryz.ntmps153
      go_wp2
      go_ret
      exact ⟨rfl, below_alloc _ _⟩

theorem stands_c (w : World) (p : Int) (sv : Value) (v : Int) (ts : List Tm) (h : termsAt w sv ts) :
    Calls Tryz.prog 53 #[.agg #[.int .i64 p, sv], .int .i64 v] w fun e w' => e = .returned (.bool (stands ts v)) ∧ Below w.heap.size w w' := by
  obtain ⟨a, cap, rfl, hm, hx⟩ := h
  go_enter Tryz.func53, Tryz.ntmps53
  go_wp2
  go_loop [5] (fun i => ∃ k : Nat, k ≤ ts.length ∧ i = .int .i64 k ∧ (ts.take k).any (standsIn v) = false) (fun i => ts.length - (intOf i).toNat)
  case atStart => exact ⟨0, Nat.zero_le _, rfl, rfl⟩
  case round =>
    obtain ⟨k, hk, rfl, hall⟩ := hrel
    by_cases hlt : k < ts.length
    · obtain ⟨b, off, rfl, hbl, hx⟩ := hx.resolve_left (by rintro rfl; simp at hlt)
      obtain ⟨hc1, hc2⟩ := hx k ts[k] (by simp [hlt])
      have hst : (ts.take (k + 1)).any (standsIn v) = standsIn v ts[k] := by rw [any_take hlt, hall, Bool.false_or]
      have hs : standsIn v ts[k] = (ts[k].var && ts[k].n == v) := rfl
      have H : Hid ((ts.take (k + 1)).any (standsIn v) = (ts[k].var && ts[k].n == v)) := by rw [← hs]; exact hst
      have H2 : Hid ((ts[k].var && ts[k].n == v) = true → stands ts v = true) := fun h => any_of hlt (hs.trans h)
      clear hx hst hs
      go_wp2
      · go_ret
        exact ⟨ret_bool (H2.out (by simp [*])).symm, below_alloc _ _⟩
      · go_round
        case rel => exact ⟨k + 1, by omega, by go_num, by rw [H.out]; simp [*]⟩
        case measure => simp [intOf]; omega
      · go_round
        case rel => exact ⟨k + 1, by omega, by go_num, by rw [H.out]; simp [*]⟩
        case measure => simp [intOf]; omega
    · have H : Hid (stands ts v = false) := any_take_end hlt hall
      go_wp2
      go_ret
      exact ⟨ret_bool H.out.symm, below_alloc _ _⟩

theorem argsError_c (w : World) (sv : Value) (ts : List Tm) (h : termsAt w sv ts) :
    Calls Tryz.prog 83 #[sv] w fun e w' => e = .returned (.int .i64 (argsErr ts)) ∧ w' = w := by
  obtain ⟨a, cap, rfl, hm, hx⟩ := h
  go_enter Tryz.func83, Tryz.ntmps83
  go_wp2
  go_loop [3] (fun i => ∃ k : Nat, k ≤ ts.length ∧ i = .int .i64 k ∧ (ts.take k).all termOk = true) (fun i => ts.length - (intOf i).toNat)
  case atStart => exact ⟨0, Nat.zero_le _, rfl, rfl⟩
  case round =>
    obtain ⟨k, hk, rfl, hall⟩ := hrel
    by_cases hlt : k < ts.length
    · obtain ⟨b, off, rfl, hbl, hx⟩ := hx.resolve_left (by rintro rfl; simp at hlt)
      obtain ⟨hc1, hc2⟩ := hx k ts[k] (by simp [hlt])
      have H : Hid ((ts.take (k + 1)).all termOk = termOk ts[k]) := by show _ = _; rw [all_take hlt, hall, Bool.true_and]
      have H2 : Hid (termOk ts[k] = false → argsErr ts = 3) := fun h => by rw [argsErr, if_neg (by rw [all_not hlt h]; simp)]
      have H3 : Hid (termOk ts[k] = within ts[k].n 0 (if ts[k].var then 2 else 4)) := rfl
      clear hx hall
      generalize ts[k] = t at *
      obtain ⟨v, n⟩ := t
      cases hw : termOk ⟨v, n⟩
      all_goals
        have hw' : within n 0 (if v then 2 else 4) = _ := H3.out.symm.trans hw
        rw [hw] at H H2
        clear H3 hw
        cases v
        all_goals
          simp only [if_true, if_false, Bool.false_eq_true] at hw'
          go_wp2_with (go_at_call 24; refine (within_c _ _ _ _).mono ?_; rintro e w' ⟨rfl, rfl⟩)
          first
            | (go_ret; exact ⟨ret_int (H2.out (by simp)).symm, rfl⟩)
            | (go_round
               case rel => exact ⟨k + 1, by omega, by go_num, H.out⟩
               case measure => simp [intOf]; omega)
    · have H : Hid (argsErr ts = 0) := by show argsErr ts = 0; rw [argsErr, if_pos (all_take_end hlt hall)]
      go_wp2
      go_ret
      exact ⟨ret_int H.out.symm, rfl⟩

/-! ### Atoms -/
def kindOf (ps : List Prd) (p : Int) : Int := (ps[p.toNat]?.map Prd.kind).getD 0
def arityOf (ps : List Prd) (p : Int) : Int := (ps[p.toNat]?.map Prd.arity).getD 0
def isPred (ps : List Prd) (p : Int) : Bool := within p 0 ((ps.length : Int) - 1)
def atomErr (ps : List Prd) (a : Atm) : Int := if isPred ps a.pred then (if (a.args.length : Int) = arityOf ps a.pred then argsErr a.args else 1) else 7

theorem isPred_iff {ps : List Prd} {p : Int} : isPred ps p = true ↔ ∃ k : Nat, k < ps.length ∧ p = (k : Int) := by
  simp only [isPred, within, Bool.and_eq_true, decide_eq_true_eq]
  constructor
  · rintro ⟨h0, h1⟩
    exact ⟨p.toNat, by omega, by omega⟩
  · rintro ⟨k, hk, rfl⟩
    omega

end Go.Proofs.YtlfccloaoopadafGreatDoor.Rule

namespace Go.Proofs.YtlfccloaoopadafGreatDoor.Rule
open Go.ChangeShapes Go.WideShapes Go.ChangeAt Go.RowKit
open Lat (within within_c)

theorem checkAtom_c (w : World) (pv sv : Value) (ps : List Prd) (p : Int) (ts : List Tm) (hp : predsAt w pv ps) (h : termsAt w sv ts) :
    Calls Tryz.prog 52 #[pv, .agg #[.int .i64 p, sv]] w fun e w' => e = .returned (.int .i64 (atomErr ps ⟨p, ts⟩)) ∧ Below w.heap.size w w' := by
  have h' := h
  have H : Hid (∀ (w1 : World), Below w.heap.size w w1 → termsAt w1 sv ts) := fun w1 hb => termsAt.lasts hb h'
  obtain ⟨a, cap, rfl, hm, hx⟩ := h
  obtain ⟨pa, pcap, rfl, hpm, hpx⟩ := hp
  clear hx h'
  by_cases h1 : isPred ps p = true
  · obtain ⟨k, hk, rfl⟩ := isPred_iff.1 h1
    obtain ⟨b, off, rfl, hbl, hpx⟩ := hpx.resolve_left (by rintro rfl; simp at hk)
    obtain ⟨hc0, hc1, hc2⟩ := hpx k ps[k] (by simp [hk])
    clear hpx
    have ha : arityOf ps (k : Int) = ps[k].arity := by simp [arityOf, hk]
    have hwi : within (k : Int) 0 ((ps.length : Int) - 1) = true := h1
    by_cases h2 : (ts.length : Int) = ps[k].arity
    · have e : atomErr ps ⟨(k : Int), ts⟩ = argsErr ts := by rw [atomErr, if_pos h1, if_pos (by rw [ha]; exact h2)]
      rw [e]
      clear e ha h1
      have h2' : ((ts.length : Int) != ps[k].arity) = false := by simpa using h2
      clear h2
      go_enter Tryz.func52, Tryz.ntmps52
      go_wp2_with (go_at_call 24; refine (within_c _ _ _ _).mono ?_; rintro e w' ⟨rfl, rfl⟩)
      go_quiet (fail)
      go_wp2_with fail
      refine (argsError_c _ _ ts (H.out _ (by exact below_drewN (below_alloc _ _) _))).mono ?_
      rintro e w' ⟨rfl, rfl⟩
      go_wp2_with fail
      go_ret
      exact ⟨rfl, below_drewN (below_alloc _ _) _⟩
    · have e : atomErr ps ⟨(k : Int), ts⟩ = 1 := by rw [atomErr, if_pos h1, if_neg (by rw [ha]; exact h2)]
      rw [e]
      clear e ha h1
      have h2' : ((ts.length : Int) != ps[k].arity) = true := by simpa using h2
      clear h2
      go_enter Tryz.func52, Tryz.ntmps52
      go_wp2_with (go_at_call 24; refine (within_c _ _ _ _).mono ?_; rintro e w' ⟨rfl, rfl⟩)
      go_quiet (fail)
      go_wp2_with fail
      go_ret
      exact ⟨rfl, below_drewN (below_alloc _ _) _⟩
  · have h1' : isPred ps p = false := by simpa using h1
    have e : atomErr ps ⟨p, ts⟩ = 7 := by rw [atomErr, if_neg h1]
    rw [e]
    clear e h1
    have hwi : within p 0 ((ps.length : Int) - 1) = false := h1'
    go_enter Tryz.func52, Tryz.ntmps52
    go_wp2_with (go_at_call 24; refine (within_c _ _ _ _).mono ?_; rintro e w' ⟨rfl, rfl⟩)
    go_ret
    exact ⟨rfl, below_alloc _ _⟩

set_option maxHeartbeats 400000 in
theorem atom_c (w : World) (pv sv : Value) (ps : List Prd) (p : Int) (ts : List Tm) (hp : predsAt w pv ps) (h : termsAt w sv ts) :
    Calls Tryz.prog 124 #[pv, .agg #[.int .i64 p, sv]] w fun e w' => e = .returned (.int .i64 (atomErr ps ⟨p, ts⟩)) ∧ Below w.heap.size w w' := by
  obtain ⟨a, cap, rfl, hm, hx⟩ := h
  obtain ⟨pa, pcap, rfl, hpm, hpx⟩ := hp
  by_cases h1 : isPred ps p = true
  · obtain ⟨k, hk, rfl⟩ := isPred_iff.1 h1
    obtain ⟨b, off, rfl, hbl, hpx⟩ := hpx.resolve_left (by rintro rfl; simp at hk)
    obtain ⟨hc0, hc1, hc2⟩ := hpx k ps[k] (by simp [hk])
    clear hpx
    have ha : arityOf ps (k : Int) = ps[k].arity := by simp [arityOf, hk]
    have hk1 : ((k : Int) < 0) = False := by simp
    have hk2 : ((ps.length : Int) ≤ (k : Int)) = False := by simp; omega
    by_cases h2 : (ts.length : Int) = ps[k].arity
    · have e : atomErr ps ⟨(k : Int), ts⟩ = argsErr ts := by rw [atomErr, if_pos h1, if_pos (by rw [ha]; exact h2)]
      rw [e]
      clear e ha h1
      have h2' : ((ts.length : Int) != ps[k].arity) = false := by simpa using h2
      clear h2
      have HX : Hid (ts = [] ∨ ∃ b off, a = some ⟨b, off, none⟩ ∧ b < w.heap.size ∧ ∀ i x, ts[i]? = some x → termAt w b (off + i * 2) x) := hx
      clear hx
      go_enter Tryz.func124, Tryz.ntmps124
      go_wp2_with fail
      go_quiet (fail)
      go_wp2_with fail
      go_loopw [30] (fun i wr => ∃ j : Nat, j ≤ ts.length ∧ i = .int .i64 j ∧ (ts.take j).all termOk = true ∧ Below w.heap.size w wr) (fun i _ => ts.length - (intOf i).toNat)
      case atStart => exact ⟨0, Nat.zero_le _, rfl, rfl, below_drewN (below_alloc _ _) _⟩
      case round =>
        obtain ⟨j, hj, rfl, hall, hbr⟩ := hrel
        by_cases hlt : j < ts.length
        · obtain ⟨b', off', rfl, hbl', hx⟩ := HX.out.resolve_left (by rintro rfl; simp at hlt)
          obtain ⟨ht1, ht2⟩ := hx j ts[j] (by simp [hlt])
          have hr1 : wr.cell? ⟨b', off' + j * 2, none⟩ = some (.bool ts[j].var) := by rw [cell_lasts hbr hbl', ht1]
          have hr2 : wr.cell? ⟨b', off' + j * 2 + 1, none⟩ = some (.int .i64 ts[j].n) := by rw [cell_lasts hbr hbl', ht2]
          have H : Hid ((ts.take (j + 1)).all termOk = termOk ts[j]) := by show _ = _; rw [all_take hlt, hall, Bool.true_and]
          have H2 : Hid (termOk ts[j] = false → argsErr ts = 3) := fun h => by rw [argsErr, if_neg (by rw [all_not hlt h]; simp)]
          clear hx hall ht1 ht2 HX hc0 hc1 hc2
          generalize ts[j] = t at *
          go_wp2_with fail
          refine (inBounds_c t _).mono ?_
          rintro e w1 ⟨rfl, hb1⟩
          cases hok : termOk t
          · have H3 : Hid (argsErr ts = 3) := H2.out hok
            clear H H2
            go_wp2_with fail
            go_ret
            exact ⟨ret_int H3.out.symm, hbr.trans (((below_alloc _ _).trans (hb1.mono (by simp))).mono hbr.size)⟩
          · rw [hok] at H
            clear H2
            go_wp2_with fail
            go_roundw
            case rel => exact ⟨j + 1, by omega, by go_num, H.out, hbr.trans (((below_alloc _ _).trans (hb1.mono (by simp))).mono hbr.size)⟩
            case measure => simp [intOf]; omega
        · have H : Hid (argsErr ts = 0) := by show argsErr ts = 0; rw [argsErr, if_pos (all_take_end hlt hall)]
          go_wp2_with fail
          go_ret
          exact ⟨ret_int H.out.symm, hbr⟩
    · have e : atomErr ps ⟨(k : Int), ts⟩ = 1 := by rw [atomErr, if_pos h1, if_neg (by rw [ha]; exact h2)]
      rw [e]
      clear e ha h1 hx
      have h2' : ((ts.length : Int) != ps[k].arity) = true := by simpa using h2
      clear h2
      go_enter Tryz.func124, Tryz.ntmps124
      go_wp2_with fail
      go_quiet (fail)
      go_wp2_with fail
      go_ret
      exact ⟨rfl, below_drewN (below_alloc _ _) _⟩
  · have e : atomErr ps ⟨p, ts⟩ = 7 := by rw [atomErr, if_neg h1]
    have hp : p < 0 ∨ (ps.length : Int) ≤ p := by simp [isPred, within] at h1; omega
    rw [e]
    clear e h1 hx hpx
    rcases hp with hp | hp
    · go_enter Tryz.func124, Tryz.ntmps124
      go_wp2_with fail
      go_ret
      exact ⟨rfl, below_alloc _ _⟩
    · have hp0 : decide (p < 0) = false := by simp; omega
      go_enter Tryz.func124, Tryz.ntmps124
      go_wp2_with fail
      go_ret
      exact ⟨rfl, below_alloc _ _⟩

/-! ### Ground -/
end Go.Proofs.YtlfccloaoopadafGreatDoor.Rule

/-
  What the parts of Check of package rule answer that ask for variables that are bound and for the value that a rule tells; and the document's own.
-/
namespace Go.Proofs.YtlfccloaoopadafGreatDoor.Rule
open Go.ChangeShapes Go.WideShapes Go.ChangeAt Go.RowKit
open Lat (within within_c)

def boundIn (v : Int) (l : Ltr) : Bool := !l.neg && stands l.atom.args v
def bound (r : Rul) (v : Int) : Bool := r.body.any (boundIn v)
def handed (ps : List Prd) (r : Rul) : Bool := (r.body[r.src.toNat]?.map fun l => !l.neg && kindOf ps l.atom.pred == kindOf ps r.head.pred).getD false
/-- B2, the last part: what a rule's value asks -/
def valueErr (ps : List Prd) (r : Rul) : Int :=
  if r.src < -1 ∨ (r.body.length : Int) ≤ r.src then 3
  else if kindOf ps r.head.pred = 0 ∧ (r.src ≠ -1 ∨ r.n ≠ 0) then 1
  else if 0 ≤ r.src ∧ handed ps r = false then 1
  else if r.n < 0 ∨ 15 < r.n then 3 else 0

set_option maxHeartbeats 1000000 in
theorem bound_c (w : World) (r : Rul) (hv bv : Value) (v : Int) (hb : litsAt w bv r.body) :
    Calls Tryz.prog 54 #[.agg #[.int .i64 r.head.pred, hv, .int .i64 r.src, .int .i64 r.n, bv], .int .i64 v] w fun e w' => e = .returned (.bool (bound r v)) ∧ Below w.heap.size w w' := by
  obtain ⟨a, cap, rfl, hm, hx⟩ := hb
  have HX : Hid (r.body = [] ∨ ∃ b off, a = some ⟨b, off, none⟩ ∧ b < w.heap.size ∧ ∀ i x, r.body[i]? = some x → litAt w b (off + i * 3) x) := hx
  clear hx
  go_enter Tryz.func54, Tryz.ntmps54
  go_wp2_with fail
  go_loopw [5] (fun i wr => ∃ j : Nat, j ≤ r.body.length ∧ i = .int .i64 j ∧ (r.body.take j).any (boundIn v) = false ∧
      Below (w.heap.size + 1) (w.alloc (.cells #[.int .i64 r.head.pred, hv, .int .i64 r.src, .int .i64 r.n, .slice a r.body.length cap] 54)) wr) (fun i _ => r.body.length - (intOf i).toNat)
  case atStart => exact ⟨0, Nat.zero_le _, rfl, rfl, Below.refl _ _⟩
  case round =>
    obtain ⟨j, hj, rfl, hall, hbr⟩ := hrel
    have hbw : Below w.heap.size w wr := (below_alloc _ _).trans (hbr.mono (by omega))
    have c4 : wr.cell? ⟨w.heap.size, 4, none⟩ = some (.slice a r.body.length cap) := by rw [hbr.cell (p := ⟨w.heap.size, 4, none⟩) (by simp)]; simp [go_sem]
    by_cases hlt : j < r.body.length
    · obtain ⟨b', off', rfl, hbl', hx⟩ := HX.out.resolve_left (by intro e; rw [e] at hlt; simp at hlt)
      obtain ⟨ht1, ht2, ta, tc, ht3, ht4⟩ := (litAt.lasts w wr b' _ _ hbw hbl' (hx j r.body[j] (by simp [hlt]))).open
      have H : Hid ((r.body.take (j + 1)).any (boundIn v) = boundIn v r.body[j]) := by show _ = _; rw [any_take hlt, hall, Bool.false_or]
      have H2 : Hid (boundIn v r.body[j] = true → bound r v = true) := fun h => any_of hlt h
      clear hx hall HX
      generalize r.body[j] = l at *
      obtain ⟨ln, lp, lt⟩ := l
      have HT : Hid (termsAt wr (.slice ta lt.length tc) lt) := ht4
      clear ht4
      cases ln
      · have hS : boundIn v ⟨false, lp, lt⟩ = stands lt v := rfl
        rw [hS] at H H2
        clear hS
        go_wp2_with fail
        refine (stands_c _ _ _ _ lt HT.out).mono ?_
        rintro e w1 ⟨rfl, hb1⟩
        have hbn : Below (w.heap.size + 1) (w.alloc (.cells #[.int .i64 r.head.pred, hv, .int .i64 r.src, .int .i64 r.n, .slice (some ⟨b', off', none⟩) r.body.length cap] 54)) w1 := hbr.trans (hb1.mono (by have := hbr.size; simp at this; omega))
        cases hs : stands lt v
        · rw [hs] at H
          clear H2
          go_wp2_with fail
          go_roundw
          case rel => exact ⟨j + 1, by omega, by go_num, H.out, hbn⟩
          case measure => simp [intOf]; omega
        · have H3 : Hid (bound r v = true) := H2.out hs
          clear H H2
          go_wp2_with fail
          go_ret
          exact ⟨ret_bool H3.out.symm, (below_alloc _ _).trans (hbn.mono (by omega))⟩
      · have H3 : Hid ((r.body.take (j + 1)).any (boundIn v) = false) := H.out
        clear H H2
        go_wp2_with fail
        go_roundw
        case rel => exact ⟨j + 1, by omega, by go_num, H3.out, hbr⟩
        case measure => simp [intOf]; omega
    · have H : Hid (bound r v = false) := any_take_end hlt hall
      go_wp2_with fail
      go_ret
      exact ⟨ret_bool H.out.symm, hbw⟩

theorem hands_c (w : World) (pv : Value) (ps : List Prd) (ln : Bool) (lp : Int) (lv : Value) (k : Int) (hp : predsAt w pv ps) (hl : isPred ps lp = true) :
    Calls Tryz.prog 156 #[pv, .agg #[.bool ln, .int .i64 lp, lv], .int .i64 k] w fun e w' => e = .returned (.bool (!ln && kindOf ps lp == k)) ∧ Below w.heap.size w w' := by
  obtain ⟨pa, pcap, rfl, hpm, hpx⟩ := hp
  obtain ⟨m, hk, rfl⟩ := isPred_iff.1 hl
  obtain ⟨b, off, rfl, hbl, hpx⟩ := hpx.resolve_left (by rintro rfl; simp at hk)
  obtain ⟨hc0, hc1, hc2⟩ := hpx m ps[m] (by simp [hk])
  have ha : kindOf ps (m : Int) = ps[m].kind := by simp [kindOf, hk]
  rw [ha]
  clear hpx ha hl
  cases ln
  · cases h : (ps[m].kind == k)
    all_goals
      go_enter Tryz.func156, Tryz.ntmps156
      go_wp2_with fail
      go_ret
      exact ⟨rfl, below_alloc _ _⟩
  · go_enter Tryz.func156, Tryz.ntmps156
    go_wp2_with fail
    go_ret
    exact ⟨rfl, below_alloc _ _⟩

theorem valueErr_range {ps : List Prd} {r : Rul} (h : r.src < -1 ∨ (r.body.length : Int) ≤ r.src) : valueErr ps r = 3 := by rw [valueErr, if_pos h]
theorem valueErr_plain {ps : List Prd} {r : Rul} (h : ¬ (r.src < -1 ∨ (r.body.length : Int) ≤ r.src)) (hk : kindOf ps r.head.pred = 0) (g : r.src ≠ -1 ∨ r.n ≠ 0) : valueErr ps r = 1 := by rw [valueErr, if_neg h, if_pos ⟨hk, g⟩]
theorem valueErr_hand {ps : List Prd} {r : Rul} (h : ¬ (r.src < -1 ∨ (r.body.length : Int) ≤ r.src)) (hk : kindOf ps r.head.pred ≠ 0) (h0 : 0 ≤ r.src) (g : handed ps r = false) : valueErr ps r = 1 := by
  rw [valueErr, if_neg h, if_neg (fun x => hk x.1), if_pos ⟨h0, g⟩]
theorem valueErr_n {ps : List Prd} {r : Rul} (h : ¬ (r.src < -1 ∨ (r.body.length : Int) ≤ r.src)) (hk : kindOf ps r.head.pred = 0 → r.src = -1 ∧ r.n = 0) (g : 0 ≤ r.src → handed ps r = true) :
    valueErr ps r = if r.n < 0 ∨ 15 < r.n then 3 else 0 := by
  rw [valueErr, if_neg h, if_neg (fun x => by obtain ⟨x1, x2⟩ := x; have := hk x1; omega), if_neg (fun x => by rw [g x.1] at x; cases x.2)]

set_option maxHeartbeats 4000000 in
theorem checkValue_c (w : World) (pv : Value) (ps : List Prd) (r : Rul) (hv bv : Value) (hp : predsAt w pv ps) (hb : litsAt w bv r.body) (hh : isPred ps r.head.pred = true) (hls : ∀ l ∈ r.body, isPred ps l.atom.pred = true) :
    Calls Tryz.prog 126 #[pv, .agg #[.int .i64 r.head.pred, hv, .int .i64 r.src, .int .i64 r.n, bv]] w fun e w' => e = .returned (.int .i64 (valueErr ps r)) ∧ Below w.heap.size w w' := by
  have hp' := hp
  have HP : Hid (∀ (w1 : World), Below w.heap.size w w1 → predsAt w1 pv ps) := fun w1 hb => predsAt.lasts hb hp'
  clear hp'
  obtain ⟨a, cap, rfl, hm, hx⟩ := hb
  obtain ⟨pa, pcap, rfl, hpm, hpx⟩ := hp
  obtain ⟨m, hk, hhp⟩ := isPred_iff.1 hh
  obtain ⟨b, off, rfl, hbl, hpx⟩ := hpx.resolve_left (by rintro rfl; simp at hk)
  obtain ⟨hc0, hc1, hc2⟩ := hpx m ps[m] (by simp [hk])
  have ha : kindOf ps r.head.pred = ps[m].kind := by rw [hhp]; simp [kindOf, hk]
  clear hpx hc0 hc1
  by_cases h1 : r.src < -1 ∨ (r.body.length : Int) ≤ r.src
  · rw [valueErr_range h1, hhp]
    clear ha hx hls hh
    rcases h1 with h1 | h1
    · go_enter Tryz.func126, Tryz.ntmps126
      go_wp2_with fail
      go_ret
      exact ⟨rfl, below_alloc _ _⟩
    · have h1' : decide (r.src < -1) = false := by simp; omega
      go_enter Tryz.func126, Tryz.ntmps126
      go_wp2_with fail
      go_ret
      exact ⟨rfl, below_alloc _ _⟩
  · have hs1 : decide (r.src < -1) = false := by simp; omega
    have hs2 : decide ((r.body.length : Int) ≤ r.src) = false := by simp; omega
    by_cases h0 : ps[m].kind = 0
    · have h0' : (ps[m].kind == 0) = true := by simp [h0]
      by_cases h2 : r.src = -1
      · have h2' : (r.src != -1) = false := by simp [h2]
        have h3' : decide (0 ≤ r.src) = false := by simp; omega
        by_cases h3 : r.n = 0
        · rw [valueErr_n h1 (fun _ => ⟨h2, h3⟩) (fun g => by omega), if_neg (by omega), hhp]
          clear ha hx hls hh h0 h1 h2
          have h4' : (r.n != 0) = false := by simp [h3]
          have h5' : decide (r.n < 0) = false := by simp; omega
          have h6' : decide (15 < r.n) = false := by simp; omega
          clear h3
          go_enter Tryz.func126, Tryz.ntmps126
          go_wp2_with fail
          go_ret
          exact ⟨rfl, below_alloc _ _⟩
        · rw [valueErr_plain h1 (ha.trans h0) (.inr h3), hhp]
          clear ha hx hls hh h0 h1 h2
          have h4' : (r.n != 0) = true := by simpa using h3
          clear h3
          go_enter Tryz.func126, Tryz.ntmps126
          go_wp2_with fail
          go_ret
          exact ⟨rfl, below_alloc _ _⟩
      · rw [valueErr_plain h1 (ha.trans h0) (.inl h2), hhp]
        clear ha hx hls hh h0 h1
        have h2' : (r.src != -1) = true := by simpa using h2
        clear h2
        go_enter Tryz.func126, Tryz.ntmps126
        go_wp2_with fail
        go_ret
        exact ⟨rfl, below_alloc _ _⟩
    · have h0' : (ps[m].kind == 0) = false := by simpa using h0
      by_cases h2 : 0 ≤ r.src
      · have h2' : decide (0 ≤ r.src) = true := by simpa using h2
        obtain ⟨j, hj⟩ : ∃ j : Nat, r.src = (j : Int) := ⟨r.src.toNat, by omega⟩
        have hlt : j < r.body.length := by omega
        obtain ⟨b', off', rfl, hbl', hx⟩ := hx.resolve_left (by intro e; rw [e] at hlt; simp at hlt)
        obtain ⟨ht1, ht2, ta, tc, ht3, _⟩ := (hx j r.body[j] (by simp [hlt])).open
        have hl := hls r.body[j] (List.getElem_mem hlt)
        have hhd : handed ps r = (!r.body[j].neg && kindOf ps r.body[j].atom.pred == ps[m].kind) := by simp [handed, hj, hlt, ha]
        clear hx hls hh
        rw [hhp]
        generalize r.body[j] = l at *
        cases hd : (!l.neg && kindOf ps l.atom.pred == ps[m].kind)
        · rw [valueErr_hand h1 (by rw [ha]; exact h0) h2 (hhd.trans hd)]
          clear ha hhd h0 h1 h2 hhp
          have HP2 : Hid (r.src = (j : Int)) := hj
          rw [HP2.out]
          rw [HP2.out] at hs1 hs2 h2'
          clear hj HP2
          go_enter Tryz.func126, Tryz.ntmps126
          go_wp2_with fail
          refine (hands_c _ _ ps _ _ _ _ (HP.out _ (by exact below_alloc _ _)) hl).mono ?_
          rintro e w1 ⟨rfl, hb1⟩
          obtain ⟨hc, hf⟩ := bcell hb1
          go_wp2_with fail
          go_ret
          exact ⟨rfl, below_trans (below_alloc _ _) hb1⟩
        · have hn := valueErr_n (ps := ps) (r := r) h1 (fun e => absurd (ha.symm.trans e) h0) (fun _ => hhd.trans hd)
          clear ha hhd h0 h1 h2 hhp
          have HP2 : Hid (r.src = (j : Int)) := hj
          have HN : Hid (valueErr ps r = if r.n < 0 ∨ 15 < r.n then 3 else 0) := hn
          rw [HP2.out]
          rw [HP2.out] at hs1 hs2 h2'
          clear hj HP2 hn
          by_cases h3 : r.n < 0
          · rw [HN.out, if_pos (.inl h3)]
            clear HN
            have h3' : decide (r.n < 0) = true := by simpa using h3
            clear h3
            go_enter Tryz.func126, Tryz.ntmps126
            go_wp2_with fail
            refine (hands_c _ _ ps _ _ _ _ (HP.out _ (by exact below_alloc _ _)) hl).mono ?_
            rintro e w1 ⟨rfl, hb1⟩
            obtain ⟨hc, hf⟩ := bcell hb1
            go_wp2_with fail
            go_ret
            exact ⟨rfl, below_trans (below_alloc _ _) hb1⟩
          · have h3' : decide (r.n < 0) = false := by simpa using h3
            by_cases h4 : 15 < r.n
            · rw [HN.out, if_pos (.inr h4)]
              clear HN h3
              have h4' : decide (15 < r.n) = true := by simpa using h4
              clear h4
              go_enter Tryz.func126, Tryz.ntmps126
              go_wp2_with fail
              refine (hands_c _ _ ps _ _ _ _ (HP.out _ (by exact below_alloc _ _)) hl).mono ?_
              rintro e w1 ⟨rfl, hb1⟩
              obtain ⟨hc, hf⟩ := bcell hb1
              go_wp2_with fail
              go_ret
              exact ⟨rfl, below_trans (below_alloc _ _) hb1⟩
            · rw [HN.out, if_neg (by omega)]
              clear HN h3
              have h4' : decide (15 < r.n) = false := by simpa using h4
              clear h4
              go_enter Tryz.func126, Tryz.ntmps126
              go_wp2_with fail
              refine (hands_c _ _ ps _ _ _ _ (HP.out _ (by exact below_alloc _ _)) hl).mono ?_
              rintro e w1 ⟨rfl, hb1⟩
              obtain ⟨hc, hf⟩ := bcell hb1
              go_wp2_with fail
              go_ret
              exact ⟨rfl, below_trans (below_alloc _ _) hb1⟩
      · have h2' : decide (0 ≤ r.src) = false := by simpa using h2
        have hn := valueErr_n (ps := ps) (r := r) h1 (fun e => absurd (ha.symm.trans e) h0) (fun e => absurd e h2)
        rw [hn, hhp]
        clear ha hx hls hh h0 h1 h2 hn hhp
        by_cases h3 : r.n < 0
        · rw [if_pos (.inl h3)]
          have h3' : decide (r.n < 0) = true := by simpa using h3
          clear h3
          go_enter Tryz.func126, Tryz.ntmps126
          go_wp2_with fail
          go_ret
          exact ⟨rfl, below_alloc _ _⟩
        · have h3' : decide (r.n < 0) = false := by simpa using h3
          by_cases h4 : 15 < r.n
          · rw [if_pos (.inr h4)]
            clear h3
            have h4' : decide (15 < r.n) = true := by simpa using h4
            clear h4
            go_enter Tryz.func126, Tryz.ntmps126
            go_wp2_with fail
            go_ret
            exact ⟨rfl, below_alloc _ _⟩
          · rw [if_neg (by omega)]
            clear h3
            have h4' : decide (15 < r.n) = false := by simpa using h4
            clear h4
            go_enter Tryz.func126, Tryz.ntmps126
            go_wp2_with fail
            go_ret
            exact ⟨rfl, below_alloc _ _⟩
end Go.Proofs.YtlfccloaoopadafGreatDoor.Rule

/-
  Which error a rule has, in plain words, and how it is found.
-/
namespace Go.Proofs.YtlfccloaoopadafGreatDoor.Rule
open Go.ChangeShapes Go.WideShapes Go.ChangeAt Go.RowKit
open Lat (within within_c)

def atomOk (ps : List Prd) (l : Ltr) : Bool := atomErr ps l.atom == 0
def bodyErr (ps : List Prd) : List Ltr → Int
  | [] => 0
  | l :: ls => if atomErr ps l.atom = 0 then bodyErr ps ls else atomErr ps l.atom
def asked (r : Rul) (v : Int) : Bool := stands r.head.args v || r.body.any fun l => stands l.atom.args v
def freeR (r : Rul) (v : Int) : Bool := asked r v && !bound r v
/-- B2 -/
def ruleErr (ps : List Prd) (r : Rul) : Int :=
  if atomErr ps r.head ≠ 0 then atomErr ps r.head
  else if 3 < r.body.length then 2
  else if bodyErr ps r.body ≠ 0 then bodyErr ps r.body
  else if freeR r 0 || (freeR r 1 || freeR r 2) then 9
  else valueErr ps r

theorem bodyErr_at {ps : List Prd} : ∀ {ls : List Ltr} {j : Nat} (h : j < ls.length), (ls.take j).all (atomOk ps) = true → atomErr ps ls[j].atom ≠ 0 → bodyErr ps ls = atomErr ps ls[j].atom
  | [], j, h, _, _ => absurd h (by simp)
  | l :: ls, 0, h, _, hn => by
    show bodyErr ps (l :: ls) = atomErr ps l.atom
    rw [bodyErr, if_neg (show ¬ atomErr ps l.atom = 0 from hn)]
  | l :: ls, j + 1, h, ha, hn => by
    simp only [List.take_succ_cons, List.all_cons, Bool.and_eq_true] at ha
    have h0 : atomErr ps l.atom = 0 := by simpa [atomOk] using ha.1
    rw [bodyErr, if_pos h0]
    exact bodyErr_at (by simpa using h) ha.2 hn
theorem bodyErr_none {ps : List Prd} : ∀ {ls : List Ltr}, ls.all (atomOk ps) = true → bodyErr ps ls = 0
  | [], _ => rfl
  | l :: ls, h => by
    simp only [List.all_cons, Bool.and_eq_true] at h
    have h0 : atomErr ps l.atom = 0 := by simpa [atomOk] using h.1
    rw [bodyErr, if_pos h0]
    exact bodyErr_none h.2

theorem ruleErr_head {ps : List Prd} {r : Rul} (h : atomErr ps r.head ≠ 0) : ruleErr ps r = atomErr ps r.head := by rw [ruleErr, if_pos h]
theorem ruleErr_many {ps : List Prd} {r : Rul} (h : atomErr ps r.head = 0) (h3 : 3 < r.body.length) : ruleErr ps r = 2 := by rw [ruleErr, if_neg (by simp [h]), if_pos h3]
theorem ruleErr_body {ps : List Prd} {r : Rul} (h : atomErr ps r.head = 0) (h3 : ¬ 3 < r.body.length) {j : Nat} (hj : j < r.body.length) (ha : (r.body.take j).all (atomOk ps) = true) (hn : atomErr ps r.body[j].atom ≠ 0) : ruleErr ps r = atomErr ps r.body[j].atom := by
  have := bodyErr_at hj ha hn
  rw [ruleErr, if_neg (by simp [h]), if_neg h3, if_pos (by rw [this]; exact hn), this]
theorem ruleErr_free {ps : List Prd} {r : Rul} (h : atomErr ps r.head = 0) (h3 : ¬ 3 < r.body.length) (ha : r.body.all (atomOk ps) = true) (hf : (freeR r 0 || (freeR r 1 || freeR r 2)) = true) : ruleErr ps r = 9 := by
  rw [ruleErr, if_neg (by simp [h]), if_neg h3, if_neg (by rw [bodyErr_none ha]; simp), if_pos hf]
theorem ruleErr_value {ps : List Prd} {r : Rul} (h : atomErr ps r.head = 0) (h3 : ¬ 3 < r.body.length) (ha : r.body.all (atomOk ps) = true) (hf : (freeR r 0 || (freeR r 1 || freeR r 2)) = false) : ruleErr ps r = valueErr ps r := by
  rw [ruleErr, if_neg (by simp [h]), if_neg h3, if_neg (by rw [bodyErr_none ha]; simp), if_neg (by rw [hf]; simp)]
/-- a right atom's predicate is there, and its terms are right -/
theorem atom_right {ps : List Prd} {a : Atm} (h : atomErr ps a = 0) : isPred ps a.pred = true ∧ a.args.all termOk = true := by
  unfold atomErr at h
  split at h
  · rename_i h1
    split at h
    · refine ⟨h1, ?_⟩
      unfold argsErr at h
      split at h
      · assumption
      · cases h
    · cases h
  · cases h
end Go.Proofs.YtlfccloaoopadafGreatDoor.Rule

/-
  Programs in plain words: which error a program has.
-/
namespace Go.Proofs.YtlfccloaoopadafGreatDoor.Prog
open Strata
open Lat (within)
open Rule (isPred ruleErr atomErr isPred_iff)

def edgeOf (r : Rul) (l : Ltr) : Strata.Edge := ⟨r.head.pred.toNat, l.atom.pred.toNat, l.neg⟩
def edges (rs : List Rul) : List Strata.Edge := rs.flatMap fun r => r.body.map (edgeOf r)
def letter (b : Nat) : Bool := decide (97 ≤ b) && decide (b ≤ 122)
def bytes (s : ByteArray) : List Nat := s.data.toList.map UInt8.toNat
/-- C1: a name -/
def isName (s : ByteArray) : Bool := (bytes s).all letter && within (s.size : Int) 1 8
def rulesErr (ps : List Prd) : List Rul → Int
  | [] => 0
  | r :: rs => if ruleErr ps r = 0 then rulesErr ps rs else ruleErr ps r
def twice (ps : List Prd) : Bool := (List.range ps.length).any fun k => (ps.take k).any fun q => q.name.toList == ((ps[k]?.map Prd.name).getD ⟨#[]⟩).toList
/-- C1: what is asked of predicates and rules one by one -/
def partsErr (ps : List Prd) (rs : List Rul) : Int :=
  if 5 < ps.length ∨ 8 < rs.length then 2
  else if ps.any (fun q => !isName q.name) then 5
  else if twice ps then 6
  else if ps.any (fun q => !within q.arity 0 2) then 3
  else if ps.any (fun q => !within q.kind 0 3) then 4
  else rulesErr ps rs
def progErr (ps : List Prd) (rs : List Rul) : Int :=
  if partsErr ps rs ≠ 0 then partsErr ps rs else if (strataL (edges rs) ps.length).isSome then 0 else 8

theorem rulesErr_at {ps : List Prd} : ∀ {rs : List Rul} {j : Nat} (h : j < rs.length), (rs.take j).all (fun r => ruleErr ps r == 0) = true → ruleErr ps rs[j] ≠ 0 → rulesErr ps rs = ruleErr ps rs[j]
  | [], j, h, _, _ => absurd h (by simp)
  | l :: ls, 0, h, _, hn => by
    show rulesErr ps (l :: ls) = ruleErr ps l
    rw [rulesErr, if_neg (show ¬ ruleErr ps l = 0 from hn)]
  | l :: ls, j + 1, h, ha, hn => by
    simp only [List.take_succ_cons, List.all_cons, Bool.and_eq_true] at ha
    have h0 : ruleErr ps l = 0 := by simpa using ha.1
    rw [rulesErr, if_pos h0]
    exact rulesErr_at (by simpa using h) ha.2 hn
theorem rulesErr_none {ps : List Prd} : ∀ {rs : List Rul}, rs.all (fun r => ruleErr ps r == 0) = true → rulesErr ps rs = 0
  | [], _ => rfl
  | l :: ls, h => by
    simp only [List.all_cons, Bool.and_eq_true] at h
    have h0 : ruleErr ps l = 0 := by simpa using h.1
    rw [rulesErr, if_pos h0]
    exact rulesErr_none h.2
theorem rules_all {ps : List Prd} : ∀ {rs : List Rul}, rulesErr ps rs = 0 → ∀ r ∈ rs, ruleErr ps r = 0
  | [], _, r, h => by cases h
  | l :: ls, he, r, h => by
    rw [rulesErr] at he
    split at he
    · rename_i h0
      rcases List.mem_cons.1 h with rfl | h
      · exact h0
      · exact rules_all he r h
    · contradiction
/-- a right rule names predicates that there are -/
structure Right (ps : List Prd) (r : Rul) : Prop where
  head : r.head.pred.toNat < ps.length ∧ r.head.pred = (r.head.pred.toNat : Int)
  body : ∀ l ∈ r.body, l.atom.pred.toNat < ps.length ∧ l.atom.pred = (l.atom.pred.toNat : Int)
  few : r.body.length ≤ 3
theorem body_all {ps : List Prd} : ∀ {ls : List Ltr}, Rule.bodyErr ps ls = 0 → ∀ l ∈ ls, atomErr ps l.atom = 0
  | [], _, r, h => by cases h
  | l :: ls, he, r, h => by
    rw [Rule.bodyErr] at he
    split at he
    · rename_i h0
      rcases List.mem_cons.1 h with rfl | h
      · exact h0
      · exact body_all he r h
    · contradiction
theorem pred_there {ps : List Prd} {a : Atm} (h : atomErr ps a = 0) : a.pred.toNat < ps.length ∧ a.pred = (a.pred.toNat : Int) := by
  obtain ⟨k, hk, he⟩ := isPred_iff.1 (Rule.atom_right h).1
  rw [he]
  exact ⟨by simpa using hk, by simp⟩
theorem right_of {ps : List Prd} {r : Rul} (h : ruleErr ps r = 0) : Right ps r := by
  rw [ruleErr] at h
  split at h
  · contradiction
  · rename_i h1
    split at h
    · contradiction
    · rename_i h2
      split at h
      · contradiction
      · rename_i h3
        exact ⟨pred_there (Classical.not_not.1 h1), fun l hl => pred_there (body_all (Classical.not_not.1 h3) l hl), by omega⟩
theorem parts_zero {ps : List Prd} {rs : List Rul} (h : partsErr ps rs = 0) : ps.length ≤ 5 ∧ rs.length ≤ 8 ∧ ∀ r ∈ rs, Right ps r := by
  rw [partsErr] at h
  split at h
  · contradiction
  · rename_i h1
    split at h
    · contradiction
    · split at h
      · contradiction
      · split at h
        · contradiction
        · split at h
          · contradiction
          · exact ⟨by omega, by omega, fun r hr => right_of (rules_all h r hr)⟩
theorem within_edges {ps : List Prd} {rs : List Rul} (h : ∀ r ∈ rs, Right ps r) : Within (edges rs) ps.length := by
  intro e he
  obtain ⟨r, hr, he⟩ := List.mem_flatMap.1 he
  obtain ⟨l, hl, rfl⟩ := List.mem_map.1 he
  exact ⟨(h r hr).head.1, ((h r hr).body l hl).1⟩
theorem prog_zero {ps : List Prd} {rs : List Rul} (h : progErr ps rs = 0) : partsErr ps rs = 0 ∧ ∃ l, strataL (edges rs) ps.length = some l := by
  rw [progErr] at h
  split at h
  · contradiction
  · rename_i h1
    refine ⟨Classical.not_not.1 h1, ?_⟩
    split at h
    · rename_i h2
      exact Option.isSome_iff_exists.1 h2
    · contradiction
end Go.Proofs.YtlfccloaoopadafGreatDoor.Prog

/-
  What Ground of package rule, and the document's own reckoning of it, answer.
-/
namespace Go.Proofs.YtlfccloaoopadafGreatDoor.Rule
open Go.ChangeShapes Go.WideShapes Go.ChangeAt Go.RowKit
open Lat (within within_c)

structure Vars where
  x : Int
  y : Int
  z : Int
def Vars.at (v : Vars) (n : Int) : Int := if n = 0 then v.x else if n = 1 then v.y else v.z
def Vars.val (v : Vars) : Value := .agg #[.int .i64 v.x, .int .i64 v.y, .int .i64 v.z]
def valOf (v : Vars) (t : Tm) : Int := if t.var then v.at t.n else t.n
def groundOk (v : Vars) (t : Tm) : Bool := termOk t && within (valOf v t) 0 4
def groundErr (v : Vars) (ts : List Tm) : Int := if 2 < ts.length then 1 else if ts.all (groundOk v) then 0 else 3
def argAt (v : Vars) (ts : List Tm) (i : Nat) : Int := (ts[i]?.map (valOf v)).getD 0
def groundTo (v : Vars) (p : Int) (ts : List Tm) : Fct := ⟨p, argAt v ts 0, argAt v ts 1, 0⟩
def groundOf (v : Vars) (p : Int) (ts : List Tm) : Fct := if groundErr v ts = 0 then groundTo v p ts else ⟨0, 0, 0, 0⟩
def Fct.value (f : Fct) : Value := .agg #[.int .i64 f.pred, .int .i64 f.a, .int .i64 f.b, .int .i64 f.val]

theorem argAt_take {v : Vars} {ts : List Tm} {j : Nat} (h : j < ts.length) (i : Nat) : argAt v (ts.take (j + 1)) i = if i = j then valOf v ts[j] else argAt v (ts.take j) i := by
  unfold argAt
  by_cases hi : i = j
  · subst hi; simp [h]
  · rw [if_neg hi]
    by_cases hlt : i < j
    · rw [List.getElem?_take_of_lt (by omega), List.getElem?_take_of_lt hlt]
    · rw [List.getElem?_eq_none (by simp; omega), List.getElem?_eq_none (by simp; omega)]

/-- what Ground's own blocks hold in the middle of its loop -/
structure GRel (w : World) (p : Int) (v : Vars) (wr : World) (x y : Int) : Prop where
  below : Below w.heap.size w wr
  size : w.heap.size + 1 + 1 + 1 < wr.heap.size
  c0 : wr.cell? ⟨w.heap.size, 0, none⟩ = some (.int .i64 p)
  x0 : wr.cell? ⟨w.heap.size + 1, 0, none⟩ = some (.int .i64 v.x)
  x1 : wr.cell? ⟨w.heap.size + 1, 1, none⟩ = some (.int .i64 v.y)
  x2 : wr.cell? ⟨w.heap.size + 1, 2, none⟩ = some (.int .i64 v.z)
  z0 : wr.cell? ⟨w.heap.size + 1 + 1, 0, none⟩ = some (.int .i64 0)
  z1 : wr.cell? ⟨w.heap.size + 1 + 1, 1, none⟩ = some (.int .i64 0)
  z2 : wr.cell? ⟨w.heap.size + 1 + 1, 2, none⟩ = some (.int .i64 0)
  z3 : wr.cell? ⟨w.heap.size + 1 + 1, 3, none⟩ = some (.int .i64 0)
  zf : ∀ o, wr.frozen? ⟨w.heap.size + 1 + 1, o, none⟩ = false
  a0 : wr.cell? ⟨w.heap.size + 1 + 1 + 1, 0, none⟩ = some (.int .i64 x)
  a1 : wr.cell? ⟨w.heap.size + 1 + 1 + 1, 1, none⟩ = some (.int .i64 y)
  af : ∀ o, wr.frozen? ⟨w.heap.size + 1 + 1 + 1, o, none⟩ = false

theorem GRel.lasts {w : World} {p : Int} {v : Vars} {wr w1 : World} {x y : Int} (h : GRel w p v wr x y) (hb : Below wr.heap.size wr w1) : GRel w p v w1 x y := by
  have hs := h.size
  have hs1 := hb.size
  exact ⟨h.below.trans (hb.mono h.below.size), by omega, by rw [cell_lasts hb (by omega), h.c0], by rw [cell_lasts hb (by omega), h.x0], by rw [cell_lasts hb (by omega), h.x1], by rw [cell_lasts hb (by omega), h.x2],
    by rw [cell_lasts hb (by omega), h.z0], by rw [cell_lasts hb (by omega), h.z1], by rw [cell_lasts hb (by omega), h.z2], by rw [cell_lasts hb (by omega), h.z3],
    fun o => by rw [(bcell hb).2 _ _ (by omega), h.zf], by rw [cell_lasts hb (by omega), h.a0], by rw [cell_lasts hb (by omega), h.a1], fun o => by rw [(bcell hb).2 _ _ (by omega), h.af]⟩
theorem GRel.set0 {w : World} {p : Int} {v : Vars} {wr : World} {x y : Int} (h : GRel w p v wr x y) (n : Int) : GRel w p v (wr.setCell ⟨w.heap.size + 1 + 1 + 1, 0, none⟩ (.int .i64 n)) n y :=
  ⟨h.below.setCell (by simp; omega) _, by rw [size_set]; exact h.size, by rw [cell_block (by omega), h.c0], by rw [cell_block (by omega), h.x0], by rw [cell_block (by omega), h.x1], by rw [cell_block (by omega), h.x2],
    by rw [cell_block (by omega), h.z0], by rw [cell_block (by omega), h.z1], by rw [cell_block (by omega), h.z2], by rw [cell_block (by omega), h.z3], fun o => by rw [frozen_set, h.zf],
    cell_set h.a0, by rw [cell_off (by omega), h.a1], fun o => by rw [frozen_set, h.af]⟩
theorem GRel.set1 {w : World} {p : Int} {v : Vars} {wr : World} {x y : Int} (h : GRel w p v wr x y) (n : Int) : GRel w p v (wr.setCell ⟨w.heap.size + 1 + 1 + 1, 1, none⟩ (.int .i64 n)) x n :=
  ⟨h.below.setCell (by simp; omega) _, by rw [size_set]; exact h.size, by rw [cell_block (by omega), h.c0], by rw [cell_block (by omega), h.x0], by rw [cell_block (by omega), h.x1], by rw [cell_block (by omega), h.x2],
    by rw [cell_block (by omega), h.z0], by rw [cell_block (by omega), h.z1], by rw [cell_block (by omega), h.z2], by rw [cell_block (by omega), h.z3], fun o => by rw [frozen_set, h.zf],
    by rw [cell_off (by omega), h.a0], cell_set h.a1, fun o => by rw [frozen_set, h.af]⟩

set_option maxHeartbeats 4000000 in
theorem ground_c (w : World) (sv : Value) (p : Int) (ts : List Tm) (v : Vars) (h : termsAt w sv ts) :
    Calls Tryz.prog 173 #[.agg #[.int .i64 p, sv], .agg #[.int .i64 v.x, .int .i64 v.y, .int .i64 v.z]] w
      fun e w' => e = .returned (.tuple #[.agg #[.int .i64 (groundOf v p ts).pred, .int .i64 (groundOf v p ts).a, .int .i64 (groundOf v p ts).b, .int .i64 (groundOf v p ts).val], .int .i64 (groundErr v ts)]) ∧ Below w.heap.size w w' := by
  obtain ⟨a, cap, rfl, hm, hx⟩ := h
  have HX : Hid (ts = [] ∨ ∃ b off, a = some ⟨b, off, none⟩ ∧ b < w.heap.size ∧ ∀ i x, ts[i]? = some x → termAt w b (off + i * 2) x) := hx
  clear hx
  by_cases h2 : 2 < ts.length
  · have e : groundErr v ts = 1 := by rw [groundErr, if_pos h2]
    have e2 : groundOf v p ts = ⟨0, 0, 0, 0⟩ := by rw [groundOf, if_neg (by rw [e]; simp)]
    rw [e, e2]
    clear e e2
    have h2' : (2 : Int) < (ts.length : Int) := by omega
    go_enter Tryz.func173, Tryz.ntmps173
    go_wp2_with fail
    exact bodyPost_ret (v := .tuple #[.agg #[.int .i64 0, .int .i64 0, .int .i64 0, .int .i64 0], .int .i64 1]) (by simp [results, Tryz.results173, go_sem]) rfl ⟨rfl, (((Below.refl _ _).alloc (Nat.le_refl _) _).alloc (by simp) _).alloc (by simp; omega) _⟩
  · have h2' : ¬ (2 : Int) < (ts.length : Int) := by omega
    go_enter Tryz.func173, Tryz.ntmps173
    go_wp2_with fail
    go_loopw [18] (fun i wr => ∃ j : Nat, j ≤ ts.length ∧ i = .int .i64 j ∧ (ts.take j).all (groundOk v) = true ∧ GRel w p v wr (argAt v (ts.take j) 0) (argAt v (ts.take j) 1)) (fun i _ => ts.length - (intOf i).toNat)
    case atStart =>
      exact ⟨0, Nat.zero_le _, rfl, rfl, (((((Below.refl _ _).alloc (Nat.le_refl _) _).alloc (by simp) _).alloc (by simp; omega) _).alloc (by simp; omega) _), by simp, by simp [go_sem], by simp [go_sem], by simp [go_sem], by simp [go_sem], by simp [go_sem], by simp [go_sem], by simp [go_sem], by simp [go_sem], by intro o; simp [go_sem], by simp [go_sem, argAt], by simp [go_sem, argAt], by intro o; simp [go_sem]⟩
    case round =>
      obtain ⟨j, hj, rfl, hall, hG⟩ := hrel
      have HG : Hid (GRel w p v wr (argAt v (ts.take j) 0) (argAt v (ts.take j) 1)) := hG
      obtain ⟨hbr, hsz, c0, x0, x1, x2, z0, z1, z2, z3, zf, a0, a1, af⟩ := hG
      by_cases hlt : j < ts.length
      · obtain ⟨b', off', rfl, hbl', hx⟩ := HX.out.resolve_left (by rintro rfl; simp at hlt)
        obtain ⟨ht1, ht2⟩ := hx j ts[j] (by simp [hlt])
        have hr1 : wr.cell? ⟨b', off' + j * 2, none⟩ = some (.bool ts[j].var) := by rw [cell_lasts hbr hbl', ht1]
        have hr2 : wr.cell? ⟨b', off' + j * 2 + 1, none⟩ = some (.int .i64 ts[j].n) := by rw [cell_lasts hbr hbl', ht2]
        have H : Hid ((ts.take (j + 1)).all (groundOk v) = groundOk v ts[j]) := by show _ = _; rw [all_take hlt, hall, Bool.true_and]
        have H2 : Hid (groundOk v ts[j] = false → groundErr v ts = 3) := fun h => by rw [groundErr, if_neg h2, if_neg (by rw [all_not hlt h]; simp)]
        have HA : Hid (∀ i, argAt v (ts.take (j + 1)) i = if i = j then valOf v ts[j] else argAt v (ts.take j) i) := argAt_take hlt
        clear hx hall ht1 ht2 HX
        generalize ts[j] = t at *
        go_wp2_with fail
        refine (inBounds_c t _).mono ?_
        rintro e w1 ⟨rfl, hb1⟩
        obtain ⟨hc, hf⟩ := bcell hb1
        have s0 : w.heap.size < wr.heap.size := by omega
        have s1 : w.heap.size + 1 < wr.heap.size := by omega
        have s2 : w.heap.size + 1 + 1 < wr.heap.size := by omega
        have s0' : w.heap.size < wr.heap.size + 1 := by omega
        have hsz1 : wr.heap.size + 1 ≤ w1.heap.size := by have := hb1.size; simpa using this
        have s3 : w.heap.size + 1 + 1 + 1 < wr.heap.size + 1 := by omega
        have hbw : Below w.heap.size w w1 := hbr.trans (((below_alloc _ _).trans (hb1.mono (by simp))).mono hbr.size)
        cases hok : termOk t
        · have H3 : Hid (groundErr v ts = 3) := H2.out (by simp [groundOk, hok])
          have H4 : Hid (groundOf v p ts = ⟨0, 0, 0, 0⟩) := by show _ = _; rw [groundOf, if_neg (by rw [H3.out]; simp)]
          clear H H2 HA
          go_wp2_with fail
          exact bodyPost_ret (v := .tuple #[.agg #[.int .i64 0, .int .i64 0, .int .i64 0, .int .i64 0], .int .i64 3]) (by simp [results, Tryz.results173, go_sem, *]) rfl ⟨by rw [H4.out, H3.out], (((hbw.setCell (by simp; omega) _).setCell (by simp; omega) _).setCell (by simp; omega) _).setCell (by simp; omega) _⟩
        · have hbq : Below wr.heap.size wr w1 := (below_alloc _ _).trans (hb1.mono (by simp))
          have HG1 : Hid (GRel w p v w1 (argAt v (ts.take j) 0) (argAt v (ts.take j) 1)) := HG.out.lasts hbq
          clear HG hbq
          obtain ⟨tv, tn⟩ := t
          have hkey : ∃ m : Int, valOf v ⟨tv, tn⟩ = m := ⟨_, rfl⟩
          cases tv
          · have hwi : within tn 0 4 = true := hok
            have H3 : Hid ((ts.take (j + 1)).all (groundOk v) = true) := by show _ = _; rw [H.out, groundOk, hok]; exact hwi
            clear H H2 hkey
            rcases (show j = 0 ∨ j = 1 by omega) with rfl | rfl
            · have HA0 : Hid (argAt v (ts.take (0 + 1)) 0 = tn ∧ argAt v (ts.take (0 + 1)) 1 = argAt v (ts.take 0) 1) := ⟨by rw [HA.out 0]; rfl, by rw [HA.out 1]; rfl⟩
              clear HA
              go_wp2_with (go_at_call 180; refine (isConstant_c _ _).mono ?_; rintro e w' ⟨rfl, rfl⟩)
              go_roundw
              case rel => exact ⟨0 + 1, by omega, rfl, H3.out, by rw [HA0.out.1, HA0.out.2]; exact HG1.out.set0 _⟩
              case measure => simp [intOf]; omega
            · have HA0 : Hid (argAt v (ts.take (1 + 1)) 0 = argAt v (ts.take 1) 0 ∧ argAt v (ts.take (1 + 1)) 1 = tn) := ⟨by rw [HA.out 0]; rfl, by rw [HA.out 1]; rfl⟩
              clear HA
              go_wp2_with (go_at_call 180; refine (isConstant_c _ _).mono ?_; rintro e w' ⟨rfl, rfl⟩)
              go_roundw
              case rel => exact ⟨1 + 1, by omega, rfl, H3.out, by rw [HA0.out.1, HA0.out.2]; exact HG1.out.set1 _⟩
              case measure => simp [intOf]; omega
          · have hwi : 0 ≤ tn ∧ tn ≤ 2 := by
              have : within tn 0 2 = true := hok
              simpa [within] using this
            obtain ⟨m, hmv⟩ := hkey
            rcases (show tn = 0 ∨ tn = 1 ∨ tn = 2 by omega) with rfl | rfl | rfl
            · obtain rfl : v.x = m := hmv
              cases hw2 : within v.x 0 4
              · have H3 : Hid (groundErr v ts = 3) := H2.out (by simp only [groundOk, hok]; exact hw2)
                have H4 : Hid (groundOf v p ts = ⟨0, 0, 0, 0⟩) := by show _ = _; rw [groundOf, if_neg (by rw [H3.out]; simp)]
                clear H H2 HA
                go_wp2_with (go_at_call 180; refine (isConstant_c _ _).mono ?_; rintro e w' ⟨rfl, rfl⟩)
                exact bodyPost_ret (v := .tuple #[.agg #[.int .i64 0, .int .i64 0, .int .i64 0, .int .i64 0], .int .i64 3]) (by simp [results, Tryz.results173, go_sem, *]) rfl ⟨by rw [H4.out, H3.out], (((hbw.setCell (by simp; omega) _).setCell (by simp; omega) _).setCell (by simp; omega) _).setCell (by simp; omega) _⟩
              · have H3 : Hid ((ts.take (j + 1)).all (groundOk v) = true) := by show _ = _; rw [H.out, groundOk, hok]; exact hw2
                clear H H2
                rcases (show j = 0 ∨ j = 1 by omega) with rfl | rfl
                · have HA0 : Hid (argAt v (ts.take (0 + 1)) 0 = v.x ∧ argAt v (ts.take (0 + 1)) 1 = argAt v (ts.take 0) 1) := ⟨by rw [HA.out 0]; rfl, by rw [HA.out 1]; rfl⟩
                  clear HA
                  go_wp2_with (go_at_call 180; refine (isConstant_c _ _).mono ?_; rintro e w' ⟨rfl, rfl⟩)
                  go_roundw
                  case rel => exact ⟨0 + 1, by omega, rfl, H3.out, by rw [HA0.out.1, HA0.out.2]; exact HG1.out.set0 _⟩
                  case measure => simp [intOf]; omega
                · have HA0 : Hid (argAt v (ts.take (1 + 1)) 0 = argAt v (ts.take 1) 0 ∧ argAt v (ts.take (1 + 1)) 1 = v.x) := ⟨by rw [HA.out 0]; rfl, by rw [HA.out 1]; rfl⟩
                  clear HA
                  go_wp2_with (go_at_call 180; refine (isConstant_c _ _).mono ?_; rintro e w' ⟨rfl, rfl⟩)
                  go_roundw
                  case rel => exact ⟨1 + 1, by omega, rfl, H3.out, by rw [HA0.out.1, HA0.out.2]; exact HG1.out.set1 _⟩
                  case measure => simp [intOf]; omega
            · obtain rfl : v.y = m := hmv
              cases hw2 : within v.y 0 4
              · have H3 : Hid (groundErr v ts = 3) := H2.out (by simp only [groundOk, hok]; exact hw2)
                have H4 : Hid (groundOf v p ts = ⟨0, 0, 0, 0⟩) := by show _ = _; rw [groundOf, if_neg (by rw [H3.out]; simp)]
                clear H H2 HA
                go_wp2_with (go_at_call 180; refine (isConstant_c _ _).mono ?_; rintro e w' ⟨rfl, rfl⟩)
                exact bodyPost_ret (v := .tuple #[.agg #[.int .i64 0, .int .i64 0, .int .i64 0, .int .i64 0], .int .i64 3]) (by simp [results, Tryz.results173, go_sem, *]) rfl ⟨by rw [H4.out, H3.out], (((hbw.setCell (by simp; omega) _).setCell (by simp; omega) _).setCell (by simp; omega) _).setCell (by simp; omega) _⟩
              · have H3 : Hid ((ts.take (j + 1)).all (groundOk v) = true) := by show _ = _; rw [H.out, groundOk, hok]; exact hw2
                clear H H2
                rcases (show j = 0 ∨ j = 1 by omega) with rfl | rfl
                · have HA0 : Hid (argAt v (ts.take (0 + 1)) 0 = v.y ∧ argAt v (ts.take (0 + 1)) 1 = argAt v (ts.take 0) 1) := ⟨by rw [HA.out 0]; rfl, by rw [HA.out 1]; rfl⟩
                  clear HA
                  go_wp2_with (go_at_call 180; refine (isConstant_c _ _).mono ?_; rintro e w' ⟨rfl, rfl⟩)
                  go_roundw
                  case rel => exact ⟨0 + 1, by omega, rfl, H3.out, by rw [HA0.out.1, HA0.out.2]; exact HG1.out.set0 _⟩
                  case measure => simp [intOf]; omega
                · have HA0 : Hid (argAt v (ts.take (1 + 1)) 0 = argAt v (ts.take 1) 0 ∧ argAt v (ts.take (1 + 1)) 1 = v.y) := ⟨by rw [HA.out 0]; rfl, by rw [HA.out 1]; rfl⟩
                  clear HA
                  go_wp2_with (go_at_call 180; refine (isConstant_c _ _).mono ?_; rintro e w' ⟨rfl, rfl⟩)
                  go_roundw
                  case rel => exact ⟨1 + 1, by omega, rfl, H3.out, by rw [HA0.out.1, HA0.out.2]; exact HG1.out.set1 _⟩
                  case measure => simp [intOf]; omega
            · obtain rfl : v.z = m := hmv
              cases hw2 : within v.z 0 4
              · have H3 : Hid (groundErr v ts = 3) := H2.out (by simp only [groundOk, hok]; exact hw2)
                have H4 : Hid (groundOf v p ts = ⟨0, 0, 0, 0⟩) := by show _ = _; rw [groundOf, if_neg (by rw [H3.out]; simp)]
                clear H H2 HA
                go_wp2_with (go_at_call 180; refine (isConstant_c _ _).mono ?_; rintro e w' ⟨rfl, rfl⟩)
                exact bodyPost_ret (v := .tuple #[.agg #[.int .i64 0, .int .i64 0, .int .i64 0, .int .i64 0], .int .i64 3]) (by simp [results, Tryz.results173, go_sem, *]) rfl ⟨by rw [H4.out, H3.out], (((hbw.setCell (by simp; omega) _).setCell (by simp; omega) _).setCell (by simp; omega) _).setCell (by simp; omega) _⟩
              · have H3 : Hid ((ts.take (j + 1)).all (groundOk v) = true) := by show _ = _; rw [H.out, groundOk, hok]; exact hw2
                clear H H2
                rcases (show j = 0 ∨ j = 1 by omega) with rfl | rfl
                · have HA0 : Hid (argAt v (ts.take (0 + 1)) 0 = v.z ∧ argAt v (ts.take (0 + 1)) 1 = argAt v (ts.take 0) 1) := ⟨by rw [HA.out 0]; rfl, by rw [HA.out 1]; rfl⟩
                  clear HA
                  go_wp2_with (go_at_call 180; refine (isConstant_c _ _).mono ?_; rintro e w' ⟨rfl, rfl⟩)
                  go_roundw
                  case rel => exact ⟨0 + 1, by omega, rfl, H3.out, by rw [HA0.out.1, HA0.out.2]; exact HG1.out.set0 _⟩
                  case measure => simp [intOf]; omega
                · have HA0 : Hid (argAt v (ts.take (1 + 1)) 0 = argAt v (ts.take 1) 0 ∧ argAt v (ts.take (1 + 1)) 1 = v.z) := ⟨by rw [HA.out 0]; rfl, by rw [HA.out 1]; rfl⟩
                  clear HA
                  go_wp2_with (go_at_call 180; refine (isConstant_c _ _).mono ?_; rintro e w' ⟨rfl, rfl⟩)
                  go_roundw
                  case rel => exact ⟨1 + 1, by omega, rfl, H3.out, by rw [HA0.out.1, HA0.out.2]; exact HG1.out.set1 _⟩
                  case measure => simp [intOf]; omega
      · have hje : j = ts.length := by omega
        have H3 : Hid (groundErr v ts = 0) := by show _ = _; rw [groundErr, if_neg h2, if_pos (all_take_end hlt hall)]
        have H4 : Hid (groundOf v p ts = ⟨p, argAt v (ts.take j) 0, argAt v (ts.take j) 1, 0⟩) := by show _ = _; rw [groundOf, if_pos H3.out, List.take_of_length_le (by omega)]; rfl
        clear hje hall
        go_wp2_with fail
        exact bodyPost_ret (v := .tuple #[.agg #[.int .i64 p, .int .i64 (argAt v (ts.take j) 0), .int .i64 (argAt v (ts.take j) 1), .int .i64 0], .int .i64 0]) (by simp [results, Tryz.results173, go_sem, *]) rfl ⟨by rw [H4.out, H3.out], (((hbr.setCell (by simp; omega) _).setCell (by simp; omega) _).setCell (by simp; omega) _).setCell (by simp; omega) _⟩
end Go.Proofs.YtlfccloaoopadafGreatDoor.Rule

/-
  What the document's own reckoning of Ground answers.
-/
namespace Go.Proofs.YtlfccloaoopadafGreatDoor.Rule
open Go.ChangeShapes Go.WideShapes Go.ChangeAt Go.RowKit
open Lat (within within_c)

/-- what ground's own blocks hold in the middle of its loop -/
structure RRel (w : World) (p : Int) (sv : Value) (v : Vars) (wr : World) (x y : Int) : Prop where
  below : Below w.heap.size w wr
  size : w.heap.size + 1 + 1 + 1 < wr.heap.size
  c1 : wr.cell? ⟨w.heap.size, 1, none⟩ = some sv
  x0 : wr.cell? ⟨w.heap.size + 1, 0, none⟩ = some (.int .i64 v.x)
  x1 : wr.cell? ⟨w.heap.size + 1, 1, none⟩ = some (.int .i64 v.y)
  x2 : wr.cell? ⟨w.heap.size + 1, 2, none⟩ = some (.int .i64 v.z)
  z0 : wr.cell? ⟨w.heap.size + 1 + 1, 0, none⟩ = some (.int .i64 0)
  z1 : wr.cell? ⟨w.heap.size + 1 + 1, 1, none⟩ = some (.int .i64 0)
  z2 : wr.cell? ⟨w.heap.size + 1 + 1, 2, none⟩ = some (.int .i64 0)
  z3 : wr.cell? ⟨w.heap.size + 1 + 1, 3, none⟩ = some (.int .i64 0)
  zf : ∀ o, wr.frozen? ⟨w.heap.size + 1 + 1, o, none⟩ = false
  ap : wr.cell? ⟨w.heap.size + 1 + 1 + 1, 0, none⟩ = some (.int .i64 p)
  a0 : wr.cell? ⟨w.heap.size + 1 + 1 + 1, 1, none⟩ = some (.int .i64 x)
  a1 : wr.cell? ⟨w.heap.size + 1 + 1 + 1, 2, none⟩ = some (.int .i64 y)
  a2 : wr.cell? ⟨w.heap.size + 1 + 1 + 1, 3, none⟩ = some (.int .i64 0)
  af : ∀ o, wr.frozen? ⟨w.heap.size + 1 + 1 + 1, o, none⟩ = false

theorem RRel.set0 {w : World} {p : Int} {sv : Value} {v : Vars} {wr : World} {x y : Int} (h : RRel w p sv v wr x y) (n : Int) : RRel w p sv v (wr.setCell ⟨w.heap.size + 1 + 1 + 1, 1, none⟩ (.int .i64 n)) n y :=
  ⟨h.below.setCell (by simp; omega) _, by rw [size_set]; exact h.size, by rw [cell_block (by omega), h.c1], by rw [cell_block (by omega), h.x0], by rw [cell_block (by omega), h.x1], by rw [cell_block (by omega), h.x2],
    by rw [cell_block (by omega), h.z0], by rw [cell_block (by omega), h.z1], by rw [cell_block (by omega), h.z2], by rw [cell_block (by omega), h.z3], fun o => by rw [frozen_set, h.zf],
    by rw [cell_off (by omega), h.ap], cell_set h.a0, by rw [cell_off (by omega), h.a1], by rw [cell_off (by omega), h.a2], fun o => by rw [frozen_set, h.af]⟩
theorem RRel.set1 {w : World} {p : Int} {sv : Value} {v : Vars} {wr : World} {x y : Int} (h : RRel w p sv v wr x y) (n : Int) : RRel w p sv v (wr.setCell ⟨w.heap.size + 1 + 1 + 1, 2, none⟩ (.int .i64 n)) x n :=
  ⟨h.below.setCell (by simp; omega) _, by rw [size_set]; exact h.size, by rw [cell_block (by omega), h.c1], by rw [cell_block (by omega), h.x0], by rw [cell_block (by omega), h.x1], by rw [cell_block (by omega), h.x2],
    by rw [cell_block (by omega), h.z0], by rw [cell_block (by omega), h.z1], by rw [cell_block (by omega), h.z2], by rw [cell_block (by omega), h.z3], fun o => by rw [frozen_set, h.zf],
    by rw [cell_off (by omega), h.ap], by rw [cell_off (by omega), h.a0], cell_set h.a1, by rw [cell_off (by omega), h.a2], fun o => by rw [frozen_set, h.af]⟩

theorem groundErr_ok {v : Vars} {ts : List Tm} (h : groundErr v ts = 0) : ts.length ≤ 2 ∧ ts.all (groundOk v) = true := by
  unfold groundErr at h
  split at h
  · cases h
  · split at h
    · exact ⟨by omega, by assumption⟩
    · cases h

theorem groundOk_of {v : Vars} {ts : List Tm} (h : ts.all termOk = true) : ts.all (groundOk v) = ts.all (fun t => !t.var || within (v.at t.n) 0 4) := by
  rw [Bool.eq_iff_iff, List.all_eq_true, List.all_eq_true]
  rw [List.all_eq_true] at h
  constructor
  · intro g t ht
    have := g t ht
    obtain ⟨tv, tn⟩ := t
    cases tv
    · rfl
    · simp only [groundOk, Bool.and_eq_true] at this
      exact this.2
  · intro g t ht
    have h1 := h t ht
    have h2 := g t ht
    obtain ⟨tv, tn⟩ := t
    cases tv
    · simp only [groundOk, Bool.and_eq_true]
      exact ⟨h1, h1⟩
    · simp only [groundOk, Bool.and_eq_true]
      exact ⟨h1, h2⟩
theorem groundOk_not {v : Vars} {ts : List Tm} (h : ts.all termOk = false) : ts.all (groundOk v) = false := by
  rw [List.all_eq_false] at *
  obtain ⟨t, ht, hn⟩ := h
  exact ⟨t, ht, by simp only [groundOk, Bool.and_eq_true]; exact fun g => hn g.1⟩

end Go.Proofs.YtlfccloaoopadafGreatDoor.Rule

/-
  Whether predicates may be asked by their kinds and arities; whether a fact is one: the document's own answers.
-/
namespace Go.Proofs.YtlfccloaoopadafGreatDoor.Rule
open Go.ChangeShapes Go.WideShapes Go.ChangeAt Go.RowKit
open Lat (within within_c checkVal_c)

def kindOk (p : Prd) : Bool := !(decide (p.arity < 0) || (decide (2 < p.arity) || (decide (p.kind < 0) || decide (3 < p.kind))))
def kindsOk (ps : List Prd) : Bool := ps.all kindOk

def factFine (ps : List Prd) (f : Fct) : Bool := isPred ps f.pred && (within f.a 0 4 && (within f.b 0 4 && ((decide (1 ≤ arityOf ps f.pred) || f.a == 0) && ((decide (2 ≤ arityOf ps f.pred) || f.b == 0) && Lat.err (kindOf ps f.pred) f.val == 0))))

set_option maxHeartbeats 4000000 in
theorem factFine_c (w : World) (pv : Value) (ps : List Prd) (p a b v : Int) (h : predsAt w pv ps) :
    Calls Tryz.prog 73 #[pv, .agg #[.int .i64 p, .int .i64 a, .int .i64 b, .int .i64 v]] w fun e w' => e = .returned (.bool (factFine ps ⟨p, a, b, v⟩)) ∧ Below w.heap.size w w' := by
  obtain ⟨pa, cap, rfl, hm, hx⟩ := h
  cases h1 : isPred ps p
  · have e : factFine ps ⟨p, a, b, v⟩ = false := by simp [factFine, h1]
    rw [e]
    have h1' : within p 0 ((ps.length : Int) - 1) = false := h1
    clear e h1 hx
    go_enter Tryz.func73, Tryz.ntmps73
    go_wp2_with (first | (go_at_call 24; refine (within_c _ _ _ _).mono ?_; rintro e w' ⟨rfl, rfl⟩) | (go_at_call 96; refine (checkVal_c _ _ _).mono ?_; rintro e w' ⟨rfl, rfl⟩))
    go_ret
    exact ⟨rfl, below_alloc _ _⟩
  cases h2 : within a 0 4
  · have e : factFine ps ⟨p, a, b, v⟩ = false := by simp [factFine, h2]
    rw [e]
    have h1' : within p 0 ((ps.length : Int) - 1) = true := h1
    clear e h1 hx
    go_enter Tryz.func73, Tryz.ntmps73
    go_wp2_with (first | (go_at_call 24; refine (within_c _ _ _ _).mono ?_; rintro e w' ⟨rfl, rfl⟩) | (go_at_call 96; refine (checkVal_c _ _ _).mono ?_; rintro e w' ⟨rfl, rfl⟩))
    go_ret
    exact ⟨rfl, below_alloc _ _⟩
  cases h3 : within b 0 4
  · have e : factFine ps ⟨p, a, b, v⟩ = false := by simp [factFine, h3]
    rw [e]
    have h1' : within p 0 ((ps.length : Int) - 1) = true := h1
    clear e h1 hx
    go_enter Tryz.func73, Tryz.ntmps73
    go_wp2_with (first | (go_at_call 24; refine (within_c _ _ _ _).mono ?_; rintro e w' ⟨rfl, rfl⟩) | (go_at_call 96; refine (checkVal_c _ _ _).mono ?_; rintro e w' ⟨rfl, rfl⟩))
    go_ret
    exact ⟨rfl, below_alloc _ _⟩
  have h1' : within p 0 ((ps.length : Int) - 1) = true := h1
  obtain ⟨k, hk, rfl⟩ := isPred_iff.1 h1
  obtain ⟨bb, off, rfl, hbl, hx⟩ := hx.resolve_left (by rintro rfl; simp at hk)
  obtain ⟨hc0, hc1, hc2⟩ := hx k ps[k] (by simp [hk])
  have har : arityOf ps (k : Int) = ps[k].arity := by simp [arityOf, hk]
  have hki : kindOf ps (k : Int) = ps[k].kind := by simp [kindOf, hk]
  have e : factFine ps ⟨(k : Int), a, b, v⟩ = ((decide (1 ≤ ps[k].arity) || a == 0) && ((decide (2 ≤ ps[k].arity) || b == 0) && Lat.err ps[k].kind v == 0)) := by simp only [factFine, h1, h2, h3, har, hki, Bool.true_and]
  rw [e]
  clear e har hki hx h1
  generalize ps[k] = q at *
  obtain ⟨qn, qa, qk⟩ := q
  by_cases g1 : 1 ≤ qa
  · have g1' : decide (1 ≤ qa) = true := by simpa using g1
    by_cases g2 : 2 ≤ qa
    · have g2' : decide (2 ≤ qa) = true := by simpa using g2
      cases g5 : (Lat.err qk v == 0)
      all_goals
        simp only [g1', g2', Bool.true_or, Bool.true_and]
        go_enter Tryz.func73, Tryz.ntmps73
        go_wp2_with (first | (go_at_call 24; refine (within_c _ _ _ _).mono ?_; rintro e w' ⟨rfl, rfl⟩) | (go_at_call 96; refine (checkVal_c _ _ _).mono ?_; rintro e w' ⟨rfl, rfl⟩))
        go_ret
        exact ⟨rfl, (below_alloc _ _).alloc (by simp) _⟩
    · have g2' : decide (2 ≤ qa) = false := by simpa using g2
      cases g4 : (b == 0)
      · simp only [g1', g2', Bool.true_or, Bool.true_and, Bool.false_or, Bool.false_and]
        go_enter Tryz.func73, Tryz.ntmps73
        go_wp2_with (first | (go_at_call 24; refine (within_c _ _ _ _).mono ?_; rintro e w' ⟨rfl, rfl⟩) | (go_at_call 96; refine (checkVal_c _ _ _).mono ?_; rintro e w' ⟨rfl, rfl⟩))
        go_ret
        exact ⟨rfl, (below_alloc _ _).alloc (by simp) _⟩
      · cases g5 : (Lat.err qk v == 0)
        all_goals
          simp only [g1', g2', Bool.true_or, Bool.true_and, Bool.false_or]
          go_enter Tryz.func73, Tryz.ntmps73
          go_wp2_with (first | (go_at_call 24; refine (within_c _ _ _ _).mono ?_; rintro e w' ⟨rfl, rfl⟩) | (go_at_call 96; refine (checkVal_c _ _ _).mono ?_; rintro e w' ⟨rfl, rfl⟩))
          go_ret
          exact ⟨rfl, (below_alloc _ _).alloc (by simp) _⟩
  · have g1' : decide (1 ≤ qa) = false := by simpa using g1
    have g2' : decide (2 ≤ qa) = false := by simp; omega
    cases g3 : (a == 0)
    · simp only [g1', Bool.false_or, Bool.false_and]
      go_enter Tryz.func73, Tryz.ntmps73
      go_wp2_with (first | (go_at_call 24; refine (within_c _ _ _ _).mono ?_; rintro e w' ⟨rfl, rfl⟩) | (go_at_call 96; refine (checkVal_c _ _ _).mono ?_; rintro e w' ⟨rfl, rfl⟩))
      go_ret
      exact ⟨rfl, (below_alloc _ _).alloc (by simp) _⟩
    · cases g4 : (b == 0)
      · simp only [g1', g2', Bool.true_and, Bool.false_or, Bool.false_and]
        go_enter Tryz.func73, Tryz.ntmps73
        go_wp2_with (first | (go_at_call 24; refine (within_c _ _ _ _).mono ?_; rintro e w' ⟨rfl, rfl⟩) | (go_at_call 96; refine (checkVal_c _ _ _).mono ?_; rintro e w' ⟨rfl, rfl⟩))
        go_ret
        exact ⟨rfl, (below_alloc _ _).alloc (by simp) _⟩
      · cases g5 : (Lat.err qk v == 0)
        all_goals
          simp only [g1', g2', Bool.true_and, Bool.false_or]
          go_enter Tryz.func73, Tryz.ntmps73
          go_wp2_with (first | (go_at_call 24; refine (within_c _ _ _ _).mono ?_; rintro e w' ⟨rfl, rfl⟩) | (go_at_call 96; refine (checkVal_c _ _ _).mono ?_; rintro e w' ⟨rfl, rfl⟩))
          go_ret
          exact ⟨rfl, (below_alloc _ _).alloc (by simp) _⟩
end Go.Proofs.YtlfccloaoopadafGreatDoor.Rule

/-
  What the document's own reckoning of a rule's errors answers.
-/
namespace Go.Proofs.YtlfccloaoopadafGreatDoor.Rule
open Go.ChangeShapes Go.WideShapes Go.ChangeAt Go.RowKit
open Lat (within within_c)

/-- some variable below j is free -/
def anyFree (r : Rul) (j : Nat) : Bool := (List.range j).any fun (v : Nat) => freeR r (v : Int)
theorem anyFree_3 (r : Rul) : anyFree r 3 = (freeR r 0 || (freeR r 1 || freeR r 2)) := by simp [anyFree, List.range_succ]
theorem anyFree_succ (r : Rul) (j : Nat) : anyFree r (j + 1) = (anyFree r j || freeR r (j : Int)) := by simp [anyFree, List.range_succ]
theorem anyFree_le {r : Rul} {j : Nat} (h : j < 3) (hf : freeR r (j : Int) = true) : (freeR r 0 || (freeR r 1 || freeR r 2)) = true := by
  rcases (show j = 0 ∨ j = 1 ∨ j = 2 by omega) with rfl | rfl | rfl
  · rw [show freeR r 0 = true from hf]; rfl
  · rw [show freeR r 1 = true from hf]; simp
  · rw [show freeR r 2 = true from hf]; simp

set_option maxRecDepth 100000 in
set_option maxHeartbeats 8000000 in
theorem checkRule_c (w : World) (pv : Value) (ps : List Prd) (r : Rul) (hv bv : Value) (hp : predsAt w pv ps) (hh : termsAt w hv r.head.args) (hb : litsAt w bv r.body) :
    Calls Tryz.prog 25 #[pv, .agg #[.int .i64 r.head.pred, hv, .int .i64 r.src, .int .i64 r.n, bv]] w fun e w' => e = .returned (.int .i64 (ruleErr ps r)) ∧ Below w.heap.size w w' := by
  have HP : Hid (∀ (w1 : World), Below w.heap.size w w1 → predsAt w1 pv ps) := fun w1 hb1 => predsAt.lasts hb1 hp
  have HH : Hid (∀ (w1 : World), Below w.heap.size w w1 → termsAt w1 hv r.head.args) := fun w1 hb1 => termsAt.lasts hb1 hh
  have HB : Hid (∀ (w1 : World), Below w.heap.size w w1 → litsAt w1 bv r.body) := fun w1 hb1 => litsAt.lasts hb1 hb
  obtain ⟨ha, hcap, rfl, _⟩ := hh
  obtain ⟨pa, pcap, rfl, hpm, hpx⟩ := hp
  obtain ⟨a, cap, rfl, hm, hx⟩ := hb
  have HX : Hid (r.body = [] ∨ ∃ b off, a = some ⟨b, off, none⟩ ∧ b < w.heap.size ∧ ∀ i x, r.body[i]? = some x → litAt w b (off + i * 3) x) := hx
  have HPX : Hid (ps = [] ∨ ∃ b off, pa = some ⟨b, off, none⟩ ∧ b < w.heap.size ∧ ∀ i x, ps[i]? = some x → predAt w b (off + i * 3) x) := hpx
  clear hx hpx
  by_cases h1 : atomErr ps r.head = 0
  · by_cases h3 : 3 < r.body.length
    · rw [ruleErr_many h1 h3]
      have h1' : atomErr ps ⟨r.head.pred, r.head.args⟩ = 0 := h1
      have h3' : (3 : Int) < (r.body.length : Int) := by omega
      clear h1 HX HPX
      go_enter Tryz.func25, Tryz.ntmps25
      go_wp2_with fail
      refine (checkAtom_c _ _ _ ps _ _ (HP.out _ (by exact below_alloc _ _)) (HH.out _ (by exact below_alloc _ _))).mono ?_
      rintro e w1 ⟨rfl, hb1⟩
      have c4 : w1.cell? ⟨w.heap.size, 4, none⟩ = some (.slice a r.body.length cap) := by rw [hb1.cell (p := ⟨w.heap.size, 4, none⟩) (by simp)]; simp [go_sem]
      go_wp2_with fail
      go_ret
      exact ⟨rfl, below_trans (below_alloc _ _) hb1⟩
    · have h1' : atomErr ps ⟨r.head.pred, r.head.args⟩ = 0 := h1
      have H1 : Hid (atomErr ps r.head = 0) := h1
      have h3' : ¬ (3 : Int) < (r.body.length : Int) := by omega
      clear h1
      go_enter Tryz.func25, Tryz.ntmps25
      go_wp2_with fail
      refine (checkAtom_c _ _ _ ps _ _ (HP.out _ (by exact below_alloc _ _)) (HH.out _ (by exact below_alloc _ _))).mono ?_
      rintro e w1 ⟨rfl, hb1⟩
      have c4 : w1.cell? ⟨w.heap.size, 4, none⟩ = some (.slice a r.body.length cap) := by rw [hb1.cell (p := ⟨w.heap.size, 4, none⟩) (by simp)]; simp [go_sem]
      have HB1 : Hid (Below (w.heap.size + 1) (w.alloc (.cells #[.int .i64 r.head.pred, .slice ha r.head.args.length hcap, .int .i64 r.src, .int .i64 r.n, .slice a r.body.length cap] 54)) w1) := hb1.mono (by simp)
      clear hb1
      go_wp2_with fail
      clear c4
      go_loopw [6] (fun i wr => ∃ j : Nat, j ≤ r.body.length ∧ i = .int .i64 j ∧ (r.body.take j).all (atomOk ps) = true ∧ Below (w.heap.size + 1) (w.alloc (.cells #[.int .i64 r.head.pred, .slice ha r.head.args.length hcap, .int .i64 r.src, .int .i64 r.n, .slice a r.body.length cap] 54)) wr) (fun i _ => r.body.length - (intOf i).toNat)
      case atStart => exact ⟨0, Nat.zero_le _, rfl, rfl, HB1.out⟩
      case round =>
        clear HB1
        obtain ⟨j, hj, rfl, hall, hbr⟩ := hrel
        have hbw : Below w.heap.size w wr := (below_alloc _ _).trans (hbr.mono (by omega))
        have y4 : wr.cell? ⟨w.heap.size, 4, none⟩ = some (.slice a r.body.length cap) := by rw [hbr.cell (p := ⟨w.heap.size, 4, none⟩) (by simp)]; simp [go_sem]
        by_cases hlt : j < r.body.length
        · obtain ⟨b', off', rfl, hbl', hx⟩ := HX.out.resolve_left (by intro e; rw [e] at hlt; simp at hlt)
          obtain ⟨ht1, ht2, ta, tc, ht3, ht4⟩ := (litAt.lasts w wr b' _ _ hbw hbl' (hx j r.body[j] (by simp [hlt]))).open
          have H : Hid ((r.body.take (j + 1)).all (atomOk ps) = atomOk ps r.body[j]) := by show _ = _; rw [all_take hlt, hall, Bool.true_and]
          have H2 : Hid (atomErr ps r.body[j].atom ≠ 0 → ruleErr ps r = atomErr ps r.body[j].atom) := fun hn => ruleErr_body H1.out h3 hlt hall hn
          clear hx hall HX HPX
          generalize r.body[j] = l at *
          obtain ⟨ln, lp, lt⟩ := l
          have HT : Hid (termsAt wr (.slice ta lt.length tc) lt) := ht4
          clear ht4
          go_wp2_with fail
          refine (checkAtom_c _ _ _ ps _ _ (HP.out _ hbw) HT.out).mono ?_
          rintro e w2 ⟨rfl, hb3⟩
          by_cases hn : atomErr ps ⟨lp, lt⟩ = 0
          · have H3 : Hid ((r.body.take (j + 1)).all (atomOk ps) = true) := by show _ = _; rw [H.out, atomOk]; simpa using hn
            clear H H2
            go_wp2_with fail
            go_roundw
            case rel => exact ⟨j + 1, by omega, by go_num, H3.out, hbr.trans (hb3.mono (by have := hbr.size; simp at this; omega))⟩
            case measure => simp [intOf]; omega
          · have H3 : Hid (ruleErr ps r = atomErr ps ⟨lp, lt⟩) := H2.out hn
            have hn' : (atomErr ps ⟨lp, lt⟩ != 0) = true := by simpa using hn
            clear H H2 hn
            go_wp2_with fail
            go_ret
            exact ⟨ret_int H3.out.symm, hbw.trans (hb3.mono hbw.size)⟩
        · have hall' : r.body.all (atomOk ps) = true := all_take_end hlt hall
          have hat : ∀ l ∈ r.body, isPred ps l.atom.pred = true ∧ l.atom.args.all termOk = true := fun l hl => atom_right (by have := List.all_eq_true.1 hall' l hl; simpa [atomOk] using this)
          have HAT : Hid (∀ l ∈ r.body, isPred ps l.atom.pred = true ∧ l.atom.args.all termOk = true) := hat
          have HF : Hid (∀ v : Nat, v < 3 → freeR r (v : Int) = true → ruleErr ps r = 9) := fun v hv h => ruleErr_free H1.out h3 hall' (anyFree_le hv h)
          have HV : Hid (anyFree r 3 = false → ruleErr ps r = valueErr ps r) := fun h => ruleErr_value H1.out h3 hall' (by rw [← anyFree_3]; exact h)
          have HB2 : Hid (Below (w.heap.size + 1) (w.alloc (.cells #[.int .i64 r.head.pred, .slice ha r.head.args.length hcap, .int .i64 r.src, .int .i64 r.n, .slice a r.body.length cap] 54)) wr) := hbr
          clear hall hall' hat hbr hbw
          go_wp2_with fail
          clear y4 hlt hj
          go_loopw [8] (fun i wr => ∃ j : Nat, j ≤ 3 ∧ i = .int .i64 j ∧ anyFree r j = false ∧ Below (w.heap.size + 1) (w.alloc (.cells #[.int .i64 r.head.pred, .slice ha r.head.args.length hcap, .int .i64 r.src, .int .i64 r.n, .slice a r.body.length cap] 54)) wr) (fun i _ => 3 - (intOf i).toNat)
          case atStart => exact ⟨0, Nat.zero_le _, rfl, rfl, HB2.out⟩
          case round =>
            clear HB2
            obtain ⟨v, hv, rfl, hfr, hbr⟩ := hrel
            have hbw : Below w.heap.size w wr := (below_alloc _ _).trans (hbr.mono (by omega))
            have y0 : wr.cell? ⟨w.heap.size, 0, none⟩ = some (.int .i64 r.head.pred) := by rw [hbr.cell (p := ⟨w.heap.size, 0, none⟩) (by simp)]; simp [go_sem]
            have y1 : wr.cell? ⟨w.heap.size, 1, none⟩ = some (.slice ha r.head.args.length hcap) := by rw [hbr.cell (p := ⟨w.heap.size, 1, none⟩) (by simp)]; simp [go_sem]
            have y2 : wr.cell? ⟨w.heap.size, 2, none⟩ = some (.int .i64 r.src) := by rw [hbr.cell (p := ⟨w.heap.size, 2, none⟩) (by simp)]; simp [go_sem]
            have y3 : wr.cell? ⟨w.heap.size, 3, none⟩ = some (.int .i64 r.n) := by rw [hbr.cell (p := ⟨w.heap.size, 3, none⟩) (by simp)]; simp [go_sem]
            have y4 : wr.cell? ⟨w.heap.size, 4, none⟩ = some (.slice a r.body.length cap) := by rw [hbr.cell (p := ⟨w.heap.size, 4, none⟩) (by simp)]; simp [go_sem]
            have hsz : w.heap.size < wr.heap.size := by have := hbr.size; simp at this; omega
            by_cases hlt : v < 3
            · have HN : Hid (freeR r (v : Int) = false → anyFree r (v + 1) = false) := fun h => by rw [anyFree_succ, hfr, h]; rfl
              have HFV : Hid (freeR r (v : Int) = true → ruleErr ps r = 9) := HF.out v hlt
              clear hfr HF HV
              go_wp2_with fail
              refine (stands_c _ _ _ _ r.head.args (HH.out _ hbw)).mono ?_
              rintro e w2 ⟨rfl, hb2⟩
              have HB3 : Hid (Below (w.heap.size + 1) (w.alloc (.cells #[.int .i64 r.head.pred, .slice ha r.head.args.length hcap, .int .i64 r.src, .int .i64 r.n, .slice a r.body.length cap] 54)) w2) := hbr.trans (hb2.mono (by have := hbr.size; simp at this; omega))
              clear y0 y1 y2 y3 y4 hb2
              go_wp2_with fail
              go_loopw [9, 10] (fun is i wr => ∃ k : Nat, k ≤ r.body.length ∧ i = .int .i64 k ∧ is = .bool (stands r.head.args (v : Int) || (r.body.take k).any fun l => stands l.atom.args (v : Int)) ∧ Below (w.heap.size + 1) (w.alloc (.cells #[.int .i64 r.head.pred, .slice ha r.head.args.length hcap, .int .i64 r.src, .int .i64 r.n, .slice a r.body.length cap] 54)) wr) (fun _ i _ => r.body.length - (intOf i).toNat)
              case atStart => exact ⟨0, Nat.zero_le _, rfl, by simp, HB3.out⟩
              case round =>
                clear HB3 hbw hbr
                obtain ⟨k, hk, rfl, rfl, hbr⟩ := hrel
                have hbw : Below w.heap.size w wr := (below_alloc _ _).trans (hbr.mono (by omega))
                have y0 : wr.cell? ⟨w.heap.size, 0, none⟩ = some (.int .i64 r.head.pred) := by rw [hbr.cell (p := ⟨w.heap.size, 0, none⟩) (by simp)]; simp [go_sem]
                have y1 : wr.cell? ⟨w.heap.size, 1, none⟩ = some (.slice ha r.head.args.length hcap) := by rw [hbr.cell (p := ⟨w.heap.size, 1, none⟩) (by simp)]; simp [go_sem]
                have y2 : wr.cell? ⟨w.heap.size, 2, none⟩ = some (.int .i64 r.src) := by rw [hbr.cell (p := ⟨w.heap.size, 2, none⟩) (by simp)]; simp [go_sem]
                have y3 : wr.cell? ⟨w.heap.size, 3, none⟩ = some (.int .i64 r.n) := by rw [hbr.cell (p := ⟨w.heap.size, 3, none⟩) (by simp)]; simp [go_sem]
                have y4 : wr.cell? ⟨w.heap.size, 4, none⟩ = some (.slice a r.body.length cap) := by rw [hbr.cell (p := ⟨w.heap.size, 4, none⟩) (by simp)]; simp [go_sem]
                by_cases hkt : k < r.body.length
                · obtain ⟨b', off', rfl, hbl', hx⟩ := HX.out.resolve_left (by intro e; rw [e] at hkt; simp at hkt)
                  obtain ⟨ht1, ht2, ta, tc, ht3, ht4⟩ := (litAt.lasts w wr b' _ _ hbw hbl' (hx k r.body[k] (by simp [hkt]))).open
                  have HS : Hid ((stands r.head.args (v : Int) || (r.body.take (k + 1)).any fun l => stands l.atom.args (v : Int)) = ((stands r.head.args (v : Int) || (r.body.take k).any fun l => stands l.atom.args (v : Int)) || stands r.body[k].atom.args (v : Int))) := by
                    show _ = _
                    rw [any_take hkt, Bool.or_assoc]
                  have HT : Hid (termsAt wr (.slice ta r.body[k].atom.args.length tc) r.body[k].atom.args) := ht4
                  clear hx ht4 HX HPX y0 y1 y2 y3 HN HFV
                  generalize r.body[k] = l at *
                  generalize (stands r.head.args (v : Int) || (r.body.take k).any fun l => stands l.atom.args (v : Int)) = B at *
                  cases B
                  · go_wp2_with fail
                    refine (stands_c _ _ _ _ l.atom.args HT.out).mono ?_
                    rintro e w3 ⟨rfl, hb3⟩
                    go_wp2_with fail
                    go_roundw
                    case rel => exact ⟨k + 1, by omega, by go_num, by rw [HS.out, Bool.false_or], hbr.trans (hb3.mono (by have := hbr.size; simp at this; omega))⟩
                    case measure => simp [intOf]; omega
                  · go_wp2_with fail
                    go_roundw
                    case rel => exact ⟨k + 1, by omega, by go_num, by rw [HS.out, Bool.true_or], hbr⟩
                    case measure => simp [intOf]; omega
                · have HA : Hid ((stands r.head.args (v : Int) || (r.body.take k).any fun l => stands l.atom.args (v : Int)) = asked r (v : Int)) := by show _ = _; rw [List.take_of_length_le (by omega)]; rfl
                  have HFR : Hid (freeR r (v : Int) = (asked r (v : Int) && !bound r (v : Int))) := rfl
                  rw [HA.out]
                  clear HA HPX HX
                  cases hask : asked r (v : Int)
                  · have HN' : Hid (anyFree r (v + 1) = false) := HN.out (by rw [HFR.out, hask]; rfl)
                    clear HN HFV HFR y0 y1 y2 y3
                    go_wp2_with fail
                    go_roundw
                    case rel => exact ⟨v + 1, by omega, by go_num, HN'.out, hbr⟩
                    case measure => simp [intOf]; omega
                  · go_wp2_with fail
                    refine (bound_c _ r _ _ _ (HB.out _ hbw)).mono ?_
                    rintro e w3 ⟨rfl, hb3⟩
                    cases hbd : bound r (v : Int)
                    · have HR : Hid (ruleErr ps r = 9) := HFV.out (by rw [HFR.out, hask, hbd]; rfl)
                      clear HN HFV HFR y0 y1 y2 y3 y4
                      go_wp2_with fail
                      go_ret
                      exact ⟨ret_int HR.out.symm, hbw.trans (hb3.mono hbw.size)⟩
                    · have HN' : Hid (anyFree r (v + 1) = false) := HN.out (by rw [HFR.out, hask, hbd]; rfl)
                      clear HN HFV HFR y0 y1 y2 y3 y4
                      go_wp2_with fail
                      go_roundw
                      case rel => exact ⟨v + 1, by omega, by go_num, HN'.out, hbr.trans (hb3.mono (by have := hbr.size; simp at this; omega))⟩
                      case measure => simp [intOf]; omega
            · have HR : Hid (ruleErr ps r = valueErr ps r) := HV.out (by obtain rfl : v = 3 := (by omega); exact hfr)
              clear HF HV hfr
              obtain ⟨m, hk, hhp⟩ := isPred_iff.1 (atom_right H1.out).1
              obtain ⟨b, off, rfl, hbl, hpx⟩ := HPX.out.resolve_left (by rintro rfl; simp at hk)
              obtain ⟨_, _, hc2⟩ := predAt.lasts w wr b _ _ hbw hbl (hpx m ps[m] (by simp [hk]))
              have hka : kindOf ps r.head.pred = ps[m].kind := by rw [hhp]; simp [kindOf, hk]
              rw [hhp] at y0
              clear hpx
              by_cases g1 : r.src < -1 ∨ (r.body.length : Int) ≤ r.src
              · have HE : Hid (ruleErr ps r = 3) := HR.out.trans (valueErr_range g1)
                have hw1 : within r.src (-1) ((r.body.length : Int) - 1) = false := by simp [within]; omega
                clear g1 HX HPX hka hhp H1
                go_wp2_with (go_at_call 24; refine (within_c _ _ _ _).mono ?_; rintro e w' ⟨rfl, rfl⟩)
                go_ret
                exact ⟨ret_int HE.out.symm, hbw⟩
              · have hw1 : within r.src (-1) ((r.body.length : Int) - 1) = true := by simp [within]; omega
                by_cases h0 : ps[m].kind = 0
                · have h0' : (ps[m].kind == 0) = true := by simp [h0]
                  by_cases g2 : r.src = -1
                  · have g2' : (r.src != -1) = false := by simp [g2]
                    have g3' : decide (0 ≤ r.src) = false := by simp; omega
                    by_cases g3 : r.n = 0
                    · have HE : Hid (ruleErr ps r = 0) := HR.out.trans (by rw [valueErr_n g1 (fun _ => ⟨g2, g3⟩) (fun g => by omega), if_neg (by omega)])
                      have g4' : (r.n != 0) = false := by simp [g3]
                      have hw2 : within r.n 0 15 = true := by simp [within]; omega
                      clear g1 HX HPX hka hhp H1 h0 g2 g3
                      go_wp2_with (go_at_call 24; refine (within_c _ _ _ _).mono ?_; rintro e w' ⟨rfl, rfl⟩)
                      go_ret
                      exact ⟨ret_int HE.out.symm, hbw⟩
                    · have HE : Hid (ruleErr ps r = 1) := HR.out.trans (valueErr_plain g1 (hka.trans h0) (.inr g3))
                      have g4' : (r.n != 0) = true := by simpa using g3
                      clear g1 HX HPX hka hhp H1 h0 g2 g3
                      go_wp2_with (go_at_call 24; refine (within_c _ _ _ _).mono ?_; rintro e w' ⟨rfl, rfl⟩)
                      go_ret
                      exact ⟨ret_int HE.out.symm, hbw⟩
                  · have HE : Hid (ruleErr ps r = 1) := HR.out.trans (valueErr_plain g1 (hka.trans h0) (.inl g2))
                    have g2' : (r.src != -1) = true := by simpa using g2
                    clear g1 HX HPX hka hhp H1 h0 g2
                    go_wp2_with (go_at_call 24; refine (within_c _ _ _ _).mono ?_; rintro e w' ⟨rfl, rfl⟩)
                    go_ret
                    exact ⟨ret_int HE.out.symm, hbw⟩
                · have h0' : (ps[m].kind == 0) = false := by simpa using h0
                  by_cases g2 : 0 ≤ r.src
                  · have g2' : decide (0 ≤ r.src) = true := by simpa using g2
                    obtain ⟨j, hjs⟩ : ∃ j : Nat, r.src = (j : Int) := ⟨r.src.toNat, by omega⟩
                    have hjl : j < r.body.length := by omega
                    obtain ⟨b', off', rfl, hbl', hx⟩ := HX.out.resolve_left (by intro e; rw [e] at hjl; simp at hjl)
                    obtain ⟨ht1, ht2, ta, tc, ht3, _⟩ := (litAt.lasts w wr b' _ _ hbw hbl' (hx j r.body[j] (by simp [hjl]))).open
                    obtain ⟨q, hq, hql⟩ := isPred_iff.1 (HAT.out r.body[j] (List.getElem_mem hjl)).1
                    obtain ⟨b2, off2, e2, hbl2, hpx⟩ := HPX.out.resolve_left (by rintro rfl; simp at hk)
                    obtain ⟨rfl, rfl⟩ : b = b2 ∧ off = off2 := by simpa using e2
                    obtain ⟨_, _, hd2⟩ := predAt.lasts w wr b _ _ hbw hbl2 (hpx q ps[q] (by simp [hq]))
                    have hkl : kindOf ps r.body[j].atom.pred = ps[q].kind := by rw [hql]; simp [kindOf, hq]
                    have hhd : handed ps r = (!r.body[j].neg && ps[q].kind == ps[m].kind) := by simp [handed, hjs, hjl, hka, hkl]
                    rw [hql] at ht2
                    have HVH : Hid (handed ps r = false → valueErr ps r = 1) := fun g => valueErr_hand g1 (by rw [hka]; exact h0) g2 g
                    have HVN : Hid (handed ps r = true → valueErr ps r = if r.n < 0 ∨ 15 < r.n then 3 else 0) := fun g => valueErr_n g1 (fun e => absurd (hka.symm.trans e) h0) (fun _ => g)
                    have HHD : Hid (handed ps r = (!r.body[j].neg && ps[q].kind == ps[m].kind)) := hhd
                    have HJS : Hid (r.src = (j : Int)) := hjs
                    rw [HJS.out] at y2 hw1 g2'
                    clear hx hpx hka hhp hkl hhd hjs g1 g2 h0 HX HPX H1 hql e2
                    cases hln : r.body[j].neg
                    · rw [hln] at ht1 HHD
                      cases hkk : (ps[q].kind == ps[m].kind)
                      · have HE : Hid (ruleErr ps r = 1) := HR.out.trans (HVH.out (by rw [HHD.out, hkk]; rfl))
                        have hkk' : (ps[q].kind != ps[m].kind) = true := by simpa using hkk
                        clear HVH HVN HHD HJS hkk
                        go_wp2_with (go_at_call 24; refine (within_c _ _ _ _).mono ?_; rintro e w' ⟨rfl, rfl⟩)
                        go_ret
                        exact ⟨ret_int HE.out.symm, hbw⟩
                      · have HV2 : Hid (ruleErr ps r = if r.n < 0 ∨ 15 < r.n then 3 else 0) := HR.out.trans (HVN.out (by rw [HHD.out, hkk]; rfl))
                        have hkk' : (ps[q].kind != ps[m].kind) = false := by simpa using hkk
                        clear HVH HVN HHD HJS hkk
                        cases hw2 : within r.n 0 15
                        · have HE : Hid (ruleErr ps r = 3) := HV2.out.trans (if_pos (show r.n < 0 ∨ 15 < r.n by simp [within] at hw2; omega))
                          go_wp2_with (go_at_call 24; refine (within_c _ _ _ _).mono ?_; rintro e w' ⟨rfl, rfl⟩)
                          go_ret
                          exact ⟨ret_int HE.out.symm, hbw⟩
                        · have HE : Hid (ruleErr ps r = 0) := HV2.out.trans (if_neg (show ¬ (r.n < 0 ∨ 15 < r.n) by simp [within] at hw2; omega))
                          go_wp2_with (go_at_call 24; refine (within_c _ _ _ _).mono ?_; rintro e w' ⟨rfl, rfl⟩)
                          go_ret
                          exact ⟨ret_int HE.out.symm, hbw⟩
                    · rw [hln] at ht1 HHD
                      have HE : Hid (ruleErr ps r = 1) := HR.out.trans (HVH.out (by rw [HHD.out]; rfl))
                      clear HVH HVN HHD HJS
                      go_wp2_with (go_at_call 24; refine (within_c _ _ _ _).mono ?_; rintro e w' ⟨rfl, rfl⟩)
                      go_ret
                      exact ⟨ret_int HE.out.symm, hbw⟩
                  · have g2' : decide (0 ≤ r.src) = false := by simpa using g2
                    have HV2 : Hid (ruleErr ps r = if r.n < 0 ∨ 15 < r.n then 3 else 0) := HR.out.trans (valueErr_n g1 (fun e => absurd (hka.symm.trans e) h0) (fun e => absurd e g2))
                    clear g1 HX HPX hka hhp H1 h0 g2
                    cases hw2 : within r.n 0 15
                    · have HE : Hid (ruleErr ps r = 3) := HV2.out.trans (if_pos (show r.n < 0 ∨ 15 < r.n by simp [within] at hw2; omega))
                      go_wp2_with (go_at_call 24; refine (within_c _ _ _ _).mono ?_; rintro e w' ⟨rfl, rfl⟩)
                      go_ret
                      exact ⟨ret_int HE.out.symm, hbw⟩
                    · have HE : Hid (ruleErr ps r = 0) := HV2.out.trans (if_neg (show ¬ (r.n < 0 ∨ 15 < r.n) by simp [within] at hw2; omega))
                      go_wp2_with (go_at_call 24; refine (within_c _ _ _ _).mono ?_; rintro e w' ⟨rfl, rfl⟩)
                      go_ret
                      exact ⟨ret_int HE.out.symm, hbw⟩
  · rw [ruleErr_head h1]
    have h1' : (atomErr ps ⟨r.head.pred, r.head.args⟩ != 0) = true := by simpa using h1
    clear h1 HX HPX
    go_enter Tryz.func25, Tryz.ntmps25
    go_wp2_with fail
    refine (checkAtom_c _ _ _ ps _ _ (HP.out _ (by exact below_alloc _ _)) (HH.out _ (by exact below_alloc _ _))).mono ?_
    rintro e w1 ⟨rfl, hb1⟩
    go_wp2_with fail
    go_ret
    exact ⟨rfl, below_trans (below_alloc _ _) hb1⟩
end Go.Proofs.YtlfccloaoopadafGreatDoor.Rule
