/-
  Questions, in plain words: of variables that differ all facts of a predicate fit; a constant for a variable leaves no more, and all of it was there.
-/
import Derived.Test.YtlfccloaoopadafGreatG10
import Derived.Test.YtlfccloaoopadafGreatG23
namespace Go.Proofs.YtlfccloaoopadafGreat.Ask
open Rule (atomErr arityOf isPred argsErr termOk kindOf factFine)
open Base (factsErr factsErr_zero right_of under)
open Fire (roundErr)

/-- the variables 0 .. n-1 -/
def varsL (n : Nat) : List Tm := (List.range n).map fun i : Nat => ⟨true, (i : Int)⟩
@[simp] theorem vars_len (n : Nat) : (varsL n).length = n := by simp [varsL]
theorem vars_succ (n : Nat) : varsL (n + 1) = varsL n ++ [⟨true, (n : Int)⟩] := by simp [varsL, List.range_succ]
theorem vars_fit (x : Fct) : ∀ {n : Nat}, n ≤ 2 → fitsL x (varsL n) = true
  | 0, _ => rfl
  | 1, _ => rfl
  | 2, _ => rfl
  | n + 3, h => by omega
/-- the facts of a predicate -/
def ofP (k : Int) (f : List Fct) : List Fct := f.filter fun x => x.pred == k
theorem ofP_take {k : Int} {f : List Fct} {i : Nat} (h : i < f.length) : ofP k (f.take (i + 1)) = ofP k (f.take i) ++ if f[i].pred == k then [f[i]] else [] := by
  unfold ofP
  rw [List.take_add_one, List.getElem?_eq_getElem h, Option.toList_some, List.filter_append, List.filter_cons, List.filter_nil]
theorem match_vars {f : List Fct} {k : Int} {n : Nat} (h : n ≤ 2) : matchL f ⟨k, varsL n⟩ = ofP k f := by
  unfold matchL ofP
  congr 1
  funext x
  show (x.pred == k && fitsL x (varsL n)) = _
  rw [vars_fit x h, Bool.and_true]
theorem match_less {f : List Fct} {a : Atm} : (matchL f a).length ≤ (ofP a.pred f).length := by
  have : matchL f a = (ofP a.pred f).filter fun x => fitsL x a.args := by
    unfold matchL ofP
    rw [List.filter_filter]
    congr 1
    funext x
    exact Bool.and_comm _ _
  rw [this]
  exact List.length_filter_le _ _
/-- a constant instead of the first variable -/
def constL (n : Nat) (c : Int) : List Tm := (varsL n).set 0 ⟨false, c⟩
@[simp] theorem const_len (n : Nat) (c : Int) : (constL n c).length = n := by simp [constL]
theorem const_fit {x : Fct} {c : Int} : ∀ {n : Nat}, 0 < n → n ≤ 2 → fitsL x (constL n c) = true → x.a = c
  | 0, h, _, _ => by omega
  | 1, _, _, h => by
    have h' : (true && (c == x.a)) = true := h
    simp at h'
    exact h'.symm
  | 2, _, _, h => by
    have h' : ((true && (c == x.a)) && fitAt x (constL 2 c) 1 ⟨true, 1⟩) = true := h
    simp at h'
    exact h'.1.symm
  | n + 3, _, h, _ => by omega
theorem const_mem {f : List Fct} {k c : Int} {n : Nat} (h0 : 0 < n) (h2 : n ≤ 2) : ∀ x ∈ matchL f ⟨k, constL n c⟩, x.a = c ∧ x.pred = k := fun x hx => by
  have h := (List.mem_filter.1 hx).2
  unfold fitsA at h
  rw [Bool.and_eq_true] at h
  exact ⟨const_fit h0 h2 h.2, by simpa using h.1⟩
theorem vars_ok {n : Nat} (h : n ≤ 2) : argsErr (varsL n) = 0 := by
  match n, h with
  | 0, _ => rfl
  | 1, _ => rfl
  | 2, _ => rfl
theorem const_ok {n : Nat} {c : Int} (h : n ≤ 2) (hc : 0 ≤ c ∧ c ≤ 4) : argsErr (constL n c) = 0 := by
  have ht : termOk ⟨false, c⟩ = true := by simp [termOk, Lat.within, hc.1, hc.2]
  match n, h with
  | 0, _ => rfl
  | 1, _ => simp [argsErr, constL, varsL, ht]
  | 2, _ =>
    have : termOk ⟨true, 1⟩ = true := rfl
    simp [argsErr, constL, varsL, List.range_succ, ht, this]
theorem atom_ok {ps : List Prd} {k : Nat} (h : k < ps.length) {ts : List Tm} (ha : (ts.length : Int) = ps[k].arity) (ht : argsErr ts = 0) : atomErr ps ⟨(k : Int), ts⟩ = 0 := by
  unfold atomErr
  rw [if_pos (Rule.isPred_iff.2 ⟨k, h, rfl⟩), if_pos, ht]
  show (ts.length : Int) = arityOf ps (k : Int)
  rw [ha]
  simp [arityOf, h]
theorem match_right {ps : List Prd} {f : List Fct} {a : Atm} (h : factsErr ps f = 0) : factsErr ps (matchL f a) = 0 :=
  Round.factsErr_of (factsErr_zero h).1 (factsErr_zero h).2.1 (List.Pairwise.filter _ (right_of h).sorted) fun x hx => Base.facts_fine h x (List.mem_filter.1 hx).1
theorem match_under {ps : List Prd} {f : List Fct} {a : Atm} (h : factsErr ps f = 0) : under (kindOf ps) (matchL f a) f = true := by
  have hr := right_of h
  refine (Base.under_iff (right_of (match_right (a := a) h))).2 fun pl v hv => ?_
  obtain ⟨x, hx, rfl, rfl⟩ := Base.get_mem hv
  have hx' := (List.mem_filter.1 hx).1
  exact ⟨x.val, Base.mem_get hr.sorted hx', Lat.le_self (Base.get_err hr (Base.mem_get hr.sorted hx'))⟩
end Go.Proofs.YtlfccloaoopadafGreat.Ask
