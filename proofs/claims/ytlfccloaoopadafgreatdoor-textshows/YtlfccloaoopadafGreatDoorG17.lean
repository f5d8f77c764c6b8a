/-
  The developers' 'Name', and the four questions that are put to predicates.
-/
import Derived.StringKeys
import Derived.Maps.OwnSet
import Derived.Laws.IdiomStrings
import Derived.Test.YtlfccloaoopadafGreatDoorG9
namespace Go.Proofs.YtlfccloaoopadafGreatDoor.Prog
open Go.ChangeShapes Go.WideShapes Go.ChangeAt Go.RowKit Go.Maps
open Lat (within within_c)
open Base (byteAt bytesAt byteV predV Asks containsByte_c containsPred_c)

def notLetter (q : Nat) : Bool := !letter q
theorem notLetter_low {q : Nat} (h : (q : Int) < 97) : notLetter q = true := by unfold notLetter letter; simp; omega
theorem notLetter_high {q : Nat} (h : 122 < (q : Int)) : notLetter q = true := by unfold notLetter letter; simp; omega
theorem notLetter_not {q : Nat} (h : ¬ (q : Int) < 97) (h' : ¬ 122 < (q : Int)) : notLetter q = false := by unfold notLetter letter; simp; omega

set_option maxRecDepth 100000 in
set_option maxHeartbeats 4000000 in
theorem nameChar_c (q : Nat) (w : World) : Calls Tryz.prog 152 #[.int .u8 (q : Int)] w fun e w' => e = .returned (.bool (notLetter q)) ∧ Below w.heap.size w w' := by
  by_cases h : (q : Int) < 97
  · rw [notLetter_low h]
    go_enter Tryz.func152, Tryz.ntmps152
    go_wp2_with fail
    go_ret
    exact ⟨rfl, Below.refl _ _⟩
  · by_cases h' : 122 < (q : Int)
    · rw [notLetter_high h']
      go_enter Tryz.func152, Tryz.ntmps152
      go_wp2_with fail
      go_ret
      exact ⟨rfl, Below.refl _ _⟩
    · rw [notLetter_not h h']
      go_enter Tryz.func152, Tryz.ntmps152
      go_wp2_with fail
      go_ret
      exact ⟨rfl, Below.refl _ _⟩

theorem cell_fresh (w : World) (C : Array Value) (t : TypeId) (f : Nat × Nat) (i : Nat) : (w.alloc (.cells C t f)).cell? ⟨w.heap.size, i, none⟩ = C[i]? := by
  unfold World.cell?
  have e : (w.alloc (.cells C t f)).heap[(⟨w.heap.size, i, none⟩ : Addr).block]? = some (.cells C t f) := by
    show (w.heap.push (.cells C t f))[w.heap.size]? = _
    simp
  rw [e]
  rfl
theorem any_notLetter (l : List Nat) : l.any notLetter = !l.all letter := by
  induction l with
  | nil => rfl
  | cons x l ih => rw [List.any_cons, List.all_cons, ih, notLetter]; cases letter x <;> rfl

set_option maxRecDepth 100000 in
set_option maxHeartbeats 4000000 in
theorem name_c (w : World) (s : ByteArray) (hm : s.size ≤ 9223372036854775807) :
    Calls Tryz.prog 120 #[.string s] w fun e w' => e = .returned (.bool (isName s)) ∧ Below w.heap.size w w' := by
  by_cases h1 : s.size < 1
  · have e : isName s = false := by
      have : within (s.size : Int) 1 8 = false := by unfold within; simp; omega
      rw [isName, this, Bool.and_false]
    rw [e]
    have h1' : (s.size : Int) < 1 := by omega
    go_enter Tryz.func120, Tryz.ntmps120
    go_wp2_with fail
    go_ret
    exact ⟨rfl, Below.refl _ _⟩
  by_cases h8 : 8 < s.size
  · have e : isName s = false := by
      have : within (s.size : Int) 1 8 = false := by unfold within; simp; omega
      rw [isName, this, Bool.and_false]
    rw [e]
    have h1' : ¬ (s.size : Int) < 1 := by omega
    have h8' : 8 < (s.size : Int) := by omega
    go_enter Tryz.func120, Tryz.ntmps120
    go_wp2_with fail
    go_ret
    exact ⟨rfl, Below.refl _ _⟩
  have e : isName s = !(bytes s).any notLetter := by
    have : within (s.size : Int) 1 8 = true := by unfold within; simp; omega
    rw [isName, this, Bool.and_true, any_notLetter, Bool.not_not]
  rw [e]
  have h1' : ¬ (s.size : Int) < 1 := by omega
  have h8' : ¬ 8 < (s.size : Int) := by omega
  have hconv := fun w => run_bytes_of_string (P := Tryz.prog) w 9 100 5 s Tryz.underlying9 Tryz.underlying100 Tryz.underlying5
  go_enter Tryz.func120, Tryz.ntmps120
  go_wp2_with fail
  clear hconv
  obtain ⟨W1, hW1⟩ : ∃ W1, (w.alloc (Obj.cells (bytesRow s (grownCap w s.size 0 5)) 5 ((bytesRow s (grownCap w s.size 0 5)).size, (bytesRow s (grownCap w s.size 0 5)).size + 1))).drew = W1 := ⟨_, rfl⟩
  have hbl : Below w.heap.size w W1 := by rw [← hW1]; exact (below_alloc _ _).drew
  have hat : bytesAt W1 (.slice (some ⟨w.heap.size, 0, none⟩) s.size (grownCap w s.size 0 5)) (bytes s) := by
    refine ⟨_, _, by rw [bytes_length], by rw [bytes_length]; omega, .inr ⟨w.heap.size, 0, rfl, by rw [← hW1]; simp [World.drew], fun i x hi => ?_⟩⟩
    have hlt : i < (bytes s).length := (List.getElem?_eq_some_iff.1 hi).1
    have hlt' : i < s.size := by rwa [bytes_length] at hlt
    rw [List.getElem?_eq_getElem hlt, bytes_at hlt'] at hi
    rw [← Option.some.inj hi, ← hW1]
    have := bytesRow_at s (grownCap w s.size 0 5) i hlt'
    show (w.alloc _).cell? _ = _
    rw [Nat.zero_add, Nat.mul_one, cell_fresh, this]
    rfl
  rw [hW1]
  refine (containsByte_c W1 _ (bytes s) _ #[] (enters_of Tryz.func152 (by kernel_rfl) rfl) notLetter hat (fun w1 q _ _ => nameChar_c q w1)).mono ?_
  rintro e w1 ⟨rfl, hb1⟩
  go_wp2_with fail
  go_ret
  exact ⟨rfl, below_trans hbl hb1⟩

/-! ### The four questions -/
set_option maxRecDepth 100000 in
set_option maxHeartbeats 4000000 in
theorem ask1_c (q : Prd) (w : World) (h : q.name.size ≤ 9223372036854775807) : Calls Tryz.prog 119 #[predV q] w fun e w' => e = .returned (.bool (badName q)) ∧ Below w.heap.size w w' := by
  rw [badName, predV]
  go_enter Tryz.func119, Tryz.ntmps119
  go_wp2_with (first | (go_at_call 120; refine (name_c _ _ h).mono ?_; rintro e w1 ⟨rfl, hb1⟩))
  go_ret
  exact ⟨rfl, below_trans (below_alloc _ _) hb1⟩
theorem within_low {n a b : Int} (h : n < a) : within n a b = false := by unfold within; simp; omega
theorem within_high {n a b : Int} (h : b < n) : within n a b = false := by unfold within; simp; omega
theorem within_not {n a b : Int} (h : ¬ n < a) (h' : ¬ b < n) : within n a b = true := by unfold within; simp; omega
set_option maxRecDepth 100000 in
set_option maxHeartbeats 4000000 in
theorem ask3_c (q : Prd) (w : World) : Calls Tryz.prog 122 #[predV q] w fun e w' => e = .returned (.bool (badArity q)) ∧ Below w.heap.size w w' := by
  rw [badArity, predV]
  by_cases h : q.arity < 0
  · rw [within_low h]
    go_enter Tryz.func122, Tryz.ntmps122
    go_wp2_with fail
    go_ret
    exact ⟨rfl, below_alloc _ _⟩
  · by_cases h' : 2 < q.arity
    · rw [within_high h']
      go_enter Tryz.func122, Tryz.ntmps122
      go_wp2_with fail
      go_ret
      exact ⟨rfl, below_alloc _ _⟩
    · rw [within_not h h']
      go_enter Tryz.func122, Tryz.ntmps122
      go_wp2_with fail
      go_ret
      exact ⟨rfl, below_alloc _ _⟩
set_option maxRecDepth 100000 in
set_option maxHeartbeats 4000000 in
theorem ask4_c (q : Prd) (w : World) : Calls Tryz.prog 123 #[predV q] w fun e w' => e = .returned (.bool (badKind q)) ∧ Below w.heap.size w w' := by
  rw [badKind, predV]
  by_cases h : q.kind < 0
  · rw [within_low h]
    go_enter Tryz.func123, Tryz.ntmps123
    go_wp2_with fail
    go_ret
    exact ⟨rfl, below_alloc _ _⟩
  · by_cases h' : 3 < q.kind
    · rw [within_high h']
      go_enter Tryz.func123, Tryz.ntmps123
      go_wp2_with fail
      go_ret
      exact ⟨rfl, below_alloc _ _⟩
    · rw [within_not h h']
      go_enter Tryz.func123, Tryz.ntmps123
      go_wp2_with fail
      go_ret
      exact ⟨rfl, below_alloc _ _⟩

/-! ### How often a name stands there -/
def cntN (ps : List Prd) (s : ByteArray) : Nat := ps.countP (sameAs s)
theorem cntN_take {ps : List Prd} {j : Nat} (h : j < ps.length) (s : ByteArray) : cntN (ps.take (j + 1)) s = cntN (ps.take j) s + if sameAs s ps[j] then 1 else 0 := by
  rw [cntN, List.take_succ_eq_append_getElem h, List.countP_append, List.countP_singleton]
  rfl
theorem cntN_le (ps : List Prd) (s : ByteArray) : cntN ps s ≤ ps.length := List.countP_le_length
theorem sameAs_eq {s : ByteArray} {q : Prd} : sameAs s q = true ↔ q.name.data.toList = s.data.toList := by
  rw [sameAs, ByteArray.toList_eq, ByteArray.toList_eq]
  simp
theorem cntN_one {ps : List Prd} (j : Nat) (hj : j ≤ ps.length) (h : (List.range j).any (twiceAt ps) = false) (s : ByteArray) : cntN (ps.take j) s ≤ 1 := by
  induction j with
  | zero => simp [cntN]
  | succ j ih =>
    rw [range_succ, Bool.or_eq_false_iff] at h
    have hj' : j < ps.length := by omega
    have := ih (by omega) h.1
    rw [cntN_take hj']
    split
    · rename_i hs
      have h2 := h.2
      rw [twiceAt, name_at hj'] at h2
      have h3 : cntN (ps.take j) s = 0 := by
        rw [cntN, List.countP_eq_zero]
        intro q hq hqs
        have h4 := List.any_eq_false.1 h2 q hq
        apply h4
        rw [sameAs_eq] at hqs hs ⊢
        rw [hqs, hs]
      omega
    · omega
def often (ps : List Prd) (q : Prd) : Bool := decide (1 < cntN ps q.name)
theorem twice_often (ps : List Prd) : ps.any (often ps) = twice ps := by
  rw [twice_eq]
  cases h : (List.range ps.length).any (twiceAt ps)
  · rw [List.any_eq_false]
    intro q _ hq
    have := cntN_one ps.length (Nat.le_refl _) h q.name
    rw [List.take_length] at this
    have := of_decide_eq_true hq
    omega
  · obtain ⟨k, hk, ht⟩ := List.any_eq_true.1 h
    have hk := List.mem_range.1 hk
    refine List.any_eq_true.2 ⟨ps[k], List.getElem_mem hk, decide_eq_true ?_⟩
    rw [twiceAt, name_at hk] at ht
    have h1 : 0 < cntN (ps.take k) ps[k].name := List.countP_pos_iff.2 (List.any_eq_true.1 ht)
    have h2 := cntN_take hk ps[k].name
    rw [if_pos (by rw [sameAs_eq])] at h2
    have h3 : cntN (ps.take (k + 1)) ps[k].name ≤ cntN ps ps[k].name := by
      have := congrArg (List.countP (sameAs ps[k].name)) (List.take_append_drop (k + 1) ps)
      rw [List.countP_append] at this
      unfold cntN
      omega
    omega
end Go.Proofs.YtlfccloaoopadafGreatDoor.Prog
