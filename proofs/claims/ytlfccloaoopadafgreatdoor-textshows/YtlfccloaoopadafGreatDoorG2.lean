/-
  The library's slices.IndexFunc and slices.ContainsFunc, at predicates, at facts and at bytes, for whatever question is handed to them.
-/
import Derived.Shelf.Abstract
import Derived.Test.YtlfccloaoopadafGreatDoorChecked
import Derived.Test.YtlfccloaoopadafGreatDoorG1
namespace Go.Proofs.YtlfccloaoopadafGreatDoor.Base
open Go.ChangeShapes Go.WideShapes Go.ChangeAt Go.RowKit

def byteAt (w : World) (b o : Nat) (x : Nat) : Prop := w.cell? ⟨b, o, none⟩ = some (.int .u8 (x : Int))
abbrev bytesAt : World → Value → List Nat → Prop := sliceAt 1 byteAt
def predV (q : Prd) : Value := .agg #[.string q.name, .int .i64 q.arity, .int .i64 q.kind]
def factV (q : Fct) : Value := .agg #[.int .i64 q.pred, .int .i64 q.a, .int .i64 q.b, .int .i64 q.val]
def byteV (q : Nat) : Value := .int .u8 (q : Int)
/-- asked of a value in any world where nothing old is turned, the function value says p and turns nothing old -/
def Asks {α : Type} (V : α → Value) (g : Nat) (lb : Array Value) (p : α → Bool) (xs : List α) (w : World) : Prop :=
  ∀ (w1 : World) (q : α), Below w.heap.size w w1 → q ∈ xs → Calls Tryz.prog g (#[V q] ++ lb) w1 fun e w' => e = .returned (.bool (p q)) ∧ Below w1.heap.size w1 w'

set_option maxRecDepth 100000 in
set_option maxHeartbeats 4000000 in
theorem indexPred_c (w : World) (xv : Value) (xs : List Prd) (g : Nat) (lb : Array Value) (eg : ∀ args w, (callFunc g args).run Tryz.prog w = .ok (.enter g args) w) (p : Prd → Bool) (hx : predsAt w xv xs) (hp : Asks predV g lb p xs w) :
    Calls Tryz.prog 87 #[xv, .func (.func g) #[] lb] w fun e w' => ∃ i : Int, e = .returned (.int .i64 i) ∧ decide (0 ≤ i) = xs.any p ∧ Below w.heap.size w w' := by
  obtain ⟨xa, xc, rfl, hm, hx⟩ := hx
  have HX : Hid (xs = [] ∨ ∃ b off, xa = some ⟨b, off, none⟩ ∧ b < w.heap.size ∧ ∀ i x, xs[i]? = some x → predAt w b (off + i * 3) x) := hx
  have HP : Hid (Asks predV g lb p xs w) := hp
  clear hx hp
  go_enter Tryz.func87, Tryz.ntmps87
  go_wp2_with fail
  go_loopw [8] (fun i wr => ∃ j : Nat, j ≤ xs.length ∧ i = .int .i64 j ∧ (xs.take j).any p = false ∧ Below w.heap.size w wr) (fun i _ => xs.length - (intOf i).toNat)
  case atStart => exact ⟨0, Nat.zero_le _, rfl, rfl, Below.refl _ _⟩
  case round =>
    obtain ⟨j, hj, rfl, hno, hbw⟩ := hrel
    by_cases hlt : j < xs.length
    · obtain ⟨b, off, rfl, hbl, hx⟩ := HX.out.resolve_left (by rintro rfl; simp at hlt)
      have hcall := HP.out wr xs[j] hbw (List.getElem_mem hlt)
      have HT : Hid ((xs.take (j + 1)).any p = p xs[j]) := by show _ = _; rw [any_take hlt, hno, Bool.false_or]
      have HY : Hid (p xs[j] = true → xs.any p = true) := fun h => any_of hlt h
      have hcell := hx j xs[j] (by simp [hlt])
      have hjl : (j : Int) < (xs.length : Int) := by omega
      have hj0 : (0 : Int) ≤ (j : Int) := by omega
      clear hx hno HP HX
      generalize xs[j] = q at *
      obtain ⟨qn, qa, qk⟩ := q
      obtain ⟨t0, t1, t2⟩ := hcell
      replace t0 := (cell_lasts hbw hbl).trans t0
      replace t1 := (cell_lasts hbw hbl).trans t1
      replace t2 := (cell_lasts hbw hbl).trans t2
      simp only [predV] at hcall
      dsimp only at t0 t1 t2
      cases hq : p ⟨qn, qa, qk⟩
      · rw [hq] at hcall HT
        clear HY
        go_wp2_with (go_at_fn g; refine hcall.mono ?_; rintro e w1 ⟨rfl, hb1⟩)
        go_roundw
        case rel => exact ⟨j + 1, by omega, by go_num, HT.out, hbw.trans (hb1.mono hbw.size)⟩
        case measure => simp [intOf]; omega
      · rw [hq] at hcall HY
        have HY' : Hid (xs.any p = true) := HY.out rfl
        clear HT HY
        go_wp2_with (go_at_fn g; refine hcall.mono ?_; rintro e w1 ⟨rfl, hb1⟩)
        go_ret
        exact ⟨(j : Int), rfl, by rw [HY'.out]; simp, hbw.trans (hb1.mono hbw.size)⟩
    · have HE : Hid (xs.any p = false) := any_take_end hlt hno
      clear hno HP HX
      go_wp2_with fail
      go_ret
      exact ⟨-1, rfl, by rw [HE.out]; decide, hbw⟩

theorem containsPred_c (w : World) (xv : Value) (xs : List Prd) (g : Nat) (lb : Array Value) (eg : ∀ args w, (callFunc g args).run Tryz.prog w = .ok (.enter g args) w) (p : Prd → Bool) (hx : predsAt w xv xs) (hp : Asks predV g lb p xs w) :
    Calls Tryz.prog 70 #[xv, .func (.func g) #[] lb] w fun e w' => e = .returned (.bool (xs.any p)) ∧ Below w.heap.size w w' := by
  have HX : Hid (predsAt w xv xs) := hx
  have HP : Hid (Asks predV g lb p xs w) := hp
  clear hx hp
  go_enter Tryz.func70, Tryz.ntmps70
  go_wp2_with fail
  refine (indexPred_c w xv xs g lb eg p HX.out HP.out).mono ?_
  rintro e w1 ⟨i, rfl, hi, hb⟩
  have HI : Hid (decide (0 ≤ i) = xs.any p) := hi
  clear hi
  go_wp2_with fail
  go_ret
  exact ⟨by rw [← HI.out]; rfl, hb⟩

set_option maxRecDepth 100000 in
set_option maxHeartbeats 4000000 in
theorem indexByte_c (w : World) (xv : Value) (xs : List Nat) (g : Nat) (lb : Array Value) (eg : ∀ args w, (callFunc g args).run Tryz.prog w = .ok (.enter g args) w) (p : Nat → Bool) (hx : bytesAt w xv xs) (hp : Asks byteV g lb p xs w) :
    Calls Tryz.prog 179 #[xv, .func (.func g) #[] lb] w fun e w' => ∃ i : Int, e = .returned (.int .i64 i) ∧ decide (0 ≤ i) = xs.any p ∧ Below w.heap.size w w' := by
  obtain ⟨xa, xc, rfl, hm, hx⟩ := hx
  have HX : Hid (xs = [] ∨ ∃ b off, xa = some ⟨b, off, none⟩ ∧ b < w.heap.size ∧ ∀ i x, xs[i]? = some x → byteAt w b (off + i * 1) x) := hx
  have HP : Hid (Asks byteV g lb p xs w) := hp
  clear hx hp
  go_enter Tryz.func179, Tryz.ntmps179
  go_wp2_with fail
  go_loopw [8] (fun i wr => ∃ j : Nat, j ≤ xs.length ∧ i = .int .i64 j ∧ (xs.take j).any p = false ∧ Below w.heap.size w wr) (fun i _ => xs.length - (intOf i).toNat)
  case atStart => exact ⟨0, Nat.zero_le _, rfl, rfl, Below.refl _ _⟩
  case round =>
    obtain ⟨j, hj, rfl, hno, hbw⟩ := hrel
    by_cases hlt : j < xs.length
    · obtain ⟨b, off, rfl, hbl, hx⟩ := HX.out.resolve_left (by rintro rfl; simp at hlt)
      have hcall := HP.out wr xs[j] hbw (List.getElem_mem hlt)
      have HT : Hid ((xs.take (j + 1)).any p = p xs[j]) := by show _ = _; rw [any_take hlt, hno, Bool.false_or]
      have HY : Hid (p xs[j] = true → xs.any p = true) := fun h => any_of hlt h
      have hcell := hx j xs[j] (by simp [hlt])
      have hjl : (j : Int) < (xs.length : Int) := by omega
      have hj0 : (0 : Int) ≤ (j : Int) := by omega
      clear hx hno HP HX
      generalize xs[j] = q at *
      have t0 : wr.cell? ⟨b, off + j, none⟩ = some (.int .u8 (q : Int)) := by
        rw [cell_lasts hbw hbl]
        have := hcell
        rw [Nat.mul_one] at this
        exact this
      clear hcell
      simp only [byteV] at hcall
      cases hq : p q
      · rw [hq] at hcall HT
        clear HY
        go_wp2_with (go_at_fn g; refine hcall.mono ?_; rintro e w1 ⟨rfl, hb1⟩)
        go_roundw
        case rel => exact ⟨j + 1, by omega, by go_num, HT.out, hbw.trans (hb1.mono hbw.size)⟩
        case measure => simp [intOf]; omega
      · rw [hq] at hcall HY
        have HY' : Hid (xs.any p = true) := HY.out rfl
        clear HT HY
        go_wp2_with (go_at_fn g; refine hcall.mono ?_; rintro e w1 ⟨rfl, hb1⟩)
        go_ret
        exact ⟨(j : Int), rfl, by rw [HY'.out]; simp, hbw.trans (hb1.mono hbw.size)⟩
    · have HE : Hid (xs.any p = false) := any_take_end hlt hno
      clear hno HP HX
      go_wp2_with fail
      go_ret
      exact ⟨-1, rfl, by rw [HE.out]; decide, hbw⟩

theorem containsByte_c (w : World) (xv : Value) (xs : List Nat) (g : Nat) (lb : Array Value) (eg : ∀ args w, (callFunc g args).run Tryz.prog w = .ok (.enter g args) w) (p : Nat → Bool) (hx : bytesAt w xv xs) (hp : Asks byteV g lb p xs w) :
    Calls Tryz.prog 151 #[xv, .func (.func g) #[] lb] w fun e w' => e = .returned (.bool (xs.any p)) ∧ Below w.heap.size w w' := by
  have HX : Hid (bytesAt w xv xs) := hx
  have HP : Hid (Asks byteV g lb p xs w) := hp
  clear hx hp
  go_enter Tryz.func151, Tryz.ntmps151
  go_wp2_with fail
  refine (indexByte_c w xv xs g lb eg p HX.out HP.out).mono ?_
  rintro e w1 ⟨i, rfl, hi, hb⟩
  have HI : Hid (decide (0 ≤ i) = xs.any p) := hi
  clear hi
  go_wp2_with fail
  go_ret
  exact ⟨by rw [← HI.out]; rfl, hb⟩
end Go.Proofs.YtlfccloaoopadafGreatDoor.Base
