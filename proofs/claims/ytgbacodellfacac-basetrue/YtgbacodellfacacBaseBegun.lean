/-
  What must be in any case of package base.
-/
import Derived.Test.YtgbacodellfacacOwn7
import Derived.Test.YtgbacodellfacacRoads
namespace Go.Proofs.Ytgbacodellfacac.Base
open Go.ChangeShapes Go.WideShapes Go.ChangeAt Go.RowKit
open Lat (within join)
open Rule (factFine isPred kindOf arityOf isPred_iff)

def pathsL : List Fct := [⟨0, 0, 1, 0⟩, ⟨0, 1, 2, 0⟩, ⟨1, 0, 1, 4⟩]
def pathsM : List Fct := [⟨0, 0, 1, 0⟩, ⟨0, 1, 2, 0⟩, ⟨1, 0, 1, 2⟩]
theorem paths_c (w : World) : Calls Try.prog 16 #[] w fun e w' => ∃ v, e = .returned v ∧ factsAt w' v pathsL ∧ capOk v ∧ Below w.heap.size w w' := by
  go_enter Try.func16, Try.ntmps16
  go_wp2_with fail
  go_ret
  refine ⟨_, rfl, ⟨_, 3, rfl, by decide, .inr ⟨w.heap.size, 0, rfl, by simp, ?_⟩⟩, ⟨_, _, 3, rfl, Nat.le_refl _, fun h => by cases h⟩, below_alloc _ _⟩
  intro i x hi
  match i, hi with
  | 0, hi =>
    obtain rfl : (⟨0, 0, 1, 0⟩ : Fct) = x := by simpa [pathsL] using hi
    refine ⟨?_, ?_, ?_, ?_⟩ <;> simp [go_sem]
  | 1, hi =>
    obtain rfl : (⟨0, 1, 2, 0⟩ : Fct) = x := by simpa [pathsL] using hi
    refine ⟨?_, ?_, ?_, ?_⟩ <;> simp [go_sem]
  | 2, hi =>
    obtain rfl : (⟨1, 0, 1, 4⟩ : Fct) = x := by simpa [pathsL] using hi
    refine ⟨?_, ?_, ?_, ?_⟩ <;> simp [go_sem]
  | i + 3, hi => simp [pathsL] at hi

theorem b1 : findOf Roads.preds pathsL ⟨1, 0, 1, 0⟩ = (4, true, 0) := by decide
theorem b2 : addOf Roads.preds pathsL ⟨1, 0, 1, 2⟩ = (pathsM, true, 0) := rfl
theorem b3 : (addOf Roads.preds pathsL ⟨1, 0, 1, 9⟩).2 = (false, 0) := by decide
theorem b4 : underOf Roads.preds pathsL pathsM = (true, 0) := by decide
theorem b5 : underOf Roads.preds pathsM pathsL = (false, 0) := by decide
theorem b6 : (addOf Roads.preds pathsL ⟨2, 0, 1, 0⟩).2.2 = 1 := by decide
theorem b7 : factsErr Roads.preds pathsL = 0 := by decide

set_option maxRecDepth 100000 in
set_option maxHeartbeats 8000000 in
theorem baseBegun_c (w : World) : Calls Try.prog 5 #[] w fun e w' => e = .returned (.bool true) ∧ Below w.heap.size w w' := by
  go_enter Try.func5, Try.ntmps5
  go_wp2_with fail
  refine (Roads.roads_c _).mono ?_
  rintro e w1 ⟨bp, br, rfl, _, _, _, hpr, _, _, _, _, hb1⟩
  have HPR : Hid (∀ w', Below w1.heap.size w1 w' → predsAt w' (.slice (some ⟨bp, 0, none⟩) 3 3) Roads.preds) := fun w' hb => predsAt.lasts hb hpr
  clear hpr
  have hfd : ∀ w' : World, (Instr.field 46 (.agg #[.slice (some ⟨bp, 0, none⟩) 3 3, .slice (some ⟨br, 0, none⟩) 7 7]) 0).run Try.prog w' = .ok (.slice (some ⟨bp, 0, none⟩) 3 3) w' := fun _ => by kernel_rfl
  go_wp2_with fail
  clear hfd
  refine (paths_c _).mono ?_
  rintro e w2 ⟨v2, rfl, hf2, hc2, hb2⟩
  have k2 : Below w1.heap.size w1 w2 := hb2
  have HF2 : Hid (factsAt w2 v2 pathsL) := hf2
  clear hf2 hc2 hb2
  go_wp2_with fail
  refine (Find_c _ _ _ Roads.preds pathsL _ _ _ _ (HPR.out _ k2) HF2.out).mono ?_
  rw [b1]
  rintro e w3 ⟨rfl, hb3⟩
  have k3 : Below w1.heap.size w1 w3 := k2.trans (hb3.mono k2.size)
  clear hb3 HF2
  go_wp2_with fail
  refine (paths_c _).mono ?_
  rintro e w4 ⟨v4, rfl, hf4, hc4, hb4⟩
  have k4 : Below w1.heap.size w1 w4 := k3.trans (hb4.mono k3.size)
  have HF4 : Hid (factsAt w4 v4 pathsL) := hf4
  have HC4 : Hid (capOk v4) := hc4
  clear hf4 hc4 hb4
  go_wp2_with fail
  refine (Add_c _ _ _ Roads.preds pathsL _ _ _ _ (HPR.out _ k4) HF4.out HC4.out).mono ?_
  rw [b2]
  rintro e w5 ⟨v5, rfl, hf5, hc5, hb5⟩
  have k5 : Below w1.heap.size w1 w5 := k4.trans (hb5.mono k4.size)
  have HF5 : Hid (∀ w', Below w5.heap.size w5 w' → factsAt w' v5 pathsM) := fun w' hb => factsAt.lasts hb hf5
  obtain ⟨a5, c5, rfl, _, hx5⟩ := hf5
  obtain ⟨g5, o5, rfl, hg5, hx5⟩ := hx5.resolve_left (by simp [pathsM])
  obtain ⟨_, _, _, t5⟩ := hx5 2 ⟨1, 0, 1, 2⟩ rfl
  clear hx5 hb5 HF4 HC4 hc5
  simp only [show pathsM.length = 3 from rfl] at HF5 ⊢
  go_wp2_with fail
  refine (paths_c _).mono ?_
  rintro e w6 ⟨v6, rfl, hf6, hc6, hb6⟩
  have q6 : Below w5.heap.size w5 w6 := hb6
  have HF6 : Hid (factsAt w6 v6 pathsL) := hf6
  have HC6 : Hid (capOk v6) := hc6
  clear hf6 hc6 hb6
  go_wp2_with fail
  refine (Add_c _ _ _ Roads.preds pathsL _ _ _ _ (HPR.out _ (k5.trans (q6.mono k5.size))) HF6.out HC6.out).mono ?_
  rw [b3]
  rintro e w7 ⟨v7, rfl, hf7, hc7, hb7⟩
  have q7 : Below w5.heap.size w5 w7 := q6.trans (hb7.mono q6.size)
  clear hf7 hc7 hb7 HF6 HC6
  go_wp2_with fail
  refine (paths_c _).mono ?_
  rintro e w8 ⟨v8, rfl, hf8, hc8, hb8⟩
  have q8 : Below w5.heap.size w5 w8 := q7.trans (hb8.mono q7.size)
  have HF8 : Hid (factsAt w8 v8 pathsL) := hf8
  clear hf8 hc8 hb8
  go_wp2_with fail
  refine (Under_c _ _ _ _ Roads.preds pathsL pathsM (HPR.out _ (k5.trans (q8.mono k5.size))) HF8.out (HF5.out _ q8)).mono ?_
  rw [b4]
  rintro e w9 ⟨rfl, hb9⟩
  have q9 : Below w5.heap.size w5 w9 := q8.trans (hb9.mono q8.size)
  clear hb9 HF8
  go_wp2_with fail
  refine (paths_c _).mono ?_
  rintro e w10 ⟨v10, rfl, hf10, hc10, hb10⟩
  have q10 : Below w5.heap.size w5 w10 := q9.trans (hb10.mono q9.size)
  have HF10 : Hid (factsAt w10 v10 pathsL) := hf10
  clear hf10 hc10 hb10
  go_wp2_with fail
  refine (Under_c _ _ _ _ Roads.preds pathsM pathsL (HPR.out _ (k5.trans (q10.mono k5.size))) (HF5.out _ q10) HF10.out).mono ?_
  rw [b5]
  rintro e w11 ⟨rfl, hb11⟩
  have q11 : Below w5.heap.size w5 w11 := q10.trans (hb11.mono q10.size)
  clear hb11 HF10
  go_wp2_with fail
  refine (paths_c _).mono ?_
  rintro e w12 ⟨v12, rfl, hf12, hc12, hb12⟩
  have q12 : Below w5.heap.size w5 w12 := q11.trans (hb12.mono q11.size)
  have HF12 : Hid (factsAt w12 v12 pathsL) := hf12
  have HC12 : Hid (capOk v12) := hc12
  clear hf12 hc12 hb12
  go_wp2_with fail
  refine (Add_c _ _ _ Roads.preds pathsL _ _ _ _ (HPR.out _ (k5.trans (q12.mono k5.size))) HF12.out HC12.out).mono ?_
  rw [b6]
  rintro e w13 ⟨v13, rfl, hf13, hc13, hb13⟩
  have q13 : Below w5.heap.size w5 w13 := q12.trans (hb13.mono q12.size)
  clear hf13 hc13 hb13 HF12 HC12
  go_wp2_with fail
  refine (paths_c _).mono ?_
  rintro e w14 ⟨v14, rfl, hf14, hc14, hb14⟩
  have q14 : Below w5.heap.size w5 w14 := q13.trans (hb14.mono q13.size)
  have HF14 : Hid (factsAt w14 v14 pathsL) := hf14
  clear hf14 hc14 hb14
  go_wp2_with fail
  refine (check_c _ _ _ Roads.preds pathsL (HPR.out _ (k5.trans (q14.mono k5.size))) HF14.out).mono ?_
  rw [b7]
  rintro e w15 ⟨rfl, hb15⟩
  have q15 : Below w5.heap.size w5 w15 := q14.trans (hb15.mono q14.size)
  have t15 := (cell_lasts q15 hg5).trans t5
  clear hb15 HF14
  go_wp2_with fail
  go_ret
  exact ⟨rfl, hb1.trans ((k5.trans (q15.mono k5.size)).mono hb1.size)⟩
end Go.Proofs.Ytgbacodellfacac.Base
