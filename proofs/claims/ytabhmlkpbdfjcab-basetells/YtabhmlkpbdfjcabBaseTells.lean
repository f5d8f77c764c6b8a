/-
  What is proved: base.Check and base.Find answer just what the document's own check and search of facts answer, errors too, for every list of predicates, every list of facts and every fact; no condition.
-/
import Derived.Test.YtabhmlkpbdfjcabBaseBegun
import Derived.Test.YtabhmlkpbdfjcabOpen2
import Derived.Test.YtabhmlkpbdfjcabKit
namespace Go.Proofs.Ytabhmlkpbdfjcab.Base
open Go.ChangeShapes Go.WideShapes Go.ChangeAt Go.RowKit

set_option maxRecDepth 100000 in
set_option maxHeartbeats 4000000 in
theorem tells_walk (w : World) (pv fv : Value) (ps : List Prd) (f : List Fct) (x : Fct) (hp : predsAt w pv ps) (hf : factsAt w fv f) :
    Calls Try.prog 7 #[pv, fv, .agg #[.int .i64 x.pred, .int .i64 x.a, .int .i64 x.b, .int .i64 x.val]] w fun e w' => e = .returned (.bool true) ∧ Below w.heap.size w w' := by
  have HP : Hid (∀ (w1 : World), Below w.heap.size w w1 → predsAt w1 pv ps) := fun w1 hb1 => predsAt.lasts hb1 hp
  have HF : Hid (∀ (w1 : World), Below w.heap.size w w1 → factsAt w1 fv f) := fun w1 hb1 => factsAt.lasts hb1 hf
  obtain ⟨p, a, b, v⟩ := x
  clear hp hf
  have HFI : Hid (∀ w1, Below w.heap.size w w1 → Calls Try.prog 21 #[pv, fv, .agg #[.int .i64 p, .int .i64 a, .int .i64 b, .int .i64 v]] w1 fun e w' => e = .returned (.tuple #[.int .i64 (findOf ps f ⟨p, a, b, v⟩).1, .bool (findOf ps f ⟨p, a, b, v⟩).2.1, .int .i64 (findOf ps f ⟨p, a, b, v⟩).2.2]) ∧ Below w1.heap.size w1 w') := fun w1 hb => Find_c w1 pv fv ps f p a b v (HP.out _ hb) (HF.out _ hb)
  have HFO : Hid (∀ w1, Below w.heap.size w w1 → Calls Try.prog 22 #[pv, fv, .agg #[.int .i64 p, .int .i64 a, .int .i64 b, .int .i64 v]] w1 fun e w' => e = .returned (.tuple #[.int .i64 (findOf ps f ⟨p, a, b, v⟩).1, .bool (findOf ps f ⟨p, a, b, v⟩).2.1, .int .i64 (findOf ps f ⟨p, a, b, v⟩).2.2]) ∧ Below w1.heap.size w1 w') := fun w1 hb => findOf_c w1 pv fv ps f p a b v (HP.out _ hb) (HF.out _ hb)
  generalize findOf ps f ⟨p, a, b, v⟩ = R at *
  obtain ⟨rn, rb, re⟩ := R
  dsimp only at HFI HFO
  go_enter Try.func7, Try.ntmps7
  go_wp2_with fail
  refine (HFI.out _ (below_alloc _ _)).mono ?_
  rintro e w1 ⟨rfl, hb1⟩
  obtain ⟨c0, c1, c2, c3⟩ := four_last hb1
  have k1 : Below w.heap.size w w1 := (below_alloc _ _).trans (hb1.mono (by simp))
  clear hb1
  go_wp2_with fail
  refine (HFO.out _ k1).mono ?_
  rintro e w2 ⟨rfl, hb2⟩
  have k2 : Below w.heap.size w w2 := k1.trans (hb2.mono k1.size)
  clear hb2 HFI HFO
  go_wp2_with fail
  refine (baseBegun_c _).mono ?_
  rintro e w3 ⟨rfl, hb3⟩
  have k3 : Below w.heap.size w w3 := k2.trans (hb3.mono k2.size)
  clear hb3
  go_wp2_with fail
  refine (check_c _ _ _ ps f (HP.out _ k3) (HF.out _ k3)).mono ?_
  rintro e w4 ⟨rfl, hb4⟩
  have k4 : Below w.heap.size w w4 := k3.trans (hb4.mono k3.size)
  clear hb4
  go_wp2_with fail
  refine (checkFacts_c _ _ _ ps f (HP.out _ k4) (HF.out _ k4)).mono ?_
  rintro e w5 ⟨rfl, hb5⟩
  have k5 : Below w.heap.size w w5 := k4.trans (hb5.mono k4.size)
  clear hb5
  go_wp2_with fail
  go_ret
  exact ⟨rfl, k5⟩

set_option maxRecDepth 100000 in
theorem tells_lifted (os : Os) (started : os.Started) (H : Type) (enc : TypeId × Value → H) :
    ReturnsInHanded {} Try.checked os 7 .any (Rows.baseTellsSpec.pre6 enc Try.prog Try.f7 Rows.baseTellsRow.domain false) (Rows.baseTellsSpec.post enc Try.prog Try.f7 false true false false) := by
  refine Kit.lifted_of (C := Try.checked) (t := 4) (by kernel_rfl) started (by kernel_rfl) Try.func7
    (ChangeSpec.witness6 (enc := enc) (C := Try.checked) false ⟨#[], #[.slice none 0 0, .slice none 0 0, .agg #[.int .i64 0, .int .i64 0, .int .i64 0, .int .i64 0]], []⟩ 8 (by kernel_rfl) (by kernel_rfl) (by kernel_rfl) (by kernel_rfl))
    (by kernel_rfl) (by kernel_rfl) (by kernel_rfl) Try.underlying4 rfl ?_ ?_
  · intro ds hds
    rw [show Try.f7.params.toList.length = 3 by kernel_rfl] at hds
    match ds, hds with
    | [d0, d1, d2], _ => rfl
  · intro W base args ds ps hval0 hA0 hsz0
    have hval : ∀ (j : Nat) t v, Try.f7.params[j]? = some t → args[j]? = some v → Value.okWide Try.prog W .any base t v := hval0
    have hA : DataW.TrodAll enc Try.prog W 0 (fun _ => true) true Try.f7.params.toList args.toList ds ps := hA0
    have hsz : (DataW.weightsEach Try.prog (Try.f7.params.toList ++ []) (ds ++ [])).all (· ≤ reachBytes) = true := hsz0
    rw [Try.params7] at hA hval hsz
    obtain ⟨v0, vs0, d0, ds0, p0, q0, hargs, rfl, rfl, h0, r0⟩ := trodAll_cons hA
    obtain ⟨v1, vs1, d1, ds1, p1, q1, rfl, rfl, rfl, h1, r1⟩ := trodAll_cons r0
    obtain ⟨v2, vs2, d2, ds2, p2, q2, rfl, rfl, rfl, h2, r2⟩ := trodAll_cons r1
    obtain ⟨rfl, rfl, rfl⟩ := trodAll_nil r2
    obtain rfl : args = #[v0, v1, v2] := by cases args; simp_all
    have hL := Open.light_all hsz
    simp only [List.append_nil, DataW.weightsEach] at hL
    obtain ⟨n0, t0⟩ := Open.trod_one h0
    obtain ⟨n1, t1⟩ := Open.trod_one h1
    obtain ⟨n2, t2⟩ := Open.trod_one h2
    obtain ⟨pv, ps, e0, hp⟩ := Open.preds_of t0 (Open.light_left hL)
    obtain ⟨fv, f, e1, hf, _⟩ := Open.facts_of t1 (Open.light_left (Open.light_right hL))
    obtain ⟨x, e2⟩ := Open.fact_of t2
    obtain rfl := Open.slice_of Try.underlying22 (hval 0 22 v0 rfl rfl) e0
    obtain rfl := Open.slice_of Try.underlying52 (hval 1 52 v1 rfl rfl) e1
    obtain rfl := Open.agg_of Try.underlying54 (hval 2 54 v2 rfl rfl) e2
    exact tells_walk W v0 v1 ps f x hp hf
end Go.Proofs.Ytabhmlkpbdfjcab.Base
namespace Go.Proofs.Ytabhmlkpbdfjcab
/-- THE STATEMENT -/
theorem baseTells_proved : Rows.BaseTellsSaid :=
  OpenClaim.holds_of_wide 7 Try.f7 rfl rfl rfl rfl rfl rfl rfl ⟨rfl, rfl, rfl, rfl, rfl⟩ rfl rfl rfl rfl rfl (by kernel_rfl) Try.func7 (by kernel_rfl)
    (of_decide_eq_true (by kernel_rfl)) (by unfold Func.isWrapper; first | (rw [if_pos (by decide +kernel)]; kernel_rfl) | (rw [if_neg (by decide +kernel)]; exact ⟨rfl, rfl⟩))
    (fun os started H enc _ => Base.tells_lifted os started H enc)
#print axioms baseTells_proved
end Go.Proofs.Ytabhmlkpbdfjcab
