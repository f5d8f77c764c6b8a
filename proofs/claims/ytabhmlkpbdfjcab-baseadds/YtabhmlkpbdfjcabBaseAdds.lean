/-
  What is proved: base.Add and base.Under answer just what the document's own adding and comparing of facts answer, errors too, for every list of predicates, every two lists of facts and every fact; no condition.
-/
import Derived.Test.YtabhmlkpbdfjcabBaseBegun
import Derived.Test.YtabhmlkpbdfjcabBaseRef5
import Derived.Test.YtabhmlkpbdfjcabBaseRef6
import Derived.Test.YtabhmlkpbdfjcabOpen2
import Derived.Test.YtabhmlkpbdfjcabKit
namespace Go.Proofs.Ytabhmlkpbdfjcab.Base
open Go.ChangeShapes Go.WideShapes Go.ChangeAt Go.RowKit

set_option maxRecDepth 100000 in
set_option maxHeartbeats 4000000 in
theorem adds_walk (w : World) (pv fv gv : Value) (ps : List Prd) (f g : List Fct) (x : Fct) (hp : predsAt w pv ps) (hf : factsAt w fv f) (hg : factsAt w gv g) (hc : capOk fv) :
    Calls Try.prog 8 #[pv, fv, gv, .agg #[.int .i64 x.pred, .int .i64 x.a, .int .i64 x.b, .int .i64 x.val]] w fun e w' => e = .returned (.bool true) ∧ Below w.heap.size w w' := by
  have HP : Hid (∀ (w1 : World), Below w.heap.size w w1 → predsAt w1 pv ps) := fun w1 hb1 => predsAt.lasts hb1 hp
  have HF : Hid (∀ (w1 : World), Below w.heap.size w w1 → factsAt w1 fv f) := fun w1 hb1 => factsAt.lasts hb1 hf
  have HG : Hid (∀ (w1 : World), Below w.heap.size w w1 → factsAt w1 gv g) := fun w1 hb1 => factsAt.lasts hb1 hg
  have HC : Hid (capOk fv) := hc
  obtain ⟨p, a, b, v⟩ := x
  clear hp hf hg hc
  have HA1 : Hid (∀ w1, Below w.heap.size w w1 → Calls Try.prog 26 #[pv, fv, .agg #[.int .i64 p, .int .i64 a, .int .i64 b, .int .i64 v]] w1 fun e w' => ∃ u, e = .returned (.tuple #[u, .bool (addOf ps f ⟨p, a, b, v⟩).2.1, .int .i64 (addOf ps f ⟨p, a, b, v⟩).2.2]) ∧ factsAt w' u (addOf ps f ⟨p, a, b, v⟩).1 ∧ capOk u ∧ Below w1.heap.size w1 w') := fun w1 hb => Add_c w1 pv fv ps f p a b v (HP.out _ hb) (HF.out _ hb) HC.out
  have HA2 : Hid (∀ w1, Below w.heap.size w w1 → Calls Try.prog 28 #[pv, fv, .agg #[.int .i64 p, .int .i64 a, .int .i64 b, .int .i64 v]] w1 fun e w' => ∃ u, e = .returned (.tuple #[u, .bool (addOf ps f ⟨p, a, b, v⟩).2.1, .int .i64 (addOf ps f ⟨p, a, b, v⟩).2.2]) ∧ factsAt w' u (addOf ps f ⟨p, a, b, v⟩).1 ∧ capOk u ∧ Below w1.heap.size w1 w') := fun w1 hb => addOf_c w1 pv fv ps f p a b v (HP.out _ hb) (HF.out _ hb)
  have HU1 : Hid (∀ w1, Below w.heap.size w w1 → Calls Try.prog 27 #[pv, fv, gv] w1 fun e w' => e = .returned (.tuple #[.bool (underOf ps f g).1, .int .i64 (underOf ps f g).2]) ∧ Below w1.heap.size w1 w') := fun w1 hb => Under_c w1 pv fv gv ps f g (HP.out _ hb) (HF.out _ hb) (HG.out _ hb)
  have HU2 : Hid (∀ w1, Below w.heap.size w w1 → Calls Try.prog 29 #[pv, fv, gv] w1 fun e w' => e = .returned (.tuple #[.bool (underOf ps f g).1, .int .i64 (underOf ps f g).2]) ∧ Below w1.heap.size w1 w') := fun w1 hb => underOf_c w1 pv fv gv ps f g (HP.out _ hb) (HF.out _ hb) (HG.out _ hb)
  clear HC HP HF HG
  generalize addOf ps f ⟨p, a, b, v⟩ = R at *
  obtain ⟨L, rb, re⟩ := R
  generalize underOf ps f g = U at *
  obtain ⟨ub, ue⟩ := U
  dsimp only at HA1 HA2 HU1 HU2
  go_enter Try.func8, Try.ntmps8
  go_wp2_with fail
  refine (HA1.out _ (below_alloc _ _)).mono ?_
  rintro e w1 ⟨u1, rfl, hf1, _, hb1⟩
  obtain ⟨c0, c1, c2, c3⟩ := four_last hb1
  have hs1 : w.heap.size < w1.heap.size := Nat.lt_of_lt_of_le (by simp) hb1.size
  have k1 : Below w.heap.size w w1 := (below_alloc _ _).trans (hb1.mono (by simp))
  have HF1 : Hid (factsAt w1 u1 L) := hf1
  clear hb1 hf1
  go_wp2_with fail
  refine (HU1.out _ k1).mono ?_
  rintro e w2 ⟨rfl, hb2⟩
  have k2 : Below w.heap.size w w2 := k1.trans (hb2.mono k1.size)
  have d0 := (cell_lasts hb2 hs1).trans c0
  have d1 := (cell_lasts hb2 hs1).trans c1
  have d2 := (cell_lasts hb2 hs1).trans c2
  have d3 := (cell_lasts hb2 hs1).trans c3
  have HF2 : Hid (factsAt w2 u1 L) := factsAt.lasts hb2 HF1.out
  clear hb2 c0 c1 c2 c3 HF1
  go_wp2_with fail
  refine (HA2.out _ k2).mono ?_
  rintro e w3 ⟨u3, rfl, hf3, _, hb3⟩
  have k3 : Below w.heap.size w w3 := k2.trans (hb3.mono k2.size)
  have HF3 : Hid (factsAt w3 u1 L) := factsAt.lasts hb3 HF2.out
  have HG3 : Hid (factsAt w3 u3 L) := hf3
  clear hb3 hf3 HF2 d0 d1 d2 d3
  go_wp2_with fail
  refine (HU2.out _ k3).mono ?_
  rintro e w4 ⟨rfl, hb4⟩
  have k4 : Below w.heap.size w w4 := k3.trans (hb4.mono k3.size)
  have HF4 : Hid (factsAt w4 u1 L) := factsAt.lasts hb4 HF3.out
  have HG4 : Hid (factsAt w4 u3 L) := factsAt.lasts hb4 HG3.out
  clear hb4 HF3 HG3
  go_wp2_with fail
  refine (baseBegun_c _).mono ?_
  rintro e w5 ⟨rfl, hb5⟩
  have k5 : Below w.heap.size w w5 := k4.trans (hb5.mono k4.size)
  have HF5 : Hid (factsAt w5 u1 L) := factsAt.lasts hb5 HF4.out
  have HG5 : Hid (factsAt w5 u3 L) := factsAt.lasts hb5 HG4.out
  clear hb5 HF4 HG4
  go_wp2_with fail
  refine (sameFacts_c _ _ _ L L HF5.out HG5.out).mono ?_
  rw [decide_eq_true (rfl : L = L)]
  rintro e w6 ⟨rfl, hb6⟩
  have k6 : Below w.heap.size w w6 := k5.trans (hb6.mono k5.size)
  clear hb6 HF5 HG5
  go_wp2_with fail
  go_ret
  exact ⟨rfl, k6⟩

set_option maxRecDepth 100000 in
theorem adds_lifted (os : Os) (started : os.Started) (H : Type) (enc : TypeId × Value → H) :
    ReturnsInHanded {} Try.checked os 8 .any (Rows.baseAddsSpec.pre6 enc Try.prog Try.f8 Rows.baseAddsRow.domain false) (Rows.baseAddsSpec.post enc Try.prog Try.f8 false true false false) := by
  refine Kit.lifted_of (C := Try.checked) (t := 4) (by kernel_rfl) started (by kernel_rfl) Try.func8
    (ChangeSpec.witness6 (enc := enc) (C := Try.checked) false ⟨#[], #[.slice none 0 0, .slice none 0 0, .slice none 0 0, .agg #[.int .i64 0, .int .i64 0, .int .i64 0, .int .i64 0]], []⟩ 8 (by kernel_rfl) (by kernel_rfl) (by kernel_rfl) (by kernel_rfl))
    (by kernel_rfl) (by kernel_rfl) (by kernel_rfl) Try.underlying4 rfl ?_ ?_
  · intro ds hds
    rw [show Try.f8.params.toList.length = 4 by kernel_rfl] at hds
    match ds, hds with
    | [d0, d1, d2, d3], _ => rfl
  · intro W base args ds ps hval0 hA0 hsz0
    have hval : ∀ (j : Nat) t v, Try.f8.params[j]? = some t → args[j]? = some v → Value.okWide Try.prog W .any base t v := hval0
    have hA : DataW.TrodAll enc Try.prog W 0 (fun _ => true) true Try.f8.params.toList args.toList ds ps := hA0
    have hsz : (DataW.weightsEach Try.prog (Try.f8.params.toList ++ []) (ds ++ [])).all (· ≤ reachBytes) = true := hsz0
    rw [Try.params8] at hA hval hsz
    obtain ⟨v0, vs0, d0, ds0, p0, q0, hargs, rfl, rfl, h0, r0⟩ := trodAll_cons hA
    obtain ⟨v1, vs1, d1, ds1, p1, q1, rfl, rfl, rfl, h1, r1⟩ := trodAll_cons r0
    obtain ⟨v2, vs2, d2, ds2, p2, q2, rfl, rfl, rfl, h2, r2⟩ := trodAll_cons r1
    obtain ⟨v3, vs3, d3, ds3, p3, q3, rfl, rfl, rfl, h3, r3⟩ := trodAll_cons r2
    obtain ⟨rfl, rfl, rfl⟩ := trodAll_nil r3
    obtain rfl : args = #[v0, v1, v2, v3] := by cases args; simp_all
    have hL := Open.light_all hsz
    simp only [List.append_nil, DataW.weightsEach] at hL
    obtain ⟨n0, t0⟩ := Open.trod_one h0
    obtain ⟨n1, t1⟩ := Open.trod_one h1
    obtain ⟨n2, t2⟩ := Open.trod_one h2
    obtain ⟨n3, t3⟩ := Open.trod_one h3
    obtain ⟨pv, ps, e0, hp⟩ := Open.preds_of t0 (Open.light_left hL)
    obtain ⟨fv, f, e1, hf, hcf⟩ := Open.facts_of t1 (Open.light_left (Open.light_right hL))
    obtain ⟨gv, g, e2, hg, _⟩ := Open.facts_of t2 (Open.light_left (Open.light_right (Open.light_right hL)))
    obtain ⟨x, e3⟩ := Open.fact_of t3
    obtain rfl := Open.slice_of Try.underlying22 (hval 0 22 v0 rfl rfl) e0
    obtain rfl := Open.slice_of Try.underlying52 (hval 1 52 v1 rfl rfl) e1
    obtain rfl := Open.slice_of Try.underlying52 (hval 2 52 v2 rfl rfl) e2
    obtain rfl := Open.agg_of Try.underlying54 (hval 3 54 v3 rfl rfl) e3
    exact adds_walk W v0 v1 v2 ps f g x hp hf hg hcf
end Go.Proofs.Ytabhmlkpbdfjcab.Base
namespace Go.Proofs.Ytabhmlkpbdfjcab
/-- THE STATEMENT -/
theorem baseAdds_proved : Rows.BaseAddsSaid :=
  OpenClaim.holds_of_wide 8 Try.f8 rfl rfl rfl rfl rfl rfl rfl ⟨rfl, rfl, rfl, rfl, rfl⟩ rfl rfl rfl rfl rfl (by kernel_rfl) Try.func8 (by kernel_rfl)
    (of_decide_eq_true (by kernel_rfl)) (by unfold Func.isWrapper; first | (rw [if_pos (by decide +kernel)]; kernel_rfl) | (rw [if_neg (by decide +kernel)]; exact ⟨rfl, rfl⟩))
    (fun os started H enc _ => Base.adds_lifted os started H enc)
#print axioms baseAdds_proved
end Go.Proofs.Ytabhmlkpbdfjcab
