/-
  What is proved: for every program, facts and fact: what came, and was changed, changes nothing that was handed in, nor what comes next.
-/
import Derived.Test.YtlfccloaoopadagGreatG30
import Derived.Test.YtlfccloaoopadagGreatG33
import Derived.Test.YtlfccloaoopadagGreatG34
import Derived.Test.YtlfccloaoopadagGreatG35
namespace Go.Proofs.YtlfccloaoopadagGreat.Sum
open Go.ChangeShapes Go.WideShapes Go.ChangeAt Go.RowKit

set_option maxRecDepth 100000 in
theorem restProgs_lifted (os : Os) (started : os.Started) (H : Type) (enc : TypeId × Value → H) :
    ReturnsInHanded {} Tryz.checked os 5 .any (Rows.restProgsSpec.pre6 enc Tryz.prog Tryz.f5 Rows.restProgsRow.domain false) (Rows.restProgsSpec.post enc Tryz.prog Tryz.f5 false true false false) := by
  refine Kit.lifted_of (C := Tryz.checked) (t := 4) (by kernel_rfl) started (by kernel_rfl) Tryz.func5
    (ChangeSpec.witness6 (enc := enc) (C := Tryz.checked) false ⟨#[], #[.agg #[.slice none 0 0, .slice none 0 0], .slice none 0 0, .agg #[.int .i64 0, .int .i64 0, .int .i64 0, .int .i64 0]], []⟩ 8 (by kernel_rfl) (by kernel_rfl) (by kernel_rfl) (by kernel_rfl))
    (by kernel_rfl) (by kernel_rfl) (by kernel_rfl) Tryz.underlying4 rfl ?_ ?_
  · intro ds hds
    rw [show Tryz.f5.params.toList.length = 3 by kernel_rfl] at hds
    match ds, hds with
    | [d0, d1, d2], _ => rfl
  · intro W base args ds ps hval0 hA0 hsz0
    have hval : ∀ (j : Nat) t v, Tryz.f5.params[j]? = some t → args[j]? = some v → Value.okWide Tryz.prog W .any base t v := hval0
    have hA : DataW.TrodAll enc Tryz.prog W 0 (fun _ => true) true Tryz.f5.params.toList args.toList ds ps := hA0
    have hsz : (DataW.weightsEach Tryz.prog (Tryz.f5.params.toList ++ []) (ds ++ [])).all (· ≤ reachBytes) = true := hsz0
    rw [Tryz.params5] at hA hval hsz
    obtain ⟨v0, vs0, d0, ds0, p0, q0, hargs, rfl, rfl, h0, r0⟩ := trodAll_cons hA
    obtain ⟨v1, vs1, d1, ds1, p1, q1, rfl, rfl, rfl, h1, r1⟩ := trodAll_cons r0
    obtain ⟨v2, vs2, d2, ds2, p2, q2, rfl, rfl, rfl, h2, r2⟩ := trodAll_cons r1
    obtain ⟨rfl, rfl, rfl⟩ := trodAll_nil r2
    obtain rfl : args = #[v0, v1, v2] := by cases args; simp_all
    have hL := Open.light_all hsz
    simp only [List.append_nil, DataW.weightsEach] at hL
    obtain ⟨n0, t0⟩ := Open.trod_one h0
    obtain ⟨n1, t1⟩ := Open.trod_one h1
    obtain ⟨n2, t2⟩ := Open.trod_one h2
    obtain ⟨pv0, rv0, ps0, rs0, e0, hp0, hn0, hr0, hc0⟩ := Open.progC_of t0 (Open.light_left hL)
    obtain rfl := Open.agg_of Tryz.underlying25 (hval 0 25 v0 rfl rfl) e0
    obtain ⟨fv1, f1, e1, hf1, hfc1⟩ := Open.facts_of t1 (Open.light_left (Open.light_right hL))
    obtain rfl := Open.slice_of Tryz.underlying30 (hval 1 30 v1 rfl rfl) e1
    obtain ⟨x2, e2⟩ := Open.fact_of t2
    obtain rfl := Open.agg_of Tryz.underlying44 (hval 2 44 v2 rfl rfl) e2
    exact lawRest_walk W pv0 rv0 _ ps0 rs0 f1 x2.pred x2.a x2.b x2.val hp0 hr0 hn0 hc0 hf1 hfc1
end Go.Proofs.YtlfccloaoopadagGreat.Sum
namespace Go.Proofs.YtlfccloaoopadagGreat
/-- THE STATEMENT -/
theorem restProgs_proved : Rows.RestProgsSaid :=
  OpenClaim.holds_of_wide 5 Tryz.f5 rfl rfl rfl rfl rfl rfl rfl ⟨rfl, rfl, rfl, rfl, rfl⟩ rfl rfl rfl rfl rfl (by kernel_rfl) Tryz.func5 (by kernel_rfl)
    (of_decide_eq_true (by kernel_rfl)) (by unfold Func.isWrapper; first | (rw [if_pos (by decide +kernel)]; kernel_rfl) | (rw [if_neg (by decide +kernel)]; exact ⟨rfl, rfl⟩))
    (fun os started H enc _ => Sum.restProgs_lifted os started H enc)
#print axioms restProgs_proved
end Go.Proofs.YtlfccloaoopadagGreat
