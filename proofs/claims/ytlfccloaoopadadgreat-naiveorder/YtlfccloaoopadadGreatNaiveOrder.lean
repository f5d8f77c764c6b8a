/-
  What is proved: for every program and every two numbers: with two rules put in each other's place, and one told twice, the same follows, by as many rounds; no condition.
-/
import Derived.Test.YtlfccloaoopadadGreatH1
import Derived.Test.YtlfccloaoopadadGreatG26
import Derived.Test.YtlfccloaoopadadGreatG27
import Derived.Test.YtlfccloaoopadadGreatG28
namespace Go.Proofs.YtlfccloaoopadadGreat.Naive
open Go.ChangeShapes Go.WideShapes Go.ChangeAt Go.RowKit

set_option maxRecDepth 100000 in
theorem lawOrder_lifted (os : Os) (started : os.Started) (H : Type) (enc : TypeId × Value → H) :
    ReturnsInHanded {} Tryz.checked os 8 .any (Rows.naiveOrderSpec.pre6 enc Tryz.prog Tryz.f8 Rows.naiveOrderRow.domain false) (Rows.naiveOrderSpec.post enc Tryz.prog Tryz.f8 false true false false) := by
  refine Kit.lifted_of (C := Tryz.checked) (t := 4) (by kernel_rfl) started (by kernel_rfl) Tryz.func8
    (ChangeSpec.witness6 (enc := enc) (C := Tryz.checked) false ⟨#[], #[.agg #[.slice none 0 0, .slice none 0 0], .int .i64 0, .int .i64 0], []⟩ 8 (by kernel_rfl) (by kernel_rfl) (by kernel_rfl) (by kernel_rfl))
    (by kernel_rfl) (by kernel_rfl) (by kernel_rfl) Tryz.underlying4 rfl ?_ ?_
  · intro ds hds
    rw [show Tryz.f8.params.toList.length = 3 by kernel_rfl] at hds
    match ds, hds with
    | [d0, d1, d2], _ => rfl
  · intro W base args ds ps hval0 hA0 hsz0
    have hval : ∀ (j : Nat) t v, Tryz.f8.params[j]? = some t → args[j]? = some v → Value.okWide Tryz.prog W .any base t v := hval0
    have hA : DataW.TrodAll enc Tryz.prog W 0 (fun _ => true) true Tryz.f8.params.toList args.toList ds ps := hA0
    have hsz : (DataW.weightsEach Tryz.prog (Tryz.f8.params.toList ++ []) (ds ++ [])).all (· ≤ reachBytes) = true := hsz0
    rw [Tryz.params8] at hA hval hsz
    obtain ⟨v0, vs0, d0, ds0, p0, q0, hargs, rfl, rfl, h0, r0⟩ := trodAll_cons hA
    obtain ⟨v1, vs1, d1, ds1, p1, q1, rfl, rfl, rfl, h1, r1⟩ := trodAll_cons r0
    obtain ⟨v2, vs2, d2, ds2, p2, q2, rfl, rfl, rfl, h2, r2⟩ := trodAll_cons r1
    obtain ⟨rfl, rfl, rfl⟩ := trodAll_nil r2
    obtain rfl : args = #[v0, v1, v2] := by cases args; simp_all
    have hL := Open.light_all hsz
    simp only [List.append_nil, DataW.weightsEach] at hL
    obtain ⟨n0, t0⟩ := Open.trod_one h0
    obtain ⟨n1, t1⟩ := Open.trod_one h1
    obtain ⟨n2, t2⟩ := Open.trod_one h2
    obtain ⟨pv, rv, ps, rs, e0, hp, hn, hr⟩ := Open.prog_of t0 (Open.light_left hL)
    obtain rfl := Open.agg_of Tryz.underlying25 (hval 0 25 v0 rfl rfl) e0
    obtain ⟨x1, e1, _, hs1⟩ := DataW.trod_int Tryz.underlying3 t1
    obtain rfl := Open.int_of Tryz.underlying3 (hval 1 3 v1 rfl rfl) e1
    obtain ⟨x2, e2, _, hs2⟩ := DataW.trod_int Tryz.underlying3 t2
    obtain rfl := Open.int_of Tryz.underlying3 (hval 2 3 v2 rfl rfl) e2
    exact lawOrder_walk W pv rv ps rs x1 x2 (Prog.wf_range hs1) (Prog.wf_range hs2) hp hr hn
end Go.Proofs.YtlfccloaoopadadGreat.Naive
namespace Go.Proofs.YtlfccloaoopadadGreat
/-- THE STATEMENT -/
theorem naiveOrder_proved : Rows.NaiveOrderSaid :=
  OpenClaim.holds_of_wide 8 Tryz.f8 rfl rfl rfl rfl rfl rfl rfl ⟨rfl, rfl, rfl, rfl, rfl⟩ rfl rfl rfl rfl rfl (by kernel_rfl) Tryz.func8 (by kernel_rfl)
    (of_decide_eq_true (by kernel_rfl)) (by unfold Func.isWrapper; first | (rw [if_pos (by decide +kernel)]; kernel_rfl) | (rw [if_neg (by decide +kernel)]; exact ⟨rfl, rfl⟩))
    (fun os started H enc _ => Naive.lawOrder_lifted os started H enc)
#print axioms naiveOrder_proved
end Go.Proofs.YtlfccloaoopadadGreat
