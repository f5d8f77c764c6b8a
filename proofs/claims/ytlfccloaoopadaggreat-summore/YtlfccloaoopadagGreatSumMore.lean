/-
  What is proved: for every two programs: if no literal is not, all that follows from either follows from both; in whichever order.
-/
import Derived.Test.YtlfccloaoopadagGreatH1
import Derived.Test.YtlfccloaoopadagGreatG31
import Derived.Test.YtlfccloaoopadagGreatG32
namespace Go.Proofs.YtlfccloaoopadagGreat.Sum
open Go.ChangeShapes Go.WideShapes Go.ChangeAt Go.RowKit

set_option maxRecDepth 100000 in
theorem sumMore_lifted (os : Os) (started : os.Started) (H : Type) (enc : TypeId × Value → H) :
    ReturnsInHanded {} Tryz.checked os 3 .any (Rows.sumMoreSpec.pre6 enc Tryz.prog Tryz.f3 Rows.sumMoreRow.domain false) (Rows.sumMoreSpec.post enc Tryz.prog Tryz.f3 false true false false) := by
  refine Kit.lifted_of (C := Tryz.checked) (t := 4) (by kernel_rfl) started (by kernel_rfl) Tryz.func3
    (ChangeSpec.witness6 (enc := enc) (C := Tryz.checked) false ⟨#[], #[.agg #[.slice none 0 0, .slice none 0 0], .agg #[.slice none 0 0, .slice none 0 0]], []⟩ 8 (by kernel_rfl) (by kernel_rfl) (by kernel_rfl) (by kernel_rfl))
    (by kernel_rfl) (by kernel_rfl) (by kernel_rfl) Tryz.underlying4 rfl ?_ ?_
  · intro ds hds
    rw [show Tryz.f3.params.toList.length = 2 by kernel_rfl] at hds
    match ds, hds with
    | [d0, d1], _ => rfl
  · intro W base args ds ps hval0 hA0 hsz0
    have hval : ∀ (j : Nat) t v, Tryz.f3.params[j]? = some t → args[j]? = some v → Value.okWide Tryz.prog W .any base t v := hval0
    have hA : DataW.TrodAll enc Tryz.prog W 0 (fun _ => true) true Tryz.f3.params.toList args.toList ds ps := hA0
    have hsz : (DataW.weightsEach Tryz.prog (Tryz.f3.params.toList ++ []) (ds ++ [])).all (· ≤ reachBytes) = true := hsz0
    rw [Tryz.params3] at hA hval hsz
    obtain ⟨v0, vs0, d0, ds0, p0, q0, hargs, rfl, rfl, h0, r0⟩ := trodAll_cons hA
    obtain ⟨v1, vs1, d1, ds1, p1, q1, rfl, rfl, rfl, h1, r1⟩ := trodAll_cons r0
    obtain ⟨rfl, rfl, rfl⟩ := trodAll_nil r1
    obtain rfl : args = #[v0, v1] := by cases args; simp_all
    have hL := Open.light_all hsz
    simp only [List.append_nil, DataW.weightsEach] at hL
    obtain ⟨n0, t0⟩ := Open.trod_one h0
    obtain ⟨n1, t1⟩ := Open.trod_one h1
    obtain ⟨pv0, rv0, ps0, rs0, e0, hp0, hn0, hr0, hc0⟩ := Open.progC_of t0 (Open.light_left hL)
    obtain rfl := Open.agg_of Tryz.underlying25 (hval 0 25 v0 rfl rfl) e0
    obtain ⟨pv1, rv1, ps1, rs1, e1, hp1, hn1, hr1, hc1⟩ := Open.progC_of t1 ((Open.light_right hL))
    obtain rfl := Open.agg_of Tryz.underlying25 (hval 1 25 v1 rfl rfl) e1
    exact lawMore_walk W pv0 rv0 pv1 rv1 ps0 ps1 rs0 rs1 hp0 hr0 hp1 hr1 hn0 hn1
end Go.Proofs.YtlfccloaoopadagGreat.Sum
namespace Go.Proofs.YtlfccloaoopadagGreat
/-- THE STATEMENT -/
theorem sumMore_proved : Rows.SumMoreSaid :=
  OpenClaim.holds_of_wide 3 Tryz.f3 rfl rfl rfl rfl rfl rfl rfl ⟨rfl, rfl, rfl, rfl, rfl⟩ rfl rfl rfl rfl rfl (by kernel_rfl) Tryz.func3 (by kernel_rfl)
    (of_decide_eq_true (by kernel_rfl)) (by unfold Func.isWrapper; first | (rw [if_pos (by decide +kernel)]; kernel_rfl) | (rw [if_neg (by decide +kernel)]; exact ⟨rfl, rfl⟩))
    (fun os started H enc _ => Sum.sumMore_lifted os started H enc)
#print axioms sumMore_proved
end Go.Proofs.YtlfccloaoopadagGreat
