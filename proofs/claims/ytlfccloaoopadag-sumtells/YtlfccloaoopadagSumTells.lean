/-
  What is proved: for every two programs and every number: Union and Without answer just what the document says, errors too.
-/
import Derived.Test.YtlfccloaoopadagG18
import Derived.Test.YtlfccloaoopadagG22
import Derived.Test.YtlfccloaoopadagG23
namespace Go.Proofs.Ytlfccloaoopadag.Sum
open Go.ChangeShapes Go.WideShapes Go.ChangeAt Go.RowKit

set_option maxRecDepth 100000 in
theorem sumTells_lifted (os : Os) (started : os.Started) (H : Type) (enc : TypeId × Value → H) :
    ReturnsInHanded {} Try.checked os 3 .any (Rows.sumTellsSpec.pre6 enc Try.prog Try.f3 Rows.sumTellsRow.domain false) (Rows.sumTellsSpec.post enc Try.prog Try.f3 false true false false) := by
  refine Kit.lifted_of (C := Try.checked) (t := 4) (by kernel_rfl) started (by kernel_rfl) Try.func3
    (ChangeSpec.witness6 (enc := enc) (C := Try.checked) false ⟨#[], #[.agg #[.slice none 0 0, .slice none 0 0], .agg #[.slice none 0 0, .slice none 0 0], .int .i64 0], []⟩ 8 (by kernel_rfl) (by kernel_rfl) (by kernel_rfl) (by kernel_rfl))
    (by kernel_rfl) (by kernel_rfl) (by kernel_rfl) Try.underlying4 rfl ?_ ?_
  · intro ds hds
    rw [show Try.f3.params.toList.length = 3 by kernel_rfl] at hds
    match ds, hds with
    | [d0, d1, d2], _ => rfl
  · intro W base args ds ps hval0 hA0 hsz0
    have hval : ∀ (j : Nat) t v, Try.f3.params[j]? = some t → args[j]? = some v → Value.okWide Try.prog W .any base t v := hval0
    have hA : DataW.TrodAll enc Try.prog W 0 (fun _ => true) true Try.f3.params.toList args.toList ds ps := hA0
    have hsz : (DataW.weightsEach Try.prog (Try.f3.params.toList ++ []) (ds ++ [])).all (· ≤ reachBytes) = true := hsz0
    rw [Try.params3] at hA hval hsz
    obtain ⟨v0, vs0, d0, ds0, p0, q0, hargs, rfl, rfl, h0, r0⟩ := trodAll_cons hA
    obtain ⟨v1, vs1, d1, ds1, p1, q1, rfl, rfl, rfl, h1, r1⟩ := trodAll_cons r0
    obtain ⟨v2, vs2, d2, ds2, p2, q2, rfl, rfl, rfl, h2, r2⟩ := trodAll_cons r1
    obtain ⟨rfl, rfl, rfl⟩ := trodAll_nil r2
    obtain rfl : args = #[v0, v1, v2] := by cases args; simp_all
    have hL := Open.light_all hsz
    simp only [List.append_nil, DataW.weightsEach] at hL
    obtain ⟨n0, t0⟩ := Open.trod_one h0
    obtain ⟨n1, t1⟩ := Open.trod_one h1
    obtain ⟨n2, t2⟩ := Open.trod_one h2
    obtain ⟨pv0, rv0, ps0, rs0, e0, hp0, hn0, hr0, hc0⟩ := Open.progC_of t0 (Open.light_left hL)
    obtain rfl := Open.agg_of Try.underlying25 (hval 0 25 v0 rfl rfl) e0
    obtain ⟨pv1, rv1, ps1, rs1, e1, hp1, hn1, hr1, hc1⟩ := Open.progC_of t1 (Open.light_left (Open.light_right hL))
    obtain rfl := Open.agg_of Try.underlying25 (hval 1 25 v1 rfl rfl) e1
    obtain ⟨x2, e2, _, hs2⟩ := DataW.trod_int Try.underlying3 t2
    obtain rfl := Open.int_of Try.underlying3 (hval 2 3 v2 rfl rfl) e2
    exact lawTells_walk W pv0 rv0 pv1 rv1 x2 ps0 ps1 rs0 rs1 hp0 hr0 hp1 hr1 hn0 hn1 hc0 (Prog.wf_range hs2)
end Go.Proofs.Ytlfccloaoopadag.Sum
namespace Go.Proofs.Ytlfccloaoopadag
/-- THE STATEMENT -/
theorem sumTells_proved : Rows.SumTellsSaid :=
  OpenClaim.holds_of_wide 3 Try.f3 rfl rfl rfl rfl rfl rfl rfl ⟨rfl, rfl, rfl, rfl, rfl⟩ rfl rfl rfl rfl rfl (by kernel_rfl) Try.func3 (by kernel_rfl)
    (of_decide_eq_true (by kernel_rfl)) (by unfold Func.isWrapper; first | (rw [if_pos (by decide +kernel)]; kernel_rfl) | (rw [if_neg (by decide +kernel)]; exact ⟨rfl, rfl⟩))
    (fun os started H enc _ => Sum.sumTells_lifted os started H enc)
#print axioms sumTells_proved
end Go.Proofs.Ytlfccloaoopadag
