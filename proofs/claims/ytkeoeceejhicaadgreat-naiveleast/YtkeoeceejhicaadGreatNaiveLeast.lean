/-
  What is proved: for every program and every list of facts: if no literal is Not, the Model is under all facts that are closed; no condition.
-/
import Derived.Test.YtkeoeceejhicaadGreatG22
import Derived.Test.YtkeoeceejhicaadGreatH2
import Derived.Test.YtkeoeceejhicaadGreatG26
import Derived.Test.YtkeoeceejhicaadGreatG27
import Derived.Test.YtkeoeceejhicaadGreatG28
namespace Go.Proofs.YtkeoeceejhicaadGreat.Naive
open Go.ChangeShapes Go.WideShapes Go.ChangeAt Go.RowKit
open Prog (progErr small)
open Base (underOf factsErr)
open Fire (roundErr posP positive_c)
open Round (closedB devClosed_c)

theorem least_under {ps : List Prd} {rs : List Rul} {f : List Fct} (hf : roundErr ps rs f = 0) (hc : closedB ps rs f = true) (hp : posP rs = true) : underOf ps (modelF ps rs) f = (true, 0) := by
  obtain ⟨h1, h2, _⟩ := Round.once_level 0 hf
  have hm := model_right h1 (strataN (Round.stratOf ps rs))
  rw [modelF, if_neg (by rw [h1]; simp), modelL, Round.underOf_right (Round.once_level 0 hm).2.1 h2, model_least h1 hf hp hc]

set_option maxRecDepth 100000 in
set_option maxHeartbeats 8000000 in
theorem lawLeast_walk (w : World) (pv rv fv : Value) (ps : List Prd) (rs : List Rul) (f : List Fct) (hp : predsAt w pv ps) (hr : rulesAt w rv rs) (hf : factsAt w fv f) (hn : small ps) :
    Calls Tryz.prog 7 #[.agg #[pv, rv], fv] w fun e w' => e = .returned (.bool true) ∧ Below w.heap.size w w' := by
  have HMO : Hid (∀ x, Below w.heap.size w x → Calls Tryz.prog 15 #[.agg #[pv, rv]] x fun e w' => ∃ u, e = .returned (.tuple #[u, .int .i64 (progErr ps rs)]) ∧ factsAt w' u (modelF ps rs) ∧ Below x.heap.size x w') := fun x hx => devModel_c x pv rv ps rs (predsAt.lasts hx hp) (rulesAt.lasts hx hr) hn
  have HCL : Hid (∀ x, Below w.heap.size w x → Calls Tryz.prog 22 #[.agg #[pv, rv], fv] x fun e w' => e = .returned (.tuple #[.bool (closedB ps rs f), .int .i64 (roundErr ps rs f)]) ∧ Below x.heap.size x w') := fun x hx => devClosed_c x pv rv fv ps rs f (predsAt.lasts hx hp) (rulesAt.lasts hx hr) (factsAt.lasts hx hf) hn
  have HPO : Hid (∀ x, Below w.heap.size w x → Calls Tryz.prog 13 #[.agg #[pv, rv]] x fun e w' => e = .returned (.bool (posP rs)) ∧ Below x.heap.size x w') := fun x hx => positive_c x pv rv rs (by obtain ⟨pa, pc, rfl, _⟩ := hp; exact ⟨_, _, _, rfl⟩) (rulesAt.lasts hx hr)
  have HUN : Hid (∀ x u g, Below w.heap.size w x → factsAt x u g → Calls Tryz.prog 14 #[pv, u, fv] x fun e w' => e = .returned (.tuple #[.bool (underOf ps g f).1, .int .i64 (underOf ps g f).2]) ∧ Below x.heap.size x w') := fun x u g hx hg => Base.Under_c x pv u fv ps g f (predsAt.lasts hx hp) hg (factsAt.lasts hx hf)
  have HLU : Hid (roundErr ps rs f = 0 → closedB ps rs f = true → posP rs = true → underOf ps (modelF ps rs) f = (true, 0)) := least_under
  have HER : Hid (roundErr ps rs f = 0 → progErr ps rs = 0) := fun h => (Round.once_level 0 h).1
  obtain ⟨pa, pc, rfl, _⟩ := hp
  obtain ⟨ra, rc, rfl, _⟩ := hr
  obtain ⟨fa, fc, rfl, _⟩ := hf
  generalize closedB ps rs f = C at *
  generalize roundErr ps rs f = E at *
  generalize posP rs = Q at *
  generalize modelF ps rs = M at *
  go_enter Tryz.func7, Tryz.ntmps7
  go_wp2_with fail
  refine (HMO.out _ (below_alloc _ _)).mono ?_
  rintro e W1 ⟨u1, rfl, hf1, hb1⟩
  have k1 : Below w.heap.size w W1 := below_trans (below_alloc _ _) hb1
  have B1 := Prog.boxL hb1
  obtain ⟨c0, c1, _⟩ := id B1
  have HF1 : Hid (∀ x, Below W1.heap.size W1 x → factsAt x u1 M) := fun x hx => factsAt.lasts hx hf1
  obtain ⟨ua, uc, rfl, _⟩ := hf1
  clear hb1
  go_wp2_with fail
  refine (HCL.out _ k1).mono ?_
  rintro e W2 ⟨rfl, hb2⟩
  have k2 : Below w.heap.size w W2 := k1.trans (hb2.mono k1.size)
  have B2 := Prog.boxO hb2 B1
  clear c0 c1
  obtain ⟨c0, c1, _⟩ := id B2
  by_cases e1 : E = 0
  · subst e1
    have hpe : progErr ps rs = 0 := HER.out rfl
    rw [hpe]
    cases C
    · go_wp2_with fail
      refine (naiveBegun_c _).mono ?_
      rintro e W4 ⟨rfl, hb4⟩
      go_wp2_with fail
      go_ret
      exact ⟨rfl, k2.trans (hb4.mono k2.size)⟩
    · go_wp2_with fail
      refine (HPO.out _ k2).mono ?_
      rintro e W3 ⟨rfl, hb3⟩
      have k3 : Below w.heap.size w W3 := k2.trans (hb3.mono k2.size)
      have B3 := Prog.boxO hb3 B2
      clear c0 c1
      obtain ⟨c0, c1, _⟩ := id B3
      cases Q
      · go_wp2_with fail
        refine (naiveBegun_c _).mono ?_
        rintro e W4 ⟨rfl, hb4⟩
        go_wp2_with fail
        go_ret
        exact ⟨rfl, k3.trans (hb4.mono k3.size)⟩
      · have HU4 : Hid (Calls Tryz.prog 14 #[.slice pa ps.length pc, .slice ua M.length uc, .slice fa f.length fc] W3 fun e w' => e = .returned (.tuple #[.bool true, .int .i64 0]) ∧ Below W3.heap.size W3 w') := by
          have h := HUN.out W3 _ M k3 (HF1.out W3 (hb2.trans (hb3.mono hb2.size)))
          rw [HLU.out (by first | rfl | trivial) (by first | rfl | trivial) (by first | rfl | trivial)] at h
          exact h
        go_wp2_with fail
        refine HU4.out.mono ?_
        rintro e W4 ⟨rfl, hb4⟩
        have k4 : Below w.heap.size w W4 := k3.trans (hb4.mono k3.size)
        go_wp2_with fail
        refine (naiveBegun_c _).mono ?_
        rintro e W5 ⟨rfl, hb5⟩
        go_wp2_with fail
        go_ret
        exact ⟨rfl, k4.trans (hb5.mono k4.size)⟩
  · have e1' : (E == 0) = false := by simpa using e1
    by_cases hpe : progErr ps rs = 0
    · rw [hpe]
      go_wp2_with fail
      refine (naiveBegun_c _).mono ?_
      rintro e W4 ⟨rfl, hb4⟩
      go_wp2_with fail
      go_ret
      exact ⟨rfl, k2.trans (hb4.mono k2.size)⟩
    · have hpe' : (progErr ps rs == 0) = false := by simpa using hpe
      go_wp2_with fail
      refine (naiveBegun_c _).mono ?_
      rintro e W4 ⟨rfl, hb4⟩
      go_wp2_with fail
      go_ret
      exact ⟨rfl, k2.trans (hb4.mono k2.size)⟩

set_option maxRecDepth 100000 in
theorem lawLeast_lifted (os : Os) (started : os.Started) (H : Type) (enc : TypeId × Value → H) :
    ReturnsInHanded {} Tryz.checked os 7 .any (Rows.naiveLeastSpec.pre6 enc Tryz.prog Tryz.f7 Rows.naiveLeastRow.domain false) (Rows.naiveLeastSpec.post enc Tryz.prog Tryz.f7 false true false false) := by
  refine Kit.lifted_of (C := Tryz.checked) (t := 4) (by kernel_rfl) started (by kernel_rfl) Tryz.func7
    (ChangeSpec.witness6 (enc := enc) (C := Tryz.checked) false ⟨#[], #[.agg #[.slice none 0 0, .slice none 0 0], .slice none 0 0], []⟩ 8 (by kernel_rfl) (by kernel_rfl) (by kernel_rfl) (by kernel_rfl))
    (by kernel_rfl) (by kernel_rfl) (by kernel_rfl) Tryz.underlying4 rfl ?_ ?_
  · intro ds hds
    rw [show Tryz.f7.params.toList.length = 2 by kernel_rfl] at hds
    match ds, hds with
    | [d0, d1], _ => rfl
  · intro W base args ds ps hval0 hA0 hsz0
    have hval : ∀ (j : Nat) t v, Tryz.f7.params[j]? = some t → args[j]? = some v → Value.okWide Tryz.prog W .any base t v := hval0
    have hA : DataW.TrodAll enc Tryz.prog W 0 (fun _ => true) true Tryz.f7.params.toList args.toList ds ps := hA0
    have hsz : (DataW.weightsEach Tryz.prog (Tryz.f7.params.toList ++ []) (ds ++ [])).all (· ≤ reachBytes) = true := hsz0
    rw [Tryz.params7] at hA hval hsz
    obtain ⟨v0, vs0, d0, ds0, p0, q0, hargs, rfl, rfl, h0, r0⟩ := trodAll_cons hA
    obtain ⟨v1, vs1, d1, ds1, p1, q1, rfl, rfl, rfl, h1, r1⟩ := trodAll_cons r0
    obtain ⟨rfl, rfl, rfl⟩ := trodAll_nil r1
    obtain rfl : args = #[v0, v1] := by cases args; simp_all
    have hL := Open.light_all hsz
    simp only [List.append_nil, DataW.weightsEach] at hL
    obtain ⟨n0, t0⟩ := Open.trod_one h0
    obtain ⟨n1, t1⟩ := Open.trod_one h1
    obtain ⟨pv, rv, ps, rs, e0, hp, hn, hr⟩ := Open.prog_of t0 (Open.light_left hL)
    obtain rfl := Open.agg_of Tryz.underlying25 (hval 0 25 v0 rfl rfl) e0
    obtain ⟨fv1, f1, e1, hf1, _⟩ := Open.facts_of t1 (Open.light_right hL)
    obtain rfl := Open.slice_of Tryz.underlying26 (hval 1 26 v1 rfl rfl) e1
    exact lawLeast_walk W pv rv v1 ps rs f1 hp hr hf1 hn
end Go.Proofs.YtkeoeceejhicaadGreat.Naive
namespace Go.Proofs.YtkeoeceejhicaadGreat
/-- THE STATEMENT -/
theorem naiveLeast_proved : Rows.NaiveLeastSaid :=
  OpenClaim.holds_of_wide 7 Tryz.f7 rfl rfl rfl rfl rfl rfl rfl ⟨rfl, rfl, rfl, rfl, rfl⟩ rfl rfl rfl rfl rfl (by kernel_rfl) Tryz.func7 (by kernel_rfl)
    (of_decide_eq_true (by kernel_rfl)) (by unfold Func.isWrapper; first | (rw [if_pos (by decide +kernel)]; kernel_rfl) | (rw [if_neg (by decide +kernel)]; exact ⟨rfl, rfl⟩))
    (fun os started H enc _ => Naive.lawLeast_lifted os started H enc)
#print axioms naiveLeast_proved
end Go.Proofs.YtkeoeceejhicaadGreat
