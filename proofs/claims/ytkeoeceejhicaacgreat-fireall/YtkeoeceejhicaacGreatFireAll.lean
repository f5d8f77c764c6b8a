/-
  What is proved: fire.All answers just what the document's own 'AllOf' answers, errors too, for every program, every list of facts and every number; no condition.
-/
import Derived.Test.YtkeoeceejhicaacGreatG22
import Derived.Test.YtkeoeceejhicaacGreatG11
import Derived.Test.YtkeoeceejhicaacGreatG25
import Derived.Test.YtkeoeceejhicaacGreatG26
import Derived.Test.YtkeoeceejhicaacGreatG27
namespace Go.Proofs.YtkeoeceejhicaacGreat.Fire
open Go.ChangeShapes Go.WideShapes Go.ChangeAt Go.RowKit
open Rule (Vars)
open Prog (small)

set_option maxRecDepth 100000 in
set_option maxHeartbeats 4000000 in
theorem lawAll_walk (w : World) (pv rv fv : Value) (ps : List Prd) (rs : List Rul) (f : List Fct) (n : Int) (hp : predsAt w pv ps) (hr : rulesAt w rv rs) (hf : factsAt w fv f) (hn : small ps) :
    Calls Tryz.prog 4 #[.agg #[pv, rv], fv, .int .i64 n] w fun e w' => e = .returned (.bool true) ∧ Below w.heap.size w w' := by
  have HA : Hid (∀ x, Below w.heap.size w x → Calls Tryz.prog 11 #[.agg #[pv, rv], fv, .int .i64 n] x fun e w' => (∃ v, e = .returned (.tuple #[v, .int .i64 (fireErr ps rs f n)]) ∧ stepsAt w' v (allOf ps rs f n)) ∧ Below x.heap.size x w') := fun x hx => devAll_c x pv rv fv ps rs f n (predsAt.lasts hx hp) (rulesAt.lasts hx hr) (factsAt.lasts hx hf) hn
  have HE : Hid (∀ x, Below w.heap.size w x → Calls Tryz.prog 12 #[.agg #[pv, rv], fv, .int .i64 n] x fun e w' => e = .returned (.int .i64 (fireErr ps rs f n)) ∧ Below x.heap.size x w') := fun x hx => fireError_c x pv rv fv ps rs f n (predsAt.lasts hx hp) (rulesAt.lasts hx hr) (factsAt.lasts hx hf) hn
  have HO : Hid (fireErr ps rs f n = 0 → ∀ x, Below w.heap.size w x → Calls Tryz.prog 13 #[.agg #[pv, rv], fv, .int .i64 n] x fun e w' => ∃ v, e = .returned v ∧ stepsAt w' v (allOf ps rs f n) ∧ Below x.heap.size x w') := fun hfe x hx => by
    obtain ⟨z1, z2, z3, z4⟩ := fire_zero hfe
    obtain ⟨m, rfl⟩ : ∃ m : Nat, n = (m : Int) := ⟨n.toNat, by omega⟩
    have hml : m < rs.length := by omega
    have h := allOf_c x pv rv fv ps rs f m (predsAt.lasts hx hp) (rulesAt.lasts hx hr) (factsAt.lasts hx hf) (rules_right z1) z2 hml
    have e : allOf ps rs f m = allL f rs[m] m := by rw [allOf, if_neg (by rw [hfe]; simp), Int.toNat_natCast, List.getElem?_eq_getElem hml]
    rw [e]
    exact h
  have HZ : Hid (fireErr ps rs f n ≠ 0 → allOf ps rs f n = []) := fun h => by rw [allOf, if_pos h]
  obtain ⟨pa, pc, rfl, _⟩ := hp
  obtain ⟨ra, rc, rfl, _⟩ := hr
  obtain ⟨fa, fc, rfl, _⟩ := hf
  generalize allOf ps rs f n = L at *
  generalize fireErr ps rs f n = er at *
  go_enter Tryz.func4, Tryz.ntmps4
  go_wp2_with fail
  refine (HA.out _ (below_alloc _ _)).mono ?_
  rintro e W1 ⟨⟨v1, rfl, hst⟩, hb1⟩
  have k1 : Below w.heap.size w W1 := below_trans (below_alloc _ _) hb1
  have B1 := Prog.boxL hb1
  obtain ⟨c0, c1, _⟩ := id B1
  have HST : Hid (∀ x, Below W1.heap.size W1 x → stepsAt x v1 L) := fun x hx => stepsAt.lasts hx hst
  clear hb1 hst
  go_wp2_with fail
  refine (HE.out _ k1).mono ?_
  rintro e W2 ⟨rfl, hb2⟩
  have k2 : Below w.heap.size w W2 := k1.trans (hb2.mono k1.size)
  have B2 := Prog.boxO hb2 B1
  clear c0 c1 B1
  obtain ⟨c0, c1, _⟩ := id B2
  by_cases her : er = 0
  · subst her
    have HO' := HO.out rfl
    clear HO HZ
    have HOH : Hid (∀ x, Below w.heap.size w x → Calls Tryz.prog 13 #[.agg #[.slice pa ps.length pc, .slice ra rs.length rc], .slice fa f.length fc, .int .i64 n] x fun e w' => ∃ v, e = .returned v ∧ stepsAt w' v L ∧ Below x.heap.size x w') := HO'
    clear HO'
    go_wp2_with fail
    refine (HOH.out _ k2).mono ?_
    rintro e W3 ⟨v3, rfl, hst3, hb3⟩
    have k3 : Below w.heap.size w W3 := k2.trans (hb3.mono k2.size)
    have HS3 : Hid (∀ x, Below W3.heap.size W3 x → stepsAt x v3 L) := fun x hx => stepsAt.lasts hx hst3
    have k13 : Below W1.heap.size W1 W3 := hb2.trans (hb3.mono hb2.size)
    clear hst3 hb3 c0 c1 HOH
    go_wp2_with fail
    refine (fireBegun_c _).mono ?_
    rintro e W4 ⟨rfl, hb4⟩
    have k4 : Below w.heap.size w W4 := k3.trans (hb4.mono k3.size)
    go_wp2_with fail
    refine (sameSteps_c _ _ _ L L (HST.out _ (k13.trans (hb4.mono k13.size))) (HS3.out _ hb4)).mono ?_
    rintro e W5 ⟨rfl, hb5⟩
    rw [decide_eq_true rfl]
    go_wp2_with fail
    go_ret
    exact ⟨rfl, k4.trans (hb5.mono k4.size)⟩
  · have her' : (er == 0) = false := by simpa using her
    obtain rfl := HZ.out her
    clear HO HZ
    go_wp2_with fail
    refine (fireBegun_c _).mono ?_
    rintro e W4 ⟨rfl, hb4⟩
    have k4 : Below w.heap.size w W4 := k2.trans (hb4.mono k2.size)
    go_wp2_with fail
    refine (sameSteps_c _ _ _ [] [] (HST.out _ (hb2.trans (hb4.mono hb2.size))) ⟨none, 0, rfl, by simp, .inl rfl⟩).mono ?_
    rintro e W5 ⟨rfl, hb5⟩
    rw [decide_eq_true rfl]
    go_wp2_with fail
    go_ret
    exact ⟨by simp, k4.trans (hb5.mono k4.size)⟩

set_option maxRecDepth 100000 in
theorem lawAll_lifted (os : Os) (started : os.Started) (H : Type) (enc : TypeId × Value → H) :
    ReturnsInHanded {} Tryz.checked os 4 .any (Rows.fireAllSpec.pre6 enc Tryz.prog Tryz.f4 Rows.fireAllRow.domain false) (Rows.fireAllSpec.post enc Tryz.prog Tryz.f4 false true false false) := by
  refine Kit.lifted_of (C := Tryz.checked) (t := 4) (by kernel_rfl) started (by kernel_rfl) Tryz.func4
    (ChangeSpec.witness6 (enc := enc) (C := Tryz.checked) false ⟨#[], #[.agg #[.slice none 0 0, .slice none 0 0], .slice none 0 0, .int .i64 0], []⟩ 8 (by kernel_rfl) (by kernel_rfl) (by kernel_rfl) (by kernel_rfl))
    (by kernel_rfl) (by kernel_rfl) (by kernel_rfl) Tryz.underlying4 rfl ?_ ?_
  · intro ds hds
    rw [show Tryz.f4.params.toList.length = 3 by kernel_rfl] at hds
    match ds, hds with
    | [d0, d1, d2], _ => rfl
  · intro W base args ds ps hval0 hA0 hsz0
    have hval : ∀ (j : Nat) t v, Tryz.f4.params[j]? = some t → args[j]? = some v → Value.okWide Tryz.prog W .any base t v := hval0
    have hA : DataW.TrodAll enc Tryz.prog W 0 (fun _ => true) true Tryz.f4.params.toList args.toList ds ps := hA0
    have hsz : (DataW.weightsEach Tryz.prog (Tryz.f4.params.toList ++ []) (ds ++ [])).all (· ≤ reachBytes) = true := hsz0
    rw [Tryz.params4] at hA hval hsz
    obtain ⟨v0, vs0, d0, ds0, p0, q0, hargs, rfl, rfl, h0, r0⟩ := trodAll_cons hA
    obtain ⟨v1, vs1, d1, ds1, p1, q1, rfl, rfl, rfl, h1, r1⟩ := trodAll_cons r0
    obtain ⟨v2, vs2, d2, ds2, p2, q2, rfl, rfl, rfl, h2, r2⟩ := trodAll_cons r1
    obtain ⟨rfl, rfl, rfl⟩ := trodAll_nil r2
    obtain rfl : args = #[v0, v1, v2] := by cases args; simp_all
    have hL := Open.light_all hsz
    simp only [List.append_nil, DataW.weightsEach] at hL
    obtain ⟨n0, t0⟩ := Open.trod_one h0
    obtain ⟨n1, t1⟩ := Open.trod_one h1
    obtain ⟨n2, t2⟩ := Open.trod_one h2
    obtain ⟨pv, rv, ps, rs, e0, hp, hn, hr⟩ := Open.prog_of t0 (Open.light_left hL)
    obtain rfl := Open.agg_of Tryz.underlying25 (hval 0 25 v0 rfl rfl) e0
    obtain ⟨fv1, f1, e1, hf1, _⟩ := Open.facts_of t1 (Open.light_left (Open.light_right hL))
    obtain rfl := Open.slice_of Tryz.underlying26 (hval 1 26 v1 rfl rfl) e1
    obtain ⟨x2, e2, _⟩ := DataW.trod_int Tryz.underlying3 t2
    obtain rfl := Open.int_of Tryz.underlying3 (hval 2 3 v2 rfl rfl) e2
    exact lawAll_walk W pv rv v1 ps rs f1 x2 hp hr hf1 hn
end Go.Proofs.YtkeoeceejhicaacGreat.Fire
namespace Go.Proofs.YtkeoeceejhicaacGreat
/-- THE STATEMENT -/
theorem fireAll_proved : Rows.FireAllSaid :=
  OpenClaim.holds_of_wide 4 Tryz.f4 rfl rfl rfl rfl rfl rfl rfl ⟨rfl, rfl, rfl, rfl, rfl⟩ rfl rfl rfl rfl rfl (by kernel_rfl) Tryz.func4 (by kernel_rfl)
    (of_decide_eq_true (by kernel_rfl)) (by unfold Func.isWrapper; first | (rw [if_pos (by decide +kernel)]; kernel_rfl) | (rw [if_neg (by decide +kernel)]; exact ⟨rfl, rfl⟩))
    (fun os started H enc _ => Fire.lawAll_lifted os started H enc)
#print axioms fireAll_proved
end Go.Proofs.YtkeoeceejhicaacGreat
