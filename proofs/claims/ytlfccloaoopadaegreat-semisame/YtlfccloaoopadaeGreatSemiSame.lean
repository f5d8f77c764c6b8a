/-
  What is proved: for every program: semi's Model tells the facts and the error that naive's Model tells, and at least as many steps held as there are facts; no condition.
-/
import Derived.Test.YtlfccloaoopadaeGreatG27
import Derived.Test.YtlfccloaoopadaeGreatG30
import Derived.Test.YtlfccloaoopadaeGreatG31
import Derived.Test.YtlfccloaoopadaeGreatG32
import Derived.Test.YtlfccloaoopadaeGreatG5
import Derived.Test.YtlfccloaoopadaeGreatG23
namespace Go.Proofs.YtlfccloaoopadaeGreat.Semi
open Go.ChangeShapes Go.WideShapes Go.ChangeAt Go.RowKit
open Prog (progErr small)
open Naive (modelF)

theorem semi_many {ps : List Prd} {rs : List Rul} : (modelF ps rs).length ≤ semiN ps rs := by
  by_cases h : progErr ps rs = 0
  · rw [modelF, semiN, if_neg (by rw [h]; simp), if_neg (by rw [h]; simp)]
    exact held_model h _
  · rw [modelF, if_pos h]
    exact Nat.zero_le _

set_option maxRecDepth 100000 in
set_option maxHeartbeats 8000000 in
theorem lawSame_walk (w : World) (pv rv : Value) (ps : List Prd) (rs : List Rul) (hp : predsAt w pv ps) (hr : rulesAt w rv rs) (hn : small ps) :
    Calls Tryz.prog 4 #[.agg #[pv, rv]] w fun e w' => e = .returned (.bool true) ∧ Below w.heap.size w w' := by
  have HSM : Hid (∀ x, Below w.heap.size w x → Calls Tryz.prog 9 #[.agg #[pv, rv]] x fun e w' => ∃ u, e = .returned (.tuple #[u, .int .i64 (semiN ps rs : Int), .int .i64 (progErr ps rs)]) ∧ factsAt w' u (modelF ps rs) ∧ Below x.heap.size x w') := fun x hx => (devSemi_c x pv rv ps rs (predsAt.lasts hx hp) (rulesAt.lasts hx hr) hn).mono fun _ _ ⟨u, h1, h2, _, h3⟩ => ⟨u, h1, h2, h3⟩
  have HNM : Hid (∀ x, Below w.heap.size w x → Calls Tryz.prog 14 #[.agg #[pv, rv]] x fun e w' => ∃ u, e = .returned (.tuple #[u, .int .i64 (progErr ps rs)]) ∧ factsAt w' u (modelF ps rs) ∧ Below x.heap.size x w') := fun x hx => Naive.devModel_c x pv rv ps rs (predsAt.lasts hx hp) (rulesAt.lasts hx hr) hn
  have hge : ((modelF ps rs).length : Int) ≤ (semiN ps rs : Int) := by have := semi_many (ps := ps) (rs := rs); omega
  obtain ⟨pa, pc, rfl, _⟩ := hp
  obtain ⟨ra, rc, rfl, _⟩ := hr
  generalize modelF ps rs = M at *
  generalize (semiN ps rs : Int) = N at *
  generalize progErr ps rs = E at *
  go_enter Tryz.func4, Tryz.ntmps4
  go_wp2_with fail
  refine (HSM.out _ (below_alloc _ _)).mono ?_
  rintro e W1 ⟨u1, rfl, hs1, hb1⟩
  have k1 : Below w.heap.size w W1 := below_trans (below_alloc _ _) hb1
  have B1 := Prog.boxL hb1
  obtain ⟨c0, c1, _⟩ := id B1
  have HS1 : Hid (∀ x, Below W1.heap.size W1 x → factsAt x u1 M) := fun x hx => factsAt.lasts hx hs1
  obtain ⟨ua, uc, rfl, _⟩ := hs1
  clear hb1
  go_wp2_with fail
  refine (HNM.out _ k1).mono ?_
  rintro e W2 ⟨u2, rfl, hs2, hb2⟩
  have k2 : Below w.heap.size w W2 := k1.trans (hb2.mono k1.size)
  have HS2 : Hid (∀ x, Below W2.heap.size W2 x → factsAt x u2 M) := fun x hx => factsAt.lasts hx hs2
  obtain ⟨va, vc, rfl, _⟩ := hs2
  clear c0 c1
  go_wp2_with fail
  refine (semiBegun_c _).mono ?_
  rintro e W4 ⟨rfl, hb4⟩
  have k4 : Below w.heap.size w W4 := k2.trans (hb4.mono k2.size)
  have q14 : Below W1.heap.size W1 W4 := hb2.trans (hb4.mono hb2.size)
  have HSF : Hid (Calls Tryz.prog 13 #[.slice ua M.length uc, .slice va M.length vc] W4 fun e w' => e = .returned (.bool true) ∧ Below W4.heap.size W4 w') := by
    have h := Base.sameFacts_c W4 _ _ M M (HS1.out W4 q14) (HS2.out W4 hb4)
    rw [decide_eq_true rfl] at h
    exact h
  go_wp2_with fail
  refine HSF.out.mono ?_
  rintro e W5 ⟨rfl, hb5⟩
  go_wp2_with fail
  go_ret
  exact ⟨rfl, k4.trans (hb5.mono k4.size)⟩

set_option maxRecDepth 100000 in
theorem lawSame_lifted (os : Os) (started : os.Started) (H : Type) (enc : TypeId × Value → H) :
    ReturnsInHanded {} Tryz.checked os 4 .any (Rows.semiSameSpec.pre6 enc Tryz.prog Tryz.f4 Rows.semiSameRow.domain false) (Rows.semiSameSpec.post enc Tryz.prog Tryz.f4 false true false false) := by
  refine Kit.lifted_of (C := Tryz.checked) (t := 4) (by kernel_rfl) started (by kernel_rfl) Tryz.func4
    (ChangeSpec.witness6 (enc := enc) (C := Tryz.checked) false ⟨#[], #[.agg #[.slice none 0 0, .slice none 0 0]], []⟩ 8 (by kernel_rfl) (by kernel_rfl) (by kernel_rfl) (by kernel_rfl))
    (by kernel_rfl) (by kernel_rfl) (by kernel_rfl) Tryz.underlying4 rfl ?_ ?_
  · intro ds hds
    rw [show Tryz.f4.params.toList.length = 1 by kernel_rfl] at hds
    match ds, hds with
    | [d0], _ => rfl
  · intro W base args ds ps hval0 hA0 hsz0
    have hval : ∀ (j : Nat) t v, Tryz.f4.params[j]? = some t → args[j]? = some v → Value.okWide Tryz.prog W .any base t v := hval0
    have hA : DataW.TrodAll enc Tryz.prog W 0 (fun _ => true) true Tryz.f4.params.toList args.toList ds ps := hA0
    have hsz : (DataW.weightsEach Tryz.prog (Tryz.f4.params.toList ++ []) (ds ++ [])).all (· ≤ reachBytes) = true := hsz0
    rw [Tryz.params4] at hA hval hsz
    obtain ⟨v0, vs0, d0, ds0, p0, q0, hargs, rfl, rfl, h0, r0⟩ := trodAll_cons hA
    obtain ⟨rfl, rfl, rfl⟩ := trodAll_nil r0
    obtain rfl : args = #[v0] := by cases args; simp_all
    have hL := Open.light_all hsz
    simp only [List.append_nil, DataW.weightsEach] at hL
    obtain ⟨n0, t0⟩ := Open.trod_one h0
    obtain ⟨pv, rv, ps, rs, e0, hp, hn, hr⟩ := Open.prog_of t0 hL
    obtain rfl := Open.agg_of Tryz.underlying25 (hval 0 25 v0 rfl rfl) e0
    exact lawSame_walk W pv rv ps rs hp hr hn
end Go.Proofs.YtlfccloaoopadaeGreat.Semi
namespace Go.Proofs.YtlfccloaoopadaeGreat
/-- THE STATEMENT -/
theorem semiSame_proved : Rows.SemiSameSaid :=
  OpenClaim.holds_of_wide 4 Tryz.f4 rfl rfl rfl rfl rfl rfl rfl ⟨rfl, rfl, rfl, rfl, rfl⟩ rfl rfl rfl rfl rfl (by kernel_rfl) Tryz.func4 (by kernel_rfl)
    (of_decide_eq_true (by kernel_rfl)) (by unfold Func.isWrapper; first | (rw [if_pos (by decide +kernel)]; kernel_rfl) | (rw [if_neg (by decide +kernel)]; exact ⟨rfl, rfl⟩))
    (fun os started H enc _ => Semi.lawSame_lifted os started H enc)
#print axioms semiSame_proved
end Go.Proofs.YtlfccloaoopadaeGreat
