/-
  What is proved: for every program: Model of package semi answers just what the document's own answers, errors too; no condition.
-/
import Derived.Test.YtlfccloaoopadaeGreatG27
import Derived.Test.YtlfccloaoopadaeGreatG30
import Derived.Test.YtlfccloaoopadaeGreatG31
import Derived.Test.YtlfccloaoopadaeGreatG32
import Derived.Test.YtlfccloaoopadaeGreatG5
import Derived.Test.YtlfccloaoopadaeGreatG11
namespace Go.Proofs.YtlfccloaoopadaeGreat.Semi
open Go.ChangeShapes Go.WideShapes Go.ChangeAt Go.RowKit
open Prog (progErr small)
open Naive (modelF modelL strataN)
open Round (stratOf)

set_option maxRecDepth 100000 in
set_option maxHeartbeats 8000000 in
theorem lawTells_walk (w : World) (pv rv : Value) (ps : List Prd) (rs : List Rul) (hp : predsAt w pv ps) (hr : rulesAt w rv rs) (hn : small ps) :
    Calls Tryz.prog 3 #[.agg #[pv, rv]] w fun e w' => e = .returned (.bool true) ∧ Below w.heap.size w w' := by
  have HSM : Hid (∀ x, Below w.heap.size w x → Calls Tryz.prog 9 #[.agg #[pv, rv]] x fun e w' => ∃ u, e = .returned (.tuple #[u, .int .i64 (semiN ps rs : Int), .int .i64 (progErr ps rs)]) ∧ factsAt w' u (modelF ps rs) ∧ Below x.heap.size x w') := fun x hx => (devSemi_c x pv rv ps rs (predsAt.lasts hx hp) (rulesAt.lasts hx hr) hn).mono fun _ _ ⟨u, h1, h2, _, h3⟩ => ⟨u, h1, h2, h3⟩
  have HCP : Hid (∀ x, Below w.heap.size w x → Calls Tryz.prog 10 #[.agg #[pv, rv]] x fun e w' => e = .returned (.int .i64 (progErr ps rs)) ∧ Below x.heap.size x w') := fun x hx => Prog.checkProg_c x pv rv ps rs (predsAt.lasts hx hp) (rulesAt.lasts hx hr) hn
  have HSO : Hid (progErr ps rs = 0 → ∀ x, Below w.heap.size w x → Calls Tryz.prog 11 #[.agg #[pv, rv]] x fun e w' => ∃ u, e = .returned (.tuple #[u, .int .i64 (semiN ps rs : Int)]) ∧ factsAt w' u (modelF ps rs) ∧ Below x.heap.size x w') := fun h x hx => by
    have h1 := semiOf_c x pv rv ps rs (predsAt.lasts hx hp) (rulesAt.lasts hx hr) h
    rw [semiN, modelF, if_neg (by rw [h]; simp), if_neg (by rw [h]; simp)]
    exact h1
  have HTN : Hid (progErr ps rs ≠ 0 → modelF ps rs = [] ∧ semiN ps rs = 0) := fun h => ⟨by rw [modelF, if_pos h], by rw [semiN, if_pos h]⟩
  obtain ⟨pa, pc, rfl, _⟩ := hp
  obtain ⟨ra, rc, rfl, _⟩ := hr
  generalize modelF ps rs = M at *
  generalize semiN ps rs = N at *
  go_enter Tryz.func3, Tryz.ntmps3
  go_wp2_with fail
  refine (HSM.out _ (below_alloc _ _)).mono ?_
  rintro e W1 ⟨u1, rfl, hs1, hb1⟩
  have k1 : Below w.heap.size w W1 := below_trans (below_alloc _ _) hb1
  have B1 := Prog.boxL hb1
  obtain ⟨c0, c1, _⟩ := id B1
  have HS1 : Hid (∀ x, Below W1.heap.size W1 x → factsAt x u1 M) := fun x hx => factsAt.lasts hx hs1
  obtain ⟨ua, uc, rfl, _⟩ := hs1
  clear hb1
  go_wp2_with fail
  refine (HCP.out _ k1).mono ?_
  rintro e W2 ⟨rfl, hb2⟩
  have k2 : Below w.heap.size w W2 := k1.trans (hb2.mono k1.size)
  have B2 := Prog.boxO hb2 B1
  clear c0 c1
  obtain ⟨c0, c1, _⟩ := id B2
  by_cases hpe : progErr ps rs = 0
  · have HT := HSO.out hpe W2 k2
    rw [hpe]
    go_wp2_with fail
    refine HT.mono ?_
    rintro e W3 ⟨u3, rfl, hs3, hb3⟩
    have k3 : Below w.heap.size w W3 := k2.trans (hb3.mono k2.size)
    have HS3 : Hid (∀ x, Below W3.heap.size W3 x → factsAt x u3 M) := fun x hx => factsAt.lasts hx hs3
    obtain ⟨va, vc, rfl, _⟩ := hs3
    go_wp2_with fail
    refine (semiBegun_c _).mono ?_
    rintro e W4 ⟨rfl, hb4⟩
    have k4 : Below w.heap.size w W4 := k3.trans (hb4.mono k3.size)
    have q34 : Below W1.heap.size W1 W4 := hb2.trans ((hb3.trans (hb4.mono hb3.size)).mono hb2.size)
    have HSF : Hid (Calls Tryz.prog 13 #[.slice ua M.length uc, .slice va M.length vc] W4 fun e w' => e = .returned (.bool true) ∧ Below W4.heap.size W4 w') := by
      have h := Base.sameFacts_c W4 _ _ M M (HS1.out W4 q34) (HS3.out W4 hb4)
      rw [decide_eq_true rfl] at h
      exact h
    go_wp2_with fail
    refine HSF.out.mono ?_
    rintro e W5 ⟨rfl, hb5⟩
    go_wp2_with fail
    go_ret
    exact ⟨rfl, k4.trans (hb5.mono k4.size)⟩
  · have hpe' : (progErr ps rs == 0) = false := by simpa using hpe
    obtain ⟨rfl, rfl⟩ := HTN.out hpe
    go_wp2_with fail
    refine (semiBegun_c _).mono ?_
    rintro e W4 ⟨rfl, hb4⟩
    have k4 : Below w.heap.size w W4 := k2.trans (hb4.mono k2.size)
    have q14 : Below W1.heap.size W1 W4 := hb2.trans (hb4.mono hb2.size)
    have HSF : Hid (Calls Tryz.prog 13 #[.slice ua ([] : List Fct).length uc, .slice none 0 0] W4 fun e w' => e = .returned (.bool true) ∧ Below W4.heap.size W4 w') := by
      have h := Base.sameFacts_c W4 _ _ [] [] (HS1.out W4 q14) (Base.facts_nil _)
      rw [decide_eq_true rfl] at h
      exact h
    go_wp2_with fail
    refine HSF.out.mono ?_
    rintro e W5 ⟨rfl, hb5⟩
    go_wp2_with fail
    go_ret
    exact ⟨rfl, k4.trans (hb5.mono k4.size)⟩

set_option maxRecDepth 100000 in
theorem lawTells_lifted (os : Os) (started : os.Started) (H : Type) (enc : TypeId × Value → H) :
    ReturnsInHanded {} Tryz.checked os 3 .any (Rows.semiTellsSpec.pre6 enc Tryz.prog Tryz.f3 Rows.semiTellsRow.domain false) (Rows.semiTellsSpec.post enc Tryz.prog Tryz.f3 false true false false) := by
  refine Kit.lifted_of (C := Tryz.checked) (t := 4) (by kernel_rfl) started (by kernel_rfl) Tryz.func3
    (ChangeSpec.witness6 (enc := enc) (C := Tryz.checked) false ⟨#[], #[.agg #[.slice none 0 0, .slice none 0 0]], []⟩ 8 (by kernel_rfl) (by kernel_rfl) (by kernel_rfl) (by kernel_rfl))
    (by kernel_rfl) (by kernel_rfl) (by kernel_rfl) Tryz.underlying4 rfl ?_ ?_
  · intro ds hds
    rw [show Tryz.f3.params.toList.length = 1 by kernel_rfl] at hds
    match ds, hds with
    | [d0], _ => rfl
  · intro W base args ds ps hval0 hA0 hsz0
    have hval : ∀ (j : Nat) t v, Tryz.f3.params[j]? = some t → args[j]? = some v → Value.okWide Tryz.prog W .any base t v := hval0
    have hA : DataW.TrodAll enc Tryz.prog W 0 (fun _ => true) true Tryz.f3.params.toList args.toList ds ps := hA0
    have hsz : (DataW.weightsEach Tryz.prog (Tryz.f3.params.toList ++ []) (ds ++ [])).all (· ≤ reachBytes) = true := hsz0
    rw [Tryz.params3] at hA hval hsz
    obtain ⟨v0, vs0, d0, ds0, p0, q0, hargs, rfl, rfl, h0, r0⟩ := trodAll_cons hA
    obtain ⟨rfl, rfl, rfl⟩ := trodAll_nil r0
    obtain rfl : args = #[v0] := by cases args; simp_all
    have hL := Open.light_all hsz
    simp only [List.append_nil, DataW.weightsEach] at hL
    obtain ⟨n0, t0⟩ := Open.trod_one h0
    obtain ⟨pv, rv, ps, rs, e0, hp, hn, hr⟩ := Open.prog_of t0 hL
    obtain rfl := Open.agg_of Tryz.underlying25 (hval 0 25 v0 rfl rfl) e0
    exact lawTells_walk W pv rv ps rs hp hr hn
end Go.Proofs.YtlfccloaoopadaeGreat.Semi
namespace Go.Proofs.YtlfccloaoopadaeGreat
/-- THE STATEMENT -/
theorem semiTells_proved : Rows.SemiTellsSaid :=
  OpenClaim.holds_of_wide 3 Tryz.f3 rfl rfl rfl rfl rfl rfl rfl ⟨rfl, rfl, rfl, rfl, rfl⟩ rfl rfl rfl rfl rfl (by kernel_rfl) Tryz.func3 (by kernel_rfl)
    (of_decide_eq_true (by kernel_rfl)) (by unfold Func.isWrapper; first | (rw [if_pos (by decide +kernel)]; kernel_rfl) | (rw [if_neg (by decide +kernel)]; exact ⟨rfl, rfl⟩))
    (fun os started H enc _ => Semi.lawTells_lifted os started H enc)
#print axioms semiTells_proved
end Go.Proofs.YtlfccloaoopadaeGreat
