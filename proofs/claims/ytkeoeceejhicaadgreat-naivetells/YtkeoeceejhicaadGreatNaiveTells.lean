/-
  What is proved: for every program: naive.Model and naive.Rounds answer just what the document says, errors too; no condition.
-/
import Derived.Test.YtkeoeceejhicaadGreatG22
import Derived.Test.YtkeoeceejhicaadGreatG26
import Derived.Test.YtkeoeceejhicaadGreatG27
import Derived.Test.YtkeoeceejhicaadGreatG28
namespace Go.Proofs.YtkeoeceejhicaadGreat.Naive
open Go.ChangeShapes Go.WideShapes Go.ChangeAt Go.RowKit
open Prog (progErr small intsAt)

set_option maxRecDepth 100000 in
set_option maxHeartbeats 8000000 in
theorem lawTells_walk (w : World) (pv rv : Value) (ps : List Prd) (rs : List Rul) (hp : predsAt w pv ps) (hr : rulesAt w rv rs) (hn : small ps) :
    Calls Tryz.prog 5 #[.agg #[pv, rv]] w fun e w' => e = .returned (.bool true) ∧ Below w.heap.size w w' := by
  have HMO : Hid (∀ x, Below w.heap.size w x → Calls Tryz.prog 15 #[.agg #[pv, rv]] x fun e w' => ∃ u, e = .returned (.tuple #[u, .int .i64 (progErr ps rs)]) ∧ factsAt w' u (modelF ps rs) ∧ Below x.heap.size x w') := fun x hx => devModel_c x pv rv ps rs (predsAt.lasts hx hp) (rulesAt.lasts hx hr) hn
  have HRO : Hid (∀ x, Below w.heap.size w x → Calls Tryz.prog 16 #[.agg #[pv, rv]] x fun e w' => ∃ u, e = .returned (.tuple #[u, .int .i64 (progErr ps rs)]) ∧ intsAt w' u (roundsF ps rs) ∧ Below x.heap.size x w') := fun x hx => devRounds_c x pv rv ps rs (predsAt.lasts hx hp) (rulesAt.lasts hx hr) hn
  have HCP : Hid (∀ x, Below w.heap.size w x → Calls Tryz.prog 17 #[.agg #[pv, rv]] x fun e w' => e = .returned (.int .i64 (progErr ps rs)) ∧ Below x.heap.size x w') := fun x hx => Prog.checkProg_c x pv rv ps rs (predsAt.lasts hx hp) (rulesAt.lasts hx hr) hn
  have HM2 : Hid (progErr ps rs = 0 → ∀ x, Below w.heap.size w x → Calls Tryz.prog 18 #[.agg #[pv, rv]] x fun e w' => ∃ u, e = .returned u ∧ factsAt w' u (modelF ps rs) ∧ Below x.heap.size x w') := fun he x hx => by
    rw [modelF, if_neg (by rw [he]; simp)]
    exact modelOf_c x pv rv ps rs (predsAt.lasts hx hp) (rulesAt.lasts hx hr) he
  have HR2 : Hid (progErr ps rs = 0 → ∀ x, Below w.heap.size w x → Calls Tryz.prog 19 #[.agg #[pv, rv]] x fun e w' => ∃ u, e = .returned u ∧ intsAt w' u (roundsF ps rs) ∧ Below x.heap.size x w') := fun he x hx => by
    rw [roundsF, if_neg (by rw [he]; simp)]
    exact roundsOf_c x pv rv ps rs (predsAt.lasts hx hp) (rulesAt.lasts hx hr) he
  obtain ⟨pa, pc, rfl, _⟩ := hp
  obtain ⟨ra, rc, rfl, _⟩ := hr
  go_enter Tryz.func5, Tryz.ntmps5
  go_wp2_with fail
  refine (HMO.out _ (below_alloc _ _)).mono ?_
  rintro e W1 ⟨u1, rfl, hf1, hb1⟩
  have k1 : Below w.heap.size w W1 := below_trans (below_alloc _ _) hb1
  have B1 := Prog.boxL hb1
  obtain ⟨c0, c1, _⟩ := id B1
  have HF1 : Hid (∀ x, Below W1.heap.size W1 x → factsAt x u1 (modelF ps rs)) := fun x hx => factsAt.lasts hx hf1
  clear hb1 hf1
  go_wp2_with fail
  refine (HRO.out _ k1).mono ?_
  rintro e W2 ⟨u2, rfl, hi2, hb2⟩
  have k2 : Below w.heap.size w W2 := k1.trans (hb2.mono k1.size)
  have B2 := Prog.boxO hb2 B1
  have HI2 : Hid (∀ x, Below W2.heap.size W2 x → factsAt x u1 (modelF ps rs) ∧ intsAt x u2 (roundsF ps rs)) := fun x hx => ⟨HF1.out x (hb2.trans (hx.mono hb2.size)), Prog.intsAt.lasts hx hi2⟩
  clear hi2 HF1 c0 c1
  obtain ⟨c0, c1, _⟩ := id B2
  go_wp2_with fail
  refine (HCP.out _ k2).mono ?_
  rintro e W3 ⟨rfl, hb3⟩
  have k3 : Below w.heap.size w W3 := k2.trans (hb3.mono k2.size)
  have B3 := Prog.boxO hb3 B2
  clear c0 c1
  obtain ⟨c0, c1, _⟩ := id B3
  by_cases hpe : progErr ps rs = 0
  · have HM3 := HM2.out hpe
    have HR3 := HR2.out hpe
    rw [hpe]
    go_wp2_with fail
    have KEEP : Hid (∀ w' : World, Below W3.heap.size W3 w' → w'.cell? ⟨w.heap.size, 0, none⟩ = some (.slice pa ps.length pc) ∧ w'.cell? ⟨w.heap.size, 1, none⟩ = some (.slice ra rs.length rc)) := fun w' hx => ⟨(Prog.boxO hx B3).1, (Prog.boxO hx B3).2.1⟩
    clear c0 c1
    go_region_held3 (fun w' => w'.cell? ⟨w.heap.size, 0, none⟩ = some (.slice pa ps.length pc) ∧ w'.cell? ⟨w.heap.size, 1, none⟩ = some (.slice ra rs.length rc))
      (first | (refine KEEP.out _ ?_; (first | with_reducible exact Below.refl _ _ | with_reducible exact Below.drew (Below.refl _ _) | with_reducible exact hk5 | with_reducible exact Below.drew hk5 | with_reducible exact hk4 | with_reducible exact Below.drew hk4)))
      (first | (go_at_call 18; refine (HM3 _ k3.drew).mono ?_; rintro e W4 ⟨u4, rfl, hf4, hb4⟩; have hk4 : Below W3.heap.size W3 W4 := ((Below.refl _ _).drew).trans hb4; have HF4 : Hid (∀ x, Below W4.heap.size W4 x → factsAt x u4 (modelF ps rs)) := fun x hx => factsAt.lasts hx hf4; clear hb4 hf4) | (go_at_call 19; refine (HR3 _ (k3.trans (hk4.mono k3.size))).mono ?_; rintro e W5 ⟨u5, rfl, hi5, hb5⟩; have hk5 : Below W3.heap.size W3 W5 := hk4.trans (hb5.mono hk4.size)))
    have k5 : Below w.heap.size w W5 := k3.trans (hk5.mono k3.size)
    have HI5 : Hid (∀ x, Below W5.heap.size W5 x → (factsAt x u1 (modelF ps rs) ∧ intsAt x u2 (roundsF ps rs)) ∧ factsAt x u4 (modelF ps rs) ∧ intsAt x u5 (roundsF ps rs)) := fun x hx => ⟨HI2.out x ((hb3.trans (hk5.mono hb3.size)).trans (hx.mono (hb3.trans (hk5.mono hb3.size)).size)), HF4.out x (hb5.trans (hx.mono hb5.size)), Prog.intsAt.lasts hx hi5⟩
    clear KEEP hi5 HF4 HI2 HM3 HR3
    go_wp2_with fail
    refine (naiveBegun_c _).mono ?_
    rintro e W6 ⟨rfl, hb6⟩
    have HSF : Hid (Calls Tryz.prog 12 #[u1, u4] W6 fun e w' => e = .returned (.bool true) ∧ Below W6.heap.size W6 w') := by
      have h := Base.sameFacts_c W6 u1 u4 (modelF ps rs) (modelF ps rs) (HI5.out _ hb6).1.1 (HI5.out _ hb6).2.1
      rw [decide_eq_true rfl] at h
      exact h
    go_wp2_with fail
    refine HSF.out.mono ?_
    rintro e W7 ⟨rfl, hb7⟩
    have r7 : Below W5.heap.size W5 W7 := hb6.trans (hb7.mono hb6.size)
    have HSI : Hid (Calls Tryz.prog 21 #[u2, u5] W7 fun e w' => e = .returned (.bool true) ∧ Below W7.heap.size W7 w') := by
      have h := Prog.sameInts_c W7 u2 u5 (roundsF ps rs) (roundsF ps rs) (HI5.out _ r7).1.2 (HI5.out _ r7).2.2
      rw [decide_eq_true rfl] at h
      exact h
    go_wp2_with fail
    refine HSI.out.mono ?_
    rintro e W8 ⟨rfl, hb8⟩
    go_wp2_with fail
    go_ret
    exact ⟨rfl, (k5.trans (r7.mono k5.size)).trans (hb8.mono (k5.trans (r7.mono k5.size)).size)⟩
  · have hpe' : (progErr ps rs == 0) = false := by simpa using hpe
    have HE : Hid (modelF ps rs = [] ∧ roundsF ps rs = []) := ⟨by rw [modelF, if_pos hpe], by rw [roundsF, if_pos hpe]⟩
    rw [HE.out.1, HE.out.2] at HI2
    generalize progErr ps rs = E at *
    go_wp2_with fail
    refine (naiveBegun_c _).mono ?_
    rintro e W4 ⟨rfl, hb4⟩
    have k4 : Below w.heap.size w W4 := k3.trans (hb4.mono k3.size)
    have r4 : Below W2.heap.size W2 W4 := hb3.trans (hb4.mono hb3.size)
    have HSF : Hid (Calls Tryz.prog 12 #[u1, .slice none 0 0] W4 fun e w' => e = .returned (.bool true) ∧ Below W4.heap.size W4 w') := Base.sameFacts_c W4 _ _ [] [] (HI2.out _ r4).1 (Base.facts_nil _)
    go_wp2_with fail
    refine HSF.out.mono ?_
    rintro e W5 ⟨rfl, hb5⟩
    have k5 : Below w.heap.size w W5 := k4.trans (hb5.mono k4.size)
    have r5 : Below W2.heap.size W2 W5 := r4.trans (hb5.mono r4.size)
    have HSI : Hid (Calls Tryz.prog 21 #[u2, .slice none 0 0] W5 fun e w' => e = .returned (.bool true) ∧ Below W5.heap.size W5 w') := Prog.sameInts_c W5 _ _ [] [] (HI2.out _ r5).2 ⟨none, 0, rfl, by simp, .inl rfl⟩
    go_wp2_with fail
    refine HSI.out.mono ?_
    rintro e W6 ⟨rfl, hb6⟩
    go_wp2_with fail
    go_ret
    exact ⟨rfl, k5.trans (hb6.mono k5.size)⟩

set_option maxRecDepth 100000 in
theorem lawTells_lifted (os : Os) (started : os.Started) (H : Type) (enc : TypeId × Value → H) :
    ReturnsInHanded {} Tryz.checked os 5 .any (Rows.naiveTellsSpec.pre6 enc Tryz.prog Tryz.f5 Rows.naiveTellsRow.domain false) (Rows.naiveTellsSpec.post enc Tryz.prog Tryz.f5 false true false false) := by
  refine Kit.lifted_of (C := Tryz.checked) (t := 4) (by kernel_rfl) started (by kernel_rfl) Tryz.func5
    (ChangeSpec.witness6 (enc := enc) (C := Tryz.checked) false ⟨#[], #[.agg #[.slice none 0 0, .slice none 0 0]], []⟩ 8 (by kernel_rfl) (by kernel_rfl) (by kernel_rfl) (by kernel_rfl))
    (by kernel_rfl) (by kernel_rfl) (by kernel_rfl) Tryz.underlying4 rfl ?_ ?_
  · intro ds hds
    rw [show Tryz.f5.params.toList.length = 1 by kernel_rfl] at hds
    match ds, hds with
    | [d0], _ => rfl
  · intro W base args ds ps hval0 hA0 hsz0
    have hval : ∀ (j : Nat) t v, Tryz.f5.params[j]? = some t → args[j]? = some v → Value.okWide Tryz.prog W .any base t v := hval0
    have hA : DataW.TrodAll enc Tryz.prog W 0 (fun _ => true) true Tryz.f5.params.toList args.toList ds ps := hA0
    have hsz : (DataW.weightsEach Tryz.prog (Tryz.f5.params.toList ++ []) (ds ++ [])).all (· ≤ reachBytes) = true := hsz0
    rw [Tryz.params5] at hA hval hsz
    obtain ⟨v0, vs0, d0, ds0, p0, q0, hargs, rfl, rfl, h0, r0⟩ := trodAll_cons hA
    obtain ⟨rfl, rfl, rfl⟩ := trodAll_nil r0
    obtain rfl : args = #[v0] := by cases args; simp_all
    have hL := Open.light_all hsz
    simp only [List.append_nil, DataW.weightsEach] at hL
    obtain ⟨n0, t0⟩ := Open.trod_one h0
    obtain ⟨pv, rv, ps, rs, e0, hp, hn, hr⟩ := Open.prog_of t0 hL
    obtain rfl := Open.agg_of Tryz.underlying25 (hval 0 25 v0 rfl rfl) e0
    exact lawTells_walk W pv rv ps rs hp hr hn
end Go.Proofs.YtkeoeceejhicaadGreat.Naive
namespace Go.Proofs.YtkeoeceejhicaadGreat
/-- THE STATEMENT -/
theorem naiveTells_proved : Rows.NaiveTellsSaid :=
  OpenClaim.holds_of_wide 5 Tryz.f5 rfl rfl rfl rfl rfl rfl rfl ⟨rfl, rfl, rfl, rfl, rfl⟩ rfl rfl rfl rfl rfl (by kernel_rfl) Tryz.func5 (by kernel_rfl)
    (of_decide_eq_true (by kernel_rfl)) (by unfold Func.isWrapper; first | (rw [if_pos (by decide +kernel)]; kernel_rfl) | (rw [if_neg (by decide +kernel)]; exact ⟨rfl, rfl⟩))
    (fun os started H enc _ => Naive.lawTells_lifted os started H enc)
#print axioms naiveTells_proved
end Go.Proofs.YtkeoeceejhicaadGreat
