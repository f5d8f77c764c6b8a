/-
  What is proved: round.Once and round.Closed answer just what the document's own 'OnceOf' and 'ClosedOf' answer, errors too, for every program, every list of facts and every number; no condition.
-/
import Derived.Test.YtkeoeceejhicaacGreatG22
import Derived.Test.YtkeoeceejhicaacGreatG5
import Derived.Test.YtkeoeceejhicaacGreatG25
import Derived.Test.YtkeoeceejhicaacGreatG26
import Derived.Test.YtkeoeceejhicaacGreatG27
namespace Go.Proofs.YtkeoeceejhicaacGreat.Round
open Go.ChangeShapes Go.WideShapes Go.ChangeAt Go.RowKit
open Rule (kindOf)
open Base (factsErr under capOk)
open Prog (progErr small)
open Fire (roundErr roundError_c)

theorem round_zero {ps : List Prd} {rs : List Rul} {f : List Fct} (h : roundErr ps rs f = 0) : progErr ps rs = 0 ∧ factsErr ps f = 0 := by
  rw [roundErr] at h
  split at h
  · contradiction
  · rename_i h1
    exact ⟨Classical.not_not.1 h1, h⟩

set_option maxRecDepth 100000 in
set_option maxHeartbeats 4000000 in
theorem lawTells_walk (w : World) (pv rv fv : Value) (ps : List Prd) (rs : List Rul) (f : List Fct) (s : Int) (hp : predsAt w pv ps) (hr : rulesAt w rv rs) (hf : factsAt w fv f) (hn : small ps) :
    Calls Tryz.prog 6 #[.agg #[pv, rv], fv, .int .i64 s] w fun e w' => e = .returned (.bool true) ∧ Below w.heap.size w w' := by
  have HON : Hid (∀ x, Below w.heap.size w x → Calls Tryz.prog 17 #[.agg #[pv, rv], fv, .int .i64 s] x fun e w' => ∃ u, e = .returned (.tuple #[u, .bool (onceC ps rs f s), .int .i64 (roundErr ps rs f)]) ∧ factsAt w' u (onceF ps rs f s) ∧ capOk u ∧ Below x.heap.size x w') := fun x hx => devOnce_c x pv rv fv ps rs f s (predsAt.lasts hx hp) (rulesAt.lasts hx hr) (factsAt.lasts hx hf) hn
  have HCL : Hid (∀ x, Below w.heap.size w x → Calls Tryz.prog 18 #[.agg #[pv, rv], fv] x fun e w' => e = .returned (.tuple #[.bool (closedB ps rs f), .int .i64 (roundErr ps rs f)]) ∧ Below x.heap.size x w') := fun x hx => devClosed_c x pv rv fv ps rs f (predsAt.lasts hx hp) (rulesAt.lasts hx hr) (factsAt.lasts hx hf) hn
  have HER : Hid (∀ x, Below w.heap.size w x → Calls Tryz.prog 19 #[.agg #[pv, rv], fv] x fun e w' => e = .returned (.int .i64 (roundErr ps rs f)) ∧ Below x.heap.size x w') := fun x hx => roundError_c x pv rv fv ps rs f (predsAt.lasts hx hp) (rulesAt.lasts hx hr) (factsAt.lasts hx hf) hn
  have HOO : Hid (roundErr ps rs f = 0 → ∀ x, Below w.heap.size w x → Calls Tryz.prog 20 #[.agg #[pv, rv], fv, .int .i64 s] x fun e w' => ∃ u, e = .returned (.tuple #[u, .bool (onceC ps rs f s)]) ∧ factsAt w' u (onceF ps rs f s) ∧ Below x.heap.size x w') := fun h0 x hx => by
    obtain ⟨z1, z2⟩ := round_zero h0
    have h := onceOf_c x pv rv fv ps rs f s (stratOf ps rs) (predsAt.lasts hx hp) (rulesAt.lasts hx hr) (factsAt.lasts hx hf) z1 z2 (strat_some z1).1 (strat_some z1).2
    rw [onceF, if_neg (by rw [h0]; simp), onceC, if_neg (by rw [h0]; simp)]
    exact h
  have HCO : Hid (roundErr ps rs f = 0 → ∀ x, Below w.heap.size w x → Calls Tryz.prog 21 #[.agg #[pv, rv], fv] x fun e w' => e = .returned (.bool (closedB ps rs f)) ∧ Below x.heap.size x w') := fun h0 x hx => by
    obtain ⟨z1, z2⟩ := round_zero h0
    rw [closedB, if_neg (by rw [h0]; simp)]
    exact closedOf_c x pv rv fv ps rs f (predsAt.lasts hx hp) (rulesAt.lasts hx hr) (factsAt.lasts hx hf) z1 z2
  have HZ : Hid (roundErr ps rs f ≠ 0 → onceF ps rs f s = [] ∧ onceC ps rs f s = false ∧ closedB ps rs f = false) := fun h => ⟨by rw [onceF, if_pos h], by rw [onceC, if_pos h], by rw [closedB, if_pos h]⟩
  obtain ⟨pa, pc, rfl, _⟩ := hp
  obtain ⟨ra, rc, rfl, _⟩ := hr
  obtain ⟨fa, fc, rfl, _⟩ := hf
  generalize onceF ps rs f s = F at *
  generalize onceC ps rs f s = C at *
  generalize closedB ps rs f = D at *
  generalize roundErr ps rs f = er at *
  go_enter Tryz.func6, Tryz.ntmps6
  go_wp2_with fail
  refine (HON.out _ (below_alloc _ _)).mono ?_
  rintro e W1 ⟨u1, rfl, hf1, _, hb1⟩
  have k1 : Below w.heap.size w W1 := below_trans (below_alloc _ _) hb1
  have B1 := Prog.boxL hb1
  obtain ⟨c0, c1, _⟩ := id B1
  have HF1 : Hid (∀ x, Below W1.heap.size W1 x → factsAt x u1 F) := fun x hx => factsAt.lasts hx hf1
  clear hb1 hf1 HON
  go_wp2_with fail
  refine (HCL.out _ k1).mono ?_
  rintro e W2 ⟨rfl, hb2⟩
  have k2 : Below w.heap.size w W2 := k1.trans (hb2.mono k1.size)
  have B2 := Prog.boxO hb2 B1
  clear c0 c1 B1 HCL
  obtain ⟨c0, c1, _⟩ := id B2
  go_wp2_with fail
  refine (HER.out _ k2).mono ?_
  rintro e W3 ⟨rfl, hb3⟩
  have k3 : Below w.heap.size w W3 := k2.trans (hb3.mono k2.size)
  have B3 := Prog.boxO hb3 B2
  have h13 : Below W1.heap.size W1 W3 := hb2.trans (hb3.mono hb2.size)
  clear c0 c1 B2 HER
  obtain ⟨c0, c1, _⟩ := id B3
  by_cases her : er = 0
  · subst her
    have HO1 : Hid (∀ x, Below w.heap.size w x → Calls Tryz.prog 20 #[.agg #[.slice pa ps.length pc, .slice ra rs.length rc], .slice fa f.length fc, .int .i64 s] x fun e w' => ∃ u, e = .returned (.tuple #[u, .bool C]) ∧ factsAt w' u F ∧ Below x.heap.size x w') := HOO.out rfl
    have HC1 : Hid (∀ x, Below w.heap.size w x → Calls Tryz.prog 21 #[.agg #[.slice pa ps.length pc, .slice ra rs.length rc], .slice fa f.length fc] x fun e w' => e = .returned (.bool D) ∧ Below x.heap.size x w') := HCO.out rfl
    clear HOO HCO HZ
    go_wp2_with fail
    refine (HO1.out _ k3).mono ?_
    rintro e W4 ⟨u4, rfl, hf4, hb4⟩
    have k4 : Below w.heap.size w W4 := k3.trans (hb4.mono k3.size)
    have B4 := Prog.boxO hb4 B3
    have HF4 : Hid (∀ x, Below W4.heap.size W4 x → factsAt x u4 F) := fun x hx => factsAt.lasts hx hf4
    have h14 : Below W1.heap.size W1 W4 := h13.trans (hb4.mono h13.size)
    clear c0 c1 B3 hf4 HO1
    obtain ⟨c0, c1, _⟩ := id B4
    go_wp2_with fail
    refine (HC1.out _ k4).mono ?_
    rintro e W5 ⟨rfl, hb5⟩
    have k5 : Below w.heap.size w W5 := k4.trans (hb5.mono k4.size)
    clear c0 c1 HC1
    go_wp2_with fail
    refine (roundBegun_c _).mono ?_
    rintro e W6 ⟨rfl, hb6⟩
    have k6 : Below w.heap.size w W6 := k5.trans (hb6.mono k5.size)
    have h46 : Below W4.heap.size W4 W6 := hb5.trans (hb6.mono hb5.size)
    go_wp2_with fail
    refine (Base.sameFacts_c _ _ _ F F (HF1.out _ (h14.trans (h46.mono h14.size))) (HF4.out _ h46)).mono ?_
    rintro e W7 ⟨rfl, hb7⟩
    rw [decide_eq_true rfl]
    go_wp2_with fail
    go_ret
    exact ⟨by simp, k6.trans (hb7.mono k6.size)⟩
  · obtain ⟨rfl, rfl, rfl⟩ := HZ.out her
    have her' : (er == 0) = false := by simpa using her
    clear HOO HCO HZ c0 c1
    go_wp2_with fail
    refine (roundBegun_c _).mono ?_
    rintro e W6 ⟨rfl, hb6⟩
    have k6 : Below w.heap.size w W6 := k3.trans (hb6.mono k3.size)
    go_wp2_with fail
    refine (Base.sameFacts_c _ _ _ [] [] (HF1.out _ (h13.trans (hb6.mono h13.size))) (Base.facts_nil _)).mono ?_
    rintro e W7 ⟨rfl, hb7⟩
    rw [decide_eq_true rfl]
    go_wp2_with fail
    go_ret
    exact ⟨by simp, k6.trans (hb7.mono k6.size)⟩

set_option maxRecDepth 100000 in
theorem lawTells_lifted (os : Os) (started : os.Started) (H : Type) (enc : TypeId × Value → H) :
    ReturnsInHanded {} Tryz.checked os 6 .any (Rows.roundTellsSpec.pre6 enc Tryz.prog Tryz.f6 Rows.roundTellsRow.domain false) (Rows.roundTellsSpec.post enc Tryz.prog Tryz.f6 false true false false) := by
  refine Kit.lifted_of (C := Tryz.checked) (t := 4) (by kernel_rfl) started (by kernel_rfl) Tryz.func6
    (ChangeSpec.witness6 (enc := enc) (C := Tryz.checked) false ⟨#[], #[.agg #[.slice none 0 0, .slice none 0 0], .slice none 0 0, .int .i64 0], []⟩ 8 (by kernel_rfl) (by kernel_rfl) (by kernel_rfl) (by kernel_rfl))
    (by kernel_rfl) (by kernel_rfl) (by kernel_rfl) Tryz.underlying4 rfl ?_ ?_
  · intro ds hds
    rw [show Tryz.f6.params.toList.length = 3 by kernel_rfl] at hds
    match ds, hds with
    | [d0, d1, d2], _ => rfl
  · intro W base args ds ps hval0 hA0 hsz0
    have hval : ∀ (j : Nat) t v, Tryz.f6.params[j]? = some t → args[j]? = some v → Value.okWide Tryz.prog W .any base t v := hval0
    have hA : DataW.TrodAll enc Tryz.prog W 0 (fun _ => true) true Tryz.f6.params.toList args.toList ds ps := hA0
    have hsz : (DataW.weightsEach Tryz.prog (Tryz.f6.params.toList ++ []) (ds ++ [])).all (· ≤ reachBytes) = true := hsz0
    rw [Tryz.params6] at hA hval hsz
    obtain ⟨v0, vs0, d0, ds0, p0, q0, hargs, rfl, rfl, h0, r0⟩ := trodAll_cons hA
    obtain ⟨v1, vs1, d1, ds1, p1, q1, rfl, rfl, rfl, h1, r1⟩ := trodAll_cons r0
    obtain ⟨v2, vs2, d2, ds2, p2, q2, rfl, rfl, rfl, h2, r2⟩ := trodAll_cons r1
    obtain ⟨rfl, rfl, rfl⟩ := trodAll_nil r2
    obtain rfl : args = #[v0, v1, v2] := by cases args; simp_all
    have hL := Open.light_all hsz
    simp only [List.append_nil, DataW.weightsEach] at hL
    obtain ⟨n0, t0⟩ := Open.trod_one h0
    obtain ⟨n1, t1⟩ := Open.trod_one h1
    obtain ⟨n2, t2⟩ := Open.trod_one h2
    obtain ⟨pv, rv, ps, rs, e0, hp, hn, hr⟩ := Open.prog_of t0 (Open.light_left hL)
    obtain rfl := Open.agg_of Tryz.underlying25 (hval 0 25 v0 rfl rfl) e0
    obtain ⟨fv1, f1, e1, hf1, _⟩ := Open.facts_of t1 (Open.light_left (Open.light_right hL))
    obtain rfl := Open.slice_of Tryz.underlying26 (hval 1 26 v1 rfl rfl) e1
    obtain ⟨x2, e2, _⟩ := DataW.trod_int Tryz.underlying3 t2
    obtain rfl := Open.int_of Tryz.underlying3 (hval 2 3 v2 rfl rfl) e2
    exact lawTells_walk W pv rv v1 ps rs f1 x2 hp hr hf1 hn
end Go.Proofs.YtkeoeceejhicaacGreat.Round
namespace Go.Proofs.YtkeoeceejhicaacGreat
/-- THE STATEMENT -/
theorem roundTells_proved : Rows.RoundTellsSaid :=
  OpenClaim.holds_of_wide 6 Tryz.f6 rfl rfl rfl rfl rfl rfl rfl ⟨rfl, rfl, rfl, rfl, rfl⟩ rfl rfl rfl rfl rfl (by kernel_rfl) Tryz.func6 (by kernel_rfl)
    (of_decide_eq_true (by kernel_rfl)) (by unfold Func.isWrapper; first | (rw [if_pos (by decide +kernel)]; kernel_rfl) | (rw [if_neg (by decide +kernel)]; exact ⟨rfl, rfl⟩))
    (fun os started H enc _ => Round.lawTells_lifted os started H enc)
#print axioms roundTells_proved
end Go.Proofs.YtkeoeceejhicaacGreat
