/-
  What is proved: for every program and every list of steps: Replay of package trace answers just what the document's own replay answers, errors too; no condition.
-/
import Derived.Test.YtlfccloaoopadaeGreatG25
import Derived.Test.YtlfccloaoopadaeGreatG27
import Derived.Test.YtlfccloaoopadaeGreatG28
import Derived.Test.YtlfccloaoopadaeGreatG29
import Derived.Test.YtlfccloaoopadaeGreatG30
import Derived.Test.YtlfccloaoopadaeGreatG5
import Derived.Test.YtlfccloaoopadaeGreatG10
namespace Go.Proofs.YtlfccloaoopadaeGreat.Trace
open Go.ChangeShapes Go.WideShapes Go.ChangeAt Go.RowKit
open Rule (kindOf)
open Base (factsErr under underOf)
open Fire (roundErr Stp stepsAt posP positive_c)
open Prog (progErr small)
open Naive (modelF modelL right_parts right_round)

set_option maxRecDepth 100000 in
set_option maxHeartbeats 8000000 in
theorem lawReplays_walk (w : World) (pv rv lv : Value) (ps : List Prd) (rs : List Rul) (l : List Stp) (hp : predsAt w pv ps) (hr : rulesAt w rv rs) (hl : stepsAt w lv l) (hn : small ps) :
    Calls Tryz.prog 6 #[.agg #[pv, rv], lv] w fun e w' => e = .returned (.bool true) ∧ Below w.heap.size w w' := by
  have HDE : Hid (∀ x, Below w.heap.size w x → Calls Tryz.prog 19 #[.agg #[pv, rv], lv] x fun e w' => ∃ u, e = .returned (.tuple #[u, .int .i64 ((replayL ps rs l).2.1 : Int), .int .i64 (replayL ps rs l).2.2]) ∧ factsAt w' u (replayL ps rs l).1 ∧ Below x.heap.size x w') := fun x hx => devReplay_c x pv rv lv ps rs l (predsAt.lasts hx hp) (rulesAt.lasts hx hr) (Fire.stepsAt.lasts hx hl) hn
  have HRE : Hid (∀ x, Below w.heap.size w x → Calls Tryz.prog 20 #[.agg #[pv, rv], lv] x fun e w' => ∃ u, e = .returned (.tuple #[u, .int .i64 ((replayL ps rs l).2.1 : Int), .int .i64 (replayL ps rs l).2.2]) ∧ factsAt w' u (replayL ps rs l).1 ∧ Below x.heap.size x w') := fun x hx => replayOf_c x pv rv lv ps rs l (predsAt.lasts hx hp) (rulesAt.lasts hx hr) (Fire.stepsAt.lasts hx hl) hn
  obtain ⟨pa, pc, rfl, _⟩ := hp
  obtain ⟨ra, rc, rfl, _⟩ := hr
  obtain ⟨la, lc, rfl, _⟩ := hl
  generalize replayL ps rs l = R at *
  obtain ⟨f, n, e⟩ := R
  dsimp only at HDE HRE
  go_enter Tryz.func6, Tryz.ntmps6
  go_wp2_with fail
  refine (HDE.out _ (below_alloc _ _)).mono ?_
  rintro ex W1 ⟨u1, rfl, hf1, hb1⟩
  have k1 : Below w.heap.size w W1 := below_trans (below_alloc _ _) hb1
  have B1 := Prog.boxL hb1
  obtain ⟨c0, c1, _⟩ := id B1
  have HF1 : Hid (∀ x, Below W1.heap.size W1 x → factsAt x u1 f) := fun x hx => factsAt.lasts hx hf1
  obtain ⟨ua, uc, rfl, _⟩ := hf1
  go_wp2_with fail
  refine (HRE.out _ k1).mono ?_
  rintro ex W2 ⟨u2, rfl, hf2, hb2⟩
  have k2 : Below w.heap.size w W2 := k1.trans (hb2.mono k1.size)
  have HF2 : Hid (∀ x, Below W2.heap.size W2 x → factsAt x u2 f) := fun x hx => factsAt.lasts hx hf2
  obtain ⟨va, vc, rfl, _⟩ := hf2
  go_wp2_with fail
  refine (traceBegun_c _).mono ?_
  rintro ex W3 ⟨rfl, hb3⟩
  have k3 : Below w.heap.size w W3 := k2.trans (hb3.mono k2.size)
  have HSF : Hid (Calls Tryz.prog 13 #[.slice ua f.length uc, .slice va f.length vc] W3 fun e w' => e = .returned (.bool true) ∧ Below W3.heap.size W3 w') := by
    have h := Base.sameFacts_c W3 _ _ f f (HF1.out W3 (hb2.trans (hb3.mono hb2.size))) (HF2.out W3 hb3)
    rw [decide_eq_true rfl] at h
    exact h
  go_wp2_with fail
  refine HSF.out.mono ?_
  rintro ex W4 ⟨rfl, hb4⟩
  go_wp2_with fail
  go_ret
  exact ⟨rfl, k3.trans (hb4.mono k3.size)⟩

set_option maxRecDepth 100000 in
theorem lawReplays_lifted (os : Os) (started : os.Started) (H : Type) (enc : TypeId × Value → H) :
    ReturnsInHanded {} Tryz.checked os 6 .any (Rows.traceReplaysSpec.pre6 enc Tryz.prog Tryz.f6 Rows.traceReplaysRow.domain false) (Rows.traceReplaysSpec.post enc Tryz.prog Tryz.f6 false true false false) := by
  refine Kit.lifted_of (C := Tryz.checked) (t := 4) (by kernel_rfl) started (by kernel_rfl) Tryz.func6
    (ChangeSpec.witness6 (enc := enc) (C := Tryz.checked) false ⟨#[], #[.agg #[.slice none 0 0, .slice none 0 0], .slice none 0 0], []⟩ 8 (by kernel_rfl) (by kernel_rfl) (by kernel_rfl) (by kernel_rfl))
    (by kernel_rfl) (by kernel_rfl) (by kernel_rfl) Tryz.underlying4 rfl ?_ ?_
  · intro ds hds
    rw [show Tryz.f6.params.toList.length = 2 by kernel_rfl] at hds
    match ds, hds with
    | [d0, d1], _ => rfl
  · intro W base args ds ps hval0 hA0 hsz0
    have hval : ∀ (j : Nat) t v, Tryz.f6.params[j]? = some t → args[j]? = some v → Value.okWide Tryz.prog W .any base t v := hval0
    have hA : DataW.TrodAll enc Tryz.prog W 0 (fun _ => true) true Tryz.f6.params.toList args.toList ds ps := hA0
    have hsz : (DataW.weightsEach Tryz.prog (Tryz.f6.params.toList ++ []) (ds ++ [])).all (· ≤ reachBytes) = true := hsz0
    rw [Tryz.params6] at hA hval hsz
    obtain ⟨v0, vs0, d0, ds0, p0, q0, hargs, rfl, rfl, h0, r0⟩ := trodAll_cons hA
    obtain ⟨v1, vs1, d1, ds1, p1, q1, rfl, rfl, rfl, h1, r1⟩ := trodAll_cons r0
    obtain ⟨rfl, rfl, rfl⟩ := trodAll_nil r1
    obtain rfl : args = #[v0, v1] := by cases args; simp_all
    have hL := Open.light_all hsz
    simp only [List.append_nil, DataW.weightsEach] at hL
    obtain ⟨n0, t0⟩ := Open.trod_one h0
    obtain ⟨n1, t1⟩ := Open.trod_one h1
    obtain ⟨pv, rv, ps, rs, e0, hp, hn, hr⟩ := Open.prog_of t0 (Open.light_left hL)
    obtain rfl := Open.agg_of Tryz.underlying25 (hval 0 25 v0 rfl rfl) e0
    obtain ⟨lv1, l1, e1, hl1⟩ := Open.steps_of t1 (Open.light_right hL)
    obtain rfl := Open.slice_of Tryz.underlying38 (hval 1 38 v1 rfl rfl) e1
    exact lawReplays_walk W pv rv v1 ps rs l1 hp hr hl1 hn
end Go.Proofs.YtlfccloaoopadaeGreat.Trace
namespace Go.Proofs.YtlfccloaoopadaeGreat
/-- THE STATEMENT -/
theorem traceReplays_proved : Rows.TraceReplaysSaid :=
  OpenClaim.holds_of_wide 6 Tryz.f6 rfl rfl rfl rfl rfl rfl rfl ⟨rfl, rfl, rfl, rfl, rfl⟩ rfl rfl rfl rfl rfl (by kernel_rfl) Tryz.func6 (by kernel_rfl)
    (of_decide_eq_true (by kernel_rfl)) (by unfold Func.isWrapper; first | (rw [if_pos (by decide +kernel)]; kernel_rfl) | (rw [if_neg (by decide +kernel)]; exact ⟨rfl, rfl⟩))
    (fun os started H enc _ => Trace.lawReplays_lifted os started H enc)
#print axioms traceReplays_proved
end Go.Proofs.YtlfccloaoopadaeGreat
