/-
  What is proved: for every program and every list of steps: if no literal is Not, whatever steps can be replayed tell nothing that does not follow; no condition.
-/
import Derived.Test.YtlfccloaoopadaeGreatG25
import Derived.Test.YtlfccloaoopadaeGreatG27
import Derived.Test.YtlfccloaoopadaeGreatG28
import Derived.Test.YtlfccloaoopadaeGreatG29
import Derived.Test.YtlfccloaoopadaeGreatG30
import Derived.Test.YtlfccloaoopadaeGreatH1
import Derived.Test.YtlfccloaoopadaeGreatG5
import Derived.Test.YtlfccloaoopadaeGreatG10
import Derived.Test.YtlfccloaoopadaeGreatG22
namespace Go.Proofs.YtlfccloaoopadaeGreat.Trace
open Go.ChangeShapes Go.WideShapes Go.ChangeAt Go.RowKit
open Rule (kindOf)
open Base (factsErr under underOf)
open Fire (roundErr Stp stepsAt posP positive_c)
open Prog (progErr small)
open Naive (modelF modelL right_parts right_round)

theorem sound_under {ps : List Prd} {rs : List Rul} {l : List Stp} (h : (replayL ps rs l).2.2 = 0) (hpe : progErr ps rs = 0) (hp : posP rs = true) : underOf ps (replayL ps rs l).1 (modelF ps rs) = (true, 0) := by
  have hm : roundErr ps rs (modelL ps rs) = 0 := Naive.model_right hpe _
  rw [replayL, if_neg (by rw [hpe]; simp)] at h ⊢
  split at h
  · cases h
  · rename_i hl
    rw [if_neg hl]
    obtain ⟨h1, h2⟩ := rep_sound hm hp (Naive.model_closed hpe) l 0 (Naive.nil_right hpe) rfl h
    rw [modelF, if_neg (by rw [hpe]; simp), Round.underOf_right (right_parts h1).2 (right_parts hm).2, h2]

set_option maxRecDepth 100000 in
set_option maxHeartbeats 8000000 in
theorem lawSound_walk (w : World) (pv rv lv : Value) (ps : List Prd) (rs : List Rul) (l : List Stp) (hp : predsAt w pv ps) (hr : rulesAt w rv rs) (hl : stepsAt w lv l) (hn : small ps) :
    Calls Tryz.prog 8 #[.agg #[pv, rv], lv] w fun e w' => e = .returned (.bool true) ∧ Below w.heap.size w w' := by
  have HDE : Hid (∀ x, Below w.heap.size w x → Calls Tryz.prog 19 #[.agg #[pv, rv], lv] x fun e w' => ∃ u, e = .returned (.tuple #[u, .int .i64 ((replayL ps rs l).2.1 : Int), .int .i64 (replayL ps rs l).2.2]) ∧ factsAt w' u (replayL ps rs l).1 ∧ Below x.heap.size x w') := fun x hx => devReplay_c x pv rv lv ps rs l (predsAt.lasts hx hp) (rulesAt.lasts hx hr) (Fire.stepsAt.lasts hx hl) hn
  have HMO : Hid (∀ x, Below w.heap.size w x → Calls Tryz.prog 14 #[.agg #[pv, rv]] x fun e w' => ∃ u, e = .returned (.tuple #[u, .int .i64 (progErr ps rs)]) ∧ factsAt w' u (modelF ps rs) ∧ Below x.heap.size x w') := fun x hx => Naive.devModel_c x pv rv ps rs (predsAt.lasts hx hp) (rulesAt.lasts hx hr) hn
  have HPO : Hid (∀ x, Below w.heap.size w x → Calls Tryz.prog 23 #[.agg #[pv, rv]] x fun e w' => e = .returned (.bool (posP rs)) ∧ Below x.heap.size x w') := fun x hx => positive_c x pv rv rs (by obtain ⟨pa, pc, rfl, _⟩ := hp; exact ⟨_, _, _, rfl⟩) (rulesAt.lasts hx hr)
  have HUN : Hid (∀ x u v f g, Below w.heap.size w x → factsAt x u f → factsAt x v g → Calls Tryz.prog 22 #[pv, u, v] x fun e w' => e = .returned (.tuple #[.bool (underOf ps f g).1, .int .i64 (underOf ps f g).2]) ∧ Below x.heap.size x w') := fun x u v f g hx hf hg => Base.Under_c x pv u v ps f g (predsAt.lasts hx hp) hf hg
  have HLU : Hid ((replayL ps rs l).2.2 = 0 → progErr ps rs = 0 → posP rs = true → underOf ps (replayL ps rs l).1 (modelF ps rs) = (true, 0)) := sound_under
  have HER : Hid ((replayL ps rs l).2.2 = 0 → progErr ps rs = 0) := fun h => by
    refine Classical.byContradiction fun hne => hne ?_
    rw [replayL, if_pos hne] at h
    exact h
  obtain ⟨pa, pc, rfl, _⟩ := hp
  obtain ⟨ra, rc, rfl, _⟩ := hr
  obtain ⟨la, lc, rfl, _⟩ := hl
  generalize replayL ps rs l = R at *
  obtain ⟨f, n, E⟩ := R
  dsimp only at HDE HLU HER
  generalize posP rs = Q at *
  generalize modelF ps rs = M at *
  go_enter Tryz.func8, Tryz.ntmps8
  go_wp2_with fail
  refine (HDE.out _ (below_alloc _ _)).mono ?_
  rintro ex W1 ⟨u1, rfl, hf1, hb1⟩
  have k1 : Below w.heap.size w W1 := below_trans (below_alloc _ _) hb1
  have B1 := Prog.boxL hb1
  obtain ⟨c0, c1, _⟩ := id B1
  have HF1 : Hid (∀ x, Below W1.heap.size W1 x → factsAt x u1 f) := fun x hx => factsAt.lasts hx hf1
  obtain ⟨ua, uc, rfl, _⟩ := hf1
  clear hb1
  go_wp2_with fail
  refine (HMO.out _ k1).mono ?_
  rintro ex W2 ⟨u2, rfl, hf2, hb2⟩
  have k2 : Below w.heap.size w W2 := k1.trans (hb2.mono k1.size)
  have B2 := Prog.boxO hb2 B1
  clear c0 c1
  obtain ⟨c0, c1, _⟩ := id B2
  have HF2 : Hid (∀ x, Below W2.heap.size W2 x → factsAt x u2 M) := fun x hx => factsAt.lasts hx hf2
  obtain ⟨va, vc, rfl, _⟩ := hf2
  by_cases e1 : E = 0
  · subst e1
    have hpe : progErr ps rs = 0 := HER.out rfl
    rw [hpe]
    go_wp2_with fail
    refine (HPO.out _ k2).mono ?_
    rintro ex W3 ⟨rfl, hb3⟩
    have k3 : Below w.heap.size w W3 := k2.trans (hb3.mono k2.size)
    have B3 := Prog.boxO hb3 B2
    clear c0 c1
    obtain ⟨c0, c1, _⟩ := id B3
    cases Q
    · go_wp2_with fail
      refine (traceBegun_c _).mono ?_
      rintro ex W4 ⟨rfl, hb4⟩
      go_wp2_with fail
      go_ret
      exact ⟨rfl, k3.trans (hb4.mono k3.size)⟩
    · have HU4 : Hid (Calls Tryz.prog 22 #[.slice pa ps.length pc, .slice ua f.length uc, .slice va M.length vc] W3 fun e w' => e = .returned (.tuple #[.bool true, .int .i64 0]) ∧ Below W3.heap.size W3 w') := by
        have h := HUN.out W3 _ _ f M k3 (HF1.out W3 (hb2.trans (hb3.mono hb2.size))) (HF2.out W3 hb3)
        rw [HLU.out (by first | rfl | trivial) (by first | exact hpe | trivial) (by first | rfl | trivial)] at h
        exact h
      go_wp2_with fail
      refine HU4.out.mono ?_
      rintro ex W4 ⟨rfl, hb4⟩
      have k4 : Below w.heap.size w W4 := k3.trans (hb4.mono k3.size)
      go_wp2_with fail
      refine (traceBegun_c _).mono ?_
      rintro ex W5 ⟨rfl, hb5⟩
      go_wp2_with fail
      go_ret
      exact ⟨rfl, k4.trans (hb5.mono k4.size)⟩
  · have e1' : (E == 0) = false := by simpa using e1
    go_wp2_with fail
    refine (traceBegun_c _).mono ?_
    rintro ex W4 ⟨rfl, hb4⟩
    go_wp2_with fail
    go_ret
    exact ⟨rfl, k2.trans (hb4.mono k2.size)⟩

set_option maxRecDepth 100000 in
theorem lawSound_lifted (os : Os) (started : os.Started) (H : Type) (enc : TypeId × Value → H) :
    ReturnsInHanded {} Tryz.checked os 8 .any (Rows.traceSoundSpec.pre6 enc Tryz.prog Tryz.f8 Rows.traceSoundRow.domain false) (Rows.traceSoundSpec.post enc Tryz.prog Tryz.f8 false true false false) := by
  refine Kit.lifted_of (C := Tryz.checked) (t := 4) (by kernel_rfl) started (by kernel_rfl) Tryz.func8
    (ChangeSpec.witness6 (enc := enc) (C := Tryz.checked) false ⟨#[], #[.agg #[.slice none 0 0, .slice none 0 0], .slice none 0 0], []⟩ 8 (by kernel_rfl) (by kernel_rfl) (by kernel_rfl) (by kernel_rfl))
    (by kernel_rfl) (by kernel_rfl) (by kernel_rfl) Tryz.underlying4 rfl ?_ ?_
  · intro ds hds
    rw [show Tryz.f8.params.toList.length = 2 by kernel_rfl] at hds
    match ds, hds with
    | [d0, d1], _ => rfl
  · intro W base args ds ps hval0 hA0 hsz0
    have hval : ∀ (j : Nat) t v, Tryz.f8.params[j]? = some t → args[j]? = some v → Value.okWide Tryz.prog W .any base t v := hval0
    have hA : DataW.TrodAll enc Tryz.prog W 0 (fun _ => true) true Tryz.f8.params.toList args.toList ds ps := hA0
    have hsz : (DataW.weightsEach Tryz.prog (Tryz.f8.params.toList ++ []) (ds ++ [])).all (· ≤ reachBytes) = true := hsz0
    rw [Tryz.params8] at hA hval hsz
    obtain ⟨v0, vs0, d0, ds0, p0, q0, hargs, rfl, rfl, h0, r0⟩ := trodAll_cons hA
    obtain ⟨v1, vs1, d1, ds1, p1, q1, rfl, rfl, rfl, h1, r1⟩ := trodAll_cons r0
    obtain ⟨rfl, rfl, rfl⟩ := trodAll_nil r1
    obtain rfl : args = #[v0, v1] := by cases args; simp_all
    have hL := Open.light_all hsz
    simp only [List.append_nil, DataW.weightsEach] at hL
    obtain ⟨n0, t0⟩ := Open.trod_one h0
    obtain ⟨n1, t1⟩ := Open.trod_one h1
    obtain ⟨pv, rv, ps, rs, e0, hp, hn, hr⟩ := Open.prog_of t0 (Open.light_left hL)
    obtain rfl := Open.agg_of Tryz.underlying25 (hval 0 25 v0 rfl rfl) e0
    obtain ⟨lv1, l1, e1, hl1⟩ := Open.steps_of t1 (Open.light_right hL)
    obtain rfl := Open.slice_of Tryz.underlying38 (hval 1 38 v1 rfl rfl) e1
    exact lawSound_walk W pv rv v1 ps rs l1 hp hr hl1 hn
end Go.Proofs.YtlfccloaoopadaeGreat.Trace
namespace Go.Proofs.YtlfccloaoopadaeGreat
/-- THE STATEMENT -/
theorem traceSound_proved : Rows.TraceSoundSaid :=
  OpenClaim.holds_of_wide 8 Tryz.f8 rfl rfl rfl rfl rfl rfl rfl ⟨rfl, rfl, rfl, rfl, rfl⟩ rfl rfl rfl rfl rfl (by kernel_rfl) Tryz.func8 (by kernel_rfl)
    (of_decide_eq_true (by kernel_rfl)) (by unfold Func.isWrapper; first | (rw [if_pos (by decide +kernel)]; kernel_rfl) | (rw [if_neg (by decide +kernel)]; exact ⟨rfl, rfl⟩))
    (fun os started H enc _ => Trace.lawSound_lifted os started H enc)
#print axioms traceSound_proved
end Go.Proofs.YtlfccloaoopadaeGreat
