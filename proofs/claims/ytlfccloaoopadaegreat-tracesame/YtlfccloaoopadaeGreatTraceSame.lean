/-
  What is proved: for every program and every number: Replay of Trace tells the Model, by at least as many steps as there are facts; and a beginning of it that the number chooses tells what is under it; no condition.
-/
import Derived.Test.YtlfccloaoopadaeGreatG25
import Derived.Test.YtlfccloaoopadaeGreatG27
import Derived.Test.YtlfccloaoopadaeGreatG28
import Derived.Test.YtlfccloaoopadaeGreatG29
import Derived.Test.YtlfccloaoopadaeGreatG5
import Derived.Test.YtlfccloaoopadaeGreatG10
import Derived.Test.YtlfccloaoopadaeGreatG22
namespace Go.Proofs.YtlfccloaoopadaeGreat.Trace
open Go.ChangeShapes Go.WideShapes Go.ChangeAt Go.RowKit
open Rule (kindOf)
open Base (factsErr under underOf)
open Fire (roundErr Stp stepsAt posP positive_c)
open Prog (progErr small)
open Naive (modelF modelL right_parts right_round)

theorem steps_take {w : World} {a : Option Addr} {n c : Nat} {l : List Stp} (h : stepsAt w (.slice a n c) l) {k : Nat} (hk : k ≤ l.length) : stepsAt w (.slice a k c) (l.take k) := by
  obtain ⟨a', c', e, hl, hx⟩ := h
  simp only [Value.slice.injEq] at e
  obtain ⟨rfl, rfl, rfl⟩ := e
  refine ⟨a, c, by rw [List.length_take, Nat.min_eq_left hk], by rw [List.length_take]; omega, ?_⟩
  rcases hx with rfl | ⟨b, off, rfl, hb, hx⟩
  · exact .inl (by simp)
  · exact .inr ⟨b, off, rfl, hb, fun i x hi => hx i x (by
      rw [List.getElem?_take] at hi
      split at hi
      · exact hi
      · cases hi)⟩
/-- what a trace, and a beginning of it, tell when they are replayed -/
theorem same_plain {ps : List Prd} {rs : List Rul} (hpe : progErr ps rs = 0) (k : Nat) (hk : k ≤ (traceL ps rs).length) :
    (traceL ps rs).length ≤ 2000 ∧ replayL ps rs (traceL ps rs) = (modelL ps rs, (traceL ps rs).length, 0) ∧ (modelL ps rs).length ≤ (traceL ps rs).length ∧ (replayL ps rs ((traceL ps rs).take k)).2 = (k, 0) ∧ underOf ps (replayL ps rs ((traceL ps rs).take k)).1 (modelL ps rs) = (true, 0) := by
  obtain ⟨h1, h2⟩ := trace_same hpe
  have hl : (traceL ps rs).length ≤ 2000 := by
    have h3 := (trace_pot hpe (Naive.strataN (Round.stratOf ps rs))).1
    have h4 := Naive.pot_le (right_parts (trace_right hpe (Naive.strataN (Round.stratOf ps rs)))).2
    rw [Naive.lim_is] at h4
    show (traceTo ps rs _).2.length ≤ 2000
    omega
  have e1 : replayL ps rs (traceL ps rs) = (modelL ps rs, (traceL ps rs).length, 0) := by rw [replayL, if_neg (by rw [hpe]; simp), if_neg (by omega), h1]
  have e2 : replayL ps rs ((traceL ps rs).take k) = rep ps rs ((traceL ps rs).take k) [] 0 := by rw [replayL, if_neg (by rw [hpe]; simp), if_neg (by rw [List.length_take]; omega)]
  obtain ⟨t1, t2, t3, t4⟩ := rep_take (traceL ps rs) 0 k (Naive.nil_right hpe) (by rw [h1]) hk
  rw [h1] at t3 t4
  refine ⟨hl, e1, h2, by rw [e2, t1, Nat.zero_add], ?_⟩
  rw [e2, Round.underOf_right (right_parts t2).2 (right_parts t3).2, t4]

set_option maxRecDepth 100000 in
set_option maxHeartbeats 16000000 in
theorem lawSame_walk (w : World) (pv rv : Value) (ps : List Prd) (rs : List Rul) (q : Int) (hq : -9223372036854775808 ≤ q ∧ q ≤ 9223372036854775807) (hp : predsAt w pv ps) (hr : rulesAt w rv rs) (hn : small ps) :
    Calls Tryz.prog 7 #[.agg #[pv, rv], .int .i64 q] w fun e w' => e = .returned (.bool true) ∧ Below w.heap.size w w' := by
  have HTR : Hid (∀ x, Below w.heap.size w x → Calls Tryz.prog 15 #[.agg #[pv, rv]] x fun e w' => ∃ u, e = .returned (.tuple #[u, .int .i64 (progErr ps rs)]) ∧ stepsAt w' u (traceF ps rs) ∧ Base.capOk u ∧ Below x.heap.size x w') := fun x hx => devTrace_n x pv rv ps rs (predsAt.lasts hx hp) (rulesAt.lasts hx hr) hn
  have HDE : Hid (∀ x v l, Below w.heap.size w x → stepsAt x v l → Calls Tryz.prog 19 #[.agg #[pv, rv], v] x fun e w' => ∃ u, e = .returned (.tuple #[u, .int .i64 ((replayL ps rs l).2.1 : Int), .int .i64 (replayL ps rs l).2.2]) ∧ factsAt w' u (replayL ps rs l).1 ∧ Below x.heap.size x w') := fun x v l hx hl => devReplay_c x pv rv v ps rs l (predsAt.lasts hx hp) (rulesAt.lasts hx hr) hl hn
  have HMO : Hid (∀ x, Below w.heap.size w x → Calls Tryz.prog 14 #[.agg #[pv, rv]] x fun e w' => ∃ u, e = .returned (.tuple #[u, .int .i64 (progErr ps rs)]) ∧ factsAt w' u (modelF ps rs) ∧ Below x.heap.size x w') := fun x hx => Naive.devModel_c x pv rv ps rs (predsAt.lasts hx hp) (rulesAt.lasts hx hr) hn
  have HUN : Hid (∀ x u v f g, Below w.heap.size w x → factsAt x u f → factsAt x v g → Calls Tryz.prog 22 #[pv, u, v] x fun e w' => e = .returned (.tuple #[.bool (underOf ps f g).1, .int .i64 (underOf ps f g).2]) ∧ Below x.heap.size x w') := fun x u v f g hx hf hg => Base.Under_c x pv u v ps f g (predsAt.lasts hx hp) hf hg
  obtain ⟨pa, pc, rfl, _⟩ := hp
  obtain ⟨ra, rc, rfl, _⟩ := hr
  by_cases hpe : progErr ps rs = 0
  · have hcl : Prog.chosen q ((traceL ps rs).length + 1) < (traceL ps rs).length + 1 := Prog.chosen_lt q (by omega)
    obtain ⟨p1, p2, p3, p4, p5⟩ := same_plain hpe (Prog.chosen q ((traceL ps rs).length + 1)) (by omega)
    have HCH : Hid (∀ x, Calls Tryz.prog 21 #[.int .i64 q, .int .i64 (((traceL ps rs).length + 1 : Nat) : Int)] x fun e w' => e = .returned (.int .i64 (Prog.chosen q ((traceL ps rs).length + 1) : Int)) ∧ Below x.heap.size x w') := fun x => Prog.choose_n q ((traceL ps rs).length + 1) x (by omega) (by omega) hq
    have HTF : Hid (traceF ps rs = traceL ps rs ∧ modelF ps rs = modelL ps rs) := ⟨by rw [traceF, if_neg (by rw [hpe]; simp)], by rw [modelF, if_neg (by rw [hpe]; simp)]⟩
    rw [hpe, HTF.out.1] at HTR
    rw [hpe, HTF.out.2] at HMO
    have HP2 : Hid (replayL ps rs (traceL ps rs) = (modelL ps rs, (traceL ps rs).length, 0)) := p2
    have HP4 : Hid ((replayL ps rs ((traceL ps rs).take (Prog.chosen q ((traceL ps rs).length + 1)))).2 = (Prog.chosen q ((traceL ps rs).length + 1), 0)) := p4
    have HP5 : Hid (underOf ps (replayL ps rs ((traceL ps rs).take (Prog.chosen q ((traceL ps rs).length + 1)))).1 (modelL ps rs) = (true, 0)) := p5
    clear p2 p4 p5 HTF hpe hn
    generalize traceL ps rs = T at *
    generalize modelL ps rs = M at *
    generalize Prog.chosen q (T.length + 1) = c at *
    generalize hB : (replayL ps rs (T.take c)).1 = G at *
    have HB : Hid ((replayL ps rs (T.take c)).1 = G) := hB
    clear hB
    have hT0 : ¬ (4096 : Int) < (T.length : Int) := by omega
    go_enter Tryz.func7, Tryz.ntmps7
    go_wp2_with fail
    refine (HTR.out _ (below_alloc _ _)).mono ?_
    rintro ex W1 ⟨u1, rfl, hs1, hcap, hb1⟩
    have k1 : Below w.heap.size w W1 := below_trans (below_alloc _ _) hb1
    have B1 := Prog.boxL hb1
    obtain ⟨c0, c1, _⟩ := id B1
    have HS1 : Hid (∀ x, Below W1.heap.size W1 x → stepsAt x u1 T) := fun x hx => Fire.stepsAt.lasts hx hs1
    obtain ⟨ta, tc, rfl, _⟩ := hs1
    have htc : T.length ≤ tc := by
      obtain ⟨a', n', c', e, h1, _⟩ := hcap
      simp only [Value.slice.injEq] at e
      obtain ⟨rfl, rfl, rfl⟩ := e
      exact h1
    clear hb1 hcap
    have HR1 := HDE.out W1 _ T k1 (HS1.out _ (Below.refl _ _))
    rw [HP2.out] at HR1
    go_wp2_with fail
    refine HR1.mono ?_
    rintro ex W2 ⟨u2, rfl, hf2, hb2⟩
    have k2 : Below w.heap.size w W2 := k1.trans (hb2.mono k1.size)
    have B2 := Prog.boxO hb2 B1
    clear c0 c1 HR1
    obtain ⟨c0, c1, _⟩ := id B2
    have HF2 : Hid (∀ x, Below W2.heap.size W2 x → factsAt x u2 M) := fun x hx => factsAt.lasts hx hf2
    obtain ⟨ua, uc, rfl, _⟩ := hf2
    go_wp2_with fail
    refine (HMO.out _ k2).mono ?_
    rintro ex W3 ⟨u3, rfl, hf3, hb3⟩
    have k3 : Below w.heap.size w W3 := k2.trans (hb3.mono k2.size)
    have B3 := Prog.boxO hb3 B2
    clear c0 c1
    obtain ⟨c0, c1, _⟩ := id B3
    have HF3 : Hid (∀ x, Below W3.heap.size W3 x → factsAt x u3 M) := fun x hx => factsAt.lasts hx hf3
    obtain ⟨va, vc, rfl, _⟩ := hf3
    have HCH3 : Hid (Calls Tryz.prog 21 #[.int .i64 q, .int .i64 ((T.length : Int) + 1)] W3 fun e w' => e = .returned (.int .i64 (c : Int)) ∧ Below W3.heap.size W3 w') := HCH.out W3
    go_wp2_with fail
    refine HCH3.out.mono ?_
    rintro ex W4 ⟨rfl, hb4⟩
    have k4 : Below w.heap.size w W4 := k3.trans (hb4.mono k3.size)
    have B4 := Prog.boxO hb4 B3
    clear c0 c1
    obtain ⟨c0, c1, _⟩ := id B4
    have q24 : Below W2.heap.size W2 W4 := hb3.trans (hb4.mono hb3.size)
    have q14 : Below W1.heap.size W1 W4 := hb2.trans (q24.mono hb2.size)
    have HR4 : Hid (∀ x, Below W4.heap.size W4 x → Calls Tryz.prog 19 #[.agg #[.slice pa ps.length pc, .slice ra rs.length rc], .slice ta c tc] x fun e w' => ∃ xa xc, e = .returned (.tuple #[.slice xa G.length xc, .int .i64 (c : Int), .int .i64 0]) ∧ factsAt w' (.slice xa G.length xc) G ∧ Below x.heap.size x w') := fun x hx => by
      have h := HDE.out x _ (T.take c) (k4.trans (hx.mono k4.size)) (steps_take (HS1.out _ (q14.trans (hx.mono q14.size))) (by omega))
      rw [HB.out, HP4.out] at h
      refine h.mono ?_
      rintro e w' ⟨u, rfl, hf, hb⟩
      obtain ⟨xa, xc, rfl, _⟩ := id hf
      exact ⟨xa, xc, rfl, hf, hb⟩
    have hcc : (c : Int) ≤ (tc : Int) := by omega
    have hc0 : (0 : Int) ≤ (c : Int) := by omega
    have KEEP4 : Hid (∀ w' : World, Below W4.heap.size W4 w' → w'.cell? ⟨w.heap.size, 0, none⟩ = some (.slice pa ps.length pc) ∧ w'.cell? ⟨w.heap.size, 1, none⟩ = some (.slice ra rs.length rc)) := fun w' hx => ⟨(Prog.boxO hx B4).1, (Prog.boxO hx B4).2.1⟩
    go_wp2_with fail
    clear c0 c1
    go_region_held3 (fun w' => w'.cell? ⟨w.heap.size, 0, none⟩ = some (.slice pa ps.length pc) ∧ w'.cell? ⟨w.heap.size, 1, none⟩ = some (.slice ra rs.length rc))
      (first | (refine KEEP4.out _ ?_; (first | with_reducible exact Below.refl _ _ | with_reducible exact Below.drew (Below.refl _ _) | with_reducible exact hk5)))
      (first | (go_at_call 19; refine (HR4.out _ (Below.drew (Below.refl _ _))).mono ?_; rintro ex W5 ⟨xa, xc, rfl, hf5, hbx⟩; have hk5 : Below W4.heap.size W4 W5 := ((Below.refl _ _).drew).trans hbx))
    have hb5 : Below W4.heap.size W4 W5 := hk5
    have k5 : Below w.heap.size w W5 := k4.trans (hb5.mono k4.size)
    have B5 := Prog.boxO hb5 B4
    obtain ⟨c0, c1, _⟩ := id B5
    have q35 : Below W3.heap.size W3 W5 := hb4.trans (hb5.mono hb4.size)
    have HU5 := HUN.out W5 _ _ G M k5 hf5 (HF3.out _ q35)
    rw [HP5.out] at HU5
    clear hf5
    go_wp2_with fail
    refine HU5.mono ?_
    rintro ex W6 ⟨rfl, hb6⟩
    have k6 : Below w.heap.size w W6 := k5.trans (hb6.mono k5.size)
    have q36 : Below W3.heap.size W3 W6 := q35.trans (hb6.mono q35.size)
    have hMT : (M.length : Int) ≤ (T.length : Int) := by omega
    go_wp2_with fail
    refine (traceBegun_c _).mono ?_
    rintro ex W7 ⟨rfl, hb7⟩
    have k7 : Below w.heap.size w W7 := k6.trans (hb7.mono k6.size)
    have q37 : Below W3.heap.size W3 W7 := q36.trans (hb7.mono q36.size)
    have HSF : Hid (Calls Tryz.prog 13 #[.slice ua M.length uc, .slice va M.length vc] W7 fun e w' => e = .returned (.bool true) ∧ Below W7.heap.size W7 w') := by
      have h := Base.sameFacts_c W7 _ _ M M (HF2.out W7 (hb3.trans (q37.mono hb3.size))) (HF3.out W7 q37)
      rw [decide_eq_true rfl] at h
      exact h
    go_wp2_with fail
    refine HSF.out.mono ?_
    rintro ex W8 ⟨rfl, hb8⟩
    go_wp2_with fail
    go_ret
    exact ⟨rfl, k7.trans (hb8.mono k7.size)⟩
  · have hpe' : (progErr ps rs == 0) = false := by simpa using hpe
    go_enter Tryz.func7, Tryz.ntmps7
    go_wp2_with fail
    refine (HTR.out _ (below_alloc _ _)).mono ?_
    rintro ex W1 ⟨u1, rfl, hs1, _, hb1⟩
    have k1 : Below w.heap.size w W1 := below_trans (below_alloc _ _) hb1
    obtain ⟨ta, tc, rfl, _⟩ := hs1
    go_wp2_with fail
    refine (traceBegun_c _).mono ?_
    rintro ex W4 ⟨rfl, hb4⟩
    go_wp2_with fail
    go_ret
    exact ⟨rfl, k1.trans (hb4.mono k1.size)⟩

set_option maxRecDepth 100000 in
theorem lawSame_lifted (os : Os) (started : os.Started) (H : Type) (enc : TypeId × Value → H) :
    ReturnsInHanded {} Tryz.checked os 7 .any (Rows.traceSameSpec.pre6 enc Tryz.prog Tryz.f7 Rows.traceSameRow.domain false) (Rows.traceSameSpec.post enc Tryz.prog Tryz.f7 false true false false) := by
  refine Kit.lifted_of (C := Tryz.checked) (t := 4) (by kernel_rfl) started (by kernel_rfl) Tryz.func7
    (ChangeSpec.witness6 (enc := enc) (C := Tryz.checked) false ⟨#[], #[.agg #[.slice none 0 0, .slice none 0 0], .int .i64 0], []⟩ 8 (by kernel_rfl) (by kernel_rfl) (by kernel_rfl) (by kernel_rfl))
    (by kernel_rfl) (by kernel_rfl) (by kernel_rfl) Tryz.underlying4 rfl ?_ ?_
  · intro ds hds
    rw [show Tryz.f7.params.toList.length = 2 by kernel_rfl] at hds
    match ds, hds with
    | [d0, d1], _ => rfl
  · intro W base args ds ps hval0 hA0 hsz0
    have hval : ∀ (j : Nat) t v, Tryz.f7.params[j]? = some t → args[j]? = some v → Value.okWide Tryz.prog W .any base t v := hval0
    have hA : DataW.TrodAll enc Tryz.prog W 0 (fun _ => true) true Tryz.f7.params.toList args.toList ds ps := hA0
    have hsz : (DataW.weightsEach Tryz.prog (Tryz.f7.params.toList ++ []) (ds ++ [])).all (· ≤ reachBytes) = true := hsz0
    rw [Tryz.params7] at hA hval hsz
    obtain ⟨v0, vs0, d0, ds0, p0, q0, hargs, rfl, rfl, h0, r0⟩ := trodAll_cons hA
    obtain ⟨v1, vs1, d1, ds1, p1, q1, rfl, rfl, rfl, h1, r1⟩ := trodAll_cons r0
    obtain ⟨rfl, rfl, rfl⟩ := trodAll_nil r1
    obtain rfl : args = #[v0, v1] := by cases args; simp_all
    have hL := Open.light_all hsz
    simp only [List.append_nil, DataW.weightsEach] at hL
    obtain ⟨n0, t0⟩ := Open.trod_one h0
    obtain ⟨n1, t1⟩ := Open.trod_one h1
    obtain ⟨pv, rv, ps, rs, e0, hp, hn, hr⟩ := Open.prog_of t0 (Open.light_left hL)
    obtain rfl := Open.agg_of Tryz.underlying25 (hval 0 25 v0 rfl rfl) e0
    obtain ⟨x1, e1, _, hs1⟩ := DataW.trod_int Tryz.underlying3 t1
    obtain rfl := Open.int_of Tryz.underlying3 (hval 1 3 v1 rfl rfl) e1
    exact lawSame_walk W pv rv ps rs x1 (Prog.wf_range hs1) hp hr hn
end Go.Proofs.YtlfccloaoopadaeGreat.Trace
namespace Go.Proofs.YtlfccloaoopadaeGreat
/-- THE STATEMENT -/
theorem traceSame_proved : Rows.TraceSameSaid :=
  OpenClaim.holds_of_wide 7 Tryz.f7 rfl rfl rfl rfl rfl rfl rfl ⟨rfl, rfl, rfl, rfl, rfl⟩ rfl rfl rfl rfl rfl (by kernel_rfl) Tryz.func7 (by kernel_rfl)
    (of_decide_eq_true (by kernel_rfl)) (by unfold Func.isWrapper; first | (rw [if_pos (by decide +kernel)]; kernel_rfl) | (rw [if_neg (by decide +kernel)]; exact ⟨rfl, rfl⟩))
    (fun os started H enc _ => Trace.lawSame_lifted os started H enc)
#print axioms traceSame_proved
end Go.Proofs.YtlfccloaoopadaeGreat
