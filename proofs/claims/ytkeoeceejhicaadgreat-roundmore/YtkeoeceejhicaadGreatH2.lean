/-
  Who begins with no less ends with no less, if no literal is Not: in plain words; and the walk of the law.
-/
import Derived.Test.YtkeoeceejhicaadGreatG22
import Derived.Test.YtkeoeceejhicaadGreatH1
namespace Go.Proofs.YtkeoeceejhicaadGreat.Round
open Go.ChangeShapes Go.WideShapes Go.ChangeAt Go.RowKit
open Rule (kindOf ruleErr factFine)
open Base (factsErr under underOne capOk underOf right_of fine_of)
open Prog (progErr small)
open Fire (roundErr rules_right posP mem_all body_more head_more positive_c)

theorem addAll_least {ps : List Prd} : ∀ {xs f g : List Fct}, factsErr ps f = 0 → factsErr ps g = 0 → (∀ x ∈ xs, factFine ps x = true) → under (kindOf ps) f g = true → under (kindOf ps) xs g = true → under (kindOf ps) (addAll (kindOf ps) f xs) g = true
  | [], _, _, _, _, _, h, _ => h
  | x :: xs, f, g, hf, hg, hx, h1, h2 => by
    have hx0 := hx x (by simp)
    have h2' : underOne (kindOf ps) g x = true ∧ under (kindOf ps) xs g = true := by unfold under at h2 ⊢; rw [List.all_cons, Bool.and_eq_true] at h2; exact h2
    rw [addAll]
    exact addAll_least (add_right hf hx0) hg (fun y hy => hx y (by simp [hy])) (Base.add_least (right_of hf) (right_of hg) (fine_of hx0) h1 (by rw [under_one]; exact h2'.1)) h2'.2
theorem told_more {ps : List Prd} {S : Rul → Bool} {f g : List Fct} {rs : List Rul} (hr : ∀ r ∈ rs, ruleErr ps r = 0) (hf : factsErr ps f = 0) (hg : factsErr ps g = 0) (hp : posP rs = true) (hu : under (kindOf ps) f g = true) : ∀ x ∈ toldS ps S f rs, ∃ y ∈ toldS ps S g rs, under (kindOf ps) [x] [y] = true := fun x hx => by
  obtain ⟨r, hrm, hx⟩ := List.mem_flatMap.1 hx
  split at hx
  · rename_i hS
    obtain ⟨s, hs, rfl⟩ := List.mem_map.1 hx
    obtain ⟨e, h1, h2, h3⟩ := mem_all.1 hs
    have hpr := List.all_eq_true.1 hp r hrm
    refine ⟨Fire.headF ps g r s.vars, List.mem_flatMap.2 ⟨r, hrm, ?_⟩, head_more (hr r hrm) hf hg h1 hu h2⟩
    rw [if_pos hS]
    exact List.mem_map.2 ⟨s, mem_all.2 ⟨e, h1, body_more hf hu hpr h2, h3⟩, rfl⟩
  · cases hx
theorem mem_under {K : Int → Int} {xs g : List Fct} (h : under K xs g = true) {x : Fct} (hx : x ∈ xs) : under K [x] g = true := by
  rw [under_one]
  exact List.all_eq_true.1 h x hx
/-- who begins with no less ends with no less -/
theorem rounds_more {ps : List Prd} {S : Rul → Bool} {f g : List Fct} {rs : List Rul} (hr : ∀ r ∈ rs, ruleErr ps r = 0) (hf : factsErr ps f = 0) (hg : factsErr ps g = 0) (hp : posP rs = true) (hu : under (kindOf ps) f g = true) : under (kindOf ps) (addAll (kindOf ps) f (toldS ps S f rs)) (addAll (kindOf ps) g (toldS ps S g rs)) = true := by
  have fx := toldS_fine (S := S) hr hf
  have fy := toldS_fine (S := S) hr hg
  have hgr := addAll_right hg fy
  refine addAll_least hf hgr fx (Base.under_trans (right_of hf) (right_of hg) (right_of hgr) hu (under_addAll hg fy)) ?_
  have hty := told_under hg fy
  have : ∀ x ∈ toldS ps S f rs, underOne (kindOf ps) (addAll (kindOf ps) g (toldS ps S g rs)) x = true := fun x hx => by
    obtain ⟨y, hy, hxy⟩ := told_more hr hf hg hp hu x hx
    rw [← under_one]
    exact Base.under_trans (right_of (one_right hf (fx x hx))) (right_of (one_right hf (fy y hy))) (right_of hgr) hxy (mem_under hty hy)
  exact List.all_eq_true.2 this
theorem once_more {ps : List Prd} {rs : List Rul} {f g : List Fct} (s : Int) (hf : roundErr ps rs f = 0) (hg : roundErr ps rs g = 0) (hp : posP rs = true) : (underOf ps f g).2 = 0 ∧ (underOf ps (onceF ps rs f s) (onceF ps rs g s)).2 = 0 ∧ (!(underOf ps f g).1 || (underOf ps (onceF ps rs f s) (onceF ps rs g s)).1) = true := by
  rw [roundErr] at hf hg
  split at hf
  · contradiction
  · rename_i h1
    have hpe : progErr ps rs = 0 := Classical.not_not.1 h1
    rw [if_neg h1] at hg
    have hre := rules_right hpe
    have ef : roundErr ps rs f = 0 := by rw [roundErr, if_neg h1, hf]
    have eg : roundErr ps rs g = 0 := by rw [roundErr, if_neg h1, hg]
    rw [onceF, if_neg (by rw [ef]; simp), onceF, if_neg (by rw [eg]; simp)]
    rw [underOf_right hf hg, underOf_right (addAll_right hf (toldS_fine hre hf)) (addAll_right hg (toldS_fine hre hg))]
    refine ⟨rfl, rfl, ?_⟩
    cases hu : under (kindOf ps) f g
    · rfl
    · exact rounds_more hre hf hg hp hu

set_option maxRecDepth 100000 in
set_option maxHeartbeats 8000000 in
theorem lawMore_walk (w : World) (pv rv fv gv : Value) (ps : List Prd) (rs : List Rul) (f g : List Fct) (s : Int) (hp : predsAt w pv ps) (hr : rulesAt w rv rs) (hf : factsAt w fv f) (hg : factsAt w gv g) (hn : small ps) :
    Calls Tryz.prog 4 #[.agg #[pv, rv], fv, gv, .int .i64 s] w fun e w' => e = .returned (.bool true) ∧ Below w.heap.size w w' := by
  have HO1 : Hid (∀ x, Below w.heap.size w x → Calls Tryz.prog 9 #[.agg #[pv, rv], fv, .int .i64 s] x fun e w' => ∃ u, e = .returned (.tuple #[u, .bool (onceC ps rs f s), .int .i64 (roundErr ps rs f)]) ∧ factsAt w' u (onceF ps rs f s) ∧ capOk u ∧ Below x.heap.size x w') := fun x hx => devOnce_c x pv rv fv ps rs f s (predsAt.lasts hx hp) (rulesAt.lasts hx hr) (factsAt.lasts hx hf) hn
  have HO2 : Hid (∀ x, Below w.heap.size w x → Calls Tryz.prog 9 #[.agg #[pv, rv], gv, .int .i64 s] x fun e w' => ∃ u, e = .returned (.tuple #[u, .bool (onceC ps rs g s), .int .i64 (roundErr ps rs g)]) ∧ factsAt w' u (onceF ps rs g s) ∧ capOk u ∧ Below x.heap.size x w') := fun x hx => devOnce_c x pv rv gv ps rs g s (predsAt.lasts hx hp) (rulesAt.lasts hx hr) (factsAt.lasts hx hg) hn
  have HPO : Hid (∀ x, Below w.heap.size w x → Calls Tryz.prog 13 #[.agg #[pv, rv]] x fun e w' => e = .returned (.bool (posP rs)) ∧ Below x.heap.size x w') := fun x hx => positive_c x pv rv rs (by obtain ⟨pa, pc, rfl, _⟩ := hp; exact ⟨_, _, _, rfl⟩) (rulesAt.lasts hx hr)
  have HU1 : Hid (∀ x, Below w.heap.size w x → Calls Tryz.prog 14 #[pv, fv, gv] x fun e w' => e = .returned (.tuple #[.bool (underOf ps f g).1, .int .i64 (underOf ps f g).2]) ∧ Below x.heap.size x w') := fun x hx => Base.Under_c x pv fv gv ps f g (predsAt.lasts hx hp) (factsAt.lasts hx hf) (factsAt.lasts hx hg)
  have HUN : Hid (∀ x u v a b, Below w.heap.size w x → factsAt x u a → factsAt x v b → Calls Tryz.prog 14 #[pv, u, v] x fun e w' => e = .returned (.tuple #[.bool (underOf ps a b).1, .int .i64 (underOf ps a b).2]) ∧ Below x.heap.size x w') := fun x u v a b hx ha hb => Base.Under_c x pv u v ps a b (predsAt.lasts hx hp) ha hb
  obtain ⟨pa, pc, rfl, _⟩ := hp
  obtain ⟨ra, rc, rfl, _⟩ := hr
  obtain ⟨fa, fc, rfl, _⟩ := hf
  obtain ⟨ga, gc, rfl, _⟩ := hg
  have HM : Hid (roundErr ps rs f = 0 → roundErr ps rs g = 0 → posP rs = true → (underOf ps f g).2 = 0 ∧ (underOf ps (onceF ps rs f s) (onceF ps rs g s)).2 = 0 ∧ (!(underOf ps f g).1 || (underOf ps (onceF ps rs f s) (onceF ps rs g s)).1) = true) := once_more s
  generalize onceC ps rs f s = C1 at *
  generalize onceC ps rs g s = C2 at *
  generalize onceF ps rs f s = F1 at *
  generalize onceF ps rs g s = F2 at *
  generalize hE1 : roundErr ps rs f = E1 at *
  generalize hE2 : roundErr ps rs g = E2 at *
  generalize posP rs = P at *
  clear hE1 hE2
  go_enter Tryz.func4, Tryz.ntmps4
  go_wp2_with fail
  refine (HO1.out _ (below_alloc _ _)).mono ?_
  rintro e W1 ⟨u1, rfl, hf1, hcu, hb1⟩
  obtain ⟨ua, un, uc, rfl, _⟩ := hcu
  have k1 : Below w.heap.size w W1 := below_trans (below_alloc _ _) hb1
  have B1 := Prog.boxL hb1
  obtain ⟨c0, c1, _⟩ := id B1
  have HF1 : Hid (∀ x, Below W1.heap.size W1 x → factsAt x (.slice ua un uc) F1) := fun x hx => factsAt.lasts hx hf1
  clear hb1 hf1
  go_wp2_with fail
  refine (HO2.out _ k1).mono ?_
  rintro e W2 ⟨u2, rfl, hf2, hcu2, hb2⟩
  obtain ⟨va, vn, vc, rfl, _⟩ := hcu2
  have k2 : Below w.heap.size w W2 := k1.trans (hb2.mono k1.size)
  have B2 := Prog.boxO hb2 B1
  have HF2 : Hid (∀ x, Below W2.heap.size W2 x → factsAt x (.slice ua un uc) F1 ∧ factsAt x (.slice va vn vc) F2) := fun x hx => ⟨HF1.out x (hb2.trans (hx.mono hb2.size)), factsAt.lasts hx hf2⟩
  clear hf2 HF1 c0 c1
  obtain ⟨c0, c1, _⟩ := id B2
  by_cases e1 : E1 = 0
  · subst e1
    by_cases e2 : E2 = 0
    · subst e2
      go_wp2_with fail
      refine (HPO.out _ k2).mono ?_
      rintro e W3 ⟨rfl, hb3⟩
      have k3 : Below w.heap.size w W3 := k2.trans (hb3.mono k2.size)
      have B3 := Prog.boxO hb3 B2
      clear c0 c1
      obtain ⟨c0, c1, _⟩ := id B3
      cases P
      · go_wp2_with fail
        refine (roundBegun_c _).mono ?_
        rintro e W4 ⟨rfl, hb4⟩
        go_wp2_with fail
        go_ret
        exact ⟨rfl, k3.trans (hb4.mono k3.size)⟩
      · obtain ⟨m1, m2, m3⟩ := HM.out (by first | rfl | trivial) (by first | rfl | trivial) (by first | rfl | trivial)
        have HUF : Hid (∀ x, Below W2.heap.size W2 x → Calls Tryz.prog 14 #[.slice pa ps.length pc, .slice ua un uc, .slice va vn vc] x fun e w' => e = .returned (.tuple #[.bool (underOf ps F1 F2).1, .int .i64 0]) ∧ Below x.heap.size x w') := fun x hx => by
          have h := HUN.out x _ _ F1 F2 (k2.trans (hx.mono k2.size)) (HF2.out x hx).1 (HF2.out x hx).2
          rw [m2] at h
          exact h
        rw [m1] at HU1
        have HM3 : Hid ((!(underOf ps f g).1 || (underOf ps F1 F2).1) = true) := m3
        generalize (underOf ps f g).1 = U1 at *
        generalize (underOf ps F1 F2).1 = U2 at *
        clear m1 m2 m3 HM HUN
        go_wp2_with fail
        refine (HU1.out _ k3).mono ?_
        rintro e W4 ⟨rfl, hb4⟩
        have k4 : Below w.heap.size w W4 := k3.trans (hb4.mono k3.size)
        have B4 := Prog.boxO hb4 B3
        clear c0 c1
        obtain ⟨c0, c1, _⟩ := id B4
        go_wp2_with fail
        refine (HUF.out _ (hb3.trans (hb4.mono hb3.size))).mono ?_
        rintro e W5 ⟨rfl, hb5⟩
        have k5 : Below w.heap.size w W5 := k4.trans (hb5.mono k4.size)
        clear c0 c1
        go_wp2_with fail
        refine (roundBegun_c _).mono ?_
        rintro e W6 ⟨rfl, hb6⟩
        have k6 : Below w.heap.size w W6 := k5.trans (hb6.mono k5.size)
        have h3 := HM3.out
        cases U1 <;> cases U2
        · go_wp2_with fail
          go_ret
          exact ⟨rfl, k6⟩
        · go_wp2_with fail
          go_ret
          exact ⟨rfl, k6⟩
        · cases h3
        · go_wp2_with fail
          go_ret
          exact ⟨rfl, k6⟩
    · have e2' : (E2 == 0) = false := by simpa using e2
      go_wp2_with fail
      refine (roundBegun_c _).mono ?_
      rintro e W4 ⟨rfl, hb4⟩
      go_wp2_with fail
      go_ret
      exact ⟨rfl, k2.trans (hb4.mono k2.size)⟩
  · have e1' : (E1 == 0) = false := by simpa using e1
    go_wp2_with fail
    refine (roundBegun_c _).mono ?_
    rintro e W4 ⟨rfl, hb4⟩
    go_wp2_with fail
    go_ret
    exact ⟨rfl, k2.trans (hb4.mono k2.size)⟩
end Go.Proofs.YtkeoeceejhicaadGreat.Round
