/-
  Rounds in plain words: no fact is less behind a round; it changes something just if something is told that is not there; all is closed just if no stratum's round changes anything.
-/
import Derived.Test.YtkeoeceejhicaacGreatG22
import Derived.Test.YtkeoeceejhicaacGreatG5
namespace Go.Proofs.YtkeoeceejhicaacGreat.Round
open Lat (within lift err)
open Rule (ruleErr kindOf factFine)
open Base (place get factsErr addF addC under underOne Right Fine right_of fine_of)
open Fire (rules_right roundErr)
open Prog (progErr edges)
open Strata (strataL at_)

theorem add_same {ps : List Prd} {f : List Fct} {x : Fct} (hf : factsErr ps f = 0) (hx : factFine ps x = true) : addF (kindOf ps) x f = f ↔ underOne (kindOf ps) f x = true := by
  constructor
  · intro h
    have := Base.under_one (right_of hf) (fine_of hx)
    rw [h, under_one] at this
    exact this
  · intro h
    have h1 : under (kindOf ps) [x] f = true := by rw [under_one]; exact h
    exact Base.under_anti (right_of (add_right hf hx)) (right_of hf) (Base.add_least (right_of hf) (right_of hf) (fine_of hx) (Base.under_refl (right_of hf)) h1) (Base.under_add (right_of hf) (fine_of hx))
theorem addC_same {ps : List Prd} {f : List Fct} {x : Fct} (hf : factsErr ps f = 0) (hx : factFine ps x = true) : addC (kindOf ps) x f = !underOne (kindOf ps) f x := by
  have h1 := Base.addC_iff (x := x) (right_of hf)
  cases h : underOne (kindOf ps) f x
  · have hne : addF (kindOf ps) x f ≠ f := fun e => by rw [(add_same hf hx).1 e] at h; cases h
    rw [h1.2 hne]
    rfl
  · have e := (add_same hf hx).2 h
    cases h2 : addC (kindOf ps) x f
    · rfl
    · exact absurd e (h1.1 h2)
theorem under_addAll {ps : List Prd} : ∀ {xs f : List Fct}, factsErr ps f = 0 → (∀ x ∈ xs, factFine ps x = true) → under (kindOf ps) f (addAll (kindOf ps) f xs) = true
  | [], f, hf, _ => Base.under_refl (right_of hf)
  | x :: xs, f, hf, hx => by
    rw [addAll]
    have hx0 := hx x (by simp)
    have hxs : ∀ y ∈ xs, factFine ps y = true := fun y hy => hx y (by simp [hy])
    exact Base.under_trans (right_of hf) (right_of (add_right hf hx0)) (right_of (addAll_right (add_right hf hx0) hxs)) (Base.under_add (right_of hf) (fine_of hx0)) (under_addAll (add_right hf hx0) hxs)
/-- nothing changes just if all that is told is there -/
theorem chg_under {ps : List Prd} : ∀ {xs f : List Fct}, factsErr ps f = 0 → (∀ x ∈ xs, factFine ps x = true) → chgAll (kindOf ps) f xs = !under (kindOf ps) xs f
  | [], f, _, _ => rfl
  | x :: xs, f, hf, hx => by
    have hx0 := hx x (by simp)
    have hxs : ∀ y ∈ xs, factFine ps y = true := fun y hy => hx y (by simp [hy])
    rw [chgAll, addC_same hf hx0]
    have e : under (kindOf ps) (x :: xs) f = (underOne (kindOf ps) f x && under (kindOf ps) xs f) := by unfold under; rw [List.all_cons]
    rw [e]
    cases h : underOne (kindOf ps) f x
    · simp
    · rw [(add_same hf hx0).2 h, chg_under hf hxs]
      simp
theorem addAll_same {ps : List Prd} : ∀ {xs f : List Fct}, factsErr ps f = 0 → (∀ x ∈ xs, factFine ps x = true) → under (kindOf ps) xs f = true → addAll (kindOf ps) f xs = f
  | [], f, _, _, _ => rfl
  | x :: xs, f, hf, hx, hu => by
    have hu' : underOne (kindOf ps) f x = true ∧ under (kindOf ps) xs f = true := by unfold under at hu ⊢; rw [List.all_cons, Bool.and_eq_true] at hu; exact hu
    rw [addAll, (add_same hf (hx x (by simp))).2 hu'.1]
    exact addAll_same hf (fun y hy => hx y (by simp [hy])) hu'.2
/-- what is added is there -/
theorem told_under {ps : List Prd} : ∀ {xs f : List Fct}, factsErr ps f = 0 → (∀ x ∈ xs, factFine ps x = true) → under (kindOf ps) xs (addAll (kindOf ps) f xs) = true
  | [], f, _, _ => rfl
  | x :: xs, f, hf, hx => by
    have hx0 := hx x (by simp)
    have hxs : ∀ y ∈ xs, factFine ps y = true := fun y hy => hx y (by simp [hy])
    have hr := add_right hf hx0
    have e : under (kindOf ps) (x :: xs) (addAll (kindOf ps) f (x :: xs)) = (underOne (kindOf ps) (addAll (kindOf ps) f (x :: xs)) x && under (kindOf ps) xs (addAll (kindOf ps) f (x :: xs))) := by unfold under; rw [List.all_cons]
    rw [e, addAll, Bool.and_eq_true]
    refine ⟨?_, told_under hr hxs⟩
    rw [← under_one]
    exact Base.under_trans (right_of (one_right hf hx0)) (right_of hr) (right_of (addAll_right hr hxs)) (Base.under_one (right_of hf) (fine_of hx0)) (under_addAll hr hxs)
theorem chg_same {ps : List Prd} {xs f : List Fct} (hf : factsErr ps f = 0) (hx : ∀ x ∈ xs, factFine ps x = true) : chgAll (kindOf ps) f xs = !decide (f = addAll (kindOf ps) f xs) := by
  rw [chg_under hf hx]
  cases h : under (kindOf ps) xs f
  · by_cases e : f = addAll (kindOf ps) f xs
    · have := told_under hf hx
      rw [← e, h] at this
      cases this
    · rw [decide_eq_false e]
  · rw [decide_eq_true (addAll_same hf hx h).symm]
theorem strat_small {ps : List Prd} {rs : List Rul} (h : progErr ps rs = 0) {r : Rul} (hr : r ∈ rs) : at_ (stratOf ps rs) r.head.pred.toNat < ps.length := by
  obtain ⟨k, hk, e⟩ := Rule.isPred_iff.1 (Rule.atom_right (Fire.rule_parts (rules_right h r hr)).1).1
  rw [e, Int.toNat_natCast]
  exact Strata.strata_small (Prog.within_edges (Prog.parts_zero (Prog.prog_zero h).1).2.2) (strat_some h).1 hk
theorem closed_any {ps : List Prd} {rs : List Rul} {f : List Fct} (h : progErr ps rs = 0) (hf : factsErr ps f = 0) : closedB ps rs f = !(List.range ps.length).any fun (s : Nat) => onceC ps rs f (s : Int) := by
  have e0 : roundErr ps rs f = 0 := by rw [roundErr, if_neg (by rw [h]; simp), hf]
  have hre := rules_right h
  have hfine := fun S => toldS_fine (S := S) hre hf
  have hc : ∀ s : Int, onceC ps rs f s = !under (kindOf ps) (toldS ps (ofS (stratOf ps rs) s) f rs) f := fun s => by rw [onceC, if_neg (by rw [e0]; simp), chg_under hf (hfine _)]
  rw [closedB, if_neg (by rw [e0]; simp)]
  have key : under (kindOf ps) (toldS ps (fun _ => true) f rs) f = true ↔ ∀ s : Nat, s < ps.length → under (kindOf ps) (toldS ps (ofS (stratOf ps rs) (s : Int)) f rs) f = true := by
    unfold under
    simp only [List.all_eq_true]
    constructor
    · intro hu s _ x hx
      obtain ⟨r, hr, hx⟩ := List.mem_flatMap.1 hx
      split at hx
      · exact hu x (List.mem_flatMap.2 ⟨r, hr, by rw [if_pos rfl]; exact hx⟩)
      · cases hx
    · intro hu x hx
      obtain ⟨r, hr, hx⟩ := List.mem_flatMap.1 hx
      rw [if_pos rfl] at hx
      refine hu (at_ (stratOf ps rs) r.head.pred.toNat) (strat_small h hr) x (List.mem_flatMap.2 ⟨r, hr, ?_⟩)
      rw [if_pos (by unfold ofS; simp)]
      exact hx
  cases hu : under (kindOf ps) (toldS ps (fun _ => true) f rs) f
  · have : ¬ ∀ s : Nat, s < ps.length → under (kindOf ps) (toldS ps (ofS (stratOf ps rs) (s : Int)) f rs) f = true := fun hall => by rw [key.2 hall] at hu; cases hu
    have hex : (List.range ps.length).any (fun (s : Nat) => onceC ps rs f (s : Int)) = true := by
      refine Classical.byContradiction fun hno => this fun s hs => ?_
      have hno := List.any_eq_false.1 (Bool.eq_false_iff.2 hno) s (List.mem_range.2 hs)
      rw [hc] at hno
      simpa using hno
    rw [hex]
    rfl
  · have hall := key.1 hu
    have hno : (List.range ps.length).any (fun (s : Nat) => onceC ps rs f (s : Int)) = false := List.any_eq_false.2 fun s hs => by
      rw [hc, hall s (List.mem_range.1 hs)]
      simp
    rw [hno]
    rfl
end Go.Proofs.YtkeoeceejhicaacGreat.Round

/-
  The walk of the law on what rounds do.
-/
namespace Go.Proofs.YtkeoeceejhicaacGreat.Round
open Go.ChangeShapes Go.WideShapes Go.ChangeAt Go.RowKit
open Rule (kindOf)
open Base (factsErr under capOk underOf)
open Prog (progErr small)
open Fire (roundErr rules_right)

theorem round_nil {ps : List Prd} {rs : List Rul} {f : List Fct} (h : roundErr ps rs f = 0) : progErr ps rs = 0 ∧ factsErr ps f = 0 := by
  rw [roundErr] at h
  split at h
  · contradiction
  · rename_i h1
    exact ⟨Classical.not_not.1 h1, h⟩
theorem once_err {ps : List Prd} {rs : List Rul} {f : List Fct} (s : Int) (h : roundErr ps rs f = 0) : factsErr ps (onceF ps rs f s) = 0 ∧ under (kindOf ps) f (onceF ps rs f s) = true ∧ onceC ps rs f s = !decide (f = onceF ps rs f s) := by
  obtain ⟨h1, h2⟩ := round_nil h
  have hx := toldS_fine (S := ofS (stratOf ps rs) s) (rules_right h1) h2
  rw [onceF, if_neg (by rw [h]; simp), onceC, if_neg (by rw [h]; simp)]
  exact ⟨addAll_right h2 hx, under_addAll h2 hx, chg_same h2 hx⟩

set_option maxRecDepth 100000 in
set_option maxHeartbeats 8000000 in
theorem lawTrue_walk (w : World) (pv rv fv : Value) (ps : List Prd) (rs : List Rul) (f : List Fct) (s : Int) (hp : predsAt w pv ps) (hr : rulesAt w rv rs) (hf : factsAt w fv f) (hn : small ps) :
    Calls Tryz.prog 7 #[.agg #[pv, rv], fv, .int .i64 s] w fun e w' => e = .returned (.bool true) ∧ Below w.heap.size w w' := by
  have HON : Hid (∀ x (t : Int), Below w.heap.size w x → Calls Tryz.prog 17 #[.agg #[pv, rv], fv, .int .i64 t] x fun e w' => ∃ u, e = .returned (.tuple #[u, .bool (onceC ps rs f t), .int .i64 (roundErr ps rs f)]) ∧ factsAt w' u (onceF ps rs f t) ∧ capOk u ∧ Below x.heap.size x w') := fun x t hx => devOnce_c x pv rv fv ps rs f t (predsAt.lasts hx hp) (rulesAt.lasts hx hr) (factsAt.lasts hx hf) hn
  have HCL : Hid (∀ x, Below w.heap.size w x → Calls Tryz.prog 18 #[.agg #[pv, rv], fv] x fun e w' => e = .returned (.tuple #[.bool (closedB ps rs f), .int .i64 (roundErr ps rs f)]) ∧ Below x.heap.size x w') := fun x hx => devClosed_c x pv rv fv ps rs f (predsAt.lasts hx hp) (rulesAt.lasts hx hr) (factsAt.lasts hx hf) hn
  have HUN : Hid (∀ x u g, Below w.heap.size w x → factsAt x u g → Calls Tryz.prog 15 #[pv, fv, u] x fun e w' => e = .returned (.tuple #[.bool (underOf ps f g).1, .int .i64 (underOf ps f g).2]) ∧ Below x.heap.size x w') := fun x u g hx hg => Base.Under_c x pv fv u ps f g (predsAt.lasts hx hp) (factsAt.lasts hx hf) hg
  have HFF : Hid (∀ x, Below w.heap.size w x → factsAt x fv f) := fun x hx => factsAt.lasts hx hf
  obtain ⟨pa, pc, rfl, _⟩ := hp
  obtain ⟨ra, rc, rfl, _⟩ := hr
  obtain ⟨fa, fc, rfl, _⟩ := hf
  by_cases her : roundErr ps rs f = 0
  · obtain ⟨z1, z2⟩ := round_nil her
    obtain ⟨y1, y2, y3⟩ := once_err s her
    have HUE : Hid (underOf ps f (onceF ps rs f s) = (true, 0)) := by show _ = _; rw [underOf_right z2 y1, y2]
    have HCA : Hid (closedB ps rs f = !(List.range ps.length).any fun (t : Nat) => onceC ps rs f (t : Int)) := closed_any z1 z2
    have HY3 : Hid (onceC ps rs f s = !decide (f = onceF ps rs f s)) := y3
    rw [her] at HON HCL
    clear z1 z2 y1 y2 y3 her
    generalize closedB ps rs f = D at *
    go_enter Tryz.func7, Tryz.ntmps7
    go_wp2_with fail
    refine (HON.out _ s (below_alloc _ _)).mono ?_
    rintro e W1 ⟨u1, rfl, hf1, hcu, hb1⟩
    obtain ⟨ua, un, uc, rfl, _⟩ := hcu
    have k1 : Below w.heap.size w W1 := below_trans (below_alloc _ _) hb1
    have B1 := Prog.boxL hb1
    obtain ⟨c0, c1, _⟩ := id B1
    have HF1 : Hid (∀ x, Below W1.heap.size W1 x → factsAt x (.slice ua un uc) (onceF ps rs f s)) := fun x hx => factsAt.lasts hx hf1
    have HU1 : Hid (∀ x, Below W1.heap.size W1 x → Calls Tryz.prog 15 #[.slice pa ps.length pc, .slice fa f.length fc, .slice ua un uc] x fun e w' => e = .returned (.tuple #[.bool true, .int .i64 0]) ∧ Below x.heap.size x w') := fun x hx => by
      have h := HUN.out x (.slice ua un uc) (onceF ps rs f s) (k1.trans (hx.mono k1.size)) (HF1.out x hx)
      rw [HUE.out] at h
      exact h
    clear hb1 hf1 HUN
    go_wp2_with fail
    refine (HU1.out _ (Below.refl _ _)).mono ?_
    rintro e W2 ⟨rfl, hb2⟩
    have k2 : Below w.heap.size w W2 := k1.trans (hb2.mono k1.size)
    have B2 := Prog.boxO hb2 B1
    clear c0 c1
    obtain ⟨c0, c1, _⟩ := id B2
    go_wp2_with fail
    refine (HCL.out _ k2).mono ?_
    rintro e W3 ⟨rfl, hb3⟩
    have k3 : Below w.heap.size w W3 := k2.trans (hb3.mono k2.size)
    have B3 := Prog.boxO hb3 B2
    have h13 : Below W1.heap.size W1 W3 := hb2.trans (hb3.mono hb2.size)
    clear c0 c1 B2
    generalize hoc : onceC ps rs f s = C at *
    have HSF : Hid (Calls Tryz.prog 23 #[.slice fa f.length fc, .slice ua un uc] W3 fun e w' => e = .returned (.bool (!C)) ∧ Below W3.heap.size W3 w') := by
      have h := Base.sameFacts_c W3 _ _ f (onceF ps rs f s) (HFF.out _ k3) (HF1.out _ h13)
      rw [show decide (f = onceF ps rs f s) = !C by rw [HY3.out]; simp] at h
      exact h
    clear hoc HY3 HUE
    go_wp2_with fail
    refine HSF.out.mono ?_
    rintro e W4 ⟨rfl, hb4⟩
    have k4 : Below w.heap.size w W4 := k3.trans (hb4.mono k3.size)
    have B4 := Prog.boxO hb4 B3
    have hCC : (C == !C) = false := by cases C <;> rfl
    obtain ⟨c0, c1, _⟩ := id B4
    go_wp2_with fail
    clear c0 c1
    go_loopw [14, 15] (fun a i wr => ∃ t : Nat, t ≤ ps.length ∧ i = .int .i64 t ∧ a = .bool ((List.range t).any fun (t : Nat) => onceC ps rs f (t : Int)) ∧ Below W4.heap.size W4 wr) (fun _ i _ => ps.length - (intOf i).toNat)
    case atStart => exact ⟨0, Nat.zero_le _, rfl, rfl, Below.refl _ _⟩
    case round =>
      obtain ⟨t, ht, rfl, rfl, hbr⟩ := hrel
      have kr : Below w.heap.size w wr := k4.trans (hbr.mono k4.size)
      obtain ⟨c0, c1, _⟩ := Prog.boxO hbr B4
      by_cases hlt : t < ps.length
      · have ht0 : (t : Int) < (ps.length : Int) := by omega
        have HAN : Hid ((List.range (t + 1)).any (fun (t : Nat) => onceC ps rs f (t : Int)) = ((List.range t).any (fun (t : Nat) => onceC ps rs f (t : Int)) || onceC ps rs f (t : Int))) := by show _ = _; rw [List.range_succ, List.any_append]; simp
        generalize (List.range t).any (fun (t : Nat) => onceC ps rs f (t : Int)) = an at *
        go_wp2_with fail
        refine (HON.out _ (t : Int) kr).mono ?_
        rintro e W5 ⟨u5, rfl, _, hcu5, hb5⟩
        obtain ⟨ua5, un5, uc5, rfl, _⟩ := hcu5
        generalize onceC ps rs f (t : Int) = oc at *
        clear c0 c1
        cases an <;> cases oc
        all_goals go_wp2_with fail
        all_goals exact ⟨⟨t + 1, by omega, by go_num, by rw [HAN.out]; rfl, hbr.trans (hb5.mono hbr.size)⟩, by simp [intOf]; omega⟩
      · obtain rfl : t = ps.length := by omega
        generalize (List.range ps.length).any (fun (t : Nat) => onceC ps rs f (t : Int)) = an at *
        have HD : D = !an := HCA.out
        subst HD
        clear HCA
        go_wp2_with fail
        refine (roundBegun_c _).mono ?_
        rintro e W6 ⟨rfl, hb6⟩
        go_wp2_with fail
        go_ret
        exact ⟨by simp, kr.trans (hb6.mono kr.size)⟩
  · have her' : (roundErr ps rs f == 0) = false := by simpa using her
    go_enter Tryz.func7, Tryz.ntmps7
    go_wp2_with fail
    refine (HON.out _ s (below_alloc _ _)).mono ?_
    rintro e W1 ⟨u1, rfl, _, _, hb1⟩
    have k1 : Below w.heap.size w W1 := below_trans (below_alloc _ _) hb1
    go_wp2_with fail
    refine (roundBegun_c _).mono ?_
    rintro e W2 ⟨rfl, hb2⟩
    go_wp2_with fail
    go_ret
    exact ⟨rfl, k1.trans (hb2.mono k1.size)⟩
end Go.Proofs.YtkeoeceejhicaacGreat.Round
