/-
  Who begins with no less ends with no less, if no literal is Not: in plain words.
-/
import Derived.Test.YtkeoeceejhicaadGreatG22
import Derived.Test.YtkeoeceejhicaadGreatH1
namespace Go.Proofs.YtkeoeceejhicaadGreat.Round
open Rule (kindOf ruleErr factFine)
open Base (factsErr under underOne underOf right_of fine_of)
open Prog (progErr)
open Fire (roundErr rules_right posP mem_all body_more head_more)

theorem addAll_least {ps : List Prd} : ∀ {xs f g : List Fct}, factsErr ps f = 0 → factsErr ps g = 0 → (∀ x ∈ xs, factFine ps x = true) → under (kindOf ps) f g = true → under (kindOf ps) xs g = true → under (kindOf ps) (addAll (kindOf ps) f xs) g = true
  | [], _, _, _, _, _, h, _ => h
  | x :: xs, f, g, hf, hg, hx, h1, h2 => by
    have hx0 := hx x (by simp)
    have h2' : underOne (kindOf ps) g x = true ∧ under (kindOf ps) xs g = true := by unfold under at h2 ⊢; rw [List.all_cons, Bool.and_eq_true] at h2; exact h2
    rw [addAll]
    exact addAll_least (add_right hf hx0) hg (fun y hy => hx y (by simp [hy])) (Base.add_least (right_of hf) (right_of hg) (fine_of hx0) h1 (by rw [under_one]; exact h2'.1)) h2'.2
theorem told_more {ps : List Prd} {S : Rul → Bool} {f g : List Fct} {rs : List Rul} (hr : ∀ r ∈ rs, ruleErr ps r = 0) (hf : factsErr ps f = 0) (hg : factsErr ps g = 0) (hp : posP rs = true) (hu : under (kindOf ps) f g = true) : ∀ x ∈ toldS ps S f rs, ∃ y ∈ toldS ps S g rs, under (kindOf ps) [x] [y] = true := fun x hx => by
  obtain ⟨r, hrm, hx⟩ := List.mem_flatMap.1 hx
  split at hx
  · rename_i hS
    obtain ⟨s, hs, rfl⟩ := List.mem_map.1 hx
    obtain ⟨e, h1, h2, h3⟩ := mem_all.1 hs
    have hpr := List.all_eq_true.1 hp r hrm
    refine ⟨Fire.headF ps g r s.vars, List.mem_flatMap.2 ⟨r, hrm, ?_⟩, head_more (hr r hrm) hf hg h1 hu h2⟩
    rw [if_pos hS]
    exact List.mem_map.2 ⟨s, mem_all.2 ⟨e, h1, body_more hf hu hpr h2, h3⟩, rfl⟩
  · cases hx
theorem mem_under {K : Int → Int} {xs g : List Fct} (h : under K xs g = true) {x : Fct} (hx : x ∈ xs) : under K [x] g = true := by
  rw [under_one]
  exact List.all_eq_true.1 h x hx
/-- who begins with no less ends with no less -/
theorem rounds_more {ps : List Prd} {S : Rul → Bool} {f g : List Fct} {rs : List Rul} (hr : ∀ r ∈ rs, ruleErr ps r = 0) (hf : factsErr ps f = 0) (hg : factsErr ps g = 0) (hp : posP rs = true) (hu : under (kindOf ps) f g = true) : under (kindOf ps) (addAll (kindOf ps) f (toldS ps S f rs)) (addAll (kindOf ps) g (toldS ps S g rs)) = true := by
  have fx := toldS_fine (S := S) hr hf
  have fy := toldS_fine (S := S) hr hg
  have hgr := addAll_right hg fy
  refine addAll_least hf hgr fx (Base.under_trans (right_of hf) (right_of hg) (right_of hgr) hu (under_addAll hg fy)) ?_
  have hty := told_under hg fy
  have : ∀ x ∈ toldS ps S f rs, underOne (kindOf ps) (addAll (kindOf ps) g (toldS ps S g rs)) x = true := fun x hx => by
    obtain ⟨y, hy, hxy⟩ := told_more hr hf hg hp hu x hx
    rw [← under_one]
    exact Base.under_trans (right_of (one_right hf (fx x hx))) (right_of (one_right hf (fy y hy))) (right_of hgr) hxy (mem_under hty hy)
  exact List.all_eq_true.2 this
theorem once_more {ps : List Prd} {rs : List Rul} {f g : List Fct} (s : Int) (hf : roundErr ps rs f = 0) (hg : roundErr ps rs g = 0) (hp : posP rs = true) : (underOf ps f g).2 = 0 ∧ (underOf ps (onceF ps rs f s) (onceF ps rs g s)).2 = 0 ∧ (!(underOf ps f g).1 || (underOf ps (onceF ps rs f s) (onceF ps rs g s)).1) = true := by
  rw [roundErr] at hf hg
  split at hf
  · contradiction
  · rename_i h1
    have hpe : progErr ps rs = 0 := Classical.not_not.1 h1
    rw [if_neg h1] at hg
    have hre := rules_right hpe
    have ef : roundErr ps rs f = 0 := by rw [roundErr, if_neg h1, hf]
    have eg : roundErr ps rs g = 0 := by rw [roundErr, if_neg h1, hg]
    rw [onceF, if_neg (by rw [ef]; simp), onceF, if_neg (by rw [eg]; simp)]
    rw [underOf_right hf hg, underOf_right (addAll_right hf (toldS_fine hre hf)) (addAll_right hg (toldS_fine hre hg))]
    refine ⟨rfl, rfl, ?_⟩
    cases hu : under (kindOf ps) f g
    · rfl
    · exact rounds_more hre hf hg hp hu

end Go.Proofs.YtkeoeceejhicaadGreat.Round

/-
  The Model in plain words: if no literal is Not, it is under all facts that are closed; and it is closed.
-/
namespace Go.Proofs.YtkeoeceejhicaadGreat.Naive
open Rule (ruleErr kindOf factFine)
open Base (factsErr under underOne right_of fine_of under_trans)
open Fire (roundErr posP rules_right)
open Prog (progErr)
open Round (onceF onceC stratOf addAll toldS ofS closedB)

theorem once_least {ps : List Prd} {rs : List Rul} {f g : List Fct} (s : Int) (hf : roundErr ps rs f = 0) (hg : roundErr ps rs g = 0) (hp : posP rs = true) (hc : closedB ps rs g = true) (hu : under (kindOf ps) f g = true) : under (kindOf ps) (onceF ps rs f s) g = true := by
  obtain ⟨h1, f2, _⟩ := Round.once_level s hf
  obtain ⟨_, g2, _⟩ := Round.once_level s hg
  have hre := rules_right h1
  have fx := Round.toldS_fine (S := ofS (stratOf ps rs) s) hre f2
  have gx := Round.toldS_fine (S := fun _ => true) hre g2
  rw [onceF, if_neg (by rw [hf]; simp)]
  rw [closedB, if_neg (by rw [hg]; simp)] at hc
  refine Round.addAll_least f2 g2 fx hu (List.all_eq_true.2 fun x hx => ?_)
  obtain ⟨y, hy, hxy⟩ := Round.told_more hre f2 g2 hp hu x hx
  have hy' : y ∈ toldS ps (fun _ => true) g rs := by
    obtain ⟨r, hr, hy⟩ := List.mem_flatMap.1 hy
    refine List.mem_flatMap.2 ⟨r, hr, ?_⟩
    rw [if_pos rfl]
    split at hy
    · exact hy
    · cases hy
  rw [← Round.under_one]
  exact under_trans (right_of (Round.one_right f2 (fx x hx))) (right_of (Round.one_right f2 (gx y hy'))) (right_of g2) hxy (Round.mem_under hc hy')
theorem run_least {ps : List Prd} {rs : List Rul} {g : List Fct} (s : Int) (hg : roundErr ps rs g = 0) (hp : posP rs = true) (hc : closedB ps rs g = true) (n : Nat) : ∀ {f : List Fct}, roundErr ps rs f = 0 → under (kindOf ps) f g = true → under (kindOf ps) (runF ps rs s n f) g = true := by
  induction n with
  | zero => intro f _ hu; exact hu
  | succ n ih =>
    intro f hf hu
    rw [runF]
    split
    · exact ih (once_right s hf) (once_least s hf hg hp hc hu)
    · exact hu
/-- if no literal is Not, the Model is under all facts that are closed -/
theorem model_least {ps : List Prd} {rs : List Rul} {g : List Fct} (hpe : progErr ps rs = 0) (hg : roundErr ps rs g = 0) (hp : posP rs = true) (hc : closedB ps rs g = true) (t : Nat) : under (kindOf ps) (modelTo ps rs t) g = true := by
  induction t with
  | zero => rfl
  | succ t ih =>
    rw [modelTo]
    exact run_least _ hg hp hc _ (model_right hpe t) ih
end Go.Proofs.YtkeoeceejhicaadGreat.Naive
