/-
  Traces in plain words: if no literal is Not, whatever steps can be replayed tell nothing that does not follow.
-/
import Derived.Test.YtlfccloaoopadaeGreatG22
namespace Go.Proofs.YtlfccloaoopadaeGreat.Trace
open Rule (Vars ruleErr kindOf factFine asked stands standsIn argAt groundTo termOk atomErr)
open Base (place get factsErr under underOne right_of fine_of under_trans under_refl under_add add_least addF addC)
open Fire (roundErr rules_right consts bodyOk litOk there atomF headF valTo valueAt StepOk allL mem_all Stp posP body_more head_more rule_parts)
open Prog (progErr)
open Round (closedB toldS toldR)
open Naive (Lev right_parts right_round modelL)

/-- variables that do not stand in the rule stand for 0 -/
def stdV (r : Rul) (v : Vars) : Vars := ⟨if asked r 0 then v.x else 0, if asked r 1 then v.y else 0, if asked r 2 then v.z else 0⟩
theorem stdV_at {r : Rul} {v : Vars} {m : Int} (hm : m = 0 ∨ m = 1 ∨ m = 2) : (stdV r v).at m = if asked r m then v.at m else 0 := by
  rcases hm with rfl | rfl | rfl <;> rfl
theorem stdV_const {r : Rul} {v : Vars} (h : consts v = true) : consts (stdV r v) = true := by
  unfold consts at h ⊢
  rw [Bool.and_eq_true, Bool.and_eq_true] at h ⊢
  unfold stdV
  refine ⟨?_, ?_, ?_⟩
  · show Lat.within (if _ then _ else _) 0 4 = true
    split
    · exact h.1
    · rfl
  · show Lat.within (if _ then _ else _) 0 4 = true
    split
    · exact h.2.1
    · rfl
  · show Lat.within (if _ then _ else _) 0 4 = true
    split
    · exact h.2.2
    · rfl
theorem std_arg {r : Rul} {v : Vars} {ts : List Tm} (ht : ts.all termOk = true) (ha : ∀ m, stands ts m = true → asked r m = true) (i : Nat) : argAt (stdV r v) ts i = argAt v ts i := by
  unfold argAt
  cases e : ts[i]? with
  | none => rfl
  | some t =>
    have hm := List.mem_of_getElem? e
    show Rule.valOf (stdV r v) t = Rule.valOf v t
    unfold Rule.valOf
    cases hv : t.var
    · rfl
    · have h1 := List.all_eq_true.1 ht t hm
      unfold termOk at h1
      rw [if_pos hv] at h1
      have h2 := Fire.within_iff.1 h1
      have h3 := ha t.n (List.any_eq_true.2 ⟨t, hm, by unfold standsIn; rw [hv]; simp⟩)
      show (stdV r v).at t.n = v.at t.n
      rw [stdV_at (by omega), h3]
      rfl
theorem std_atom {ps : List Prd} {r : Rul} {v : Vars} {a : Atm} (h : atomErr ps a = 0) (ha : ∀ m, stands a.args m = true → asked r m = true) : atomF (stdV r v) a = atomF v a := by
  have ht := (Rule.atom_right h).2
  unfold atomF groundTo
  rw [std_arg ht ha, std_arg ht ha]
theorem std_step {ps : List Prd} {r : Rul} (hr : ruleErr ps r = 0) (f : List Fct) (v : Vars) : bodyOk f (stdV r v) r.body = bodyOk f v r.body ∧ headF ps f r (stdV r v) = headF ps f r v := by
  obtain ⟨hh, hb, _⟩ := rule_parts hr
  have ha : ∀ m, stands r.head.args m = true → asked r m = true := fun m h => by unfold asked; rw [h]; rfl
  have hl : ∀ l ∈ r.body, ∀ m, stands l.atom.args m = true → asked r m = true := fun l hl m h => by unfold asked; rw [List.any_eq_true.2 ⟨l, hl, h⟩, Bool.or_true]
  have hA : ∀ l ∈ r.body, atomF (stdV r v) l.atom = atomF v l.atom := fun l hm => std_atom (hb l hm) (hl l hm)
  constructor
  · unfold bodyOk
    have : ∀ ls : List Ltr, (∀ l ∈ ls, atomF (stdV r v) l.atom = atomF v l.atom) → ls.all (litOk f (stdV r v)) = ls.all (litOk f v) := fun ls => by
      induction ls with
      | nil => intro _; rfl
      | cons l ls ih =>
        intro h
        rw [List.all_cons, List.all_cons, ih fun l hl => h l (by simp [hl])]
        unfold litOk there
        rw [h l (by simp)]
    exact this _ hA
  · have ht := (Rule.atom_right hh).2
    unfold headF
    rw [std_arg ht ha, std_arg ht ha]
    have : valTo ps f r (stdV r v) r.body.length = valTo ps f r v r.body.length := by
      unfold valTo
      split
      · rename_i hs
        have hk : r.src.toNat < r.body.length := by omega
        unfold valueAt
        rw [List.getElem?_eq_getElem hk]
        show Lat.lift _ (Base.findTo f (place (atomF (stdV r v) r.body[r.src.toNat].atom))) _ = Lat.lift _ (Base.findTo f (place (atomF v r.body[r.src.toNat].atom))) _
        rw [hA _ (List.getElem_mem hk)]
      · rfl
    rw [this]
/-- what is told of f is under whatever is closed and above f -/
theorem told_closed {ps : List Prd} {rs : List Rul} {f m : List Fct} (hf : roundErr ps rs f = 0) (hm : roundErr ps rs m = 0) (hp : posP rs = true) (hc : closedB ps rs m = true) (hu : under (kindOf ps) f m = true) {r : Rul} (hr : r ∈ rs) {v : Vars} (hv : consts v = true) (hb : bodyOk f v r.body = true) : under (kindOf ps) [headF ps f r v] m = true := by
  obtain ⟨hpe, hf'⟩ := right_parts hf
  have hm' := (right_parts hm).2
  have hre := rules_right hpe
  have gx := Round.toldS_fine (S := fun _ => true) hre hm'
  rw [closedB, if_neg (by rw [hm]; simp)] at hc
  obtain ⟨e1, e2⟩ := std_step (hre r hr) f v
  have hv' := stdV_const (r := r) hv
  have hb' : bodyOk m (stdV r v) r.body = true := body_more hf' hu (List.all_eq_true.1 hp r hr) (by rw [e1]; exact hb)
  have hin : headF ps m r (stdV r v) ∈ toldS ps (fun _ => true) m rs := by
    refine List.mem_flatMap.2 ⟨r, hr, ?_⟩
    rw [if_pos rfl]
    refine List.mem_map.2 ⟨⟨0, (stdV r v).x, (stdV r v).y, (stdV r v).z⟩, mem_all.2 ⟨rfl, hv', hb', fun q hq ha => ?_⟩, rfl⟩
    show (stdV r v).at q = 0
    rw [stdV_at hq, ha]
    rfl
  rw [← e2]
  exact under_trans (right_of (Round.one_right hf' (Round.head_fine (hre r hr) hf' hv'))) (right_of (Round.one_right hm' (gx _ hin))) (right_of hm') (head_more (hre r hr) hf' hm' hv' hu (by rw [e1]; exact hb)) (Round.mem_under hc hin)
theorem rep_sound {ps : List Prd} {rs : List Rul} {m : List Fct} (hm : roundErr ps rs m = 0) (hp : posP rs = true) (hc : closedB ps rs m = true) : ∀ (l : List Stp) {f : List Fct} (k : Nat), roundErr ps rs f = 0 → under (kindOf ps) f m = true → (rep ps rs l f k).2.2 = 0 → roundErr ps rs (rep ps rs l f k).1 = 0 ∧ under (kindOf ps) (rep ps rs l f k).1 m = true
  | [], _, _, hf, hu, _ => ⟨hf, hu⟩
  | s :: l, f, k, hf, hu, he => by
    rw [rep] at he ⊢
    split at he
    · rename_i h1
      exact absurd he h1
    · rename_i h1
      rw [if_neg h1]
      have h1' := Classical.not_not.1 h1
      obtain ⟨n, hn, _, hv, hb, e⟩ := step_zero h1'
      have hx := Round.head_fine (rules_right (right_parts hf).1 _ (List.getElem_mem hn)) (right_parts hf).2 hv
      refine rep_sound hm hp hc l (k + 1) (step_right hf h1') ?_ he
      rw [e]
      exact add_least (right_of (right_parts hf).2) (right_of (right_parts hm).2) (fine_of hx) hu (told_closed hf hm hp hc hu (List.getElem_mem hn) hv hb)
end Go.Proofs.YtlfccloaoopadaeGreat.Trace
