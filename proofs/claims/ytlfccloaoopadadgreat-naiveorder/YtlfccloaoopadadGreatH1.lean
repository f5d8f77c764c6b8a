/-
  Who begins with no less ends with no less, if no literal is Not: in plain words.
-/
import Derived.Test.YtlfccloaoopadadGreatG22
import Derived.Test.YtlfccloaoopadadGreatG10
import Derived.Deep.RegionHeld3
import Derived.Deep.AppendLies
import Derived.Test.YtlfccloaoopadadGreatG8
import Derived.Test.YtlfccloaoopadadGreatG6
import Derived.Test.YtlfccloaoopadadGreatG5
namespace Go.Proofs.YtlfccloaoopadadGreat.Round
open Rule (kindOf ruleErr factFine)
open Base (factsErr under underOne underOf right_of fine_of)
open Prog (progErr)
open Fire (roundErr rules_right posP mem_all body_more head_more)

theorem addAll_least {ps : List Prd} : ∀ {xs f g : List Fct}, factsErr ps f = 0 → factsErr ps g = 0 → (∀ x ∈ xs, factFine ps x = true) → under (kindOf ps) f g = true → under (kindOf ps) xs g = true → under (kindOf ps) (addAll (kindOf ps) f xs) g = true
  | [], _, _, _, _, _, h, _ => h
  | x :: xs, f, g, hf, hg, hx, h1, h2 => by
    have hx0 := hx x (by simp)
    have h2' : underOne (kindOf ps) g x = true ∧ under (kindOf ps) xs g = true := by unfold under at h2 ⊢; rw [List.all_cons, Bool.and_eq_true] at h2; exact h2
    rw [addAll]
    exact addAll_least (add_right hf hx0) hg (fun y hy => hx y (by simp [hy])) (Base.add_least (right_of hf) (right_of hg) (fine_of hx0) h1 (by rw [under_one]; exact h2'.1)) h2'.2
theorem told_more {ps : List Prd} {S : Rul → Bool} {f g : List Fct} {rs : List Rul} (hr : ∀ r ∈ rs, ruleErr ps r = 0) (hf : factsErr ps f = 0) (hg : factsErr ps g = 0) (hp : posP rs = true) (hu : under (kindOf ps) f g = true) : ∀ x ∈ toldS ps S f rs, ∃ y ∈ toldS ps S g rs, under (kindOf ps) [x] [y] = true := fun x hx => by
  obtain ⟨r, hrm, hx⟩ := List.mem_flatMap.1 hx
  split at hx
  · rename_i hS
    obtain ⟨s, hs, rfl⟩ := List.mem_map.1 hx
    obtain ⟨e, h1, h2, h3⟩ := mem_all.1 hs
    have hpr := List.all_eq_true.1 hp r hrm
    refine ⟨Fire.headF ps g r s.vars, List.mem_flatMap.2 ⟨r, hrm, ?_⟩, head_more (hr r hrm) hf hg h1 hu h2⟩
    rw [if_pos hS]
    exact List.mem_map.2 ⟨s, mem_all.2 ⟨e, h1, body_more hf hu hpr h2, h3⟩, rfl⟩
  · cases hx
theorem mem_under {K : Int → Int} {xs g : List Fct} (h : under K xs g = true) {x : Fct} (hx : x ∈ xs) : under K [x] g = true := by
  rw [under_one]
  exact List.all_eq_true.1 h x hx
/-- who begins with no less ends with no less -/
theorem rounds_more {ps : List Prd} {S : Rul → Bool} {f g : List Fct} {rs : List Rul} (hr : ∀ r ∈ rs, ruleErr ps r = 0) (hf : factsErr ps f = 0) (hg : factsErr ps g = 0) (hp : posP rs = true) (hu : under (kindOf ps) f g = true) : under (kindOf ps) (addAll (kindOf ps) f (toldS ps S f rs)) (addAll (kindOf ps) g (toldS ps S g rs)) = true := by
  have fx := toldS_fine (S := S) hr hf
  have fy := toldS_fine (S := S) hr hg
  have hgr := addAll_right hg fy
  refine addAll_least hf hgr fx (Base.under_trans (right_of hf) (right_of hg) (right_of hgr) hu (under_addAll hg fy)) ?_
  have hty := told_under hg fy
  have : ∀ x ∈ toldS ps S f rs, underOne (kindOf ps) (addAll (kindOf ps) g (toldS ps S g rs)) x = true := fun x hx => by
    obtain ⟨y, hy, hxy⟩ := told_more hr hf hg hp hu x hx
    rw [← under_one]
    exact Base.under_trans (right_of (one_right hf (fx x hx))) (right_of (one_right hf (fy y hy))) (right_of hgr) hxy (mem_under hty hy)
  exact List.all_eq_true.2 this
theorem once_more {ps : List Prd} {rs : List Rul} {f g : List Fct} (s : Int) (hf : roundErr ps rs f = 0) (hg : roundErr ps rs g = 0) (hp : posP rs = true) : (underOf ps f g).2 = 0 ∧ (underOf ps (onceF ps rs f s) (onceF ps rs g s)).2 = 0 ∧ (!(underOf ps f g).1 || (underOf ps (onceF ps rs f s) (onceF ps rs g s)).1) = true := by
  rw [roundErr] at hf hg
  split at hf
  · contradiction
  · rename_i h1
    have hpe : progErr ps rs = 0 := Classical.not_not.1 h1
    rw [if_neg h1] at hg
    have hre := rules_right hpe
    have ef : roundErr ps rs f = 0 := by rw [roundErr, if_neg h1, hf]
    have eg : roundErr ps rs g = 0 := by rw [roundErr, if_neg h1, hg]
    rw [onceF, if_neg (by rw [ef]; simp), onceF, if_neg (by rw [eg]; simp)]
    rw [underOf_right hf hg, underOf_right (addAll_right hf (toldS_fine hre hf)) (addAll_right hg (toldS_fine hre hg))]
    refine ⟨rfl, rfl, ?_⟩
    cases hu : under (kindOf ps) f g
    · rfl
    · exact rounds_more hre hf hg hp hu

end Go.Proofs.YtlfccloaoopadadGreat.Round

/-
  The Model in plain words: in whatever order rules are told, and told twice, too, the same follows, by as many rounds.
-/
namespace Go.Proofs.YtlfccloaoopadadGreat.Naive
open Rule (ruleErr kindOf factFine)
open Base (factsErr under right_of under_trans)
open Fire (roundErr rules_right)
open Prog (progErr partsErr rulesErr edges)
open Strata (at_ Sol strataL strata_some strata_eq)
open Round (onceF onceC stratOf addAll chgAll toldS ofS)

theorem edges_mem {rs qs : List Rul} (hm : ∀ r ∈ qs, r ∈ rs) {s : Nat → Nat} (h : Sol (edges rs) s) : Sol (edges qs) s := fun e he => by
  obtain ⟨r, hr, he⟩ := List.mem_flatMap.1 he
  exact h e (List.mem_flatMap.2 ⟨r, hm r hr, he⟩)
theorem order_right {ps : List Prd} {rs qs : List Rul} (h : progErr ps rs = 0) (hm : ∀ r, r ∈ qs ↔ r ∈ rs) (h8 : qs.length ≤ 8) : progErr ps qs = 0 ∧ stratOf ps qs = stratOf ps rs := by
  have hre := rules_right h
  have hp := (Prog.prog_zero h).1
  have hparts : partsErr ps qs = 0 := by
    have hq : rulesErr ps qs = 0 := Prog.rulesErr_none (List.all_eq_true.2 fun r hr => by rw [hre r ((hm r).1 hr)]; rfl)
    rw [partsErr] at hp ⊢
    split at hp
    · contradiction
    · rename_i h1
      rw [if_neg (by omega)]
      split at hp
      · contradiction
      · rename_i h2
        rw [if_neg h2]
        split at hp
        · contradiction
        · rename_i h3
          rw [if_neg h3]
          split at hp
          · contradiction
          · rename_i h4
            rw [if_neg h4]
            split at hp
            · contradiction
            · rename_i h5
              rw [if_neg h5]
              exact hq
  obtain ⟨l1, l2⟩ := Round.strat_some h
  have hw := Prog.within_edges (Prog.parts_zero hp).2.2
  have hw' := Prog.within_edges (Prog.parts_zero hparts).2.2
  obtain ⟨_, s1, s2⟩ := strata_some hw l1
  have hL : strataL (edges qs) ps.length = some (stratOf ps rs) := strata_eq hw' l2 (edges_mem (fun r hr => (hm r).1 hr) s1) fun s hs k => s2 s (edges_mem (fun r hr => (hm r).2 hr) hs) k
  refine ⟨?_, ?_⟩
  · rw [progErr, if_neg (by rw [hparts]; simp), hL]
    rfl
  · show (strataL (edges qs) ps.length).getD [] = stratOf ps rs
    rw [hL]
    rfl
theorem addAll_set {ps : List Prd} {f xs ys : List Fct} (hf : factsErr ps f = 0) (hx : ∀ x ∈ xs, factFine ps x = true) (hm : ∀ x, x ∈ ys ↔ x ∈ xs) : addAll (kindOf ps) f ys = addAll (kindOf ps) f xs := by
  have hy : ∀ x ∈ ys, factFine ps x = true := fun x h => hx x ((hm x).1 h)
  have rx := Round.addAll_right hf hx
  have ry := Round.addAll_right hf hy
  have ux := Round.told_under hf hx
  have uy := Round.told_under hf hy
  refine Base.under_anti (right_of ry) (right_of rx) (Round.addAll_least hf rx hy (Round.under_addAll hf hx) ?_) (Round.addAll_least hf ry hx (Round.under_addAll hf hy) ?_)
  · exact List.all_eq_true.2 fun x h => List.all_eq_true.1 ux x ((hm x).1 h)
  · exact List.all_eq_true.2 fun x h => List.all_eq_true.1 uy x ((hm x).2 h)
theorem told_set {ps : List Prd} {S : Rul → Bool} {f : List Fct} {rs qs : List Rul} (hm : ∀ r, r ∈ qs ↔ r ∈ rs) (x : Fct) : x ∈ toldS ps S f qs ↔ x ∈ toldS ps S f rs := by
  unfold toldS
  rw [List.mem_flatMap, List.mem_flatMap]
  constructor
  · rintro ⟨r, hr, hx⟩
    exact ⟨r, (hm r).1 hr, hx⟩
  · rintro ⟨r, hr, hx⟩
    exact ⟨r, (hm r).2 hr, hx⟩
theorem once_order {ps : List Prd} {rs qs : List Rul} (h : progErr ps rs = 0) (hm : ∀ r, r ∈ qs ↔ r ∈ rs) (h8 : qs.length ≤ 8) (f : List Fct) (s : Int) : onceF ps qs f s = onceF ps rs f s ∧ onceC ps qs f s = onceC ps rs f s := by
  obtain ⟨q1, q2⟩ := order_right h hm h8
  have e1 : roundErr ps qs f = factsErr ps f := by rw [roundErr, if_neg (by rw [q1]; simp)]
  have e2 : roundErr ps rs f = factsErr ps f := by rw [roundErr, if_neg (by rw [h]; simp)]
  by_cases hf : factsErr ps f = 0
  · have hx := Round.toldS_fine (S := ofS (stratOf ps rs) s) (rules_right h) hf
    have hy := Round.toldS_fine (S := ofS (stratOf ps rs) s) (rules_right q1) hf
    have ea := addAll_set hf hx (told_set (S := ofS (stratOf ps rs) s) (f := f) (ps := ps) hm)
    have e3 : onceF ps qs f s = onceF ps rs f s := by
      rw [onceF, onceF, e1, e2, if_neg (by rw [hf]; simp), if_neg (by rw [hf]; simp), q2]
      exact ea
    refine ⟨e3, ?_⟩
    rw [onceC, onceC, e1, e2, if_neg (by rw [hf]; simp), if_neg (by rw [hf]; simp), q2, Round.chg_same hf hy, Round.chg_same hf hx, ea]
  · rw [onceF, onceF, onceC, onceC, e1, e2, if_pos hf, if_pos hf, if_pos hf, if_pos hf]
    exact ⟨rfl, rfl⟩
theorem run_order {ps : List Prd} {rs qs : List Rul} (h : progErr ps rs = 0) (hm : ∀ r, r ∈ qs ↔ r ∈ rs) (h8 : qs.length ≤ 8) (s : Int) (n : Nat) : ∀ f, runF ps qs s n f = runF ps rs s n f ∧ runN ps qs s n f = runN ps rs s n f := by
  induction n with
  | zero => intro f; exact ⟨rfl, rfl⟩
  | succ n ih =>
    intro f
    obtain ⟨o1, o2⟩ := once_order h hm h8 f s
    rw [runF, runF, runN, runN, o1, o2, (ih _).1, (ih _).2]
    exact ⟨rfl, rfl⟩
theorem modelTo_order {ps : List Prd} {rs qs : List Rul} (h : progErr ps rs = 0) (hm : ∀ r, r ∈ qs ↔ r ∈ rs) (h8 : qs.length ≤ 8) (t : Nat) : modelTo ps qs t = modelTo ps rs t := by
  induction t with
  | zero => rfl
  | succ t ih =>
    rw [modelTo, modelTo, ih]
    exact (run_order h hm h8 _ _ _).1
theorem model_order {ps : List Prd} {rs qs : List Rul} (h : progErr ps rs = 0) (hm : ∀ r, r ∈ qs ↔ r ∈ rs) (h8 : qs.length ≤ 8) : modelL ps qs = modelL ps rs ∧ roundsL ps qs = roundsL ps rs := by
  have hs := (order_right h hm h8).2
  rw [modelL, modelL, roundsL, roundsL, hs]
  refine ⟨modelTo_order h hm h8 _, ?_⟩
  unfold roundsTo
  refine List.map_congr_left fun s _ => ?_
  rw [modelTo_order h hm h8 s]
  exact (run_order h hm h8 _ _ _).2
end Go.Proofs.YtlfccloaoopadadGreat.Naive

/-
  Rows of rules of the call's own: how they lie, grow and are changed.
-/
namespace Go.Proofs.YtlfccloaoopadadGreat.Naive
open Go.ChangeShapes Go.WideShapes Go.ChangeAt Go.RowKit
open Base (add_none)

/-- a rule with the slices of its head and its body -/
structure RV where
  r : Rul
  hv : Value
  bv : Value
def cellsR : List RV → List Value
  | [] => []
  | x :: l => .int .i64 x.r.head.pred :: x.hv :: .int .i64 x.r.src :: .int .i64 x.r.n :: x.bv :: cellsR l
def RVok (w : World) (x : RV) : Prop := termsAt w x.hv x.r.head.args ∧ litsAt w x.bv x.r.body
theorem RVok.lasts {w w' : World} (hb : Below w.heap.size w w') {x : RV} (h : RVok w x) : RVok w' x := ⟨termsAt.lasts hb h.1, litsAt.lasts hb h.2⟩
theorem cellsR_length : ∀ l, (cellsR l).length = l.length * 5
  | [] => rfl
  | x :: l => by simp only [cellsR, List.length_cons, cellsR_length l]; omega
theorem cellsR_append : ∀ l m, cellsR (l ++ m) = cellsR l ++ cellsR m
  | [], m => rfl
  | x :: l, m => by simp only [List.cons_append, cellsR, cellsR_append l m]
theorem cellsR_at : ∀ (l : List RV) (i : Nat) (x : RV), l[i]? = some x → (cellsR l)[i * 5]? = some (.int .i64 x.r.head.pred) ∧ (cellsR l)[i * 5 + 1]? = some x.hv ∧ (cellsR l)[i * 5 + 2]? = some (.int .i64 x.r.src) ∧ (cellsR l)[i * 5 + 3]? = some (.int .i64 x.r.n) ∧ (cellsR l)[i * 5 + 4]? = some x.bv
  | [], i, x, h => by simp at h
  | y :: l, 0, x, h => by
    obtain rfl : y = x := by simpa using h
    exact ⟨rfl, rfl, rfl, rfl, rfl⟩
  | y :: l, i + 1, x, h => by
    have := cellsR_at l i x (by simpa using h)
    rw [show (i + 1) * 5 = i * 5 + 5 by omega]
    simpa [cellsR] using this
theorem cellsR_set : ∀ (l : List RV) (i : Nat) (x : RV), cellsR (l.set i x) = (((((cellsR l).set (i * 5) (.int .i64 x.r.head.pred)).set (i * 5 + 1) x.hv).set (i * 5 + 2) (.int .i64 x.r.src)).set (i * 5 + 3) (.int .i64 x.r.n)).set (i * 5 + 4) x.bv
  | [], i, x => by simp [cellsR]
  | y :: l, 0, x => by simp [cellsR]
  | y :: l, i + 1, x => by
    rw [show (i + 1) * 5 = i * 5 + 5 by omega]
    simp [cellsR, cellsR_set l i x]
theorem one_terms {w : World} {v : Value} {l : List Tm} (h : termsAt w v l) : v.oneCell' = true := by
  obtain ⟨a, c, rfl, _⟩ := h
  rfl
theorem one_lits {w : World} {v : Value} {l : List Ltr} (h : litsAt w v l) : v.oneCell' = true := by
  obtain ⟨a, c, rfl, _⟩ := h
  rfl
theorem cellsR_one {w : World} : ∀ {l : List RV}, (∀ x ∈ l, RVok w x) → ∀ u ∈ cellsR l, u.oneCell' = true
  | [], _, u, hu => by cases hu
  | x :: l, h, u, hu => by
    have hx := h x (by simp)
    simp only [cellsR, List.mem_cons] at hu
    rcases hu with rfl | rfl | rfl | rfl | rfl | hu
    · rfl
    · exact one_terms hx.1
    · rfl
    · rfl
    · exact one_lits hx.2
    · exact cellsR_one (fun y hy => h y (by simp [hy])) u hu
theorem rows_open {w : World} {b : Nat} : ∀ (rs : List Rul) (off : Nat), (∀ i x, rs[i]? = some x → ruleAt w b (off + i * 5) x) → ∃ vs : List RV, vs.map RV.r = rs ∧ (∀ x ∈ vs, RVok w x) ∧ ∀ j u, (cellsR vs)[j]? = some u → w.cell? ⟨b, off + j, none⟩ = some u
  | [], off, _ => ⟨[], rfl, by simp, by simp [cellsR]⟩
  | r :: rs, off, h => by
    obtain ⟨vs, h1, h2, h3⟩ := rows_open rs (off + 5) (fun i x hi => by
      have := h (i + 1) x (by simpa using hi)
      rw [show off + (i + 1) * 5 = off + 5 + i * 5 by omega] at this
      exact this)
    obtain ⟨k0, ⟨hv, k1, k1'⟩, k2, k3, bv, k4, k4'⟩ := h 0 r rfl
    refine ⟨⟨r, hv, bv⟩ :: vs, by rw [List.map_cons, h1], ?_, ?_⟩
    · intro x hx
      rcases List.mem_cons.1 hx with rfl | hx
      · exact ⟨k1', k4'⟩
      · exact h2 x hx
    · intro j u hj
      match j, hj with
      | 0, hj =>
        obtain rfl : Value.int .i64 r.head.pred = u := by simpa [cellsR] using hj
        exact k0
      | 1, hj =>
        obtain rfl : hv = u := by simpa [cellsR] using hj
        exact k1
      | 2, hj =>
        obtain rfl : Value.int .i64 r.src = u := by simpa [cellsR] using hj
        exact k2
      | 3, hj =>
        obtain rfl : Value.int .i64 r.n = u := by simpa [cellsR] using hj
        exact k3
      | 4, hj =>
        obtain rfl : bv = u := by simpa [cellsR] using hj
        exact k4
      | j + 5, hj =>
        have := h3 j u (by simpa [cellsR] using hj)
        rw [show off + (j + 5) = off + 5 + j by omega]
        exact this
theorem rules_open {w : World} {v : Value} {rs : List Rul} (h : rulesAt w v rs) : ∃ (vs : List RV) (a : Option Addr) (cap : Nat), v = .slice a rs.length cap ∧ vs.map RV.r = rs ∧ (∀ x ∈ vs, RVok w x) ∧ (rs = [] ∨ ∃ b off, a = some ⟨b, off, none⟩ ∧ b < w.heap.size ∧ ∀ j u, (cellsR vs)[j]? = some u → w.cell? ⟨b, off + j, none⟩ = some u) := by
  obtain ⟨a, cap, rfl, hl, hx⟩ := h
  rcases hx with rfl | ⟨b, off, rfl, hb, hx⟩
  · exact ⟨[], a, cap, rfl, rfl, by simp, .inl rfl⟩
  · obtain ⟨vs, h1, h2, h3⟩ := rows_open rs off hx
    exact ⟨vs, _, cap, rfl, h1, h2, .inr ⟨b, off, rfl, hb, h3⟩⟩
/-- a row of the call's own is a slice of rules -/
theorem rulesAt_own {w : World} {base : Nat} {e : TypeId} {v : Value} {l : List RV} (h : w.ownsRow base e 5 v l.length (cellsR l)) (hl : l.length ≤ 140737488355328) (ht : ∀ x ∈ l, RVok w x) : rulesAt w v (l.map RV.r) := by
  obtain ⟨h0, h1⟩ := h
  rcases h1 with ⟨rfl, hn⟩ | ⟨g, cap, cur, rfl, hb, hg, hc, hm, hsz, htk⟩
  · have : l = [] := List.eq_nil_of_length_eq_zero hn
    subst this
    exact ⟨none, 0, rfl, by simp, .inl rfl⟩
  · refine ⟨_, cap, by rw [List.length_map], by rw [List.length_map]; exact hl, .inr ⟨g, 0, rfl, ?_, ?_⟩⟩
    · exact (Array.getElem?_eq_some_iff.1 hg).1
    · intro i x hi
      rw [List.getElem?_map] at hi
      obtain ⟨y, hy, rfl⟩ := Option.map_eq_some_iff.1 hi
      have hlt : i < l.length := (List.getElem?_eq_some_iff.1 hy).1
      obtain ⟨k0, k1, k2, k3, k4⟩ := cellsR_at l i y hy
      have hcell : ∀ j z, (cellsR l)[j]? = some z → w.cell? ⟨g, 0 + j, none⟩ = some z := by
        intro j z hz
        rw [← htk] at hz
        have hj : j < l.length * 5 := by
          have := (List.getElem?_eq_some_iff.1 hz).1
          simp at this
          omega
        rw [List.getElem?_take_of_lt hj] at hz
        simp [World.cell?, hg]
        simpa using hz
      have m0 := hcell _ _ k0
      have m1 := hcell _ _ k1
      have m2 := hcell _ _ k2
      have m3 := hcell _ _ k3
      have m4 := hcell _ _ k4
      rw [← Nat.add_assoc] at m1 m2 m3 m4
      have ho := ht _ (List.mem_of_getElem? hy)
      exact ⟨m0, ⟨_, m1, ho.1⟩, m2, m3, _, m4, ho.2⟩
theorem infoRule : (Tryz.prog.info? 58).map (fun i => (i.zero, i.size, i.bytes)) = some (some (.agg #[.int .i64 0, .slice none 0 0, .int .i64 0, .int .i64 0, .slice none 0 0]), 5, 72) := by kernel_rfl
theorem wpList_append_rules (w : World) {ops : Array Oper} {rest : List Oper} {o : Oper} {a : Act} {Q : Exit → Act → World → Prop} (hgd : o.guard = none) (s x : Operand)
    (ho : o.op = .call { callee := .builtin .append, args := #[s, x], argTypes := #[23, 23] }) (base : Nat) (v : Value) (xs ys : List RV) (hown : w.ownsRow base 58 5 v xs.length (cellsR xs)) (hs : a.eval s = v) (ad : Addr) (c : Nat) (hy : a.eval x = .slice (some ad) ys.length c) (hc : ∀ j u, (cellsR ys)[j]? = some u → w.cell? (ad.add j) = some u) (h1 : ∀ u ∈ cellsR ys, u.oneCell' = true)
    (hb : xs.length + ys.length ≤ 1000) (hbase : base ≤ w.heap.size)
    (h : ∀ v' w', w'.ownsRow base 58 5 v' (xs ++ ys).length (cellsR (xs ++ ys)) → w.grownBy w' v.ownBlock → wpList Tryz.prog ops Q rest (a.put o.dst v') w') : wpList Tryz.prog ops Q (o :: rest) a w := by
  obtain ⟨i, hi, hz, hsz, hby⟩ := info_parts infoRule
  refine wpList_append_own_wide w hgd s x 23 ho base 58 i _ 5 72 Tryz.underlying23 hi hz hsz hby rfl (by omega) v xs.length (cellsR xs) hs hown ad ys.length c (cellsR ys) hy (cellsR_length ys) hc h1 (by unfold maxLen; omega) (by omega) hbase ?_
  intro v' w' h1 h2 _
  exact h v' w' (by rw [List.length_append, cellsR_append]; exact h1) h2
end Go.Proofs.YtlfccloaoopadadGreat.Naive

/-
  The walk of the law on the order in which rules are told.
-/
namespace Go.Proofs.YtlfccloaoopadadGreat.Naive
open Go.ChangeShapes Go.WideShapes Go.ChangeAt Go.RowKit
open Prog (progErr small chosen chosen_lt choose_n intsAt)

theorem swap_mem {α : Type} {l : List α} {a b : Nat} (ha : a < l.length) (hb : b < l.length) (x : α) : x ∈ (l.set a l[b]).set b l[a] ↔ x ∈ l := by
  constructor
  · intro h
    rcases List.mem_or_eq_of_mem_set h with h | rfl
    · rcases List.mem_or_eq_of_mem_set h with h | rfl
      · exact h
      · exact List.getElem_mem hb
    · exact List.getElem_mem ha
  · intro h
    obtain ⟨k, hk, rfl⟩ := List.getElem_of_mem h
    by_cases e1 : k = a
    · subst e1
      exact List.mem_set (by simpa using hb) l[k]
    · by_cases e2 : k = b
      · subst e2
        by_cases e3 : a = k
        · exact absurd e3.symm e1
        · refine List.mem_iff_getElem.2 ⟨a, by simpa using ha, ?_⟩
          rw [List.getElem_set_ne (by omega), List.getElem_set_self]
      · refine List.mem_iff_getElem.2 ⟨k, by simpa using hk, ?_⟩
        rw [List.getElem_set_ne (by omega), List.getElem_set_ne (by omega)]
theorem row_some {x : World} {base : Nat} {e : TypeId} {sz n : Nat} {v : Value} {xs : List Value} (h : x.ownsRow base e sz v n xs) (hn : 0 < n) : ∃ g cap, v = .slice (some ⟨g, 0, none⟩) n cap ∧ base ≤ g ∧ n ≤ cap := by
  rcases h.2 with ⟨_, h0⟩ | ⟨g, cap, cur, rfl, hb, _, hc, _⟩
  · omega
  · exact ⟨g, cap, rfl, hb, hc⟩
theorem own_lasts9 {w w' : World} {B e size n : Nat} {v : Value} {xs : List Value} (h : w.ownsRow B e size v n xs) (hb : Below w.heap.size w w') : w'.ownsRow B e size v n xs := by
  obtain ⟨h0, h1⟩ := h
  refine ⟨h0, ?_⟩
  rcases h1 with h1 | ⟨g, cap, cur, h1, h2, h3, h4⟩
  · exact .inl h1
  · exact .inr ⟨g, cap, cur, h1, h2, (hb.block g (Array.getElem?_eq_some_iff.1 h3).1).trans h3, h4⟩
theorem drew_frozen (x : World) (a : Addr) : x.drew.frozen? a = x.frozen? a := rfl
theorem drew_cell (x : World) (a : Addr) : x.drew.cell? a = x.cell? a := rfl
theorem five_cell (x : World) {g o b o' : Nat} (v0 v1 v2 v3 v4 : Value) (h : g ≠ b) : (((((x.setCell ⟨g, o, none⟩ v0).setCell ⟨g, o + 1, none⟩ v1).setCell ⟨g, o + 2, none⟩ v2).setCell ⟨g, o + 3, none⟩ v3).setCell ⟨g, o + 4, none⟩ v4).cell? ⟨b, o', none⟩ = x.cell? ⟨b, o', none⟩ := by
  rw [cell_block h, cell_block h, cell_block h, cell_block h, cell_block h]
theorem five_below {n : Nat} {w x : World} (hb : Below n w x) {g o : Nat} (v0 v1 v2 v3 v4 : Value) (h : n ≤ g) : Below n w (((((x.setCell ⟨g, o, none⟩ v0).setCell ⟨g, o + 1, none⟩ v1).setCell ⟨g, o + 2, none⟩ v2).setCell ⟨g, o + 3, none⟩ v3).setCell ⟨g, o + 4, none⟩ v4) :=
  ((((hb.setCell (p := ⟨g, _, none⟩) h _).setCell (p := ⟨g, _, none⟩) h _).setCell (p := ⟨g, _, none⟩) h _).setCell (p := ⟨g, _, none⟩) h _).setCell (p := ⟨g, _, none⟩) h _
theorem five_row {x : World} {base g cap : Nat} {e : TypeId} {l : List RV} (h : x.ownsRow base e 5 (.slice (some ⟨g, 0, none⟩) l.length cap) l.length (cellsR l)) (k : Nat) (y : RV) : (((((x.setCell ⟨g, k * 5, none⟩ (.int .i64 y.r.head.pred)).setCell ⟨g, k * 5 + 1, none⟩ y.hv).setCell ⟨g, k * 5 + 2, none⟩ (.int .i64 y.r.src)).setCell ⟨g, k * 5 + 3, none⟩ (.int .i64 y.r.n)).setCell ⟨g, k * 5 + 4, none⟩ y.bv).ownsRow base e 5 (.slice (some ⟨g, 0, none⟩) l.length cap) l.length (cellsR (l.set k y)) := by
  rw [cellsR_set]
  exact (((((h.stored _ _).1.stored _ _).1.stored _ _).1.stored _ _).1.stored _ _).1
/-- the rules of the law: two of them change places, and one is told twice, if there is room -/
def swapped {α : Type} (l : List α) (a b : Nat) : List α := match l[a]?, l[b]? with
  | some x, some y => if l.length < 8 then (l.set a y).set b x ++ [x] else (l.set a y).set b x
  | _, _ => l
theorem swapped_mem {α : Type} {l : List α} {a b : Nat} (ha : a < l.length) (hb : b < l.length) (h8 : l.length ≤ 8) : (∀ x, x ∈ swapped l a b ↔ x ∈ l) ∧ (swapped l a b).length ≤ 8 := by
  have e : swapped l a b = if l.length < 8 then (l.set a l[b]).set b l[a] ++ [l[a]] else (l.set a l[b]).set b l[a] := by unfold swapped; rw [List.getElem?_eq_getElem ha, List.getElem?_eq_getElem hb]
  rw [e]
  by_cases h : l.length < 8
  · rw [if_pos h]
    refine ⟨fun x => ?_, by simp; omega⟩
    rw [List.mem_append, swap_mem ha hb, List.mem_singleton]
    constructor
    · rintro (h | rfl)
      · exact h
      · exact List.getElem_mem ha
    · exact fun h => .inl h
  · rw [if_neg h]
    exact ⟨swap_mem ha hb, by simp; omega⟩

theorem swapped_map {vs : List RV} {rs : List Rul} (h : vs.map RV.r = rs) {a b : Nat} (ha : a < vs.length) (hb : b < vs.length) : (swapped vs a b).map RV.r = swapped rs a b := by
  subst h
  unfold swapped
  rw [List.getElem?_eq_getElem ha, List.getElem?_eq_getElem hb, List.getElem?_map, List.getElem?_map, List.getElem?_eq_getElem ha, List.getElem?_eq_getElem hb, List.length_map]
  by_cases h8 : vs.length < 8
  · simp [h8, List.map_set]
  · simp [h8, List.map_set]
theorem swapped_ok {w : World} {vs : List RV} (h : ∀ x ∈ vs, RVok w x) {a b : Nat} (ha : a < vs.length) (hb : b < vs.length) (h8 : vs.length ≤ 8) : ∀ x ∈ swapped vs a b, RVok w x := fun x hx => h x (((swapped_mem ha hb h8).1 x).1 hx)
theorem order_same {ps : List Prd} {rs : List Rul} (h : progErr ps rs = 0) {a b : Nat} (ha : a < rs.length) (hb : b < rs.length) : progErr ps (swapped rs a b) = 0 ∧ modelF ps (swapped rs a b) = modelF ps rs ∧ roundsF ps (swapped rs a b) = roundsF ps rs := by
  obtain ⟨h1, h2⟩ := swapped_mem ha hb (Prog.parts_zero (Prog.prog_zero h).1).2.1
  have hq := (order_right h h1 h2).1
  obtain ⟨h3, h4⟩ := model_order h h1 h2
  refine ⟨hq, ?_, ?_⟩
  · rw [modelF, modelF, if_neg (by rw [hq]; simp), if_neg (by rw [h]; simp), h3]
  · rw [roundsF, roundsF, if_neg (by rw [hq]; simp), if_neg (by rw [h]; simp), h4]

set_option maxRecDepth 100000 in
set_option maxHeartbeats 32000000 in
theorem lawOrder_walk (w : World) (pv rv : Value) (ps : List Prd) (rs : List Rul) (i j : Int) (hi : -9223372036854775808 ≤ i ∧ i ≤ 9223372036854775807) (hj : -9223372036854775808 ≤ j ∧ j ≤ 9223372036854775807) (hp : predsAt w pv ps) (hr : rulesAt w rv rs) (hn : small ps) :
    Calls Tryz.prog 8 #[.agg #[pv, rv], .int .i64 i, .int .i64 j] w fun e w' => e = .returned (.bool true) ∧ Below w.heap.size w w' := by
  have HMO : Hid (∀ x u qs, Below w.heap.size w x → rulesAt x u qs → Calls Tryz.prog 15 #[.agg #[pv, u]] x fun e w' => ∃ f, e = .returned (.tuple #[f, .int .i64 (progErr ps qs)]) ∧ factsAt w' f (modelF ps qs) ∧ Below x.heap.size x w') := fun x u qs hx hu => devModel_c x pv u ps qs (predsAt.lasts hx hp) hu hn
  have HRO : Hid (∀ x u qs, Below w.heap.size w x → rulesAt x u qs → Calls Tryz.prog 16 #[.agg #[pv, u]] x fun e w' => ∃ f, e = .returned (.tuple #[f, .int .i64 (progErr ps qs)]) ∧ intsAt w' f (roundsF ps qs) ∧ Below x.heap.size x w') := fun x u qs hx hu => devRounds_c x pv u ps qs (predsAt.lasts hx hp) hu hn
  have HR : Hid (∀ x, Below w.heap.size w x → rulesAt x rv rs) := fun x hx => rulesAt.lasts hx hr
  obtain ⟨pa, pc, rfl, _⟩ := hp
  by_cases hpe : progErr ps rs = 0
  · have h8 : rs.length ≤ 8 := (Prog.parts_zero (Prog.prog_zero hpe).1).2.1
    by_cases hrs : rs = []
    · subst hrs
      obtain ⟨ra, rc, rfl, _⟩ := hr
      have HM0 := HMO.out _ _ [] (below_alloc w (.cells #[.slice pa ps.length pc, .slice ra ([] : List Rul).length rc] 25)) (HR.out _ (below_alloc _ _))
      go_enter Tryz.func8, Tryz.ntmps8
      go_wp2_with fail
      refine HM0.mono ?_
      rintro e W1 ⟨f1, rfl, hf1, hb1⟩
      have k1 : Below w.heap.size w W1 := below_trans (below_alloc _ _) hb1
      obtain ⟨c0, c1, _⟩ := Prog.boxL hb1
      obtain ⟨fa, fc, rfl, _⟩ := hf1
      have HR0 := HRO.out W1 _ [] k1 (HR.out _ k1)
      go_wp2_with fail
      refine HR0.mono ?_
      rintro e W2 ⟨l2, rfl, hl2, hb2⟩
      have k2 : Below w.heap.size w W2 := k1.trans (hb2.mono k1.size)
      obtain ⟨c0, c1, _⟩ := Prog.boxO hb2 (Prog.boxL hb1)
      obtain ⟨la, lc, rfl, _⟩ := hl2
      rw [hpe]
      go_wp2_with fail
      refine (naiveBegun_c _).mono ?_
      rintro e W4 ⟨rfl, hb4⟩
      go_wp2_with fail
      go_ret
      exact ⟨rfl, k2.trans (hb4.mono k2.size)⟩
    · have hr1 : 0 < rs.length := List.length_pos_iff.2 hrs
      obtain ⟨vs, ra, rc, rfl, hvs, hok, hcs⟩ := rules_open hr
      obtain ⟨rb, ro, rfl, hrb, hcell⟩ := hcs.resolve_left hrs
      have HM0 := fun x hx => HMO.out x _ rs hx (HR.out x hx)
      have HR0 := fun x hx => HRO.out x _ rs hx (HR.out x hx)
      rw [hpe] at HM0 HR0
      have HMM : Hid _ := HM0
      have HRR : Hid _ := HR0
      clear HM0 HR0
      have hr0 : ((rs.length : Int) == 0) = false := by simp; omega
      go_enter Tryz.func8, Tryz.ntmps8
      go_wp2_with fail
      refine (HMM.out _ (below_alloc _ _)).mono ?_
      rintro e W1 ⟨f1, rfl, hf1, hb1⟩
      have k1 : Below w.heap.size w W1 := below_trans (below_alloc _ _) hb1
      have B1 := Prog.boxL hb1
      obtain ⟨c0, c1, _⟩ := id B1
      have HF1 : Hid (∀ x, Below W1.heap.size W1 x → factsAt x f1 (modelF ps rs)) := fun x hx => factsAt.lasts hx hf1
      obtain ⟨fa, fc, rfl, _⟩ := hf1
      clear hb1
      go_wp2_with fail
      refine (HRR.out _ k1).mono ?_
      rintro e W2 ⟨l2, rfl, hl2, hb2⟩
      have k2 : Below w.heap.size w W2 := k1.trans (hb2.mono k1.size)
      have B2 := Prog.boxO hb2 B1
      clear c0 c1
      obtain ⟨c0, c1, hs2⟩ := id B2
      have HL2 : Hid (∀ x, Below W2.heap.size W2 x → intsAt x l2 (roundsF ps rs)) := fun x hx => Prog.intsAt.lasts hx hl2
      obtain ⟨la, lc, rfl, _⟩ := hl2
      go_wp2_with fail
      have L0 : ∀ x : Low W2.heap.size W2, x.wd.cell? ⟨w.heap.size, 1, none⟩ = some (.slice (some ⟨rb, ro, none⟩) rs.length rc) := fun x => (cell_lasts x.low hs2).trans c1
      have HA : Hid (∀ x, Calls Tryz.prog 24 #[.int .i64 i, .int .i64 (rs.length : Int)] x fun e w' => e = .returned (.int .i64 (chosen i rs.length : Int)) ∧ Below x.heap.size x w') := fun x => choose_n i rs.length x hr1 (by omega) hi
      have HB : Hid (∀ x, Calls Tryz.prog 24 #[.int .i64 j, .int .i64 (rs.length : Int)] x fun e w' => e = .returned (.int .i64 (chosen j rs.length : Int)) ∧ Below x.heap.size x w') := fun x => choose_n j rs.length x hr1 (by omega) hj
      have ha : chosen i rs.length < rs.length := chosen_lt i hr1
      have hb : chosen j rs.length < rs.length := chosen_lt j hr1
      generalize chosen i rs.length = a at *
      generalize chosen j rs.length = b at *
      refine wp_region_low W2.heap.size (by kernel_rfl) (by kernel_rfl) ?_
      repeat (go_big_quiet_step (first | (go_at_call_of 24 (Value.int .i64 i); exact low_of (HA.out _)) | (go_at_call_of 24 (Value.int .i64 j); exact low_of (HB.out _))))
      refine wpQuiet_nil ?_
      rintro W3 ⟨⟨_, hb3⟩, rfl⟩
      have k3 : Below w.heap.size w W3 := k2.trans (hb3.mono k2.size)
      have B3 := Prog.boxO hb3 B2
      clear L0 c0 c1 HA HB
      obtain ⟨c0, c1, hs3⟩ := id B3
      have HLEN : Hid (vs.length = rs.length) := by show _ = _; rw [← hvs, List.length_map]
      obtain ⟨W4, hW4⟩ : ∃ W4, (W3.alloc (.cells #[.slice pa ps.length pc, .slice (some ⟨rb, ro, none⟩) rs.length rc] 25)).alloc (.cells #[] 58) = W4 := ⟨_, rfl⟩
      have b34 : Below W3.heap.size W3 W4 := by rw [← hW4]; exact ((Below.refl _ _).alloc (Nat.le_refl _) _).alloc (by simp) _
      have k4 : Below w.heap.size w W4 := k3.trans (b34.mono k3.size)
      have s4 : W4.heap.size = W3.heap.size + 1 + 1 := by rw [← hW4]; simp
      have Q4 : W4.heap[W3.heap.size]? = some (.cells #[.slice pa ps.length pc, .slice (some ⟨rb, ro, none⟩) rs.length rc] 25 (0, 0)) := by rw [← hW4]; exact (Below.heap_alloc _ _ _ (by simp)).trans (World.alloc_heap_new W3 _)
      have N4 : W4.ownsRow (W3.heap.size + 1) 58 5 (.slice (some ⟨W3.heap.size + 1, 0, none⟩) 0 0) ([] : List RV).length (cellsR []) := by
        refine ⟨rfl, .inr ⟨W3.heap.size + 1, 0, #[], rfl, Nat.le_refl _, ?_, Nat.le_refl _, Nat.zero_le _, rfl, rfl⟩⟩
        have h := World.alloc_heap_new (W3.alloc (.cells #[.slice pa ps.length pc, .slice (some ⟨rb, ro, none⟩) rs.length rc] 25)) (.cells #[] 58)
        rw [World.size_alloc] at h
        rw [← hW4]
        exact h
      have HCE : Hid (∀ x, Below w.heap.size w x → ∀ j u, (cellsR vs)[j]? = some u → x.cell? ⟨rb, ro + j, none⟩ = some u) := fun x hx j u hju => (cell_lasts hx hrb).trans (hcell j u hju)
      have HON : Hid (∀ u ∈ cellsR vs, u.oneCell' = true) := cellsR_one hok
      have HQ5 : Hid (∀ x, W4.grownBy x (Value.slice (some ⟨W3.heap.size + 1, 0, none⟩) 0 0).ownBlock → x.cell? ⟨W3.heap.size, 0, none⟩ = some (.slice pa ps.length pc) ∧ x.cell? ⟨W3.heap.size, 1, none⟩ = some (.slice (some ⟨rb, ro, none⟩) rs.length rc) ∧ ∀ o, x.frozen? ⟨W3.heap.size, o, none⟩ = false) := fun x hx => by
        have h : x.heap[W3.heap.size]? = _ := (hx.block W3.heap.size (by omega) (by simp [Value.ownBlock])).trans Q4
        exact ⟨by simp [World.cell?, h], by simp [World.cell?, h], fun o => frozen_of_row x _ o _ _ h⟩
      have d0 := (Prog.boxO b34 B3).1
      have d1 := (Prog.boxO b34 B3).2.1
      have hvs8 : ([] : List RV).length + vs.length ≤ 1000 := by have := HLEN.out; simp; omega
      go_wp2_with (at_builtin; refine wpList_append_rules _ rfl _ _ rfl (W3.heap.size + 1) (.slice (some ⟨W3.heap.size + 1, 0, none⟩) 0 0) [] vs N4 rfl ⟨rb, ro, none⟩ rc (by rw [HLEN.out]; rfl) (fun j u hju => by rw [Base.add_none]; exact HCE.out _ k4 j u hju) HON.out hvs8 (by omega) ?_; intro v5 W5 hown5 hgr5; rw [List.nil_append] at hown5; obtain ⟨g, cap, hv5, hg5, hcap5⟩ := row_some hown5 (by have := HLEN.out; omega); subst hv5; obtain ⟨e0, e1, e2⟩ := HQ5.out W5 hgr5)
      obtain ⟨W6, hW6⟩ : ∃ W6, W5.setCell ⟨W3.heap.size, 1, none⟩ (.slice (some ⟨g, 0, none⟩) vs.length cap) = W6 := ⟨_, rfl⟩
      have b35 : Below W3.heap.size W3 W5 := b34.grown hgr5 (by omega) (fun k e => by simp only [Value.ownBlock, Option.some.injEq] at e; omega)
      have b36 : Below W3.heap.size W3 W6 := by rw [← hW6]; exact b35.setCell (p := ⟨W3.heap.size, 1, none⟩) (Nat.le_refl _) _
      have R6 : W6.ownsRow (W3.heap.size + 1) 58 5 (.slice (some ⟨g, 0, none⟩) vs.length cap) vs.length (cellsR vs) := by rw [← hW6]; exact Base.own_set hown5 (fun b hb => by simp only [Value.ownBlock, Option.some.injEq] at hb; omega)
      have q6 : W6.cell? ⟨W3.heap.size, 0, none⟩ = some (.slice pa ps.length pc) ∧ W6.cell? ⟨W3.heap.size, 1, none⟩ = some (.slice (some ⟨g, 0, none⟩) vs.length cap) := by rw [← hW6]; exact ⟨by rw [cell_off (by omega)]; exact e0, cell_set e1⟩
      have f6 : W6.frozen? ⟨W3.heap.size, 1, none⟩ = false := by rw [← hW6, frozen_set]; exact e2 1
      have hva : a < vs.length := by have := HLEN.out; omega
      have hvb : b < vs.length := by have := HLEN.out; omega
      obtain ⟨xh1, xh2⟩ := hok vs[a] (List.getElem_mem hva)
      obtain ⟨yh1, yh2⟩ := hok vs[b] (List.getElem_mem hvb)
      obtain ⟨xha, xhc, hxh, _⟩ := id xh1
      obtain ⟨xba, xbc, hxb, _⟩ := id xh2
      obtain ⟨yha, yhc, hyh, _⟩ := id yh1
      obtain ⟨yba, ybc, hyb, _⟩ := id yh2
      have XC := cellsR_at vs a vs[a] (List.getElem?_eq_getElem hva)
      have YC := cellsR_at vs b vs[b] (List.getElem?_eq_getElem hvb)
      rw [hxh, hxb] at XC
      rw [hyh, hyb] at YC
      have HXC : Hid (∀ x, Below w.heap.size w x → x.cell? ⟨rb, ro + a * 5, none⟩ = some (.int .i64 vs[a].r.head.pred) ∧ x.cell? ⟨rb, ro + a * 5 + 1, none⟩ = some (.slice xha vs[a].r.head.args.length xhc) ∧ x.cell? ⟨rb, ro + a * 5 + 2, none⟩ = some (.int .i64 vs[a].r.src) ∧ x.cell? ⟨rb, ro + a * 5 + 3, none⟩ = some (.int .i64 vs[a].r.n) ∧ x.cell? ⟨rb, ro + a * 5 + 4, none⟩ = some (.slice xba vs[a].r.body.length xbc)) := fun x hx => by
        have h := HCE.out x hx
        have h0 := h _ _ XC.1
        have h1 := h _ _ XC.2.1
        have h2 := h _ _ XC.2.2.1
        have h3 := h _ _ XC.2.2.2.1
        have h4 := h _ _ XC.2.2.2.2
        rw [← Nat.add_assoc] at h1 h2 h3 h4
        exact ⟨h0, h1, h2, h3, h4⟩
      have HYC : Hid (∀ x, Below w.heap.size w x → x.cell? ⟨rb, ro + b * 5, none⟩ = some (.int .i64 vs[b].r.head.pred) ∧ x.cell? ⟨rb, ro + b * 5 + 1, none⟩ = some (.slice yha vs[b].r.head.args.length yhc) ∧ x.cell? ⟨rb, ro + b * 5 + 2, none⟩ = some (.int .i64 vs[b].r.src) ∧ x.cell? ⟨rb, ro + b * 5 + 3, none⟩ = some (.int .i64 vs[b].r.n) ∧ x.cell? ⟨rb, ro + b * 5 + 4, none⟩ = some (.slice yba vs[b].r.body.length ybc)) := fun x hx => by
        have h := HCE.out x hx
        have h0 := h _ _ YC.1
        have h1 := h _ _ YC.2.1
        have h2 := h _ _ YC.2.2.1
        have h3 := h _ _ YC.2.2.2.1
        have h4 := h _ _ YC.2.2.2.2
        rw [← Nat.add_assoc] at h1 h2 h3 h4
        exact ⟨h0, h1, h2, h3, h4⟩
      rw [hW6]
      clear hW6
      have k6 : Below w.heap.size w W6 := k3.trans (b36.mono k3.size)
      obtain ⟨p0, p1, _⟩ := Prog.boxO b36 B3
      have ha1 : (a : Int) < (vs.length : Int) := by omega
      have hb1 : (b : Int) < (rs.length : Int) := by omega
      have ha2 : (a : Int) < (rs.length : Int) := by omega
      have hb2' : (b : Int) < (vs.length : Int) := by omega
      have HD6 : Hid (∀ x, Below W6.heap.size W6 x → ∀ j, j < 5 → ∃ u, x.cell? ⟨g, a * 5 + j, none⟩ = some u) := fun x hx j hj => by
        have h := R6.cells (g := g) rfl
        have hgl : g < W6.heap.size := (R6.lt g rfl).2
        have hl : a * 5 + j < (cellsR vs).length := by rw [cellsR_length]; have := hva; omega
        have h0 := h (a * 5 + j) _ (List.getElem?_eq_getElem hl)
        rw [Base.add_none, Nat.zero_add] at h0
        exact ⟨_, (cell_lasts hx hgl).trans h0⟩
      have HZ6 : Hid (∀ x o, Below W6.heap.size W6 x → x.frozen? ⟨g, o, none⟩ = false) := fun x o hx => ((bcell hx).2 _ _ (R6.lt g rfl).2).trans (R6.frozenAt o)
      have KEEP6 : Hid (∀ w' : World, Below W6.heap.size W6 w' → w'.cell? ⟨W3.heap.size, 1, none⟩ = some (.slice (some ⟨g, 0, none⟩) vs.length cap) ∧ w'.cell? ⟨w.heap.size, 1, none⟩ = some (.slice (some ⟨rb, ro, none⟩) rs.length rc) ∧ w'.cell? ⟨rb, ro + b * 5, none⟩ = some (.int .i64 vs[b].r.head.pred) ∧ w'.cell? ⟨rb, ro + b * 5 + 1, none⟩ = some (.slice yha vs[b].r.head.args.length yhc) ∧ w'.cell? ⟨rb, ro + b * 5 + 2, none⟩ = some (.int .i64 vs[b].r.src) ∧ w'.cell? ⟨rb, ro + b * 5 + 3, none⟩ = some (.int .i64 vs[b].r.n) ∧ w'.cell? ⟨rb, ro + b * 5 + 4, none⟩ = some (.slice yba vs[b].r.body.length ybc)) := fun w' hx => ⟨(cell_lasts hx (Fire.cell_bound q6.2)).trans q6.2, (cell_lasts hx (Fire.cell_bound p1)).trans p1, HYC.out w' (k6.trans (hx.mono k6.size))⟩
      obtain ⟨z0, z0'⟩ := HD6.out W6 (Below.refl _ _) 0 (by omega)
      obtain ⟨z1, z1'⟩ := HD6.out W6 (Below.refl _ _) 1 (by omega)
      obtain ⟨z2, z2'⟩ := HD6.out W6 (Below.refl _ _) 2 (by omega)
      obtain ⟨z3, z3'⟩ := HD6.out W6 (Below.refl _ _) 3 (by omega)
      obtain ⟨z4, z4'⟩ := HD6.out W6 (Below.refl _ _) 4 (by omega)
      rw [Nat.add_zero] at z0'
      have y0' := HZ6.out W6 (a * 5) (Below.refl _ _)
      have y1' := HZ6.out W6 (a * 5 + 1) (Below.refl _ _)
      have y2' := HZ6.out W6 (a * 5 + 2) (Below.refl _ _)
      have y3' := HZ6.out W6 (a * 5 + 3) (Below.refl _ _)
      have y4' := HZ6.out W6 (a * 5 + 4) (Below.refl _ _)
      have KS6 : Hid (∀ v0 v1 v2 v3 v4, (fun w' : World => w'.cell? ⟨W3.heap.size, 1, none⟩ = some (.slice (some ⟨g, 0, none⟩) vs.length cap) ∧ w'.cell? ⟨w.heap.size, 1, none⟩ = some (.slice (some ⟨rb, ro, none⟩) rs.length rc) ∧ w'.cell? ⟨rb, ro + b * 5, none⟩ = some (.int .i64 vs[b].r.head.pred) ∧ w'.cell? ⟨rb, ro + b * 5 + 1, none⟩ = some (.slice yha vs[b].r.head.args.length yhc) ∧ w'.cell? ⟨rb, ro + b * 5 + 2, none⟩ = some (.int .i64 vs[b].r.src) ∧ w'.cell? ⟨rb, ro + b * 5 + 3, none⟩ = some (.int .i64 vs[b].r.n) ∧ w'.cell? ⟨rb, ro + b * 5 + 4, none⟩ = some (.slice yba vs[b].r.body.length ybc)) (((((W6.setCell ⟨g, a * 5, none⟩ v0).setCell ⟨g, a * 5 + 1, none⟩ v1).setCell ⟨g, a * 5 + 2, none⟩ v2).setCell ⟨g, a * 5 + 3, none⟩ v3).setCell ⟨g, a * 5 + 4, none⟩ v4).drew) := fun v0 v1 v2 v3 v4 => by
        obtain ⟨s0, s1, s2, s3, s4, s5, s6⟩ := KEEP6.out W6 (Below.refl _ _)
        have n1 : g ≠ W3.heap.size := by omega
        have n2 : g ≠ w.heap.size := by omega
        have n3 : g ≠ rb := by omega
        exact ⟨by rw [drew_cell, five_cell _ _ _ _ _ _ n1]; exact s0, by rw [drew_cell, five_cell _ _ _ _ _ _ n2]; exact s1, by rw [drew_cell, five_cell _ _ _ _ _ _ n3]; exact s2, by rw [drew_cell, five_cell _ _ _ _ _ _ n3]; exact s3, by rw [drew_cell, five_cell _ _ _ _ _ _ n3]; exact s4, by rw [drew_cell, five_cell _ _ _ _ _ _ n3]; exact s5, by rw [drew_cell, five_cell _ _ _ _ _ _ n3]; exact s6⟩
      go_region_held3 (fun w' => w'.cell? ⟨W3.heap.size, 1, none⟩ = some (.slice (some ⟨g, 0, none⟩) vs.length cap) ∧ w'.cell? ⟨w.heap.size, 1, none⟩ = some (.slice (some ⟨rb, ro, none⟩) rs.length rc) ∧ w'.cell? ⟨rb, ro + b * 5, none⟩ = some (.int .i64 vs[b].r.head.pred) ∧ w'.cell? ⟨rb, ro + b * 5 + 1, none⟩ = some (.slice yha vs[b].r.head.args.length yhc) ∧ w'.cell? ⟨rb, ro + b * 5 + 2, none⟩ = some (.int .i64 vs[b].r.src) ∧ w'.cell? ⟨rb, ro + b * 5 + 3, none⟩ = some (.int .i64 vs[b].r.n) ∧ w'.cell? ⟨rb, ro + b * 5 + 4, none⟩ = some (.slice yba vs[b].r.body.length ybc))
        (first | (refine KEEP6.out _ ?_; (first | with_reducible exact Below.refl _ _ | with_reducible exact Below.drew (Below.refl _ _))) | with_reducible exact KS6.out _ _ _ _ _)
        (fail)
      obtain ⟨W7, hW7⟩ : ∃ W7, (((((W6.setCell ⟨g, a * 5, none⟩ (.int .i64 vs[b].r.head.pred)).setCell ⟨g, a * 5 + 1, none⟩ (.slice yha vs[b].r.head.args.length yhc)).setCell ⟨g, a * 5 + 2, none⟩ (.int .i64 vs[b].r.src)).setCell ⟨g, a * 5 + 3, none⟩ (.int .i64 vs[b].r.n)).setCell ⟨g, a * 5 + 4, none⟩ (.slice yba vs[b].r.body.length ybc)).drew = W7 := ⟨_, rfl⟩
      have b37 : Below W3.heap.size W3 W7 := by rw [← hW7]; exact (five_below b36 _ _ _ _ _ (by omega)).drew
      have R7 : W7.ownsRow (W3.heap.size + 1) 58 5 (.slice (some ⟨g, 0, none⟩) vs.length cap) vs.length (cellsR (vs.set a vs[b])) := by
        rw [← hW7]
        have h := five_row (l := vs) (cap := cap) (by first | exact R6 | (rw [List.length_set]; exact R6)) a vs[b]
        rw [hyh, hyb] at h
        first | exact h | (rw [List.length_set] at h; exact h)
      have q7 : W7.cell? ⟨W3.heap.size, 0, none⟩ = some (.slice pa ps.length pc) ∧ W7.cell? ⟨W3.heap.size, 1, none⟩ = some (.slice (some ⟨g, 0, none⟩) vs.length cap) := by
        have n1 : g ≠ W3.heap.size := by omega
        rw [← hW7]
        exact ⟨by rw [drew_cell, five_cell _ _ _ _ _ _ n1]; exact q6.1, by rw [drew_cell, five_cell _ _ _ _ _ _ n1]; exact q6.2⟩
      have f7 : W7.frozen? ⟨W3.heap.size, 1, none⟩ = false := by
        rw [← hW7]
        show World.frozen? _ _ = false
        rw [drew_frozen, frozen_set, frozen_set, frozen_set, frozen_set, frozen_set]
        exact f6
      rw [hW7]
      clear hW7 z0' z1' z2' z3' z4' y0' y1' y2' y3' y4' p0 p1
      have k7 : Below w.heap.size w W7 := k3.trans (b37.mono k3.size)
      obtain ⟨p0, p1, _⟩ := Prog.boxO b37 B3
      go_wp2_with fail
      have HD7 : Hid (∀ x, Below W7.heap.size W7 x → ∀ j, j < 5 → ∃ u, x.cell? ⟨g, b * 5 + j, none⟩ = some u) := fun x hx j hj => by
        have h := R7.cells (g := g) rfl
        have hgl : g < W7.heap.size := (R7.lt g rfl).2
        have hl : b * 5 + j < (cellsR (vs.set a vs[b])).length := by rw [cellsR_length, List.length_set]; have := hvb; omega
        have h0 := h (b * 5 + j) _ (List.getElem?_eq_getElem hl)
        rw [Base.add_none, Nat.zero_add] at h0
        exact ⟨_, (cell_lasts hx hgl).trans h0⟩
      have HZ7 : Hid (∀ x o, Below W7.heap.size W7 x → x.frozen? ⟨g, o, none⟩ = false) := fun x o hx => ((bcell hx).2 _ _ (R7.lt g rfl).2).trans (R7.frozenAt o)
      have KEEP7 : Hid (∀ w' : World, Below W7.heap.size W7 w' → w'.cell? ⟨W3.heap.size, 1, none⟩ = some (.slice (some ⟨g, 0, none⟩) vs.length cap) ∧ w'.cell? ⟨w.heap.size, 1, none⟩ = some (.slice (some ⟨rb, ro, none⟩) rs.length rc) ∧ w'.cell? ⟨rb, ro + a * 5, none⟩ = some (.int .i64 vs[a].r.head.pred) ∧ w'.cell? ⟨rb, ro + a * 5 + 1, none⟩ = some (.slice xha vs[a].r.head.args.length xhc) ∧ w'.cell? ⟨rb, ro + a * 5 + 2, none⟩ = some (.int .i64 vs[a].r.src) ∧ w'.cell? ⟨rb, ro + a * 5 + 3, none⟩ = some (.int .i64 vs[a].r.n) ∧ w'.cell? ⟨rb, ro + a * 5 + 4, none⟩ = some (.slice xba vs[a].r.body.length xbc)) := fun w' hx => ⟨(cell_lasts hx (Fire.cell_bound q7.2)).trans q7.2, (cell_lasts hx (Fire.cell_bound p1)).trans p1, HXC.out w' (k7.trans (hx.mono k7.size))⟩
      obtain ⟨z0, z0'⟩ := HD7.out W7 (Below.refl _ _) 0 (by omega)
      obtain ⟨z1, z1'⟩ := HD7.out W7 (Below.refl _ _) 1 (by omega)
      obtain ⟨z2, z2'⟩ := HD7.out W7 (Below.refl _ _) 2 (by omega)
      obtain ⟨z3, z3'⟩ := HD7.out W7 (Below.refl _ _) 3 (by omega)
      obtain ⟨z4, z4'⟩ := HD7.out W7 (Below.refl _ _) 4 (by omega)
      rw [Nat.add_zero] at z0'
      have y0' := HZ7.out W7 (b * 5) (Below.refl _ _)
      have y1' := HZ7.out W7 (b * 5 + 1) (Below.refl _ _)
      have y2' := HZ7.out W7 (b * 5 + 2) (Below.refl _ _)
      have y3' := HZ7.out W7 (b * 5 + 3) (Below.refl _ _)
      have y4' := HZ7.out W7 (b * 5 + 4) (Below.refl _ _)
      have KS7 : Hid (∀ v0 v1 v2 v3 v4, (fun w' : World => w'.cell? ⟨W3.heap.size, 1, none⟩ = some (.slice (some ⟨g, 0, none⟩) vs.length cap) ∧ w'.cell? ⟨w.heap.size, 1, none⟩ = some (.slice (some ⟨rb, ro, none⟩) rs.length rc) ∧ w'.cell? ⟨rb, ro + a * 5, none⟩ = some (.int .i64 vs[a].r.head.pred) ∧ w'.cell? ⟨rb, ro + a * 5 + 1, none⟩ = some (.slice xha vs[a].r.head.args.length xhc) ∧ w'.cell? ⟨rb, ro + a * 5 + 2, none⟩ = some (.int .i64 vs[a].r.src) ∧ w'.cell? ⟨rb, ro + a * 5 + 3, none⟩ = some (.int .i64 vs[a].r.n) ∧ w'.cell? ⟨rb, ro + a * 5 + 4, none⟩ = some (.slice xba vs[a].r.body.length xbc)) (((((W7.setCell ⟨g, b * 5, none⟩ v0).setCell ⟨g, b * 5 + 1, none⟩ v1).setCell ⟨g, b * 5 + 2, none⟩ v2).setCell ⟨g, b * 5 + 3, none⟩ v3).setCell ⟨g, b * 5 + 4, none⟩ v4).drew) := fun v0 v1 v2 v3 v4 => by
        obtain ⟨s0, s1, s2, s3, s4, s5, s6⟩ := KEEP7.out W7 (Below.refl _ _)
        have n1 : g ≠ W3.heap.size := by omega
        have n2 : g ≠ w.heap.size := by omega
        have n3 : g ≠ rb := by omega
        exact ⟨by rw [drew_cell, five_cell _ _ _ _ _ _ n1]; exact s0, by rw [drew_cell, five_cell _ _ _ _ _ _ n2]; exact s1, by rw [drew_cell, five_cell _ _ _ _ _ _ n3]; exact s2, by rw [drew_cell, five_cell _ _ _ _ _ _ n3]; exact s3, by rw [drew_cell, five_cell _ _ _ _ _ _ n3]; exact s4, by rw [drew_cell, five_cell _ _ _ _ _ _ n3]; exact s5, by rw [drew_cell, five_cell _ _ _ _ _ _ n3]; exact s6⟩
      go_region_held3 (fun w' => w'.cell? ⟨W3.heap.size, 1, none⟩ = some (.slice (some ⟨g, 0, none⟩) vs.length cap) ∧ w'.cell? ⟨w.heap.size, 1, none⟩ = some (.slice (some ⟨rb, ro, none⟩) rs.length rc) ∧ w'.cell? ⟨rb, ro + a * 5, none⟩ = some (.int .i64 vs[a].r.head.pred) ∧ w'.cell? ⟨rb, ro + a * 5 + 1, none⟩ = some (.slice xha vs[a].r.head.args.length xhc) ∧ w'.cell? ⟨rb, ro + a * 5 + 2, none⟩ = some (.int .i64 vs[a].r.src) ∧ w'.cell? ⟨rb, ro + a * 5 + 3, none⟩ = some (.int .i64 vs[a].r.n) ∧ w'.cell? ⟨rb, ro + a * 5 + 4, none⟩ = some (.slice xba vs[a].r.body.length xbc))
        (first | (refine KEEP7.out _ ?_; (first | with_reducible exact Below.refl _ _ | with_reducible exact Below.drew (Below.refl _ _))) | with_reducible exact KS7.out _ _ _ _ _)
        (fail)
      obtain ⟨W8, hW8⟩ : ∃ W8, (((((W7.setCell ⟨g, b * 5, none⟩ (.int .i64 vs[a].r.head.pred)).setCell ⟨g, b * 5 + 1, none⟩ (.slice xha vs[a].r.head.args.length xhc)).setCell ⟨g, b * 5 + 2, none⟩ (.int .i64 vs[a].r.src)).setCell ⟨g, b * 5 + 3, none⟩ (.int .i64 vs[a].r.n)).setCell ⟨g, b * 5 + 4, none⟩ (.slice xba vs[a].r.body.length xbc)).drew = W8 := ⟨_, rfl⟩
      have b38 : Below W3.heap.size W3 W8 := by rw [← hW8]; exact (five_below b37 _ _ _ _ _ (by omega)).drew
      have R8 : W8.ownsRow (W3.heap.size + 1) 58 5 (.slice (some ⟨g, 0, none⟩) vs.length cap) vs.length (cellsR ((vs.set a vs[b]).set b vs[a])) := by
        rw [← hW8]
        have h := five_row (l := (vs.set a vs[b])) (cap := cap) (by first | exact R7 | (rw [List.length_set]; exact R7)) b vs[a]
        rw [hxh, hxb] at h
        first | exact h | (rw [List.length_set] at h; exact h)
      have q8 : W8.cell? ⟨W3.heap.size, 0, none⟩ = some (.slice pa ps.length pc) ∧ W8.cell? ⟨W3.heap.size, 1, none⟩ = some (.slice (some ⟨g, 0, none⟩) vs.length cap) := by
        have n1 : g ≠ W3.heap.size := by omega
        rw [← hW8]
        exact ⟨by rw [drew_cell, five_cell _ _ _ _ _ _ n1]; exact q7.1, by rw [drew_cell, five_cell _ _ _ _ _ _ n1]; exact q7.2⟩
      have f8 : W8.frozen? ⟨W3.heap.size, 1, none⟩ = false := by
        rw [← hW8]
        show World.frozen? _ _ = false
        rw [drew_frozen, frozen_set, frozen_set, frozen_set, frozen_set, frozen_set]
        exact f7
      rw [hW8]
      clear hW8 z0' z1' z2' z3' z4' y0' y1' y2' y3' y4' p0 p1
      have k8 : Below w.heap.size w W8 := k3.trans (b38.mono k3.size)
      obtain ⟨p0, p1, _⟩ := Prog.boxO b38 B3
      have HOS : Hid (progErr ps (swapped rs a b) = 0 ∧ modelF ps (swapped rs a b) = modelF ps rs ∧ roundsF ps (swapped rs a b) = roundsF ps rs) := order_same hpe ha hb
      have HSW : Hid (swapped vs a b = if vs.length < 8 then (vs.set a vs[b]).set b vs[a] ++ [vs[a]] else (vs.set a vs[b]).set b vs[a]) := by show _ = _; unfold swapped; rw [List.getElem?_eq_getElem hva, List.getElem?_eq_getElem hvb]
      have HSM : Hid ((swapped vs a b).map RV.r = swapped rs a b) := swapped_map hvs hva hvb
      have HSO : Hid (∀ x ∈ swapped vs a b, RVok w x) := swapped_ok hok hva hvb (by have := HLEN.out; omega)
      by_cases h8' : vs.length < 8
      · have hlt8 : (vs.length : Int) < 8 := by omega
        obtain ⟨i0, hi0, hz0, hz1, hz2⟩ := info_parts infoRule
        have KS : Hid (∀ w', Below W8.heap.size W8 w' → w'.cell? ⟨w.heap.size, 1, none⟩ = some (.slice (some ⟨rb, ro, none⟩) rs.length rc) ∧ w'.cell? ⟨rb, ro + a * 5, none⟩ = some (.int .i64 vs[a].r.head.pred) ∧ w'.cell? ⟨rb, ro + a * 5 + 1, none⟩ = some (.slice xha vs[a].r.head.args.length xhc) ∧ w'.cell? ⟨rb, ro + a * 5 + 2, none⟩ = some (.int .i64 vs[a].r.src) ∧ w'.cell? ⟨rb, ro + a * 5 + 3, none⟩ = some (.int .i64 vs[a].r.n) ∧ w'.cell? ⟨rb, ro + a * 5 + 4, none⟩ = some (.slice xba vs[a].r.body.length xbc)) := fun w' hx => ⟨(cell_lasts hx (Fire.cell_bound p1)).trans p1, HXC.out w' (k8.trans (hx.mono k8.size))⟩
        have hx0 : Below W8.heap.size W8 (W8.drew.alloc (.cells #[.int .i64 vs[a].r.head.pred, .slice xha vs[a].r.head.args.length xhc, .int .i64 vs[a].r.src, .int .i64 vs[a].r.n, .slice xba vs[a].r.body.length xbc] 58)) := (Below.refl _ _).drew.alloc (Nat.le_refl _) _
        have HSE : Hid ((W8.drew.alloc (.cells #[.int .i64 vs[a].r.head.pred, .slice xha vs[a].r.head.args.length xhc, .int .i64 vs[a].r.src, .int .i64 vs[a].r.n, .slice xba vs[a].r.body.length xbc] 58)).heap.size = W8.heap.size + 1) := by show _ = _; rw [World.size_alloc]; rfl
        have HSZ : Hid (W3.heap.size + 1 ≤ (W8.drew.alloc (.cells #[.int .i64 vs[a].r.head.pred, .slice xha vs[a].r.head.args.length xhc, .int .i64 vs[a].r.src, .int .i64 vs[a].r.n, .slice xba vs[a].r.body.length xbc] 58)).heap.size) := by show _ ≤ _; rw [HSE.out]; have := b38.size; omega
        have HOW : Hid ((W8.drew.alloc (.cells #[.int .i64 vs[a].r.head.pred, .slice xha vs[a].r.head.args.length xhc, .int .i64 vs[a].r.src, .int .i64 vs[a].r.n, .slice xba vs[a].r.body.length xbc] 58)).ownsRow (W3.heap.size + 1) 58 5 (.slice (some ⟨g, 0, none⟩) vs.length cap) vs.length (cellsR ((vs.set a vs[b]).set b vs[a]))) := own_lasts9 R8 hx0
        have HNC : Hid (∀ (j : Nat) (u : Value), [.int .i64 vs[a].r.head.pred, .slice xha vs[a].r.head.args.length xhc, .int .i64 vs[a].r.src, .int .i64 vs[a].r.n, .slice xba vs[a].r.body.length xbc][j]? = some u → (W8.drew.alloc (.cells #[.int .i64 vs[a].r.head.pred, .slice xha vs[a].r.head.args.length xhc, .int .i64 vs[a].r.src, .int .i64 vs[a].r.n, .slice xba vs[a].r.body.length xbc] 58)).cell? ((⟨W8.heap.size, 0, none⟩ : Addr).add j) = some u) := fun j u hj => by
          rw [Base.add_none]
          match j, hj with
          | 0, hj => obtain rfl := Option.some.inj hj; exact World.cell?_alloc_new _ _ _ _
          | 1, hj => obtain rfl := Option.some.inj hj; exact World.cell?_alloc_new _ _ _ _
          | 2, hj => obtain rfl := Option.some.inj hj; exact World.cell?_alloc_new _ _ _ _
          | 3, hj => obtain rfl := Option.some.inj hj; exact World.cell?_alloc_new _ _ _ _
          | 4, hj => obtain rfl := Option.some.inj hj; exact World.cell?_alloc_new _ _ _ _
        have HCK : Hid (∀ x blk o v, (W8.drew.alloc (.cells #[.int .i64 vs[a].r.head.pred, .slice xha vs[a].r.head.args.length xhc, .int .i64 vs[a].r.src, .int .i64 vs[a].r.n, .slice xba vs[a].r.body.length xbc] 58)).grownBy x (some g) → blk < W8.heap.size → blk ≠ g → W8.cell? ⟨blk, o, none⟩ = some v → x.cell? ⟨blk, o, none⟩ = some v) := fun x blk o v hg hb hne hv => by
          have h1 : (W8.drew.alloc (.cells #[.int .i64 vs[a].r.head.pred, .slice xha vs[a].r.head.args.length xhc, .int .i64 vs[a].r.src, .int .i64 vs[a].r.n, .slice xba vs[a].r.body.length xbc] 58)).cell? ⟨blk, o, none⟩ = some v := (cell_lasts hx0 hb).trans hv
          exact (World.cell?_of_block (a := ⟨blk, o, none⟩) (hg.block blk (by rw [HSE.out]; omega) (fun e => hne (by simpa using e)))).trans h1
        have hgw : W3.heap.size + 1 ≤ g := hg5
        have HQ9 : Hid (∀ x, (W8.drew.alloc (.cells #[.int .i64 vs[a].r.head.pred, .slice xha vs[a].r.head.args.length xhc, .int .i64 vs[a].r.src, .int .i64 vs[a].r.n, .slice xba vs[a].r.body.length xbc] 58)).grownBy x (some g) → x.cell? ⟨W3.heap.size, 0, none⟩ = some (.slice pa ps.length pc) ∧ x.cell? ⟨W3.heap.size, 1, none⟩ = some (.slice (some ⟨g, 0, none⟩) vs.length cap) ∧ x.frozen? ⟨W3.heap.size, 1, none⟩ = false) := fun x hx => by
          have hl : W3.heap.size < W8.heap.size := Fire.cell_bound q8.1
          refine ⟨HCK.out x _ _ _ hx hl (by omega) q8.1, HCK.out x _ _ _ hx hl (by omega) q8.2, ?_⟩
          have h1 : (W8.drew.alloc (.cells #[.int .i64 vs[a].r.head.pred, .slice xha vs[a].r.head.args.length xhc, .int .i64 vs[a].r.src, .int .i64 vs[a].r.n, .slice xba vs[a].r.body.length xbc] 58)).frozen? ⟨W3.heap.size, 1, none⟩ = false := ((bcell hx0).2 _ _ hl).trans f8
          exact (World.frozen?_of_block (a := ⟨W3.heap.size, 1, none⟩) (hx.block W3.heap.size (by rw [HSE.out]; omega) (fun e => by simp at e; omega))).trans h1
        have HS9 : Hid (∀ x, (W8.drew.alloc (.cells #[.int .i64 vs[a].r.head.pred, .slice xha vs[a].r.head.args.length xhc, .int .i64 vs[a].r.src, .int .i64 vs[a].r.n, .slice xba vs[a].r.body.length xbc] 58)).grownBy x (some g) → (fun w' : World => w'.cell? ⟨w.heap.size, 1, none⟩ = some (.slice (some ⟨rb, ro, none⟩) rs.length rc) ∧ w'.cell? ⟨rb, ro + a * 5, none⟩ = some (.int .i64 vs[a].r.head.pred) ∧ w'.cell? ⟨rb, ro + a * 5 + 1, none⟩ = some (.slice xha vs[a].r.head.args.length xhc) ∧ w'.cell? ⟨rb, ro + a * 5 + 2, none⟩ = some (.int .i64 vs[a].r.src) ∧ w'.cell? ⟨rb, ro + a * 5 + 3, none⟩ = some (.int .i64 vs[a].r.n) ∧ w'.cell? ⟨rb, ro + a * 5 + 4, none⟩ = some (.slice xba vs[a].r.body.length xbc)) x) := fun x hx => by
          obtain ⟨s0, s1, s2, s3, s4, s5⟩ := KS.out W8 (Below.refl _ _)
          have l1 : w.heap.size < W8.heap.size := Fire.cell_bound s0
          have l2 : rb < W8.heap.size := Fire.cell_bound s1
          have m1 : w.heap.size ≠ g := by omega
          have m2 : rb ≠ g := by omega
          exact ⟨HCK.out x _ _ _ hx l1 m1 s0, HCK.out x _ _ _ hx l2 m2 s1, HCK.out x _ _ _ hx l2 m2 s2, HCK.out x _ _ _ hx l2 m2 s3, HCK.out x _ _ _ hx l2 m2 s4, HCK.out x _ _ _ hx l2 m2 s5⟩
        have HS9b : Hid (∀ x v, (W8.drew.alloc (.cells #[.int .i64 vs[a].r.head.pred, .slice xha vs[a].r.head.args.length xhc, .int .i64 vs[a].r.src, .int .i64 vs[a].r.n, .slice xba vs[a].r.body.length xbc] 58)).grownBy x (some g) → (fun w' : World => w'.cell? ⟨w.heap.size, 1, none⟩ = some (.slice (some ⟨rb, ro, none⟩) rs.length rc) ∧ w'.cell? ⟨rb, ro + a * 5, none⟩ = some (.int .i64 vs[a].r.head.pred) ∧ w'.cell? ⟨rb, ro + a * 5 + 1, none⟩ = some (.slice xha vs[a].r.head.args.length xhc) ∧ w'.cell? ⟨rb, ro + a * 5 + 2, none⟩ = some (.int .i64 vs[a].r.src) ∧ w'.cell? ⟨rb, ro + a * 5 + 3, none⟩ = some (.int .i64 vs[a].r.n) ∧ w'.cell? ⟨rb, ro + a * 5 + 4, none⟩ = some (.slice xba vs[a].r.body.length xbc)) (x.setCell ⟨W3.heap.size, 1, none⟩ v)) := fun x v hx => by
          obtain ⟨s0, s1, s2, s3, s4, s5⟩ := HS9.out x hx
          have m1 : W3.heap.size ≠ w.heap.size := by omega
          have m2 : W3.heap.size ≠ rb := by have := k3.size; omega
          exact ⟨by rw [cell_block m1]; exact s0, by rw [cell_block m2]; exact s1, by rw [cell_block m2]; exact s2, by rw [cell_block m2]; exact s3, by rw [cell_block m2]; exact s4, by rw [cell_block m2]; exact s5⟩
        go_wp2_with fail
        have qq1 := q8.2
        have qq2 : (W8.alloc (.cells #[.int .i64 vs[a].r.head.pred, .slice xha vs[a].r.head.args.length xhc, .int .i64 vs[a].r.src, .int .i64 vs[a].r.n, .slice xba vs[a].r.body.length xbc] 58)).cell? ⟨W3.heap.size, 1, none⟩ = some (.slice (some ⟨g, 0, none⟩) vs.length cap) := (cell_lasts ((Below.refl _ _).alloc (Nat.le_refl _) _) (Fire.cell_bound q8.2)).trans q8.2
        refine wp_mono (Q := (fun e a' w' => e = .normal ∧ (∃ W9 g9 cap9, w' = W9.setCell ⟨W3.heap.size, 1, none⟩ (.slice (some ⟨g9, 0, none⟩) (vs.length + 1) cap9) ∧ (W8.drew.alloc (.cells #[.int .i64 vs[a].r.head.pred, .slice xha vs[a].r.head.args.length xhc, .int .i64 vs[a].r.src, .int .i64 vs[a].r.n, .slice xba vs[a].r.body.length xbc] 58)).grownBy W9 (some g) ∧ W9.ownsRow (W3.heap.size + 1) 58 5 (.slice (some ⟨g9, 0, none⟩) (vs.length + 1) cap9) (vs.length + 1) (cellsR ((vs.set a vs[b]).set b vs[a]) ++ [.int .i64 vs[a].r.head.pred, .slice xha vs[a].r.head.args.length xhc, .int .i64 vs[a].r.src, .int .i64 vs[a].r.n, .slice xba vs[a].r.body.length xbc])) ∧ ∃ u79 u80 u81 u82 u83 u84 u85 u86 u87 u88 : Value, a' = { tmps := #[.agg #[.slice pa ps.length pc, .slice (some ⟨rb, ro, none⟩) rs.length rc], .int .i64 i, .int .i64 j, .pointer (some ⟨w.heap.size, 0, none⟩), undef, undef, .bool false, .slice fa (modelF ps rs).length fc, .int .i64 0, .slice la (roundsF ps rs).length lc, .int .i64 0, .int .i64 (a : Int), .int .i64 (b : Int), .pointer (some ⟨W3.heap.size, 0, none⟩), undef, undef, undef, undef, .tuple #[.slice fa (modelF ps rs).length fc, .int .i64 0], .agg #[.slice pa ps.length pc, .slice (some ⟨rb, ro, none⟩) rs.length rc], .tuple #[.slice fa (modelF ps rs).length fc, .int .i64 0], .slice fa (modelF ps rs).length fc, .int .i64 0, .tuple #[.slice la (roundsF ps rs).length lc, .int .i64 0], .agg #[.slice pa ps.length pc, .slice (some ⟨rb, ro, none⟩) rs.length rc], .tuple #[.slice la (roundsF ps rs).length lc, .int .i64 0], .slice la (roundsF ps rs).length lc, .int .i64 0, .int .i64 0, .bool false, .bool false, .int .i64 0, .bool false, .bool false, .bool false, .pointer (some ⟨w.heap.size, 1, none⟩), .slice (some ⟨rb, ro, none⟩) rs.length rc, .int .i64 (rs.length : Int), .bool false, .bool false, undef, .int .i64 i, .pointer (some ⟨w.heap.size, 1, none⟩), .slice (some ⟨rb, ro, none⟩) rs.length rc, .int .i64 (rs.length : Int), .int .i64 (a : Int), .int .i64 j, .pointer (some ⟨w.heap.size, 1, none⟩), .slice (some ⟨rb, ro, none⟩) rs.length rc, .int .i64 (rs.length : Int), .int .i64 (b : Int), .agg #[.slice pa ps.length pc, .slice (some ⟨rb, ro, none⟩) rs.length rc], .slice (some ⟨W3.heap.size + 1, 0, none⟩) 0 0, .pointer (some ⟨w.heap.size, 1, none⟩), .slice (some ⟨rb, ro, none⟩) rs.length rc, .slice (some ⟨g, 0, none⟩) vs.length cap, .pointer (some ⟨W3.heap.size, 1, none⟩), .pointer (some ⟨W3.heap.size, 1, none⟩), .slice (some ⟨g, 0, none⟩) vs.length cap, .int .i64 (a : Int), .pointer (some ⟨w.heap.size, 1, none⟩), .slice (some ⟨rb, ro, none⟩) rs.length rc, .int .i64 (b : Int), .pointer (some ⟨rb, ro + b * 5, none⟩), .agg #[.int .i64 vs[b].r.head.pred, .slice yha vs[b].r.head.args.length yhc, .int .i64 vs[b].r.src, .int .i64 vs[b].r.n, .slice yba vs[b].r.body.length ybc], .pointer (some ⟨g, a * 5, none⟩), .pointer (some ⟨W3.heap.size, 1, none⟩), .slice (some ⟨g, 0, none⟩) vs.length cap, .int .i64 (b : Int), .pointer (some ⟨w.heap.size, 1, none⟩), .slice (some ⟨rb, ro, none⟩) rs.length rc, .int .i64 (a : Int), .pointer (some ⟨rb, ro + a * 5, none⟩), .agg #[.int .i64 vs[a].r.head.pred, .slice xha vs[a].r.head.args.length xhc, .int .i64 vs[a].r.src, .int .i64 vs[a].r.n, .slice xba vs[a].r.body.length xbc], .pointer (some ⟨g, b * 5, none⟩), .pointer (some ⟨W3.heap.size, 1, none⟩), .slice (some ⟨g, 0, none⟩) vs.length cap, .int .i64 (vs.length : Int), .bool true, u79, u80, u81, u82, u83, u84, u85, u86, u87, u88, undef, undef, undef, undef, undef, undef, undef, undef, undef, undef, undef, undef, undef, undef, undef, undef, undef, undef, undef, undef, undef, undef, undef, undef, undef, undef, undef, undef, undef], defers := [] })) ?reg ?rest
        case reg =>
          refine wp_region_held_drew (S := fun w' => w'.cell? ⟨w.heap.size, 1, none⟩ = some (.slice (some ⟨rb, ro, none⟩) rs.length rc) ∧ w'.cell? ⟨rb, ro + a * 5, none⟩ = some (.int .i64 vs[a].r.head.pred) ∧ w'.cell? ⟨rb, ro + a * 5 + 1, none⟩ = some (.slice xha vs[a].r.head.args.length xhc) ∧ w'.cell? ⟨rb, ro + a * 5 + 2, none⟩ = some (.int .i64 vs[a].r.src) ∧ w'.cell? ⟨rb, ro + a * 5 + 3, none⟩ = some (.int .i64 vs[a].r.n) ∧ w'.cell? ⟨rb, ro + a * 5 + 4, none⟩ = some (.slice xba vs[a].r.body.length xbc)) (by kernel_rfl) (KS.out _ (Below.refl _ _).drew) (fun hHeld => ?_)
          refine wpAnyH_take (i := 0) (v := ?_) rfl (by kernel_rfl) (by kernel_rfl) (by kernel_rfl) (fun _ _ _ h => by cases h.1) (Or.inl ⟨by rfl, ?_⟩) (by assumption) ?_
          rotate_left
          · (intro w hSw; (try dsimp only at hSw); obtain ⟨h0, h1, h2, h3, h4, h5⟩ := hSw; go_simp; try with_reducible rfl)
          try simp only [Act.put, List.setIfInBounds_toArray]
          refine wpAnyH_take (i := 2) (v := ?_) rfl (by kernel_rfl) (by kernel_rfl) (by kernel_rfl) (fun _ _ _ h => by cases h.1) (Or.inl ⟨by rfl, ?_⟩) (by assumption) ?_
          rotate_left
          · (intro w hSw; (try dsimp only at hSw); obtain ⟨h0, h1, h2, h3, h4, h5⟩ := hSw; go_simp; try with_reducible rfl)
          simp only [Act.put]
          refine wpAnyH_take (i := 3) (v := ?_) rfl (by kernel_rfl) (by kernel_rfl) (by kernel_rfl) (fun _ _ _ h => by cases h.1) (Or.inl ⟨by rfl, ?_⟩) (by assumption) ?_
          rotate_left
          · (intro w hSw; (try dsimp only at hSw); obtain ⟨h0, h1, h2, h3, h4, h5⟩ := hSw; go_simp; try with_reducible rfl)
          simp only [Act.put]
          refine wpAnyH_take (i := 4) (v := ?_) rfl (by kernel_rfl) (by kernel_rfl) (by kernel_rfl) (fun _ _ _ h => by cases h.1) (Or.inl ⟨by rfl, ?_⟩) (by assumption) ?_
          rotate_left
          · (intro w hSw; (try dsimp only at hSw); obtain ⟨h0, h1, h2, h3, h4, h5⟩ := hSw; go_simp; try with_reducible rfl)
          simp only [Act.put]
          refine wpAnyH_take (i := 5) (v := ?_) rfl (by kernel_rfl) (by kernel_rfl) (by kernel_rfl) (fun _ _ _ h => by cases h.1) (Or.inl ⟨by rfl, ?_⟩) (by assumption) ?_
          rotate_left
          · (intro w hSw; (try dsimp only at hSw); obtain ⟨h0, h1, h2, h3, h4, h5⟩ := hSw; go_simp; try with_reducible rfl)
          simp only [Act.put]
          refine wpAnyH_take (i := 6) (v := ?_) rfl (by kernel_rfl) (by kernel_rfl) (by kernel_rfl) (fun _ _ _ h => by cases h.1) (Or.inl ⟨by rfl, ?_⟩) (by assumption) ?_
          rotate_left
          · (intro w hSw; (try dsimp only at hSw); obtain ⟨h0, h1, h2, h3, h4, h5⟩ := hSw; go_simp; try with_reducible rfl)
          simp only [Act.put]
          refine wpAnyH_ready (rs := [1, 7]) (by kernel_rfl) (by simp) ?_
          refine AllReadyH.cons rfl (fun K hK => ?_) ?_
          · go_simp
            refine hK.out _ _ ?_ (fun hHeld => ?_)
            · refine KS.out _ ?_; (first | exact Below.refl _ _ | exact (Below.refl _ _).drew | exact (Below.refl _ _).drew.alloc (Nat.le_refl _) _ | exact ((Below.refl _ _).alloc (Nat.le_refl _) _).drew | exact (Below.refl _ _).alloc (Nat.le_refl _) _)
            clear hK K
            try simp only [Act.put, List.setIfInBounds_toArray, List.set_cons_zero, List.set_cons_succ]
            refine wpAnyH_ready (rs := [7]) (by kernel_rfl) (by simp) ?_
            refine AllReadyH.cons rfl (fun K hK => ?_) AllReadyH.nil
            go_simp
            refine hK.out _ _ ?_ (fun hHeld => ?_)
            · refine KS.out _ ?_; (first | exact Below.refl _ _ | exact (Below.refl _ _).drew | exact (Below.refl _ _).drew.alloc (Nat.le_refl _) _ | exact ((Below.refl _ _).alloc (Nat.le_refl _) _).drew | exact (Below.refl _ _).alloc (Nat.le_refl _) _)
            clear hK K
            try simp only [Act.put, List.setIfInBounds_toArray, List.set_cons_zero, List.set_cons_succ]
            refine wpAnyH_ready (rs := [8]) (by kernel_rfl) (by simp) ?_
            refine AllReadyH.cons rfl (fun K hK => ?_) AllReadyH.nil
            refine step_append_lies _ (by rfl) _ _ 23 (by rfl) (W3.heap.size + 1) 58 i0 (.agg #[.int .i64 0, .slice none 0 0, .int .i64 0, .int .i64 0, .slice none 0 0]) 5 72 Tryz.underlying23 hi0 hz0 hz1 hz2 (by rfl) (by omega) (.slice (some ⟨g, 0, none⟩) vs.length cap) vs.length (cellsR ((vs.set a vs[b]).set b vs[a])) (by rfl) HOW.out ⟨W8.heap.size, 0, none⟩ 1 1 [.int .i64 vs[a].r.head.pred, .slice xha vs[a].r.head.args.length xhc, .int .i64 vs[a].r.src, .int .i64 vs[a].r.n, .slice xba vs[a].r.body.length xbc] (by rfl) (by rfl) HNC.out (by intro u hu; simp at hu; rcases hu with rfl | rfl | rfl | rfl | rfl <;> rfl) (by omega) (by unfold maxLen; omega) (by omega) HSZ.out (W8.heap.size + 1) HSE.out ?_
            intro g9 cap9 W9 hown9 hgrow9 hat9 hlt9
            have hgr9 : (W8.drew.alloc (.cells #[.int .i64 vs[a].r.head.pred, .slice xha vs[a].r.head.args.length xhc, .int .i64 vs[a].r.src, .int .i64 vs[a].r.n, .slice xba vs[a].r.body.length xbc] 58)).grownBy W9 (some g) := hgrow9
            obtain ⟨n0, n1, n2⟩ := HQ9.out W9 hgr9
            refine hK.out _ _ ?_ (fun hHeld => ?_)
            · exact HS9.out W9 hgr9
            clear hK K
            try simp only [Act.put, List.setIfInBounds_toArray]
            refine wpAnyH_take (i := 9) (v := ?_) rfl (by kernel_rfl) (by kernel_rfl) (by kernel_rfl) (fun _ _ _ h => by cases h.1) (Or.inl ⟨by rfl, ?_⟩) (by assumption) ?_
            rotate_left
            · (intro w hSw; (try dsimp only at hSw); obtain ⟨h0, h1, h2, h3, h4, h5⟩ := hSw; go_simp; try with_reducible rfl)
            simp only [Act.put]
            refine wpAnyH_ready (rs := [10]) (by kernel_rfl) (by simp) ?_
            refine AllReadyH.cons rfl (fun K hK => ?_) AllReadyH.nil
            go_simp
            refine hK.out _ _ ?_ (fun hHeld => ?_)
            · exact HS9b.out W9 _ hgr9
            clear hK K
            try simp only [Act.put, List.setIfInBounds_toArray, List.set_cons_zero, List.set_cons_succ]
            refine wpAnyH_done (by kernel_rfl) ?_ _
            refine ⟨rfl, ⟨W9, g9, cap9, rfl, hgr9, hown9⟩, ?_⟩
            (repeat apply Exists.intro)
            rfl

          · refine AllReadyH.cons rfl (fun K hK => ?_) AllReadyH.nil
            go_simp
            refine hK.out _ _ ?_ (fun hHeld => ?_)
            · refine KS.out _ ?_; (first | exact Below.refl _ _ | exact (Below.refl _ _).drew | exact (Below.refl _ _).drew.alloc (Nat.le_refl _) _ | exact ((Below.refl _ _).alloc (Nat.le_refl _) _).drew | exact (Below.refl _ _).alloc (Nat.le_refl _) _)
            clear hK K
            try simp only [Act.put, List.setIfInBounds_toArray, List.set_cons_zero, List.set_cons_succ]
            refine wpAnyH_ready (rs := [1]) (by kernel_rfl) (by simp) ?_
            refine AllReadyH.cons rfl (fun K hK => ?_) AllReadyH.nil
            go_simp
            refine hK.out _ _ ?_ (fun hHeld => ?_)
            · refine KS.out _ ?_; (first | exact Below.refl _ _ | exact (Below.refl _ _).drew | exact (Below.refl _ _).drew.alloc (Nat.le_refl _) _ | exact ((Below.refl _ _).alloc (Nat.le_refl _) _).drew | exact (Below.refl _ _).alloc (Nat.le_refl _) _)
            clear hK K
            try simp only [Act.put, List.setIfInBounds_toArray, List.set_cons_zero, List.set_cons_succ]
            refine wpAnyH_ready (rs := [8]) (by kernel_rfl) (by simp) ?_
            refine AllReadyH.cons rfl (fun K hK => ?_) AllReadyH.nil
            refine step_append_lies _ (by rfl) _ _ 23 (by rfl) (W3.heap.size + 1) 58 i0 (.agg #[.int .i64 0, .slice none 0 0, .int .i64 0, .int .i64 0, .slice none 0 0]) 5 72 Tryz.underlying23 hi0 hz0 hz1 hz2 (by rfl) (by omega) (.slice (some ⟨g, 0, none⟩) vs.length cap) vs.length (cellsR ((vs.set a vs[b]).set b vs[a])) (by rfl) HOW.out ⟨W8.heap.size, 0, none⟩ 1 1 [.int .i64 vs[a].r.head.pred, .slice xha vs[a].r.head.args.length xhc, .int .i64 vs[a].r.src, .int .i64 vs[a].r.n, .slice xba vs[a].r.body.length xbc] (by rfl) (by rfl) HNC.out (by intro u hu; simp at hu; rcases hu with rfl | rfl | rfl | rfl | rfl <;> rfl) (by omega) (by unfold maxLen; omega) (by omega) HSZ.out (W8.heap.size + 1) HSE.out ?_
            intro g9 cap9 W9 hown9 hgrow9 hat9 hlt9
            have hgr9 : (W8.drew.alloc (.cells #[.int .i64 vs[a].r.head.pred, .slice xha vs[a].r.head.args.length xhc, .int .i64 vs[a].r.src, .int .i64 vs[a].r.n, .slice xba vs[a].r.body.length xbc] 58)).grownBy W9 (some g) := hgrow9
            obtain ⟨n0, n1, n2⟩ := HQ9.out W9 hgr9
            refine hK.out _ _ ?_ (fun hHeld => ?_)
            · exact HS9.out W9 hgr9
            clear hK K
            try simp only [Act.put, List.setIfInBounds_toArray]
            refine wpAnyH_take (i := 9) (v := ?_) rfl (by kernel_rfl) (by kernel_rfl) (by kernel_rfl) (fun _ _ _ h => by cases h.1) (Or.inl ⟨by rfl, ?_⟩) (by assumption) ?_
            rotate_left
            · (intro w hSw; (try dsimp only at hSw); obtain ⟨h0, h1, h2, h3, h4, h5⟩ := hSw; go_simp; try with_reducible rfl)
            simp only [Act.put]
            refine wpAnyH_ready (rs := [10]) (by kernel_rfl) (by simp) ?_
            refine AllReadyH.cons rfl (fun K hK => ?_) AllReadyH.nil
            go_simp
            refine hK.out _ _ ?_ (fun hHeld => ?_)
            · exact HS9b.out W9 _ hgr9
            clear hK K
            try simp only [Act.put, List.setIfInBounds_toArray, List.set_cons_zero, List.set_cons_succ]
            refine wpAnyH_done (by kernel_rfl) ?_ _
            refine ⟨rfl, ⟨W9, g9, cap9, rfl, hgr9, hown9⟩, ?_⟩
            (repeat apply Exists.intro)
            rfl

        case rest =>
          rintro e a' w' ⟨rfl, ⟨W9, g9, cap9, rfl, hgr9, hown9⟩, u79, u80, u81, u82, u83, u84, u85, u86, u87, u88, rfl⟩
          obtain ⟨n0, n1, n2⟩ := HQ9.out W9 hgr9
          have hb39 : Below W3.heap.size W3 W9 := (b38.trans (hx0.mono b38.size)).grown hgr9 (by rw [HSE.out]; have := b38.size; omega) (fun k hk => by simp at hk; omega)
          obtain ⟨W10, hW10⟩ : ∃ W10, W9.setCell ⟨W3.heap.size, 1, none⟩ (.slice (some ⟨g9, 0, none⟩) (vs.length + 1) cap9) = W10 := ⟨_, rfl⟩
          have b310 : Below W3.heap.size W3 W10 := by rw [← hW10]; exact hb39.setCell (p := ⟨W3.heap.size, 1, none⟩) (Nat.le_refl _) _
          have k10 : Below w.heap.size w W10 := k3.trans (b310.mono k3.size)
          have qq0 : W10.cell? ⟨W3.heap.size, 0, none⟩ = some (.slice pa ps.length pc) := by rw [← hW10, cell_off (by omega)]; exact n0
          have qq1 : W10.cell? ⟨W3.heap.size, 1, none⟩ = some (.slice (some ⟨g9, 0, none⟩) (vs.length + 1) cap9) := by rw [← hW10]; exact cell_set n1
          have R10 : W10.ownsRow (W3.heap.size + 1) 58 5 (.slice (some ⟨g9, 0, none⟩) (vs.length + 1) cap9) (vs.length + 1) (cellsR (((vs.set a vs[b]).set b vs[a]) ++ [vs[a]])) := by
            rw [cellsR_append, ← hW10]
            have h := Base.own_set (b := W3.heap.size) (o := 1) (u := Value.slice (some ⟨g9, 0, none⟩) (vs.length + 1) cap9) hown9 (fun q hq => by have := (hown9.lt q hq).1; omega)
            have hc : cellsR [vs[a]] = [.int .i64 vs[a].r.head.pred, .slice xha vs[a].r.head.args.length xhc, .int .i64 vs[a].r.src, .int .i64 vs[a].r.n, .slice xba vs[a].r.body.length xbc] := by show [_, vs[a].hv, _, _, vs[a].bv] = _; rw [hxh, hxb]
            rw [hc]
            exact h
          have HRQ : Hid (rulesAt W10 (.slice (some ⟨g9, 0, none⟩) (vs.length + 1) cap9) (swapped rs a b)) := by
            have h := HSO.out
            have hm := HSM.out
            rw [HSW.out, if_pos h8'] at h hm
            show rulesAt _ _ _
            rw [← hm]
            have hle : (((vs.set a vs[b]).set b vs[a]) ++ [vs[a]]).length = vs.length + 1 := by simp
            exact rulesAt_own (by rw [hle]; exact R10) (by rw [hle]; omega) (fun x hx => RVok.lasts k10 (h x hx))
          rw [hW10]
          clear hW10 n0 n1 n2 p0 p1
          have HMQ := HMO.out W10 _ _ k10 HRQ.out
          rw [HOS.out.1, HOS.out.2.1] at HMQ
          have HQL : Hid (∀ x, Below W10.heap.size W10 x → rulesAt x (.slice (some ⟨g9, 0, none⟩) (vs.length + 1) cap9) (swapped rs a b)) := fun x hx => rulesAt.lasts hx HRQ.out
          have HQB : Hid (∀ x, Below W10.heap.size W10 x → x.cell? ⟨W3.heap.size, 0, none⟩ = some (.slice pa ps.length pc) ∧ x.cell? ⟨W3.heap.size, 1, none⟩ = some (.slice (some ⟨g9, 0, none⟩) (vs.length + 1) cap9)) := fun x hx => ⟨(cell_lasts hx (Fire.cell_bound qq0)).trans qq0, (cell_lasts hx (Fire.cell_bound qq1)).trans qq1⟩
          have HFW : Hid (∀ x, Below W10.heap.size W10 x → Below W1.heap.size W1 x ∧ Below W2.heap.size W2 x) := fun x hx => by
            have h3 : Below W3.heap.size W3 x := b310.trans (hx.mono b310.size)
            have h2 : Below W2.heap.size W2 x := hb3.trans (h3.mono hb3.size)
            exact ⟨hb2.trans (h2.mono hb2.size), h2⟩
          go_wp2_with fail
          refine HMQ.mono ?_
          rintro e X1 ⟨f9, rfl, hf9, hb9⟩
          have kx1 : Below w.heap.size w X1 := k10.trans (hb9.mono k10.size)
          have HF9 : Hid (∀ x, Below X1.heap.size X1 x → factsAt x f9 (modelF ps rs)) := fun x hx => factsAt.lasts hx hf9
          obtain ⟨ga, gc, rfl, _⟩ := hf9
          clear qq0 qq1 HMQ
          obtain ⟨qq0, qq1⟩ := HQB.out X1 hb9
          have HRX := HRO.out X1 _ _ kx1 (HQL.out X1 hb9)
          rw [HOS.out.1, HOS.out.2.2] at HRX
          go_wp2_with fail
          refine HRX.mono ?_
          rintro e X2 ⟨l9, rfl, hl9, hbx⟩
          have kx2 : Below w.heap.size w X2 := kx1.trans (hbx.mono kx1.size)
          have HL9 : Hid (∀ x, Below X2.heap.size X2 x → intsAt x l9 (roundsF ps rs)) := fun x hx => Prog.intsAt.lasts hx hl9
          obtain ⟨ma, mc, rfl, _⟩ := hl9
          go_wp2_with fail
          refine (naiveBegun_c _).mono ?_
          rintro e X3 ⟨rfl, hby⟩
          have kx3 : Below w.heap.size w X3 := kx2.trans (hby.mono kx2.size)
          have qx2 : Below W10.heap.size W10 X2 := hb9.trans (hbx.mono hb9.size)
          have qx3 : Below W10.heap.size W10 X3 := qx2.trans (hby.mono qx2.size)
          have HSF : Hid (Calls Tryz.prog 12 #[.slice fa (modelF ps rs).length fc, .slice ga (modelF ps rs).length gc] X3 fun e w' => e = .returned (.bool true) ∧ Below X3.heap.size X3 w') := by
            have h := Base.sameFacts_c X3 _ _ (modelF ps rs) (modelF ps rs) (HF1.out X3 (HFW.out X3 qx3).1) (HF9.out X3 (hbx.trans (hby.mono hbx.size)))
            rw [decide_eq_true rfl] at h
            exact h
          go_wp2_with fail
          refine HSF.out.mono ?_
          rintro e X4 ⟨rfl, hbz⟩
          have kx4 : Below w.heap.size w X4 := kx3.trans (hbz.mono kx3.size)
          have HSI : Hid (Calls Tryz.prog 21 #[.slice la (roundsF ps rs).length lc, .slice ma (roundsF ps rs).length mc] X4 fun e w' => e = .returned (.bool true) ∧ Below X4.heap.size X4 w') := by
            have qx4 : Below W10.heap.size W10 X4 := qx3.trans (hbz.mono qx3.size)
            have h := Prog.sameInts_c X4 _ _ (roundsF ps rs) (roundsF ps rs) (HL2.out X4 (HFW.out X4 qx4).2) (HL9.out X4 (hby.trans (hbz.mono hby.size)))
            rw [decide_eq_true rfl] at h
            exact h
          go_wp2_with fail
          refine HSI.out.mono ?_
          rintro e X5 ⟨rfl, hbv⟩
          go_wp2_with fail
          go_ret
          exact ⟨rfl, kx4.trans (hbv.mono kx4.size)⟩

      · have hlt8 : ¬ (vs.length : Int) < 8 := by omega
        have HRQ : Hid (rulesAt W8 (.slice (some ⟨g, 0, none⟩) vs.length cap) (swapped rs a b)) := by
          have h := HSO.out
          have hm := HSM.out
          rw [HSW.out, if_neg h8'] at h hm
          show rulesAt _ _ _
          rw [← hm]
          exact rulesAt_own (by simp only [List.length_set]; exact R8) (by simp; omega) (fun x hx => RVok.lasts k8 (h x hx))
        obtain ⟨qq0, qq1⟩ := q8
        clear p0 p1
        have HMQ := HMO.out W8 _ _ k8 HRQ.out
        rw [HOS.out.1, HOS.out.2.1] at HMQ
        have HQL : Hid (∀ x, Below W8.heap.size W8 x → rulesAt x (.slice (some ⟨g, 0, none⟩) vs.length cap) (swapped rs a b)) := fun x hx => rulesAt.lasts hx HRQ.out
        have HQB : Hid (∀ x, Below W8.heap.size W8 x → x.cell? ⟨W3.heap.size, 0, none⟩ = some (.slice pa ps.length pc) ∧ x.cell? ⟨W3.heap.size, 1, none⟩ = some (.slice (some ⟨g, 0, none⟩) vs.length cap)) := fun x hx => ⟨(cell_lasts hx (Fire.cell_bound qq0)).trans qq0, (cell_lasts hx (Fire.cell_bound qq1)).trans qq1⟩
        have HFW : Hid (∀ x, Below W8.heap.size W8 x → Below W1.heap.size W1 x ∧ Below W2.heap.size W2 x) := fun x hx => by
          have h3 : Below W3.heap.size W3 x := b38.trans (hx.mono b38.size)
          have h2 : Below W2.heap.size W2 x := hb3.trans (h3.mono hb3.size)
          exact ⟨hb2.trans (h2.mono hb2.size), h2⟩
        go_wp2_with fail
        refine HMQ.mono ?_
        rintro e X1 ⟨f9, rfl, hf9, hb9⟩
        have kx1 : Below w.heap.size w X1 := k8.trans (hb9.mono k8.size)
        have HF9 : Hid (∀ x, Below X1.heap.size X1 x → factsAt x f9 (modelF ps rs)) := fun x hx => factsAt.lasts hx hf9
        obtain ⟨ga, gc, rfl, _⟩ := hf9
        clear qq0 qq1 HMQ
        obtain ⟨qq0, qq1⟩ := HQB.out X1 hb9
        have HRX := HRO.out X1 _ _ kx1 (HQL.out X1 hb9)
        rw [HOS.out.1, HOS.out.2.2] at HRX
        go_wp2_with fail
        refine HRX.mono ?_
        rintro e X2 ⟨l9, rfl, hl9, hbx⟩
        have kx2 : Below w.heap.size w X2 := kx1.trans (hbx.mono kx1.size)
        have HL9 : Hid (∀ x, Below X2.heap.size X2 x → intsAt x l9 (roundsF ps rs)) := fun x hx => Prog.intsAt.lasts hx hl9
        obtain ⟨ma, mc, rfl, _⟩ := hl9
        go_wp2_with fail
        refine (naiveBegun_c _).mono ?_
        rintro e X3 ⟨rfl, hby⟩
        have kx3 : Below w.heap.size w X3 := kx2.trans (hby.mono kx2.size)
        have qx2 : Below W8.heap.size W8 X2 := hb9.trans (hbx.mono hb9.size)
        have qx3 : Below W8.heap.size W8 X3 := qx2.trans (hby.mono qx2.size)
        have HSF : Hid (Calls Tryz.prog 12 #[.slice fa (modelF ps rs).length fc, .slice ga (modelF ps rs).length gc] X3 fun e w' => e = .returned (.bool true) ∧ Below X3.heap.size X3 w') := by
          have h := Base.sameFacts_c X3 _ _ (modelF ps rs) (modelF ps rs) (HF1.out X3 (HFW.out X3 qx3).1) (HF9.out X3 (hbx.trans (hby.mono hbx.size)))
          rw [decide_eq_true rfl] at h
          exact h
        go_wp2_with fail
        refine HSF.out.mono ?_
        rintro e X4 ⟨rfl, hbz⟩
        have kx4 : Below w.heap.size w X4 := kx3.trans (hbz.mono kx3.size)
        have HSI : Hid (Calls Tryz.prog 21 #[.slice la (roundsF ps rs).length lc, .slice ma (roundsF ps rs).length mc] X4 fun e w' => e = .returned (.bool true) ∧ Below X4.heap.size X4 w') := by
          have qx4 : Below W8.heap.size W8 X4 := qx3.trans (hbz.mono qx3.size)
          have h := Prog.sameInts_c X4 _ _ (roundsF ps rs) (roundsF ps rs) (HL2.out X4 (HFW.out X4 qx4).2) (HL9.out X4 (hby.trans (hbz.mono hby.size)))
          rw [decide_eq_true rfl] at h
          exact h
        go_wp2_with fail
        refine HSI.out.mono ?_
        rintro e X5 ⟨rfl, hbv⟩
        go_wp2_with fail
        go_ret
        exact ⟨rfl, kx4.trans (hbv.mono kx4.size)⟩
  · have hpe' : (progErr ps rs == 0) = false := by simpa using hpe
    obtain ⟨ra, rc, rfl, _⟩ := hr
    have HM0 := HMO.out _ _ rs (below_alloc w (.cells #[.slice pa ps.length pc, .slice ra rs.length rc] 25)) (HR.out _ (below_alloc _ _))
    go_enter Tryz.func8, Tryz.ntmps8
    go_wp2_with fail
    refine HM0.mono ?_
    rintro e W1 ⟨f1, rfl, hf1, hb1⟩
    have k1 : Below w.heap.size w W1 := below_trans (below_alloc _ _) hb1
    obtain ⟨c0, c1, _⟩ := Prog.boxL hb1
    obtain ⟨fa, fc, rfl, _⟩ := hf1
    have HR0 := HRO.out W1 _ rs k1 (HR.out _ k1)
    go_wp2_with fail
    refine HR0.mono ?_
    rintro e W2 ⟨l2, rfl, hl2, hb2⟩
    have k2 : Below w.heap.size w W2 := k1.trans (hb2.mono k1.size)
    obtain ⟨la, lc, rfl, _⟩ := hl2
    go_wp2_with fail
    refine (naiveBegun_c _).mono ?_
    rintro e W4 ⟨rfl, hb4⟩
    go_wp2_with fail
    go_ret
    exact ⟨rfl, k2.trans (hb4.mono k2.size)⟩
end Go.Proofs.YtlfccloaoopadadGreat.Naive
