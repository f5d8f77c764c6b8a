/-
  Strata found by raising one number at a time, the document's rounds, and what is needed, in plain numbers. No program is spoken of here.
-/
import Derived.Test.YtgbacodellfacabStrataPlain
namespace Go.Proofs.Ytgbacodellfacab.Strata

/-! ### Raising one number at a time, and beginning again -/
structure Kept (E : List Edge) (n : Nat) (l : List Nat) : Prop where
  len : l.length = n
  small : ∀ k, k < n → at_ l k < n
  least : ∀ s, Sol E s → ∀ k, at_ l k ≤ s k
def raise (l : List Nat) (e : Edge) : List Nat := l.set e.h (at_ l e.b + e.up)
theorem kept_zero (E : List Edge) (n : Nat) : Kept E n (List.replicate n 0) :=
  ⟨by simp, fun k hk => by rw [zeros]; omega, fun s _ k => by rw [zeros]; exact Nat.zero_le _⟩
theorem up_le (e : Edge) : e.up ≤ 1 := by unfold Edge.up; split <;> omega
theorem kept_raise {E : List Edge} {n : Nat} {l : List Nat} {e : Edge} (hE : Within E n) (h : Kept E n l) (he : e ∈ E) (hs : at_ l e.b + e.up ≠ n) : Kept E n (raise l e) := by
  have h1 := hE e he
  have hb := h.small e.b h1.2
  have hu := up_le e
  have hh : e.h < l.length := by rw [h.len]; exact h1.1
  refine ⟨by rw [raise, List.length_set, h.len], fun k hk => ?_, fun s hsol k => ?_⟩
  · rw [raise, at_set hh]
    split
    · omega
    · exact h.small k hk
  · rw [raise, at_set hh]
    split
    · rename_i q
      subst q
      have := h.least s hsol e.b
      have := hsol e he
      omega
    · exact h.least s hsol k
theorem raise_more {E : List Edge} {n : Nat} {l : List Nat} {e : Edge} (hE : Within E n) (h : Kept E n l) (he : e ∈ E) (hr : at_ l e.h < at_ l e.b + e.up) : l.sum < (raise l e).sum := by
  have hh : e.h < l.length := by rw [h.len]; exact (hE e he).1
  refine sum_lt (by rw [raise, List.length_set]) (fun k => ?_) (fun q => ?_)
  · rw [raise, at_set hh]
    split
    · rename_i q; subst q; omega
    · exact Nat.le_refl _
  · have : at_ l e.h = at_ (raise l e) e.h := by rw [← q]
    rw [raise, at_set hh, if_pos rfl] at this
    omega
theorem kept_sum {E : List Edge} {n : Nat} {l : List Nat} (h : Kept E n l) : l.sum ≤ n * n := by
  have := sum_le (c := n) (l := l) (fun k hk => Nat.le_of_lt (h.small k (by rw [← h.len]; exact hk)))
  rwa [h.len] at this
theorem kept_round {E : List Edge} {n : Nat} {l : List Nat} {e : Edge} (hE : Within E n) (h : Kept E n l) (he : e ∈ E) (hs : at_ l e.b + e.up = n) : strataL E n = none := by
  cases hx : strataL E n with
  | none => rfl
  | some m =>
    exfalso
    obtain ⟨_, g1, _⟩ := strata_some hE hx
    have hr := rank_sol hE g1
    have h1 := h.least _ hr e.b
    have h2 := hr e he
    have h3 := rank_small (s := at_ m) (hE e he).1
    omega
theorem kept_done {E : List Edge} {n : Nat} {l : List Nat} (hE : Within E n) (h : Kept E n l) (hd : ∀ e ∈ E, ¬ at_ l e.h < at_ l e.b + e.up) : strataL E n = some l :=
  strata_eq hE h.len (fun e he => by have := hd e he; omega) h.least

/-! ### The document's rounds -/
/-- a round that raised something has not come back -/
theorem round_ne {E : List Edge} {n : Nat} (hE : Within E n) {l m : List Nat} {e : Edge} (he : e.h < n) (hl : l.length = n) (hm : m = roundL E l) (hr : at_ m e.h < at_ m e.b + e.up) : step m e ≠ l := by
  intro q
  have h1 := round_up hE hl e.h
  rw [← hm] at h1
  have hml : m.length = n := by rw [hm, round_length, hl]
  have : at_ (step m e) e.h = at_ m e.b + e.up := by
    rw [step, if_pos hr, at_set (by rw [hml]; exact he), if_pos rfl]
  rw [q] at this
  omega
theorem round_snoc (E : List Edge) (e : Edge) (l : List Nat) : roundL (E ++ [e]) l = step (roundL E l) e := by
  unfold roundL
  rw [List.foldl_append]
  rfl
theorem step_bound {l : List Nat} {e : Edge} {c : Nat} (he : e.h < l.length) (h : ∀ k, at_ l k ≤ c) (k : Nat) : at_ (step l e) k ≤ c + 1 := by
  have hu := up_le e
  unfold step
  split
  · rw [at_set he]
    split
    · have := h e.b; omega
    · have := h k; omega
  · have := h k; omega

/-! ### What is needed -/
def bat (l : List Bool) (k : Nat) : Bool := l.getD k false
def stepB (l : List Bool) (e : Edge) : List Bool := if bat l e.h then l.set e.b true else l
def roundB (E : List Edge) (l : List Bool) : List Bool := E.foldl stepB l
def roundsB (E : List Edge) : Nat → List Bool → List Bool
  | 0, l => l
  | f + 1, l => roundsB E f (roundB E l)
def one (n p : Nat) : List Bool := (List.replicate n false).set p true
def ClosedB (E : List Edge) (s : Nat → Bool) : Prop := ∀ e ∈ E, s e.h = true → s e.b = true
structure LeastB (E : List Edge) (n p : Nat) (l : List Bool) : Prop where
  len : l.length = n
  self : bat l p = true
  closed : ClosedB E (bat l)
  least : ∀ s, ClosedB E s → s p = true → ∀ k, bat l k = true → s k = true
structure KeptB (E : List Edge) (n p : Nat) (l : List Bool) : Prop where
  len : l.length = n
  self : bat l p = true
  least : ∀ s, ClosedB E s → s p = true → ∀ k, bat l k = true → s k = true
theorem bat_set {l : List Bool} {h k : Nat} {v : Bool} (hh : h < l.length) : bat (l.set h v) k = if k = h then v else bat l k := by
  unfold bat
  by_cases e : k = h
  · subst e
    rw [if_pos rfl, List.getD_eq_getElem?_getD, List.getElem?_set_self hh]
    rfl
  · rw [if_neg e, List.getD_eq_getElem?_getD, List.getElem?_set_ne (fun q => e q.symm), List.getD_eq_getElem?_getD]
theorem listB_ext {l m : List Bool} (h : l.length = m.length) (he : ∀ k, bat l k = bat m k) : l = m := by
  apply List.ext_getElem h
  intro k h1 h2
  have := he k
  unfold bat at this
  rw [List.getD_eq_getElem?_getD, List.getD_eq_getElem?_getD, List.getElem?_eq_getElem h1, List.getElem?_eq_getElem h2] at this
  exact this
theorem bat_falses (n k : Nat) : bat (List.replicate n false) k = false := by
  unfold bat
  rw [List.getD_eq_getElem?_getD, List.getElem?_replicate]
  split <;> rfl
theorem bat_one {n p : Nat} (hp : p < n) (k : Nat) : bat (one n p) k = decide (k = p) := by
  rw [one, bat_set (by simpa using hp), bat_falses]
  split <;> simp [*]
theorem keptB_one {E : List Edge} {n p : Nat} (hp : p < n) : KeptB E n p (one n p) :=
  ⟨by simp [one], by rw [bat_one hp]; simp, fun s _ hs k hk => by rw [bat_one hp] at hk; rw [of_decide_eq_true hk]; exact hs⟩
theorem keptB_set {E : List Edge} {n p : Nat} {l : List Bool} {e : Edge} (hE : Within E n) (h : KeptB E n p l) (he : e ∈ E) (hb : bat l e.h = true) : KeptB E n p (l.set e.b true) := by
  have hh : e.b < l.length := by rw [h.len]; exact (hE e he).2
  refine ⟨by rw [List.length_set, h.len], ?_, fun s hs hp k hk => ?_⟩
  · rw [bat_set hh]; split
    · rfl
    · exact h.self
  · rw [bat_set hh] at hk
    split at hk
    · rename_i q; subst q; exact hs e he (h.least s hs hp _ hb)
    · exact h.least s hs hp k hk
theorem keptB_step {E : List Edge} {n p : Nat} {l : List Bool} {e : Edge} (hE : Within E n) (h : KeptB E n p l) (he : e ∈ E) : KeptB E n p (stepB l e) := by
  unfold stepB
  split
  · rename_i hb; exact keptB_set hE h he hb
  · exact h
theorem keptB_done {E : List Edge} {n p : Nat} {l : List Bool} (h : KeptB E n p l) (hd : ∀ e ∈ E, bat l e.h = true → bat l e.b = true) : LeastB E n p l := ⟨h.len, h.self, hd, h.least⟩
theorem least_eq {E : List Edge} {n p : Nat} {l m : List Bool} (h : LeastB E n p l) (g : LeastB E n p m) : l = m := by
  refine listB_ext (by rw [h.len, g.len]) fun k => ?_
  have h1 := h.least _ g.closed g.self k
  have h2 := g.least _ h.closed h.self k
  cases e1 : bat l k <;> cases e2 : bat m k <;> simp_all
/-- how many are needed -/
def cntB (l : List Bool) : Nat := l.countP id
theorem cntB_le (l : List Bool) : cntB l ≤ l.length := List.countP_le_length
theorem cntB_set : ∀ {l : List Bool} {k : Nat}, k < l.length → bat l k = false → cntB (l.set k true) = cntB l + 1
  | [], k, h, _ => absurd h (by simp)
  | x :: l, 0, h, hb => by
    obtain rfl : x = false := hb
    simp [cntB]
  | x :: l, k + 1, h, hb => by
    have := cntB_set (l := l) (k := k) (by simpa using h) hb
    unfold cntB at this ⊢
    simp only [List.set_cons_succ, List.countP_cons, this]
    omega
theorem set_same : ∀ {l : List Bool} {k : Nat}, bat l k = true → l.set k true = l
  | [], k, h => by simp
  | x :: l, 0, h => by
    obtain rfl : x = true := h
    rfl
  | x :: l, k + 1, h => by
    rw [List.set_cons_succ, set_same (l := l) (k := k) h]
theorem stepB_cnt {l : List Bool} {e : Edge} (he : e.b < l.length) : stepB l e = l ∨ cntB (stepB l e) = cntB l + 1 := by
  unfold stepB
  split
  · cases hb : bat l e.b
    · exact .inr (cntB_set he hb)
    · exact .inl (set_same hb)
  · exact .inl rfl
theorem stepB_length (l : List Bool) (e : Edge) : (stepB l e).length = l.length := by
  unfold stepB
  split <;> simp
theorem roundB_length (E : List Edge) : ∀ l, (roundB E l).length = l.length := by
  induction E with
  | nil => intro l; rfl
  | cons e E ih => intro l; show (roundB E (stepB l e)).length = _; rw [ih, stepB_length]
theorem roundB_snoc (E : List Edge) (e : Edge) (l : List Bool) : roundB (E ++ [e]) l = stepB (roundB E l) e := by
  unfold roundB
  rw [List.foldl_append]
  rfl
theorem roundB_cnt {E : List Edge} {n : Nat} (hE : Within E n) : ∀ {l : List Bool}, l.length = n → cntB l ≤ cntB (roundB E l) ∧ (cntB (roundB E l) = cntB l → roundB E l = l ∧ ∀ e ∈ E, stepB l e = l) := by
  induction E with
  | nil => intro l _; exact ⟨Nat.le_refl _, fun _ => ⟨rfl, fun e he => by cases he⟩⟩
  | cons e E ih =>
    intro l hl
    have heb : e.b < l.length := by rw [hl]; exact (hE e (by simp)).2
    obtain ⟨h1, h2⟩ := ih (fun x hx => hE x (by simp [hx])) (l := stepB l e) (by rw [stepB_length]; exact hl)
    have hr : roundB (e :: E) l = roundB E (stepB l e) := rfl
    rw [hr]
    rcases stepB_cnt heb with q | q
    · rw [q] at h1 h2 ⊢
      refine ⟨h1, fun h => ?_⟩
      obtain ⟨g1, g2⟩ := h2 h
      refine ⟨g1, fun x hx => ?_⟩
      rcases List.mem_cons.1 hx with rfl | hx
      · exact q
      · exact g2 x hx
    · exact ⟨by omega, fun h => by omega⟩
theorem stepB_fix {l : List Bool} {e : Edge} (he : e.b < l.length) (h : stepB l e = l) (hb : bat l e.h = true) : bat l e.b = true := by
  unfold stepB at h
  rw [if_pos hb] at h
  have : bat (l.set e.b true) e.b = bat l e.b := by rw [h]
  rw [bat_set he, if_pos rfl] at this
  exact this.symm
theorem keptB_round {E D : List Edge} {n p : Nat} (hE : Within E n) (hD : ∀ e ∈ D, e ∈ E) {l : List Bool} (h : KeptB E n p l) : KeptB E n p (roundB D l) := by
  induction D generalizing l with
  | nil => exact h
  | cons e D ih => exact ih (fun x hx => hD x (by simp [hx])) (keptB_step hE h (hD e (by simp)))
theorem cnt_pos {l : List Bool} {p : Nat} (h : bat l p = true) : 1 ≤ cntB l := by
  unfold cntB
  refine List.countP_pos_iff.2 ⟨true, ?_, rfl⟩
  unfold bat at h
  rw [List.getD_eq_getElem?_getD] at h
  cases hx : l[p]? with
  | none => rw [hx] at h; cases h
  | some v => rw [hx] at h; cases v; · cases h
              exact List.mem_of_getElem? hx
theorem roundsB_least {E : List Edge} {n p : Nat} (hE : Within E n) : ∀ {f : Nat} {l : List Bool}, KeptB E n p l → n < cntB l + f → LeastB E n p (roundsB E f l) ∧ (∀ e ∈ E, stepB (roundsB E f l) e = roundsB E f l)
  | 0, l, h, hf => by
    exfalso
    have := cntB_le l
    rw [h.len] at this
    omega
  | f + 1, l, h, hf => by
    obtain ⟨h1, h2⟩ := roundB_cnt hE h.len
    by_cases q : cntB (roundB E l) = cntB l
    · obtain ⟨g1, g2⟩ := h2 q
      have hfix : ∀ f, roundsB E f l = l := by
        intro f
        induction f with
        | zero => rfl
        | succ f ih => rw [roundsB, g1, ih]
      rw [hfix]
      exact ⟨keptB_done h fun e he hb => stepB_fix (by rw [h.len]; exact (hE e he).2) (g2 e he) hb, g2⟩
    · exact roundsB_least (f := f) (l := roundB E l) hE (keptB_round hE (fun _ h => h) h) (by omega)
def needsL (E : List Edge) (n p : Nat) : List Bool := roundsB E n (one n p)
/-- C3: the least that is closed -/
theorem needs_least {E : List Edge} {n p : Nat} (hE : Within E n) (hp : p < n) : LeastB E n p (needsL E n p) := by
  have h := keptB_one (E := E) hp
  exact (roundsB_least hE h (by have := cnt_pos h.self; omega)).1
theorem roundsB_succ (E : List Edge) : ∀ (f : Nat) (l : List Bool), roundsB E (f + 1) l = roundB E (roundsB E f l)
  | 0, l => rfl
  | f + 1, l => by rw [roundsB, roundsB_succ E f]; rfl
end Go.Proofs.Ytgbacodellfacab.Strata

