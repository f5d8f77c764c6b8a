/-
  How the program's data lie in memory: terms, atoms, literals, rules, predicates, facts. Plain relations between a world and plain lists, and that they last where nothing old is turned. No program is spoken of here.
-/
import Derived.WalkKit
import Derived.WalkSpells
import Derived.ProofKit
import Derived.OpenShut
import Derived.WalkSmall
import Derived.WalkLawsBesides
import Derived.Outline
import Derived.SizedLaws
import Derived.Test.YtlfccloaoopadafGreatDoorG4
namespace Go.Proofs.YtlfccloaoopadafGreatDoor
open Go.RowKit

structure Tm where
  var : Bool
  n : Int
structure Atm where
  pred : Int
  args : List Tm
structure Ltr where
  neg : Bool
  atom : Atm
structure Rul where
  head : Atm
  src : Int
  n : Int
  body : List Ltr
structure Prd where
  name : ByteArray
  arity : Int
  kind : Int
structure Fct where
  pred : Int
  a : Int
  b : Int
  val : Int

/-- v is a slice of the list xs; an element takes sz cells. -/
def sliceAt {α : Type} (sz : Nat) (At : World → Nat → Nat → α → Prop) (w : World) (v : Value) (xs : List α) : Prop :=
  ∃ a cap, v = .slice a xs.length cap ∧ xs.length ≤ 140737488355328 ∧ (xs = [] ∨ ∃ b off, a = some ⟨b, off, none⟩ ∧ b < w.heap.size ∧ ∀ i x, xs[i]? = some x → At w b (off + i * sz) x)

def termAt (w : World) (b o : Nat) (t : Tm) : Prop := w.cell? ⟨b, o, none⟩ = some (.bool t.var) ∧ w.cell? ⟨b, o + 1, none⟩ = some (.int .i64 t.n)
abbrev termsAt : World → Value → List Tm → Prop := sliceAt 2 termAt
def litAt (w : World) (b o : Nat) (l : Ltr) : Prop :=
  w.cell? ⟨b, o, none⟩ = some (.bool l.neg) ∧ w.cell? ⟨b, o + 1, none⟩ = some (.int .i64 l.atom.pred) ∧ ∃ v, w.cell? ⟨b, o + 2, none⟩ = some v ∧ termsAt w v l.atom.args
abbrev litsAt : World → Value → List Ltr → Prop := sliceAt 3 litAt
def predAt (w : World) (b o : Nat) (p : Prd) : Prop :=
  w.cell? ⟨b, o, none⟩ = some (.string p.name) ∧ w.cell? ⟨b, o + 1, none⟩ = some (.int .i64 p.arity) ∧ w.cell? ⟨b, o + 2, none⟩ = some (.int .i64 p.kind)
abbrev predsAt : World → Value → List Prd → Prop := sliceAt 3 predAt
def ruleAt (w : World) (b o : Nat) (r : Rul) : Prop :=
  w.cell? ⟨b, o, none⟩ = some (.int .i64 r.head.pred) ∧ (∃ v, w.cell? ⟨b, o + 1, none⟩ = some v ∧ termsAt w v r.head.args) ∧ w.cell? ⟨b, o + 2, none⟩ = some (.int .i64 r.src) ∧
    w.cell? ⟨b, o + 3, none⟩ = some (.int .i64 r.n) ∧ ∃ v, w.cell? ⟨b, o + 4, none⟩ = some v ∧ litsAt w v r.body
abbrev rulesAt : World → Value → List Rul → Prop := sliceAt 5 ruleAt
def atomAt (w : World) (b o : Nat) (a : Atm) : Prop := w.cell? ⟨b, o, none⟩ = some (.int .i64 a.pred) ∧ ∃ v, w.cell? ⟨b, o + 1, none⟩ = some v ∧ termsAt w v a.args
abbrev atomsAt : World → Value → List Atm → Prop := sliceAt 2 atomAt
def factAt (w : World) (b o : Nat) (f : Fct) : Prop :=
  w.cell? ⟨b, o, none⟩ = some (.int .i64 f.pred) ∧ w.cell? ⟨b, o + 1, none⟩ = some (.int .i64 f.a) ∧ w.cell? ⟨b, o + 2, none⟩ = some (.int .i64 f.b) ∧ w.cell? ⟨b, o + 3, none⟩ = some (.int .i64 f.val)
abbrev factsAt : World → Value → List Fct → Prop := sliceAt 4 factAt

/-! ### They last -/
/-- what lies below B lasts where nothing below B is turned -/
def Lasts {α : Type} (At : World → Nat → Nat → α → Prop) : Prop := ∀ (w w' : World) (b o : Nat) (x : α), Below w.heap.size w w' → b < w.heap.size → At w b o x → At w' b o x

theorem sliceAt.lasts {α : Type} {sz : Nat} {At : World → Nat → Nat → α → Prop} (h : Lasts At) {w w' : World} {v : Value} {xs : List α} (hb : Below w.heap.size w w') (hs : sliceAt sz At w v xs) : sliceAt sz At w' v xs := by
  obtain ⟨a, cap, hv, hl, hx⟩ := hs
  refine ⟨a, cap, hv, hl, ?_⟩
  rcases hx with hx | ⟨b, off, ha, hlt, hx⟩
  · exact .inl hx
  · exact .inr ⟨b, off, ha, Nat.lt_of_lt_of_le hlt hb.size, fun i x hi => h w w' b _ x hb hlt (hx i x hi)⟩
theorem cell_lasts {w w' : World} (hb : Below w.heap.size w w') {b o : Nat} (h : b < w.heap.size) : w'.cell? ⟨b, o, none⟩ = w.cell? ⟨b, o, none⟩ := hb.cell (p := ⟨b, o, none⟩) h
theorem termAt.lasts : Lasts termAt := fun w w' b o x hb hlt ⟨h1, h2⟩ => ⟨by rw [cell_lasts hb hlt, h1], by rw [cell_lasts hb hlt, h2]⟩
theorem termsAt.lasts {w w' : World} {v : Value} {xs : List Tm} (hb : Below w.heap.size w w') (h : termsAt w v xs) : termsAt w' v xs := sliceAt.lasts termAt.lasts hb h
theorem litAt.lasts : Lasts litAt := fun w w' b o x hb hlt ⟨h1, h2, v, h3, h4⟩ => ⟨by rw [cell_lasts hb hlt, h1], by rw [cell_lasts hb hlt, h2], v, by rw [cell_lasts hb hlt, h3], termsAt.lasts hb h4⟩
theorem litsAt.lasts {w w' : World} {v : Value} {xs : List Ltr} (hb : Below w.heap.size w w') (h : litsAt w v xs) : litsAt w' v xs := sliceAt.lasts litAt.lasts hb h
theorem predAt.lasts : Lasts predAt := fun w w' b o x hb hlt ⟨h1, h2, h3⟩ => ⟨by rw [cell_lasts hb hlt, h1], by rw [cell_lasts hb hlt, h2], by rw [cell_lasts hb hlt, h3]⟩
theorem predsAt.lasts {w w' : World} {v : Value} {xs : List Prd} (hb : Below w.heap.size w w') (h : predsAt w v xs) : predsAt w' v xs := sliceAt.lasts predAt.lasts hb h
theorem ruleAt.lasts : Lasts ruleAt := fun w w' b o x hb hlt ⟨h1, ⟨v, h2, h3⟩, h4, h5, u, h6, h7⟩ => ⟨by rw [cell_lasts hb hlt, h1], ⟨v, by rw [cell_lasts hb hlt, h2], termsAt.lasts hb h3⟩, by rw [cell_lasts hb hlt, h4], by rw [cell_lasts hb hlt, h5], u, by rw [cell_lasts hb hlt, h6], litsAt.lasts hb h7⟩
theorem rulesAt.lasts {w w' : World} {v : Value} {xs : List Rul} (hb : Below w.heap.size w w') (h : rulesAt w v xs) : rulesAt w' v xs := sliceAt.lasts ruleAt.lasts hb h
theorem atomAt.lasts : Lasts atomAt := fun w w' b o x hb hlt ⟨h1, v, h2, h3⟩ => ⟨by rw [cell_lasts hb hlt, h1], v, by rw [cell_lasts hb hlt, h2], termsAt.lasts hb h3⟩
theorem atomsAt.lasts {w w' : World} {v : Value} {xs : List Atm} (hb : Below w.heap.size w w') (h : atomsAt w v xs) : atomsAt w' v xs := sliceAt.lasts atomAt.lasts hb h
theorem factAt.lasts : Lasts factAt := fun w w' b o x hb hlt ⟨h1, h2, h3, h4⟩ => ⟨by rw [cell_lasts hb hlt, h1], by rw [cell_lasts hb hlt, h2], by rw [cell_lasts hb hlt, h3], by rw [cell_lasts hb hlt, h4]⟩
theorem factsAt.lasts {w w' : World} {v : Value} {xs : List Fct} (hb : Below w.heap.size w w') (h : factsAt w v xs) : factsAt w' v xs := sliceAt.lasts factAt.lasts hb h

/-- old cells and marks, for a walk: two rules -/
theorem bcell {W w1 : World} (hb : Below W.heap.size W w1) : (∀ b o, b < W.heap.size → w1.cell? ⟨b, o, none⟩ = W.cell? ⟨b, o, none⟩) ∧ (∀ b o, b < W.heap.size → w1.frozen? ⟨b, o, none⟩ = W.frozen? ⟨b, o, none⟩) :=
  ⟨fun b o h => hb.cell (p := ⟨b, o, none⟩) h, fun b o h => hb.frozen (p := ⟨b, o, none⟩) h⟩
theorem below_trans {w w1 w2 : World} (h1 : Below w.heap.size w w1) (h2 : Below w1.heap.size w1 w2) : Below w.heap.size w w2 := h1.trans (h2.mono h1.size)

/-! ### Lists, an element more -/
theorem any_take {α : Type} {p : α → Bool} {xs : List α} {k : Nat} (h : k < xs.length) : (xs.take (k + 1)).any p = ((xs.take k).any p || p xs[k]) := by
  rw [List.take_succ_eq_append_getElem h]
  simp only [List.any_append, List.any_cons, List.any_nil, Bool.or_false]
theorem all_take {α : Type} {p : α → Bool} {xs : List α} {k : Nat} (h : k < xs.length) : (xs.take (k + 1)).all p = ((xs.take k).all p && p xs[k]) := by
  rw [List.take_succ_eq_append_getElem h]
  simp only [List.all_append, List.all_cons, List.all_nil, Bool.and_true]
theorem any_of {α : Type} {p : α → Bool} {xs : List α} {k : Nat} (h : k < xs.length) (hp : p xs[k] = true) : xs.any p = true := List.any_eq_true.2 ⟨xs[k], List.getElem_mem h, hp⟩
theorem all_not {α : Type} {p : α → Bool} {xs : List α} {k : Nat} (h : k < xs.length) (hp : p xs[k] = false) : xs.all p = false := List.all_eq_false.2 ⟨xs[k], List.getElem_mem h, by simp [hp]⟩
theorem any_take_end {α : Type} {p : α → Bool} {xs : List α} {k : Nat} (h : ¬ k < xs.length) (hp : (xs.take k).any p = false) : xs.any p = false := by rwa [List.take_of_length_le (by omega)] at hp
theorem all_take_end {α : Type} {p : α → Bool} {xs : List α} {k : Nat} (h : ¬ k < xs.length) (hp : (xs.take k).all p = true) : xs.all p = true := by rwa [List.take_of_length_le (by omega)] at hp
theorem ret_bool {a b : Bool} (h : a = b) : Ending.returned (.bool a) = .returned (.bool b) := by rw [h]
theorem ret_int {k : IntKind} {a b : Int} (h : a = b) : Ending.returned (.int k a) = .returned (.int k b) := by rw [h]
theorem below_alloc (w : World) (o : Obj) : Below w.heap.size w (w.alloc o) := (Below.refl _ _).alloc (Nat.le_refl _) o

/-! ### Stores -/
theorem cell_set {w : World} {a : Addr} {u x : Value} (h : w.cell? a = some x) : (w.setCell a u).cell? a = some u := by simp [go_sem, h]
theorem cell_off {w : World} {b o o' : Nat} {u : Value} (h : o ≠ o') : (w.setCell ⟨b, o, none⟩ u).cell? ⟨b, o', none⟩ = w.cell? ⟨b, o', none⟩ := World.cell?_setCell_other w _ _ _ (fun e => h (by cases e; rfl))
theorem cell_block {w : World} {b b' o o' : Nat} {u : Value} (h : b ≠ b') : (w.setCell ⟨b, o, none⟩ u).cell? ⟨b', o', none⟩ = w.cell? ⟨b', o', none⟩ := World.cell?_setCell_other w _ _ _ (fun e => h (by cases e; rfl))
theorem frozen_set {w : World} {a a' : Addr} {u : Value} : (w.setCell a u).frozen? a' = w.frozen? a' := by simp [go_sem]
theorem size_set {w : World} {a : Addr} {u : Value} : (w.setCell a u).heap.size = w.heap.size := by simp [World.setCell]

/-- a literal at a place, its arguments' slice written out -/
theorem litAt.open {w : World} {b o : Nat} {l : Ltr} (h : litAt w b o l) : w.cell? ⟨b, o, none⟩ = some (.bool l.neg) ∧ w.cell? ⟨b, o + 1, none⟩ = some (.int .i64 l.atom.pred) ∧
    ∃ a cap, w.cell? ⟨b, o + 2, none⟩ = some (.slice a l.atom.args.length cap) ∧ termsAt w (.slice a l.atom.args.length cap) l.atom.args := by
  obtain ⟨h1, h2, v, h3, h4⟩ := h
  obtain ⟨a, cap, rfl, h5⟩ := h4
  exact ⟨h1, h2, a, cap, h3, ⟨a, cap, rfl, h5⟩⟩

/-! ### Atoms that the call itself gathers -/
/-- the cells of atoms, one behind the other; each has its arguments' slice -/
def cellsOf : List (Atm × Value) → List Value
  | [] => []
  | (a, v) :: l => .int .i64 a.pred :: v :: cellsOf l
theorem cellsOf_length : ∀ l, (cellsOf l).length = l.length * 2
  | [] => rfl
  | x :: l => by simp only [cellsOf, List.length_cons, cellsOf_length l]; omega
theorem cellsOf_append : ∀ l m, cellsOf (l ++ m) = cellsOf l ++ cellsOf m
  | [], m => rfl
  | x :: l, m => by simp only [List.cons_append, cellsOf, cellsOf_append l m]
theorem cellsOf_at : ∀ (l : List (Atm × Value)) (i : Nat) (a : Atm) (v : Value), l[i]? = some (a, v) → (cellsOf l)[i * 2]? = some (.int .i64 a.pred) ∧ (cellsOf l)[i * 2 + 1]? = some v
  | [], i, a, v, h => by simp at h
  | x :: l, 0, a, v, h => by
    obtain rfl : x = (a, v) := by simpa using h
    exact ⟨rfl, rfl⟩
  | x :: l, i + 1, a, v, h => by
    have := cellsOf_at l i a v (by simpa using h)
    rw [show (i + 1) * 2 = i * 2 + 2 by omega]
    simpa [cellsOf] using this
/-- a row of the call's own is a slice of atoms -/
theorem atomsAt_of {w : World} {base : Nat} {e : TypeId} {v : Value} {l : List (Atm × Value)} (h : w.ownsRow base e 2 v l.length (cellsOf l)) (hl : l.length ≤ 140737488355328) (ht : ∀ x ∈ l, termsAt w x.2 x.1.args) :
    atomsAt w v (l.map Prod.fst) := by
  obtain ⟨h0, h1⟩ := h
  rcases h1 with ⟨rfl, hn⟩ | ⟨g, cap, cur, rfl, hb, hg, hc, hm, hsz, htk⟩
  · have : l = [] := List.eq_nil_of_length_eq_zero hn
    subst this
    exact ⟨none, 0, rfl, by simp, .inl rfl⟩
  · refine ⟨_, cap, by rw [List.length_map], by rw [List.length_map]; exact hl, .inr ⟨g, 0, rfl, ?_, ?_⟩⟩
    · exact (Array.getElem?_eq_some_iff.1 hg).1
    · intro i x hi
      rw [List.getElem?_map] at hi
      obtain ⟨⟨a, u⟩, hy, rfl⟩ := Option.map_eq_some_iff.1 hi
      have hlt : i < l.length := (List.getElem?_eq_some_iff.1 hy).1
      obtain ⟨k1, k2⟩ := cellsOf_at l i a u hy
      have hcell : ∀ j z, (cellsOf l)[j]? = some z → w.cell? ⟨g, 0 + j, none⟩ = some z := by
        intro j z hz
        rw [← htk] at hz
        have hj : j < l.length * 2 := by
          have := (List.getElem?_eq_some_iff.1 hz).1
          simp at this
          omega
        rw [List.getElem?_take_of_lt hj] at hz
        simp [World.cell?, hg]
        simpa using hz
      have m1 := hcell _ _ k1
      have m2 := hcell _ _ k2
      exact ⟨m1, u, by rw [← Nat.add_assoc] at m2; exact m2, ht _ (List.mem_of_getElem? hy)⟩
end Go.Proofs.YtlfccloaoopadafGreatDoor

/-
  Strata in plain numbers: what the document asks of them, that the rounds of its own reckoning find the least, and find none only if there is none; and what is needed. No program is spoken of here.
-/
namespace Go.Proofs.YtlfccloaoopadafGreatDoor.Strata

/-- a rule of predicate h uses b in its body, with Not or without -/
structure Edge where
  h : Nat
  b : Nat
  neg : Bool
def Edge.up (e : Edge) : Nat := if e.neg then 1 else 0
def at_ (l : List Nat) (k : Nat) : Nat := l.getD k 0
def step (l : List Nat) (e : Edge) : List Nat := if at_ l e.h < at_ l e.b + e.up then l.set e.h (at_ l e.b + e.up) else l
def roundL (E : List Edge) (l : List Nat) : List Nat := E.foldl step l
def search (E : List Edge) : Nat → List Nat → Option (List Nat)
  | 0, _ => none
  | f + 1, l => if roundL E l = l then some l else search E f (roundL E l)
def strataL (E : List Edge) (n : Nat) : Option (List Nat) := search E (n * n + 2) (List.replicate n 0)
/-- s is as C2 asks -/
def Sol (E : List Edge) (s : Nat → Nat) : Prop := ∀ e ∈ E, s e.b + e.up ≤ s e.h
def Within (E : List Edge) (n : Nat) : Prop := ∀ e ∈ E, e.h < n ∧ e.b < n

theorem at_set {l : List Nat} {h v k : Nat} (hh : h < l.length) : at_ (l.set h v) k = if k = h then v else at_ l k := by
  unfold at_
  by_cases e : k = h
  · subst e
    rw [if_pos rfl, List.getD_eq_getElem?_getD, List.getElem?_set_self hh]
    rfl
  · rw [if_neg e, List.getD_eq_getElem?_getD, List.getElem?_set_ne (fun q => e q.symm), List.getD_eq_getElem?_getD]
theorem list_ext {l m : List Nat} (h : l.length = m.length) (he : ∀ k, at_ l k = at_ m k) : l = m := by
  apply List.ext_getElem h
  intro k h1 h2
  have := he k
  unfold at_ at this
  rw [List.getD_eq_getElem?_getD, List.getD_eq_getElem?_getD, List.getElem?_eq_getElem h1, List.getElem?_eq_getElem h2] at this
  exact this
theorem step_length (l : List Nat) (e : Edge) : (step l e).length = l.length := by
  unfold step
  split <;> simp
theorem round_length (E : List Edge) : ∀ l, (roundL E l).length = l.length := by
  induction E with
  | nil => intro l; rfl
  | cons e E ih => intro l; show (roundL E (step l e)).length = _; rw [ih, step_length]
theorem step_up {l : List Nat} {e : Edge} (he : e.h < l.length) (k : Nat) : at_ l k ≤ at_ (step l e) k := by
  unfold step
  split
  · rename_i h
    rw [at_set he]
    split
    · rename_i q; subst q; omega
    · omega
  · omega
theorem round_up {E : List Edge} {n : Nat} (hE : Within E n) : ∀ {l : List Nat}, l.length = n → ∀ k, at_ l k ≤ at_ (roundL E l) k := by
  induction E with
  | nil => intro l _ k; exact Nat.le_refl _
  | cons e E ih =>
    intro l hl k
    have h1 := step_up (l := l) (e := e) (by rw [hl]; exact (hE e (by simp)).1) k
    have h2 := ih (fun x hx => hE x (by simp [hx])) (l := step l e) (by rw [step_length]; exact hl) k
    exact Nat.le_trans h1 h2
theorem step_le {l : List Nat} {e : Edge} {s : Nat → Nat} (he : e.h < l.length) (hs : s e.b + e.up ≤ s e.h) (hl : ∀ k, at_ l k ≤ s k) (k : Nat) : at_ (step l e) k ≤ s k := by
  unfold step
  split
  · rw [at_set he]
    split
    · rename_i q; subst q; have := hl e.b; omega
    · exact hl k
  · exact hl k
theorem round_le {E : List Edge} {n : Nat} {s : Nat → Nat} (hE : Within E n) (hs : Sol E s) : ∀ {l : List Nat}, l.length = n → (∀ k, at_ l k ≤ s k) → ∀ k, at_ (roundL E l) k ≤ s k := by
  induction E with
  | nil => intro l _ h; exact h
  | cons e E ih =>
    intro l hl h
    exact ih (fun x hx => hE x (by simp [hx])) (fun x hx => hs x (by simp [hx])) (by rw [step_length]; exact hl) (step_le (by rw [hl]; exact (hE e (by simp)).1) (hs e (by simp)) h)
/-- a round that changes nothing finds all as it must be -/
theorem round_fix {E : List Edge} {n : Nat} (hE : Within E n) {l : List Nat} (hl : l.length = n) (h : roundL E l = l) : Sol E (at_ l) := by
  induction E with
  | nil => intro e he; cases he
  | cons e E ih =>
    have hE' : Within E n := fun x hx => hE x (by simp [hx])
    have heh : e.h < l.length := by rw [hl]; exact (hE e (by simp)).1
    have h' : roundL E (step l e) = l := h
    have hst : step l e = l := by
      refine list_ext (step_length l e) fun k => ?_
      have h1 := step_up (l := l) (e := e) heh k
      have h2 := round_up hE' (l := step l e) (by rw [step_length]; exact hl) k
      rw [h'] at h2
      omega
    rw [hst] at h'
    intro x hx
    rcases List.mem_cons.1 hx with rfl | hx
    · unfold step at hst
      split at hst
      · rename_i q
        have : at_ (l.set x.h (at_ l x.b + x.up)) x.h = at_ l x.h := by rw [hst]
        rw [at_set heh, if_pos rfl] at this
        omega
      · omega
    · exact ih hE' h' x hx
theorem search_length {E : List Edge} : ∀ {f : Nat} {l m : List Nat}, search E f l = some m → m.length = l.length
  | 0, l, m, h => by cases h
  | f + 1, l, m, h => by
    rw [search] at h
    split at h
    · rw [← Option.some.inj h]
    · rw [search_length h, round_length]
/-- what is found is as it must be, and the least such -/
theorem search_some {E : List Edge} {n : Nat} (hE : Within E n) : ∀ {f : Nat} {l m : List Nat}, l.length = n → search E f l = some m → Sol E (at_ m) ∧ ∀ s, Sol E s → (∀ k, at_ l k ≤ s k) → ∀ k, at_ m k ≤ s k
  | 0, l, m, _, h => by cases h
  | f + 1, l, m, hl, h => by
    rw [search] at h
    split at h
    · rename_i hfix
      obtain rfl := Option.some.inj h
      exact ⟨round_fix hE hl hfix, fun s _ hs => hs⟩
    · obtain ⟨h1, h2⟩ := search_some hE (l := roundL E l) (by rw [round_length]; exact hl) h
      exact ⟨h1, fun s hs hls => h2 s hs (round_le hE hs hl hls)⟩

/-! ### Every solution can be made small -/
theorem nodup_le {α : Type} [DecidableEq α] : ∀ {l m : List α}, l.Nodup → (∀ x ∈ l, x ∈ m) → l.length ≤ m.length
  | [], m, _, _ => Nat.zero_le _
  | x :: l, m, hn, hs => by
    obtain ⟨h1, h2⟩ := List.nodup_cons.1 hn
    have hx := hs x (by simp)
    have := nodup_le (l := l) (m := m.erase x) h2 (fun y hy => by
      have hne : y ≠ x := fun q => h1 (q ▸ hy)
      exact (List.mem_erase_of_ne hne).2 (hs y (by simp [hy])))
    rw [List.length_erase_of_mem hx] at this
    have hpos := List.length_pos_of_mem hx
    simp only [List.length_cons]
    omega
def used (s : Nat → Nat) (n v : Nat) : Bool := (List.range n).any fun j => s j == v
/-- how many numbers below s k are told -/
def rank (s : Nat → Nat) (n k : Nat) : Nat := ((List.range (s k)).filter (used s n)).length
theorem rank_mono {s : Nat → Nat} {n a b : Nat} (h : s a ≤ s b) : rank s n a ≤ rank s n b := by
  unfold rank
  obtain ⟨d, hd⟩ := Nat.exists_eq_add_of_le h
  rw [hd, List.range_add, List.filter_append, List.length_append]
  omega
theorem rank_lt {s : Nat → Nat} {n a b : Nat} (ha : a < n) (h : s a < s b) : rank s n a + 1 ≤ rank s n b := by
  unfold rank
  obtain ⟨d, hd⟩ := Nat.exists_eq_add_of_le (show s a + 1 ≤ s b from h)
  rw [hd, List.range_add, List.range_succ, List.filter_append, List.filter_append, List.length_append, List.length_append]
  have : (List.filter (used s n) [s a]).length = 1 := by
    rw [List.filter_cons, if_pos]
    · rfl
    · exact List.any_eq_true.2 ⟨a, List.mem_range.2 ha, by simp⟩
  omega
theorem rank_small {s : Nat → Nat} {n k : Nat} (hk : k < n) : rank s n k < n := by
  have hnd : (((List.range (s k)).filter (used s n)) ++ [s k]).Nodup := by
    rw [List.nodup_append]
    refine ⟨List.Pairwise.filter _ List.nodup_range, by simp, ?_⟩
    intro a ha b hb
    have h1 := List.mem_range.1 (List.mem_filter.1 ha).1
    simp at hb
    omega
  have hsub : ∀ x ∈ ((List.range (s k)).filter (used s n)) ++ [s k], x ∈ (List.range n).map s := by
    intro x hx
    rcases List.mem_append.1 hx with hx | hx
    · obtain ⟨j, hj, he⟩ := List.any_eq_true.1 (List.mem_filter.1 hx).2
      exact List.mem_map.2 ⟨j, hj, by simpa using he⟩
    · simp at hx
      subst hx
      exact List.mem_map.2 ⟨k, List.mem_range.2 hk, rfl⟩
  have := nodup_le hnd hsub
  simp only [List.length_append, List.length_cons, List.length_nil, List.length_map, List.length_range] at this
  unfold rank
  omega
theorem rank_sol {E : List Edge} {n : Nat} {s : Nat → Nat} (hE : Within E n) (hs : Sol E s) : Sol E (rank s n) := by
  intro e he
  have h1 := hs e he
  have h2 := hE e he
  unfold Edge.up at *
  split
  · rename_i hn
    rw [if_pos hn] at h1
    exact rank_lt h2.2 (by omega)
  · rename_i hn
    rw [if_neg hn] at h1
    exact rank_mono (by omega)

/-! ### The rounds end -/
theorem sum_le {c : Nat} : ∀ {l : List Nat}, (∀ k, k < l.length → at_ l k ≤ c) → l.sum ≤ l.length * c
  | [], _ => by simp
  | x :: l, h => by
    have h0 : x ≤ c := h 0 (by simp)
    have h1 := sum_le (l := l) (fun k hk => h (k + 1) (by simpa using hk))
    simp only [List.sum_cons, List.length_cons, Nat.succ_mul]
    omega
theorem sum_mono : ∀ {l m : List Nat}, l.length = m.length → (∀ k, at_ l k ≤ at_ m k) → l.sum ≤ m.sum
  | [], [], _, _ => Nat.le_refl _
  | [], y :: m, h, _ => by simp at h
  | x :: l, [], h, _ => by simp at h
  | x :: l, y :: m, h, hle => by
    have h0 : x ≤ y := hle 0
    have h1 := sum_mono (l := l) (m := m) (by simpa using h) (fun k => hle (k + 1))
    simp only [List.sum_cons]
    omega
theorem sum_lt : ∀ {l m : List Nat}, l.length = m.length → (∀ k, at_ l k ≤ at_ m k) → l ≠ m → l.sum < m.sum
  | [], [], _, _, h => absurd rfl h
  | [], y :: m, h, _, _ => by simp at h
  | x :: l, [], h, _, _ => by simp at h
  | x :: l, y :: m, h, hle, hne => by
    have h0 : x ≤ y := hle 0
    have hl : l.length = m.length := by simpa using h
    have hle' : ∀ k, at_ l k ≤ at_ m k := fun k => hle (k + 1)
    by_cases e : x = y
    · subst e
      have h1 := sum_lt hl hle' (fun q => hne (by rw [q]))
      simp only [List.sum_cons]
      omega
    · have h1 := sum_mono hl hle'
      simp only [List.sum_cons]
      omega
/-- if there are strata, they are found -/
theorem search_none {E : List Edge} {n : Nat} (hE : Within E n) {s : Nat → Nat} (hs : Sol E s) : ∀ {f : Nat} {l : List Nat}, l.length = n → (∀ k, at_ l k ≤ rank s n k) → n * n < l.sum + f → search E f l ≠ none
  | 0, l, hl, hle, hf => by
    exfalso
    have : l.sum ≤ l.length * n := sum_le (fun k hk => Nat.le_trans (hle k) (Nat.le_of_lt (rank_small (by omega))))
    rw [hl] at this
    omega
  | f + 1, l, hl, hle, hf => by
    rw [search]
    split
    · simp
    · rename_i hne
      have hlen : l.length = (roundL E l).length := (round_length E l).symm
      have h1 := sum_lt hlen (round_up hE hl) (fun q => hne q.symm)
      exact search_none hE hs (by rw [round_length]; exact hl) (round_le hE (rank_sol hE hs) hl hle) (by omega)
theorem zeros (n k : Nat) : at_ (List.replicate n 0) k = 0 := by
  unfold at_
  rw [List.getD_eq_getElem?_getD, List.getElem?_replicate]
  split <;> rfl
/-- C2: the least numbers that are as they must be; none, if there are none -/
theorem strata_some {E : List Edge} {n : Nat} (hE : Within E n) {l : List Nat} (h : strataL E n = some l) : l.length = n ∧ Sol E (at_ l) ∧ (∀ s, Sol E s → ∀ k, at_ l k ≤ s k) := by
  obtain ⟨h1, h2⟩ := search_some hE (by simp) h
  exact ⟨by rw [search_length h]; simp, h1, fun s hs => h2 s hs (fun k => by rw [zeros]; exact Nat.zero_le _)⟩
theorem strata_none {E : List Edge} {n : Nat} (hE : Within E n) (h : strataL E n = none) (s : Nat → Nat) : ¬ Sol E s := fun hs =>
  search_none hE hs (by simp) (fun k => by rw [zeros]; exact Nat.zero_le _) (by simp) h
theorem strata_eq {E : List Edge} {n : Nat} (hE : Within E n) {l : List Nat} (hl : l.length = n) (h1 : Sol E (at_ l)) (h2 : ∀ s, Sol E s → ∀ k, at_ l k ≤ s k) : strataL E n = some l := by
  cases h : strataL E n with
  | none => exact absurd h1 (strata_none hE h _)
  | some m =>
    obtain ⟨g0, g1, g2⟩ := strata_some hE h
    congr 1
    exact list_ext (by omega) fun k => Nat.le_antisymm (g2 _ h1 k) (h2 _ g1 k)
theorem strata_small {E : List Edge} {n : Nat} (hE : Within E n) {l : List Nat} (h : strataL E n = some l) {k : Nat} (hk : k < n) : at_ l k < n := by
  obtain ⟨_, g1, g2⟩ := strata_some hE h
  exact Nat.lt_of_le_of_lt (g2 _ (rank_sol hE g1) k) (rank_small hk)
/-- who stands above 0 has a rule that asks for just that -/
theorem strata_asked {E : List Edge} {n : Nat} (hE : Within E n) {l : List Nat} (h : strataL E n = some l) {k : Nat} (hk : 0 < at_ l k) : ∃ e ∈ E, e.h = k ∧ at_ l k = at_ l e.b + e.up := by
  obtain ⟨_, g1, g2⟩ := strata_some hE h
  refine Classical.byContradiction fun hno => ?_
  have hlt : ∀ e ∈ E, e.h = k → at_ l e.b + e.up < at_ l k := by
    intro e he heh
    have := g1 e he
    rw [heh] at this
    rcases Nat.lt_or_eq_of_le this with q | q
    · exact q
    · exact absurd ⟨e, he, heh, q.symm⟩ hno
  have hs : Sol E (fun j => if j = k then at_ l k - 1 else at_ l j) := by
    intro e he
    have h0 := g1 e he
    show (if e.b = k then at_ l k - 1 else at_ l e.b) + e.up ≤ if e.h = k then at_ l k - 1 else at_ l e.h
    by_cases q : e.h = k
    · have := hlt e he q
      rw [if_pos q]
      split <;> rename_i r
      · rw [r] at this; omega
      · omega
    · rw [if_neg q]
      split <;> rename_i r
      · rw [r] at h0; omega
      · omega
  have := g2 _ hs k
  simp only [if_true] at this
  omega
end Go.Proofs.YtlfccloaoopadafGreatDoor.Strata

/-
  Strata found by raising one number at a time, the document's rounds, and what is needed, in plain numbers. No program is spoken of here.
-/
namespace Go.Proofs.YtlfccloaoopadafGreatDoor.Strata

/-! ### Raising one number at a time, and beginning again -/
structure Kept (E : List Edge) (n : Nat) (l : List Nat) : Prop where
  len : l.length = n
  small : ∀ k, k < n → at_ l k < n
  least : ∀ s, Sol E s → ∀ k, at_ l k ≤ s k
def raise (l : List Nat) (e : Edge) : List Nat := l.set e.h (at_ l e.b + e.up)
theorem kept_zero (E : List Edge) (n : Nat) : Kept E n (List.replicate n 0) :=
  ⟨by simp, fun k hk => by rw [zeros]; omega, fun s _ k => by rw [zeros]; exact Nat.zero_le _⟩
theorem up_le (e : Edge) : e.up ≤ 1 := by unfold Edge.up; split <;> omega
theorem kept_raise {E : List Edge} {n : Nat} {l : List Nat} {e : Edge} (hE : Within E n) (h : Kept E n l) (he : e ∈ E) (hs : at_ l e.b + e.up ≠ n) : Kept E n (raise l e) := by
  have h1 := hE e he
  have hb := h.small e.b h1.2
  have hu := up_le e
  have hh : e.h < l.length := by rw [h.len]; exact h1.1
  refine ⟨by rw [raise, List.length_set, h.len], fun k hk => ?_, fun s hsol k => ?_⟩
  · rw [raise, at_set hh]
    split
    · omega
    · exact h.small k hk
  · rw [raise, at_set hh]
    split
    · rename_i q
      subst q
      have := h.least s hsol e.b
      have := hsol e he
      omega
    · exact h.least s hsol k
theorem raise_more {E : List Edge} {n : Nat} {l : List Nat} {e : Edge} (hE : Within E n) (h : Kept E n l) (he : e ∈ E) (hr : at_ l e.h < at_ l e.b + e.up) : l.sum < (raise l e).sum := by
  have hh : e.h < l.length := by rw [h.len]; exact (hE e he).1
  refine sum_lt (by rw [raise, List.length_set]) (fun k => ?_) (fun q => ?_)
  · rw [raise, at_set hh]
    split
    · rename_i q; subst q; omega
    · exact Nat.le_refl _
  · have : at_ l e.h = at_ (raise l e) e.h := by rw [← q]
    rw [raise, at_set hh, if_pos rfl] at this
    omega
theorem kept_sum {E : List Edge} {n : Nat} {l : List Nat} (h : Kept E n l) : l.sum ≤ n * n := by
  have := sum_le (c := n) (l := l) (fun k hk => Nat.le_of_lt (h.small k (by rw [← h.len]; exact hk)))
  rwa [h.len] at this
theorem kept_round {E : List Edge} {n : Nat} {l : List Nat} {e : Edge} (hE : Within E n) (h : Kept E n l) (he : e ∈ E) (hs : at_ l e.b + e.up = n) : strataL E n = none := by
  cases hx : strataL E n with
  | none => rfl
  | some m =>
    exfalso
    obtain ⟨_, g1, _⟩ := strata_some hE hx
    have hr := rank_sol hE g1
    have h1 := h.least _ hr e.b
    have h2 := hr e he
    have h3 := rank_small (s := at_ m) (hE e he).1
    omega
theorem kept_done {E : List Edge} {n : Nat} {l : List Nat} (hE : Within E n) (h : Kept E n l) (hd : ∀ e ∈ E, ¬ at_ l e.h < at_ l e.b + e.up) : strataL E n = some l :=
  strata_eq hE h.len (fun e he => by have := hd e he; omega) h.least

/-! ### The document's rounds -/
/-- a round that raised something has not come back -/
theorem round_ne {E : List Edge} {n : Nat} (hE : Within E n) {l m : List Nat} {e : Edge} (he : e.h < n) (hl : l.length = n) (hm : m = roundL E l) (hr : at_ m e.h < at_ m e.b + e.up) : step m e ≠ l := by
  intro q
  have h1 := round_up hE hl e.h
  rw [← hm] at h1
  have hml : m.length = n := by rw [hm, round_length, hl]
  have : at_ (step m e) e.h = at_ m e.b + e.up := by
    rw [step, if_pos hr, at_set (by rw [hml]; exact he), if_pos rfl]
  rw [q] at this
  omega
theorem round_snoc (E : List Edge) (e : Edge) (l : List Nat) : roundL (E ++ [e]) l = step (roundL E l) e := by
  unfold roundL
  rw [List.foldl_append]
  rfl
theorem step_bound {l : List Nat} {e : Edge} {c : Nat} (he : e.h < l.length) (h : ∀ k, at_ l k ≤ c) (k : Nat) : at_ (step l e) k ≤ c + 1 := by
  have hu := up_le e
  unfold step
  split
  · rw [at_set he]
    split
    · have := h e.b; omega
    · have := h k; omega
  · have := h k; omega

/-! ### What is needed -/
def bat (l : List Bool) (k : Nat) : Bool := l.getD k false
def stepB (l : List Bool) (e : Edge) : List Bool := if bat l e.h then l.set e.b true else l
def roundB (E : List Edge) (l : List Bool) : List Bool := E.foldl stepB l
def roundsB (E : List Edge) : Nat → List Bool → List Bool
  | 0, l => l
  | f + 1, l => roundsB E f (roundB E l)
def one (n p : Nat) : List Bool := (List.replicate n false).set p true
def ClosedB (E : List Edge) (s : Nat → Bool) : Prop := ∀ e ∈ E, s e.h = true → s e.b = true
structure LeastB (E : List Edge) (n p : Nat) (l : List Bool) : Prop where
  len : l.length = n
  self : bat l p = true
  closed : ClosedB E (bat l)
  least : ∀ s, ClosedB E s → s p = true → ∀ k, bat l k = true → s k = true
structure KeptB (E : List Edge) (n p : Nat) (l : List Bool) : Prop where
  len : l.length = n
  self : bat l p = true
  least : ∀ s, ClosedB E s → s p = true → ∀ k, bat l k = true → s k = true
theorem bat_set {l : List Bool} {h k : Nat} {v : Bool} (hh : h < l.length) : bat (l.set h v) k = if k = h then v else bat l k := by
  unfold bat
  by_cases e : k = h
  · subst e
    rw [if_pos rfl, List.getD_eq_getElem?_getD, List.getElem?_set_self hh]
    rfl
  · rw [if_neg e, List.getD_eq_getElem?_getD, List.getElem?_set_ne (fun q => e q.symm), List.getD_eq_getElem?_getD]
theorem listB_ext {l m : List Bool} (h : l.length = m.length) (he : ∀ k, bat l k = bat m k) : l = m := by
  apply List.ext_getElem h
  intro k h1 h2
  have := he k
  unfold bat at this
  rw [List.getD_eq_getElem?_getD, List.getD_eq_getElem?_getD, List.getElem?_eq_getElem h1, List.getElem?_eq_getElem h2] at this
  exact this
theorem bat_falses (n k : Nat) : bat (List.replicate n false) k = false := by
  unfold bat
  rw [List.getD_eq_getElem?_getD, List.getElem?_replicate]
  split <;> rfl
theorem bat_one {n p : Nat} (hp : p < n) (k : Nat) : bat (one n p) k = decide (k = p) := by
  rw [one, bat_set (by simpa using hp), bat_falses]
  split <;> simp [*]
theorem keptB_one {E : List Edge} {n p : Nat} (hp : p < n) : KeptB E n p (one n p) :=
  ⟨by simp [one], by rw [bat_one hp]; simp, fun s _ hs k hk => by rw [bat_one hp] at hk; rw [of_decide_eq_true hk]; exact hs⟩
theorem keptB_set {E : List Edge} {n p : Nat} {l : List Bool} {e : Edge} (hE : Within E n) (h : KeptB E n p l) (he : e ∈ E) (hb : bat l e.h = true) : KeptB E n p (l.set e.b true) := by
  have hh : e.b < l.length := by rw [h.len]; exact (hE e he).2
  refine ⟨by rw [List.length_set, h.len], ?_, fun s hs hp k hk => ?_⟩
  · rw [bat_set hh]; split
    · rfl
    · exact h.self
  · rw [bat_set hh] at hk
    split at hk
    · rename_i q; subst q; exact hs e he (h.least s hs hp _ hb)
    · exact h.least s hs hp k hk
theorem keptB_step {E : List Edge} {n p : Nat} {l : List Bool} {e : Edge} (hE : Within E n) (h : KeptB E n p l) (he : e ∈ E) : KeptB E n p (stepB l e) := by
  unfold stepB
  split
  · rename_i hb; exact keptB_set hE h he hb
  · exact h
theorem keptB_done {E : List Edge} {n p : Nat} {l : List Bool} (h : KeptB E n p l) (hd : ∀ e ∈ E, bat l e.h = true → bat l e.b = true) : LeastB E n p l := ⟨h.len, h.self, hd, h.least⟩
theorem least_eq {E : List Edge} {n p : Nat} {l m : List Bool} (h : LeastB E n p l) (g : LeastB E n p m) : l = m := by
  refine listB_ext (by rw [h.len, g.len]) fun k => ?_
  have h1 := h.least _ g.closed g.self k
  have h2 := g.least _ h.closed h.self k
  cases e1 : bat l k <;> cases e2 : bat m k <;> simp_all
/-- how many are needed -/
def cntB (l : List Bool) : Nat := l.countP id
theorem cntB_le (l : List Bool) : cntB l ≤ l.length := List.countP_le_length
theorem cntB_set : ∀ {l : List Bool} {k : Nat}, k < l.length → bat l k = false → cntB (l.set k true) = cntB l + 1
  | [], k, h, _ => absurd h (by simp)
  | x :: l, 0, h, hb => by
    obtain rfl : x = false := hb
    simp [cntB]
  | x :: l, k + 1, h, hb => by
    have := cntB_set (l := l) (k := k) (by simpa using h) hb
    unfold cntB at this ⊢
    simp only [List.set_cons_succ, List.countP_cons, this]
    omega
theorem set_same : ∀ {l : List Bool} {k : Nat}, bat l k = true → l.set k true = l
  | [], k, h => by simp
  | x :: l, 0, h => by
    obtain rfl : x = true := h
    rfl
  | x :: l, k + 1, h => by
    rw [List.set_cons_succ, set_same (l := l) (k := k) h]
theorem stepB_cnt {l : List Bool} {e : Edge} (he : e.b < l.length) : stepB l e = l ∨ cntB (stepB l e) = cntB l + 1 := by
  unfold stepB
  split
  · cases hb : bat l e.b
    · exact .inr (cntB_set he hb)
    · exact .inl (set_same hb)
  · exact .inl rfl
theorem stepB_length (l : List Bool) (e : Edge) : (stepB l e).length = l.length := by
  unfold stepB
  split <;> simp
theorem roundB_length (E : List Edge) : ∀ l, (roundB E l).length = l.length := by
  induction E with
  | nil => intro l; rfl
  | cons e E ih => intro l; show (roundB E (stepB l e)).length = _; rw [ih, stepB_length]
theorem roundB_snoc (E : List Edge) (e : Edge) (l : List Bool) : roundB (E ++ [e]) l = stepB (roundB E l) e := by
  unfold roundB
  rw [List.foldl_append]
  rfl
theorem roundB_cnt {E : List Edge} {n : Nat} (hE : Within E n) : ∀ {l : List Bool}, l.length = n → cntB l ≤ cntB (roundB E l) ∧ (cntB (roundB E l) = cntB l → roundB E l = l ∧ ∀ e ∈ E, stepB l e = l) := by
  induction E with
  | nil => intro l _; exact ⟨Nat.le_refl _, fun _ => ⟨rfl, fun e he => by cases he⟩⟩
  | cons e E ih =>
    intro l hl
    have heb : e.b < l.length := by rw [hl]; exact (hE e (by simp)).2
    obtain ⟨h1, h2⟩ := ih (fun x hx => hE x (by simp [hx])) (l := stepB l e) (by rw [stepB_length]; exact hl)
    have hr : roundB (e :: E) l = roundB E (stepB l e) := rfl
    rw [hr]
    rcases stepB_cnt heb with q | q
    · rw [q] at h1 h2 ⊢
      refine ⟨h1, fun h => ?_⟩
      obtain ⟨g1, g2⟩ := h2 h
      refine ⟨g1, fun x hx => ?_⟩
      rcases List.mem_cons.1 hx with rfl | hx
      · exact q
      · exact g2 x hx
    · exact ⟨by omega, fun h => by omega⟩
theorem stepB_fix {l : List Bool} {e : Edge} (he : e.b < l.length) (h : stepB l e = l) (hb : bat l e.h = true) : bat l e.b = true := by
  unfold stepB at h
  rw [if_pos hb] at h
  have : bat (l.set e.b true) e.b = bat l e.b := by rw [h]
  rw [bat_set he, if_pos rfl] at this
  exact this.symm
theorem keptB_round {E D : List Edge} {n p : Nat} (hE : Within E n) (hD : ∀ e ∈ D, e ∈ E) {l : List Bool} (h : KeptB E n p l) : KeptB E n p (roundB D l) := by
  induction D generalizing l with
  | nil => exact h
  | cons e D ih => exact ih (fun x hx => hD x (by simp [hx])) (keptB_step hE h (hD e (by simp)))
theorem cnt_pos {l : List Bool} {p : Nat} (h : bat l p = true) : 1 ≤ cntB l := by
  unfold cntB
  refine List.countP_pos_iff.2 ⟨true, ?_, rfl⟩
  unfold bat at h
  rw [List.getD_eq_getElem?_getD] at h
  cases hx : l[p]? with
  | none => rw [hx] at h; cases h
  | some v => rw [hx] at h; cases v; · cases h
              exact List.mem_of_getElem? hx
theorem roundsB_least {E : List Edge} {n p : Nat} (hE : Within E n) : ∀ {f : Nat} {l : List Bool}, KeptB E n p l → n < cntB l + f → LeastB E n p (roundsB E f l) ∧ (∀ e ∈ E, stepB (roundsB E f l) e = roundsB E f l)
  | 0, l, h, hf => by
    exfalso
    have := cntB_le l
    rw [h.len] at this
    omega
  | f + 1, l, h, hf => by
    obtain ⟨h1, h2⟩ := roundB_cnt hE h.len
    by_cases q : cntB (roundB E l) = cntB l
    · obtain ⟨g1, g2⟩ := h2 q
      have hfix : ∀ f, roundsB E f l = l := by
        intro f
        induction f with
        | zero => rfl
        | succ f ih => rw [roundsB, g1, ih]
      rw [hfix]
      exact ⟨keptB_done h fun e he hb => stepB_fix (by rw [h.len]; exact (hE e he).2) (g2 e he) hb, g2⟩
    · exact roundsB_least (f := f) (l := roundB E l) hE (keptB_round hE (fun _ h => h) h) (by omega)
def needsL (E : List Edge) (n p : Nat) : List Bool := roundsB E n (one n p)
/-- C3: the least that is closed -/
theorem needs_least {E : List Edge} {n p : Nat} (hE : Within E n) (hp : p < n) : LeastB E n p (needsL E n p) := by
  have h := keptB_one (E := E) hp
  exact (roundsB_least hE h (by have := cnt_pos h.self; omega)).1
theorem roundsB_succ (E : List Edge) : ∀ (f : Nat) (l : List Bool), roundsB E (f + 1) l = roundB E (roundsB E f l)
  | 0, l => rfl
  | f + 1, l => by rw [roundsB, roundsB_succ E f]; rfl
end Go.Proofs.YtlfccloaoopadafGreatDoor.Strata

/-
  Facts as the document has them, in plain lists: what is found, added, under; and the laws that these keep. No program is spoken of here.
-/
namespace Go.Proofs.YtlfccloaoopadafGreatDoor.Base
open Lat (err join join_comm join_assoc join_self err_join le le_self le_anti le_trans le_join_left le_join_right)

def place (x : Fct) : Int := (x.pred * 5 + x.a) * 5 + x.b
/-- x is a fact of predicates whose kinds are K -/
structure Fine (n : Nat) (K : Int → Int) (x : Fct) : Prop where
  p0 : 0 ≤ x.pred
  p1 : x.pred < n
  a0 : 0 ≤ x.a
  a1 : x.a ≤ 4
  b0 : 0 ≤ x.b
  b1 : x.b ≤ 4
  v : err (K x.pred) x.val = 0
def Sorted (f : List Fct) : Prop := f.Pairwise fun x y => place x < place y
structure Right (n : Nat) (K : Int → Int) (f : List Fct) : Prop where
  sorted : Sorted f
  fine : ∀ x ∈ f, Fine n K x
/-- the value at a place -/
def get (f : List Fct) (pl : Int) : Option Int := (f.find? fun y => place y == pl).map Fct.val
def addF (K : Int → Int) (x : Fct) : List Fct → List Fct
  | [] => [x]
  | y :: f => if place y = place x then ⟨y.pred, y.a, y.b, join (K x.pred) y.val x.val⟩ :: f else if place x < place y then x :: y :: f else y :: addF K x f
def addC (K : Int → Int) (x : Fct) : List Fct → Bool
  | [] => true
  | y :: f => if place y = place x then join (K x.pred) y.val x.val != y.val else if place x < place y then true else addC K x f
def underOne (K : Int → Int) (g : List Fct) (x : Fct) : Bool := match get g (place x) with | none => false | some v => join (K x.pred) x.val v == v
def under (K : Int → Int) (f g : List Fct) : Bool := f.all (underOne K g)

section
variable {n : Nat} {K : Int → Int}

theorem place_inj {x y : Fct} (hx : Fine n K x) (hy : Fine n K y) (h : place x = place y) : x.pred = y.pred ∧ x.a = y.a ∧ x.b = y.b := by
  obtain ⟨_, _, _, _, _, _, _⟩ := hx
  obtain ⟨_, _, _, _, _, _, _⟩ := hy
  unfold place at h
  omega
theorem pred_of {x : Fct} (hx : Fine n K x) : x.pred = place x / 25 := by
  obtain ⟨_, _, _, _, _, _, _⟩ := hx
  unfold place
  omega

theorem get_nil (pl : Int) : get [] pl = none := rfl
theorem get_cons (y : Fct) (f : List Fct) (pl : Int) : get (y :: f) pl = if place y = pl then some y.val else get f pl := by
  unfold get
  rw [List.find?_cons]
  by_cases h : place y = pl
  · simp [h]
  · have h' : (place y == pl) = false := by simpa using h
    simp [h, h']
theorem get_lt {f : List Fct} {pl : Int} (h : ∀ x ∈ f, pl < place x) : get f pl = none := by
  induction f with
  | nil => rfl
  | cons y f ih =>
    have := h y (by simp)
    rw [get_cons, if_neg (by omega)]
    exact ih (fun x hx => h x (by simp [hx]))
theorem get_mem {f : List Fct} {pl v : Int} (h : get f pl = some v) : ∃ x ∈ f, place x = pl ∧ x.val = v := by
  induction f with
  | nil => cases h
  | cons y f ih =>
    rw [get_cons] at h
    split at h
    · exact ⟨y, by simp, by assumption, Option.some.inj h⟩
    · obtain ⟨x, hx, h1, h2⟩ := ih h
      exact ⟨x, by simp [hx], h1, h2⟩
theorem mem_get {f : List Fct} (hs : Sorted f) {x : Fct} (hx : x ∈ f) : get f (place x) = some x.val := by
  induction f with
  | nil => cases hx
  | cons y f ih =>
    obtain ⟨h1, h2⟩ := List.pairwise_cons.1 hs
    rw [get_cons]
    rcases List.mem_cons.1 hx with rfl | hx
    · rw [if_pos rfl]
    · have := h1 x hx
      rw [if_neg (by omega)]
      exact ih h2 hx
theorem Right.nil : Right n K [] := ⟨List.Pairwise.nil, by simp⟩
theorem Right.tail {y : Fct} {f : List Fct} (h : Right n K (y :: f)) : Right n K f := ⟨(List.pairwise_cons.1 h.sorted).2, fun x hx => h.fine x (by simp [hx])⟩

/-- two lists of facts that tell the same at each place are the same -/
theorem ext {f g : List Fct} (hf : Right n K f) (hg : Right n K g) (h : ∀ pl, get f pl = get g pl) : f = g := by
  induction f generalizing g with
  | nil =>
    cases g with
    | nil => rfl
    | cons y g =>
      have := h (place y)
      rw [get_cons, if_pos rfl] at this
      cases this
  | cons x f ih =>
    cases g with
    | nil =>
      have := h (place x)
      rw [get_cons, if_pos rfl] at this
      cases this
    | cons y g =>
      obtain ⟨f1, f2⟩ := List.pairwise_cons.1 hf.sorted
      obtain ⟨g1, g2⟩ := List.pairwise_cons.1 hg.sorted
      have hpl : place x = place y := by
        have h1 := h (place x)
        have h2 := h (place y)
        rw [get_cons, if_pos rfl, get_cons] at h1
        rw [get_cons y, if_pos rfl, get_cons] at h2
        by_cases e : place x = place y
        · exact e
        · rw [if_neg (fun q => e q.symm)] at h1
          rw [if_neg e] at h2
          obtain ⟨z, hz, hz1, _⟩ := get_mem h1.symm
          obtain ⟨u, hu, hu1, _⟩ := get_mem h2
          have := g1 z hz
          have := f1 u hu
          omega
      have hv : x.val = y.val := by
        have h1 := h (place x)
        rw [get_cons, if_pos rfl, get_cons, if_pos hpl.symm] at h1
        exact Option.some.inj h1
      obtain ⟨e1, e2, e3⟩ := place_inj (hf.fine x (by simp)) (hg.fine y (by simp)) hpl
      have hxy : x = y := by
        cases x; cases y
        simp only [Fct.mk.injEq]
        exact ⟨e1, e2, e3, hv⟩
      subst hxy
      rw [ih hf.tail hg.tail]
      intro pl
      have h1 := h pl
      rw [get_cons, get_cons] at h1
      by_cases e : place x = pl
      · subst e
        rw [get_lt f1, get_lt g1]
      · rw [if_neg e, if_neg e] at h1
        exact h1

theorem get_add {f : List Fct} (hs : Sorted f) (x : Fct) (pl : Int) :
    get (addF K x f) pl = if pl = place x then some (match get f pl with | none => x.val | some v => join (K x.pred) v x.val) else get f pl := by
  induction f with
  | nil =>
    rw [addF, get_cons, get_nil]
    by_cases e : place x = pl
    · rw [if_pos e, if_pos e.symm]
    · rw [if_neg e, if_neg (fun q => e q.symm)]
  | cons y f ih =>
    obtain ⟨h1, h2⟩ := List.pairwise_cons.1 hs
    rw [addF]
    by_cases e : place y = place x
    · rw [if_pos e, get_cons, get_cons]
      have e' : place ⟨y.pred, y.a, y.b, join (K x.pred) y.val x.val⟩ = place y := rfl
      rw [e', e]
      by_cases q : place x = pl
      · rw [if_pos q, if_pos q.symm, if_pos q]
      · rw [if_neg q, if_neg (fun z => q z.symm), if_neg q]
    · rw [if_neg e]
      by_cases l : place x < place y
      · rw [if_pos l, get_cons]
        by_cases q : place x = pl
        · subst q
          rw [if_pos rfl, if_pos rfl, get_lt (f := y :: f)]
          intro z hz
          rcases List.mem_cons.1 hz with rfl | hz
          · exact l
          · have := h1 z hz; omega
        · rw [if_neg q, if_neg (fun z => q z.symm)]
      · rw [if_neg l, get_cons, get_cons, ih h2]
        by_cases q : place y = pl
        · rw [if_pos q, if_neg (by omega), if_pos q]
        · rw [if_neg q, if_neg q]
theorem mem_add {x z : Fct} {f : List Fct} (h : z ∈ addF K x f) : place z = place x ∨ z ∈ f := by
  induction f with
  | nil => simp [addF] at h; exact .inl (by rw [h])
  | cons y f ih =>
    rw [addF] at h
    split at h
    · rename_i e
      rcases List.mem_cons.1 h with rfl | h
      · exact .inl e
      · exact .inr (by simp [h])
    · split at h
      · rcases List.mem_cons.1 h with rfl | h
        · exact .inl rfl
        · exact .inr h
      · rcases List.mem_cons.1 h with rfl | h
        · exact .inr (by simp)
        · rcases ih h with h | h
          · exact .inl h
          · exact .inr (by simp [h])
theorem sorted_add {x : Fct} {f : List Fct} (hs : Sorted f) : Sorted (addF K x f) := by
  induction f with
  | nil => simp [addF, Sorted]
  | cons y f ih =>
    obtain ⟨h1, h2⟩ := List.pairwise_cons.1 hs
    rw [addF]
    split
    · exact List.pairwise_cons.2 ⟨fun z hz => h1 z hz, h2⟩
    · split
      · refine List.pairwise_cons.2 ⟨?_, hs⟩
        intro z hz
        rcases List.mem_cons.1 hz with rfl | hz
        · assumption
        · have := h1 z hz; omega
      · refine List.pairwise_cons.2 ⟨?_, ih h2⟩
        intro z hz
        rcases mem_add hz with h | h
        · omega
        · exact h1 z h
theorem fine_add {x : Fct} {f : List Fct} (hx : Fine n K x) (hf : ∀ z ∈ f, Fine n K z) : ∀ z ∈ addF K x f, Fine n K z := by
  induction f with
  | nil => intro z hz; simp [addF] at hz; rw [hz]; exact hx
  | cons y f ih =>
    intro z hz
    have hy := hf y (by simp)
    rw [addF] at hz
    split at hz
    · rename_i e
      rcases List.mem_cons.1 hz with rfl | hz
      · have hp := (place_inj hy hx e).1
        refine ⟨hy.p0, hy.p1, hy.a0, hy.a1, hy.b0, hy.b1, ?_⟩
        show err (K y.pred) (join (K x.pred) y.val x.val) = 0
        rw [hp]
        exact err_join (by rw [← hp]; exact hy.v) hx.v
      · exact hf z (by simp [hz])
    · split at hz
      · rcases List.mem_cons.1 hz with rfl | hz
        · exact hx
        · exact hf z hz
      · rcases List.mem_cons.1 hz with rfl | hz
        · exact hy
        · exact ih (fun u hu => hf u (by simp [hu])) z hz
theorem Right.add {x : Fct} {f : List Fct} (hf : Right n K f) (hx : Fine n K x) : Right n K (addF K x f) := ⟨sorted_add hf.sorted, fine_add hx hf.fine⟩

theorem get_err {f : List Fct} (hf : Right n K f) {pl v : Int} (h : get f pl = some v) : err (K (pl / 25)) v = 0 := by
  obtain ⟨x, hx, rfl, rfl⟩ := get_mem h
  rw [← pred_of (hf.fine x hx)]
  exact (hf.fine x hx).v

/-- under, place by place -/
theorem under_iff {f g : List Fct} (hf : Right n K f) : under K f g = true ↔ ∀ pl v, get f pl = some v → ∃ u, get g pl = some u ∧ le (K (pl / 25)) v u := by
  rw [under, List.all_eq_true]
  constructor
  · intro h pl v hv
    obtain ⟨x, hx, rfl, rfl⟩ := get_mem hv
    have := h x hx
    unfold underOne at this
    rw [← pred_of (hf.fine x hx)]
    cases hg : get g (place x) with
    | none => rw [hg] at this; cases this
    | some u => rw [hg] at this; exact ⟨u, rfl, by simpa [le] using this⟩
  · intro h x hx
    obtain ⟨u, hu, hl⟩ := h _ _ (mem_get hf.sorted hx)
    unfold underOne
    rw [hu]
    rw [← pred_of (hf.fine x hx)] at hl
    simpa [le] using hl
theorem under_refl {f : List Fct} (hf : Right n K f) : under K f f = true := (under_iff hf).2 fun _ v hv => ⟨v, hv, le_self (get_err hf hv)⟩
theorem under_trans {f g h : List Fct} (hf : Right n K f) (hg : Right n K g) (hh : Right n K h) (h1 : under K f g = true) (h2 : under K g h = true) : under K f h = true := by
  rw [under_iff hf] at *
  rw [under_iff hg] at h2
  intro pl v hv
  obtain ⟨u, hu, l1⟩ := h1 pl v hv
  obtain ⟨t, ht, l2⟩ := h2 pl u hu
  exact ⟨t, ht, le_trans (get_err hf hv) (get_err hg hu) (get_err hh ht) l1 l2⟩
theorem under_anti {f g : List Fct} (hf : Right n K f) (hg : Right n K g) (h1 : under K f g = true) (h2 : under K g f = true) : f = g := by
  rw [under_iff hf] at h1
  rw [under_iff hg] at h2
  refine ext hf hg fun pl => ?_
  cases h : get f pl with
  | none =>
    cases h' : get g pl with
    | none => rfl
    | some v =>
      obtain ⟨u, hu, _⟩ := h2 pl v h'
      rw [h] at hu
      cases hu
  | some v =>
    obtain ⟨u, hu, l1⟩ := h1 pl v h
    obtain ⟨t, ht, l2⟩ := h2 pl u hu
    rw [h] at ht
    obtain rfl := Option.some.inj ht
    rw [hu, le_anti (get_err hf h) (get_err hg hu) l1 l2]
theorem under_add {f : List Fct} {x : Fct} (hf : Right n K f) (hx : Fine n K x) : under K f (addF K x f) = true := by
  rw [under_iff hf]
  intro pl v hv
  rw [get_add hf.sorted, hv]
  by_cases e : pl = place x
  · rw [if_pos e]
    refine ⟨_, rfl, ?_⟩
    have hv' := get_err hf hv
    rw [e, ← pred_of hx] at hv'
    rw [e, ← pred_of hx]
    exact le_join_left hv' hx.v
  · rw [if_neg e]
    exact ⟨v, rfl, le_self (get_err hf hv)⟩
theorem under_one {f : List Fct} {x : Fct} (hf : Right n K f) (hx : Fine n K x) : under K [x] (addF K x f) = true := by
  have h1 : Right n K [x] := ⟨by simp [Sorted], by simpa using hx⟩
  rw [under_iff h1]
  intro pl v hv
  rw [get_cons, get_nil] at hv
  split at hv
  · rename_i e
    subst e
    obtain rfl := Option.some.inj hv
    rw [get_add hf.sorted, if_pos rfl, ← pred_of hx]
    refine ⟨_, rfl, ?_⟩
    cases h : get f (place x) with
    | none => exact le_self hx.v
    | some u =>
      have hu := get_err hf h
      rw [← pred_of hx] at hu
      exact le_join_right hu hx.v
  · cases hv
/-- the least that has both -/
theorem add_least {f g : List Fct} {x : Fct} (hf : Right n K f) (hg : Right n K g) (hx : Fine n K x) (h1 : under K f g = true) (h2 : under K [x] g = true) : under K (addF K x f) g = true := by
  have hr : Right n K [x] := ⟨by simp [Sorted], by simpa using hx⟩
  rw [under_iff (hf.add hx)]
  rw [under_iff hf] at h1
  rw [under_iff hr] at h2
  intro pl v hv
  rw [get_add hf.sorted] at hv
  split at hv
  · rename_i e
    subst e
    obtain rfl := Option.some.inj hv
    obtain ⟨u, hu, lu⟩ := h2 (place x) x.val (by rw [get_cons, if_pos rfl])
    refine ⟨u, hu, ?_⟩
    have hue := get_err hg hu
    rw [← pred_of hx] at *
    cases h : get f (place x) with
    | none => exact lu
    | some t =>
      obtain ⟨u', hu', lt⟩ := h1 _ _ h
      rw [hu] at hu'
      obtain rfl := Option.some.inj hu'
      rw [← pred_of hx] at lt
      have ht := get_err hf h
      rw [← pred_of hx] at ht
      exact (Lat.join_le ht hx.v hue).2 ⟨lt, lu⟩
  · exact h1 pl v hv

theorem addC_iff {f : List Fct} {x : Fct} (hf : Right n K f) : addC K x f = true ↔ addF K x f ≠ f := by
  induction f with
  | nil => simp [addC, addF]
  | cons y f ih =>
    obtain ⟨h1, h2⟩ := List.pairwise_cons.1 hf.sorted
    rw [addC, addF]
    by_cases e : place y = place x
    · rw [if_pos e, if_pos e]
      constructor
      · intro h q
        have : join (K x.pred) y.val x.val = y.val := congrArg Fct.val (List.cons.inj q).1
        simp [this] at h
      · intro h
        simp only [bne_iff_ne, ne_eq]
        intro q
        exact h (by rw [q])
    · rw [if_neg e, if_neg e]
      by_cases l : place x < place y
      · rw [if_pos l, if_pos l]
        simp only [ne_eq, true_iff]
        intro q
        have := congrArg List.length q
        simp at this
      · rw [if_neg l, if_neg l, ih hf.tail]
        simp
theorem add_again {f : List Fct} {x : Fct} (hf : Right n K f) (hx : Fine n K x) : addF K x (addF K x f) = addF K x f := by
  refine ext ((hf.add hx).add hx) (hf.add hx) fun pl => ?_
  rw [get_add (sorted_add hf.sorted), get_add hf.sorted]
  by_cases e : pl = place x
  · rw [if_pos e, if_pos e]
    congr 1
    cases h : get f pl with
    | none => exact join_self hx.v
    | some v =>
      have hv := get_err hf h
      rw [e, ← pred_of hx] at hv
      show join _ (join _ v x.val) x.val = join _ v x.val
      rw [join_assoc hv hx.v hx.v, join_self hx.v]
  · rw [if_neg e, if_neg e]
theorem add_comm {f : List Fct} {x y : Fct} (hf : Right n K f) (hx : Fine n K x) (hy : Fine n K y) : addF K y (addF K x f) = addF K x (addF K y f) := by
  refine ext ((hf.add hx).add hy) ((hf.add hy).add hx) fun pl => ?_
  rw [get_add (sorted_add hf.sorted), get_add hf.sorted, get_add (sorted_add hf.sorted), get_add hf.sorted]
  by_cases ex : pl = place x
  · by_cases ey : pl = place y
    · have hp := (place_inj hx hy (ex.symm.trans ey)).1
      rw [if_pos ey, if_pos ex, if_pos ex, if_pos ey]
      congr 1
      have hy' : err (K x.pred) y.val = 0 := by rw [hp]; exact hy.v
      rw [← hp]
      cases h : get f pl with
      | none => exact join_comm hx.v hy'
      | some v =>
        have hv := get_err hf h
        rw [ex, ← pred_of hx] at hv
        show join _ (join _ v x.val) y.val = join _ (join _ v y.val) x.val
        rw [join_assoc hv hx.v hy', join_assoc hv hy' hx.v, join_comm hx.v hy']
    · rw [if_neg ey, if_pos ex, if_pos ex, if_neg ey]
  · rw [if_neg ex, if_neg ex]
end
end Go.Proofs.YtlfccloaoopadafGreatDoor.Base
