/-
  How the program's data lie in memory: terms, atoms, literals, rules, predicates, facts. Plain relations between a world and plain lists, and that they last where nothing old is turned. No program is spoken of here.
-/
import Derived.WalkKit
import Derived.WalkSpells
import Derived.ProofKit
import Derived.OpenShut
import Derived.WalkSmall
import Derived.WalkLawsBesides
import Derived.Outline
import Derived.SizedLaws
namespace Go.Proofs.Ytgbacodellfacab
open Go.RowKit

structure Tm where
  var : Bool
  n : Int
structure Atm where
  pred : Int
  args : List Tm
structure Ltr where
  neg : Bool
  atom : Atm
structure Rul where
  head : Atm
  src : Int
  n : Int
  body : List Ltr
structure Prd where
  name : ByteArray
  arity : Int
  kind : Int
structure Fct where
  pred : Int
  a : Int
  b : Int
  val : Int

/-- v is a slice of the list xs; an element takes sz cells. -/
def sliceAt {α : Type} (sz : Nat) (At : World → Nat → Nat → α → Prop) (w : World) (v : Value) (xs : List α) : Prop :=
  ∃ a cap, v = .slice a xs.length cap ∧ xs.length ≤ 140737488355328 ∧ (xs = [] ∨ ∃ b off, a = some ⟨b, off, none⟩ ∧ b < w.heap.size ∧ ∀ i x, xs[i]? = some x → At w b (off + i * sz) x)

def termAt (w : World) (b o : Nat) (t : Tm) : Prop := w.cell? ⟨b, o, none⟩ = some (.bool t.var) ∧ w.cell? ⟨b, o + 1, none⟩ = some (.int .i64 t.n)
abbrev termsAt : World → Value → List Tm → Prop := sliceAt 2 termAt
def litAt (w : World) (b o : Nat) (l : Ltr) : Prop :=
  w.cell? ⟨b, o, none⟩ = some (.bool l.neg) ∧ w.cell? ⟨b, o + 1, none⟩ = some (.int .i64 l.atom.pred) ∧ ∃ v, w.cell? ⟨b, o + 2, none⟩ = some v ∧ termsAt w v l.atom.args
abbrev litsAt : World → Value → List Ltr → Prop := sliceAt 3 litAt
def predAt (w : World) (b o : Nat) (p : Prd) : Prop :=
  w.cell? ⟨b, o, none⟩ = some (.string p.name) ∧ w.cell? ⟨b, o + 1, none⟩ = some (.int .i64 p.arity) ∧ w.cell? ⟨b, o + 2, none⟩ = some (.int .i64 p.kind)
abbrev predsAt : World → Value → List Prd → Prop := sliceAt 3 predAt
def ruleAt (w : World) (b o : Nat) (r : Rul) : Prop :=
  w.cell? ⟨b, o, none⟩ = some (.int .i64 r.head.pred) ∧ (∃ v, w.cell? ⟨b, o + 1, none⟩ = some v ∧ termsAt w v r.head.args) ∧ w.cell? ⟨b, o + 2, none⟩ = some (.int .i64 r.src) ∧
    w.cell? ⟨b, o + 3, none⟩ = some (.int .i64 r.n) ∧ ∃ v, w.cell? ⟨b, o + 4, none⟩ = some v ∧ litsAt w v r.body
abbrev rulesAt : World → Value → List Rul → Prop := sliceAt 5 ruleAt
def atomAt (w : World) (b o : Nat) (a : Atm) : Prop := w.cell? ⟨b, o, none⟩ = some (.int .i64 a.pred) ∧ ∃ v, w.cell? ⟨b, o + 1, none⟩ = some v ∧ termsAt w v a.args
abbrev atomsAt : World → Value → List Atm → Prop := sliceAt 2 atomAt
def factAt (w : World) (b o : Nat) (f : Fct) : Prop :=
  w.cell? ⟨b, o, none⟩ = some (.int .i64 f.pred) ∧ w.cell? ⟨b, o + 1, none⟩ = some (.int .i64 f.a) ∧ w.cell? ⟨b, o + 2, none⟩ = some (.int .i64 f.b) ∧ w.cell? ⟨b, o + 3, none⟩ = some (.int .i64 f.val)
abbrev factsAt : World → Value → List Fct → Prop := sliceAt 4 factAt

/-! ### They last -/
/-- what lies below B lasts where nothing below B is turned -/
def Lasts {α : Type} (At : World → Nat → Nat → α → Prop) : Prop := ∀ (w w' : World) (b o : Nat) (x : α), Below w.heap.size w w' → b < w.heap.size → At w b o x → At w' b o x

theorem sliceAt.lasts {α : Type} {sz : Nat} {At : World → Nat → Nat → α → Prop} (h : Lasts At) {w w' : World} {v : Value} {xs : List α} (hb : Below w.heap.size w w') (hs : sliceAt sz At w v xs) : sliceAt sz At w' v xs := by
  obtain ⟨a, cap, hv, hl, hx⟩ := hs
  refine ⟨a, cap, hv, hl, ?_⟩
  rcases hx with hx | ⟨b, off, ha, hlt, hx⟩
  · exact .inl hx
  · exact .inr ⟨b, off, ha, Nat.lt_of_lt_of_le hlt hb.size, fun i x hi => h w w' b _ x hb hlt (hx i x hi)⟩
theorem cell_lasts {w w' : World} (hb : Below w.heap.size w w') {b o : Nat} (h : b < w.heap.size) : w'.cell? ⟨b, o, none⟩ = w.cell? ⟨b, o, none⟩ := hb.cell (p := ⟨b, o, none⟩) h
theorem termAt.lasts : Lasts termAt := fun w w' b o x hb hlt ⟨h1, h2⟩ => ⟨by rw [cell_lasts hb hlt, h1], by rw [cell_lasts hb hlt, h2]⟩
theorem termsAt.lasts {w w' : World} {v : Value} {xs : List Tm} (hb : Below w.heap.size w w') (h : termsAt w v xs) : termsAt w' v xs := sliceAt.lasts termAt.lasts hb h
theorem litAt.lasts : Lasts litAt := fun w w' b o x hb hlt ⟨h1, h2, v, h3, h4⟩ => ⟨by rw [cell_lasts hb hlt, h1], by rw [cell_lasts hb hlt, h2], v, by rw [cell_lasts hb hlt, h3], termsAt.lasts hb h4⟩
theorem litsAt.lasts {w w' : World} {v : Value} {xs : List Ltr} (hb : Below w.heap.size w w') (h : litsAt w v xs) : litsAt w' v xs := sliceAt.lasts litAt.lasts hb h
theorem predAt.lasts : Lasts predAt := fun w w' b o x hb hlt ⟨h1, h2, h3⟩ => ⟨by rw [cell_lasts hb hlt, h1], by rw [cell_lasts hb hlt, h2], by rw [cell_lasts hb hlt, h3]⟩
theorem predsAt.lasts {w w' : World} {v : Value} {xs : List Prd} (hb : Below w.heap.size w w') (h : predsAt w v xs) : predsAt w' v xs := sliceAt.lasts predAt.lasts hb h
theorem ruleAt.lasts : Lasts ruleAt := fun w w' b o x hb hlt ⟨h1, ⟨v, h2, h3⟩, h4, h5, u, h6, h7⟩ => ⟨by rw [cell_lasts hb hlt, h1], ⟨v, by rw [cell_lasts hb hlt, h2], termsAt.lasts hb h3⟩, by rw [cell_lasts hb hlt, h4], by rw [cell_lasts hb hlt, h5], u, by rw [cell_lasts hb hlt, h6], litsAt.lasts hb h7⟩
theorem rulesAt.lasts {w w' : World} {v : Value} {xs : List Rul} (hb : Below w.heap.size w w') (h : rulesAt w v xs) : rulesAt w' v xs := sliceAt.lasts ruleAt.lasts hb h
theorem atomAt.lasts : Lasts atomAt := fun w w' b o x hb hlt ⟨h1, v, h2, h3⟩ => ⟨by rw [cell_lasts hb hlt, h1], v, by rw [cell_lasts hb hlt, h2], termsAt.lasts hb h3⟩
theorem atomsAt.lasts {w w' : World} {v : Value} {xs : List Atm} (hb : Below w.heap.size w w') (h : atomsAt w v xs) : atomsAt w' v xs := sliceAt.lasts atomAt.lasts hb h
theorem factAt.lasts : Lasts factAt := fun w w' b o x hb hlt ⟨h1, h2, h3, h4⟩ => ⟨by rw [cell_lasts hb hlt, h1], by rw [cell_lasts hb hlt, h2], by rw [cell_lasts hb hlt, h3], by rw [cell_lasts hb hlt, h4]⟩
theorem factsAt.lasts {w w' : World} {v : Value} {xs : List Fct} (hb : Below w.heap.size w w') (h : factsAt w v xs) : factsAt w' v xs := sliceAt.lasts factAt.lasts hb h

/-- old cells and marks, for a walk: two rules -/
theorem bcell {W w1 : World} (hb : Below W.heap.size W w1) : (∀ b o, b < W.heap.size → w1.cell? ⟨b, o, none⟩ = W.cell? ⟨b, o, none⟩) ∧ (∀ b o, b < W.heap.size → w1.frozen? ⟨b, o, none⟩ = W.frozen? ⟨b, o, none⟩) :=
  ⟨fun b o h => hb.cell (p := ⟨b, o, none⟩) h, fun b o h => hb.frozen (p := ⟨b, o, none⟩) h⟩
theorem below_trans {w w1 w2 : World} (h1 : Below w.heap.size w w1) (h2 : Below w1.heap.size w1 w2) : Below w.heap.size w w2 := h1.trans (h2.mono h1.size)

/-! ### Lists, an element more -/
theorem any_take {α : Type} {p : α → Bool} {xs : List α} {k : Nat} (h : k < xs.length) : (xs.take (k + 1)).any p = ((xs.take k).any p || p xs[k]) := by
  rw [List.take_succ_eq_append_getElem h]
  simp only [List.any_append, List.any_cons, List.any_nil, Bool.or_false]
theorem all_take {α : Type} {p : α → Bool} {xs : List α} {k : Nat} (h : k < xs.length) : (xs.take (k + 1)).all p = ((xs.take k).all p && p xs[k]) := by
  rw [List.take_succ_eq_append_getElem h]
  simp only [List.all_append, List.all_cons, List.all_nil, Bool.and_true]
theorem any_of {α : Type} {p : α → Bool} {xs : List α} {k : Nat} (h : k < xs.length) (hp : p xs[k] = true) : xs.any p = true := List.any_eq_true.2 ⟨xs[k], List.getElem_mem h, hp⟩
theorem all_not {α : Type} {p : α → Bool} {xs : List α} {k : Nat} (h : k < xs.length) (hp : p xs[k] = false) : xs.all p = false := List.all_eq_false.2 ⟨xs[k], List.getElem_mem h, by simp [hp]⟩
theorem any_take_end {α : Type} {p : α → Bool} {xs : List α} {k : Nat} (h : ¬ k < xs.length) (hp : (xs.take k).any p = false) : xs.any p = false := by rwa [List.take_of_length_le (by omega)] at hp
theorem all_take_end {α : Type} {p : α → Bool} {xs : List α} {k : Nat} (h : ¬ k < xs.length) (hp : (xs.take k).all p = true) : xs.all p = true := by rwa [List.take_of_length_le (by omega)] at hp
theorem ret_bool {a b : Bool} (h : a = b) : Ending.returned (.bool a) = .returned (.bool b) := by rw [h]
theorem ret_int {k : IntKind} {a b : Int} (h : a = b) : Ending.returned (.int k a) = .returned (.int k b) := by rw [h]
theorem below_alloc (w : World) (o : Obj) : Below w.heap.size w (w.alloc o) := (Below.refl _ _).alloc (Nat.le_refl _) o

/-! ### Stores -/
theorem cell_set {w : World} {a : Addr} {u x : Value} (h : w.cell? a = some x) : (w.setCell a u).cell? a = some u := by simp [go_sem, h]
theorem cell_off {w : World} {b o o' : Nat} {u : Value} (h : o ≠ o') : (w.setCell ⟨b, o, none⟩ u).cell? ⟨b, o', none⟩ = w.cell? ⟨b, o', none⟩ := World.cell?_setCell_other w _ _ _ (fun e => h (by cases e; rfl))
theorem cell_block {w : World} {b b' o o' : Nat} {u : Value} (h : b ≠ b') : (w.setCell ⟨b, o, none⟩ u).cell? ⟨b', o', none⟩ = w.cell? ⟨b', o', none⟩ := World.cell?_setCell_other w _ _ _ (fun e => h (by cases e; rfl))
theorem frozen_set {w : World} {a a' : Addr} {u : Value} : (w.setCell a u).frozen? a' = w.frozen? a' := by simp [go_sem]
theorem size_set {w : World} {a : Addr} {u : Value} : (w.setCell a u).heap.size = w.heap.size := by simp [World.setCell]

/-- a literal at a place, its arguments' slice written out -/
theorem litAt.open {w : World} {b o : Nat} {l : Ltr} (h : litAt w b o l) : w.cell? ⟨b, o, none⟩ = some (.bool l.neg) ∧ w.cell? ⟨b, o + 1, none⟩ = some (.int .i64 l.atom.pred) ∧
    ∃ a cap, w.cell? ⟨b, o + 2, none⟩ = some (.slice a l.atom.args.length cap) ∧ termsAt w (.slice a l.atom.args.length cap) l.atom.args := by
  obtain ⟨h1, h2, v, h3, h4⟩ := h
  obtain ⟨a, cap, rfl, h5⟩ := h4
  exact ⟨h1, h2, a, cap, h3, ⟨a, cap, rfl, h5⟩⟩

/-! ### Atoms that the call itself gathers -/
/-- the cells of atoms, one behind the other; each has its arguments' slice -/
def cellsOf : List (Atm × Value) → List Value
  | [] => []
  | (a, v) :: l => .int .i64 a.pred :: v :: cellsOf l
theorem cellsOf_length : ∀ l, (cellsOf l).length = l.length * 2
  | [] => rfl
  | x :: l => by simp only [cellsOf, List.length_cons, cellsOf_length l]; omega
theorem cellsOf_append : ∀ l m, cellsOf (l ++ m) = cellsOf l ++ cellsOf m
  | [], m => rfl
  | x :: l, m => by simp only [List.cons_append, cellsOf, cellsOf_append l m]
theorem cellsOf_at : ∀ (l : List (Atm × Value)) (i : Nat) (a : Atm) (v : Value), l[i]? = some (a, v) → (cellsOf l)[i * 2]? = some (.int .i64 a.pred) ∧ (cellsOf l)[i * 2 + 1]? = some v
  | [], i, a, v, h => by simp at h
  | x :: l, 0, a, v, h => by
    obtain rfl : x = (a, v) := by simpa using h
    exact ⟨rfl, rfl⟩
  | x :: l, i + 1, a, v, h => by
    have := cellsOf_at l i a v (by simpa using h)
    rw [show (i + 1) * 2 = i * 2 + 2 by omega]
    simpa [cellsOf] using this
/-- a row of the call's own is a slice of atoms -/
theorem atomsAt_of {w : World} {base : Nat} {e : TypeId} {v : Value} {l : List (Atm × Value)} (h : w.ownsRow base e 2 v l.length (cellsOf l)) (hl : l.length ≤ 140737488355328) (ht : ∀ x ∈ l, termsAt w x.2 x.1.args) :
    atomsAt w v (l.map Prod.fst) := by
  obtain ⟨h0, h1⟩ := h
  rcases h1 with ⟨rfl, hn⟩ | ⟨g, cap, cur, rfl, hb, hg, hc, hm, hsz, htk⟩
  · have : l = [] := List.eq_nil_of_length_eq_zero hn
    subst this
    exact ⟨none, 0, rfl, by simp, .inl rfl⟩
  · refine ⟨_, cap, by rw [List.length_map], by rw [List.length_map]; exact hl, .inr ⟨g, 0, rfl, ?_, ?_⟩⟩
    · exact (Array.getElem?_eq_some_iff.1 hg).1
    · intro i x hi
      rw [List.getElem?_map] at hi
      obtain ⟨⟨a, u⟩, hy, rfl⟩ := Option.map_eq_some_iff.1 hi
      have hlt : i < l.length := (List.getElem?_eq_some_iff.1 hy).1
      obtain ⟨k1, k2⟩ := cellsOf_at l i a u hy
      have hcell : ∀ j z, (cellsOf l)[j]? = some z → w.cell? ⟨g, 0 + j, none⟩ = some z := by
        intro j z hz
        rw [← htk] at hz
        have hj : j < l.length * 2 := by
          have := (List.getElem?_eq_some_iff.1 hz).1
          simp at this
          omega
        rw [List.getElem?_take_of_lt hj] at hz
        simp [World.cell?, hg]
        simpa using hz
      have m1 := hcell _ _ k1
      have m2 := hcell _ _ k2
      exact ⟨m1, u, by rw [← Nat.add_assoc] at m2; exact m2, ht _ (List.mem_of_getElem? hy)⟩
end Go.Proofs.Ytgbacodellfacab
