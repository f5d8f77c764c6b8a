/-
  Rows of rules of the call's own: how they lie, grow and are changed.
-/
import Derived.Deep.AppendLies
import Derived.Deep.DeepAppendWide
import Derived.Test.YtlfccloaoopadafGreatDoorG5
import Derived.Test.YtlfccloaoopadafGreatDoorG1
import Derived.Test.YtlfccloaoopadafGreatDoorG6
namespace Go.Proofs.YtlfccloaoopadafGreatDoor.Sum
open Go.ChangeShapes Go.WideShapes Go.ChangeAt Go.RowKit
theorem add_none (b off i : Nat) : (⟨b, off, none⟩ : Addr).add i = ⟨b, off + i, none⟩ := by simp [Addr.add]

/-- a rule with the slices of its head and its body -/
structure RV where
  r : Rul
  hv : Value
  bv : Value
def cellsR : List RV → List Value
  | [] => []
  | x :: l => .int .i64 x.r.head.pred :: x.hv :: .int .i64 x.r.src :: .int .i64 x.r.n :: x.bv :: cellsR l
def RVok (w : World) (x : RV) : Prop := termsAt w x.hv x.r.head.args ∧ litsAt w x.bv x.r.body
theorem RVok.lasts {w w' : World} (hb : Below w.heap.size w w') {x : RV} (h : RVok w x) : RVok w' x := ⟨termsAt.lasts hb h.1, litsAt.lasts hb h.2⟩
theorem cellsR_length : ∀ l, (cellsR l).length = l.length * 5
  | [] => rfl
  | x :: l => by simp only [cellsR, List.length_cons, cellsR_length l]; omega
theorem cellsR_append : ∀ l m, cellsR (l ++ m) = cellsR l ++ cellsR m
  | [], m => rfl
  | x :: l, m => by simp only [List.cons_append, cellsR, cellsR_append l m]
theorem cellsR_at : ∀ (l : List RV) (i : Nat) (x : RV), l[i]? = some x → (cellsR l)[i * 5]? = some (.int .i64 x.r.head.pred) ∧ (cellsR l)[i * 5 + 1]? = some x.hv ∧ (cellsR l)[i * 5 + 2]? = some (.int .i64 x.r.src) ∧ (cellsR l)[i * 5 + 3]? = some (.int .i64 x.r.n) ∧ (cellsR l)[i * 5 + 4]? = some x.bv
  | [], i, x, h => by simp at h
  | y :: l, 0, x, h => by
    obtain rfl : y = x := by simpa using h
    exact ⟨rfl, rfl, rfl, rfl, rfl⟩
  | y :: l, i + 1, x, h => by
    have := cellsR_at l i x (by simpa using h)
    rw [show (i + 1) * 5 = i * 5 + 5 by omega]
    simpa [cellsR] using this
theorem cellsR_set : ∀ (l : List RV) (i : Nat) (x : RV), cellsR (l.set i x) = (((((cellsR l).set (i * 5) (.int .i64 x.r.head.pred)).set (i * 5 + 1) x.hv).set (i * 5 + 2) (.int .i64 x.r.src)).set (i * 5 + 3) (.int .i64 x.r.n)).set (i * 5 + 4) x.bv
  | [], i, x => by simp [cellsR]
  | y :: l, 0, x => by simp [cellsR]
  | y :: l, i + 1, x => by
    rw [show (i + 1) * 5 = i * 5 + 5 by omega]
    simp [cellsR, cellsR_set l i x]
theorem one_terms {w : World} {v : Value} {l : List Tm} (h : termsAt w v l) : v.oneCell' = true := by
  obtain ⟨a, c, rfl, _⟩ := h
  rfl
theorem one_lits {w : World} {v : Value} {l : List Ltr} (h : litsAt w v l) : v.oneCell' = true := by
  obtain ⟨a, c, rfl, _⟩ := h
  rfl
theorem cellsR_one {w : World} : ∀ {l : List RV}, (∀ x ∈ l, RVok w x) → ∀ u ∈ cellsR l, u.oneCell' = true
  | [], _, u, hu => by cases hu
  | x :: l, h, u, hu => by
    have hx := h x (by simp)
    simp only [cellsR, List.mem_cons] at hu
    rcases hu with rfl | rfl | rfl | rfl | rfl | hu
    · rfl
    · exact one_terms hx.1
    · rfl
    · rfl
    · exact one_lits hx.2
    · exact cellsR_one (fun y hy => h y (by simp [hy])) u hu
theorem rows_open {w : World} {b : Nat} : ∀ (rs : List Rul) (off : Nat), (∀ i x, rs[i]? = some x → ruleAt w b (off + i * 5) x) → ∃ vs : List RV, vs.map RV.r = rs ∧ (∀ x ∈ vs, RVok w x) ∧ ∀ j u, (cellsR vs)[j]? = some u → w.cell? ⟨b, off + j, none⟩ = some u
  | [], off, _ => ⟨[], rfl, by simp, by simp [cellsR]⟩
  | r :: rs, off, h => by
    obtain ⟨vs, h1, h2, h3⟩ := rows_open rs (off + 5) (fun i x hi => by
      have := h (i + 1) x (by simpa using hi)
      rw [show off + (i + 1) * 5 = off + 5 + i * 5 by omega] at this
      exact this)
    obtain ⟨k0, ⟨hv, k1, k1'⟩, k2, k3, bv, k4, k4'⟩ := h 0 r rfl
    refine ⟨⟨r, hv, bv⟩ :: vs, by rw [List.map_cons, h1], ?_, ?_⟩
    · intro x hx
      rcases List.mem_cons.1 hx with rfl | hx
      · exact ⟨k1', k4'⟩
      · exact h2 x hx
    · intro j u hj
      match j, hj with
      | 0, hj =>
        obtain rfl : Value.int .i64 r.head.pred = u := by simpa [cellsR] using hj
        exact k0
      | 1, hj =>
        obtain rfl : hv = u := by simpa [cellsR] using hj
        exact k1
      | 2, hj =>
        obtain rfl : Value.int .i64 r.src = u := by simpa [cellsR] using hj
        exact k2
      | 3, hj =>
        obtain rfl : Value.int .i64 r.n = u := by simpa [cellsR] using hj
        exact k3
      | 4, hj =>
        obtain rfl : bv = u := by simpa [cellsR] using hj
        exact k4
      | j + 5, hj =>
        have := h3 j u (by simpa [cellsR] using hj)
        rw [show off + (j + 5) = off + 5 + j by omega]
        exact this
theorem rules_open {w : World} {v : Value} {rs : List Rul} (h : rulesAt w v rs) : ∃ (vs : List RV) (a : Option Addr) (cap : Nat), v = .slice a rs.length cap ∧ vs.map RV.r = rs ∧ (∀ x ∈ vs, RVok w x) ∧ (rs = [] ∨ ∃ b off, a = some ⟨b, off, none⟩ ∧ b < w.heap.size ∧ ∀ j u, (cellsR vs)[j]? = some u → w.cell? ⟨b, off + j, none⟩ = some u) := by
  obtain ⟨a, cap, rfl, hl, hx⟩ := h
  rcases hx with rfl | ⟨b, off, rfl, hb, hx⟩
  · exact ⟨[], a, cap, rfl, rfl, by simp, .inl rfl⟩
  · obtain ⟨vs, h1, h2, h3⟩ := rows_open rs off hx
    exact ⟨vs, _, cap, rfl, h1, h2, .inr ⟨b, off, rfl, hb, h3⟩⟩
/-- a row of the call's own is a slice of rules -/
theorem rulesAt_own {w : World} {base : Nat} {e : TypeId} {v : Value} {l : List RV} (h : w.ownsRow base e 5 v l.length (cellsR l)) (hl : l.length ≤ 140737488355328) (ht : ∀ x ∈ l, RVok w x) : rulesAt w v (l.map RV.r) := by
  obtain ⟨h0, h1⟩ := h
  rcases h1 with ⟨rfl, hn⟩ | ⟨g, cap, cur, rfl, hb, hg, hc, hm, hsz, htk⟩
  · have : l = [] := List.eq_nil_of_length_eq_zero hn
    subst this
    exact ⟨none, 0, rfl, by simp, .inl rfl⟩
  · refine ⟨_, cap, by rw [List.length_map], by rw [List.length_map]; exact hl, .inr ⟨g, 0, rfl, ?_, ?_⟩⟩
    · exact (Array.getElem?_eq_some_iff.1 hg).1
    · intro i x hi
      rw [List.getElem?_map] at hi
      obtain ⟨y, hy, rfl⟩ := Option.map_eq_some_iff.1 hi
      have hlt : i < l.length := (List.getElem?_eq_some_iff.1 hy).1
      obtain ⟨k0, k1, k2, k3, k4⟩ := cellsR_at l i y hy
      have hcell : ∀ j z, (cellsR l)[j]? = some z → w.cell? ⟨g, 0 + j, none⟩ = some z := by
        intro j z hz
        rw [← htk] at hz
        have hj : j < l.length * 5 := by
          have := (List.getElem?_eq_some_iff.1 hz).1
          simp at this
          omega
        rw [List.getElem?_take_of_lt hj] at hz
        simp [World.cell?, hg]
        simpa using hz
      have m0 := hcell _ _ k0
      have m1 := hcell _ _ k1
      have m2 := hcell _ _ k2
      have m3 := hcell _ _ k3
      have m4 := hcell _ _ k4
      rw [← Nat.add_assoc] at m1 m2 m3 m4
      have ho := ht _ (List.mem_of_getElem? hy)
      exact ⟨m0, ⟨_, m1, ho.1⟩, m2, m3, _, m4, ho.2⟩
theorem infoRule : (Tryz.prog.info? 54).map (fun i => (i.zero, i.size, i.bytes)) = some (some (.agg #[.int .i64 0, .slice none 0 0, .int .i64 0, .int .i64 0, .slice none 0 0]), 5, 72) := by kernel_rfl

/-! ### Terms, literals, predicates: rows of the call's own -/
def cellsT : List Tm → List Value
  | [] => []
  | t :: l => .bool t.var :: .int .i64 t.n :: cellsT l
theorem cellsT_length : ∀ l, (cellsT l).length = l.length * 2
  | [] => rfl
  | x :: l => by simp only [cellsT, List.length_cons, cellsT_length l]; omega
theorem cellsT_at : ∀ (l : List Tm) (i : Nat) (x : Tm), l[i]? = some x → (cellsT l)[i * 2]? = some (.bool x.var) ∧ (cellsT l)[i * 2 + 1]? = some (.int .i64 x.n)
  | [], i, x, h => by simp at h
  | y :: l, 0, x, h => by
    obtain rfl : y = x := by simpa using h
    exact ⟨rfl, rfl⟩
  | y :: l, i + 1, x, h => by
    have := cellsT_at l i x (by simpa using h)
    rw [show (i + 1) * 2 = i * 2 + 2 by omega]
    simpa [cellsT] using this
theorem cellsT_one : ∀ l, ∀ u ∈ cellsT l, u.oneCell' = true
  | [], u, h => by cases h
  | x :: l, u, h => by
    simp only [cellsT, List.mem_cons] at h
    rcases h with rfl | rfl | h
    · rfl
    · rfl
    · exact cellsT_one l u h
/-- a literal with the slice of its arguments -/
structure LV where
  l : Ltr
  av : Value
def cellsL : List LV → List Value
  | [] => []
  | x :: l => .bool x.l.neg :: .int .i64 x.l.atom.pred :: x.av :: cellsL l
def LVok (w : World) (x : LV) : Prop := termsAt w x.av x.l.atom.args
theorem LVok.lasts {w w' : World} (hb : Below w.heap.size w w') {x : LV} (h : LVok w x) : LVok w' x := termsAt.lasts hb h
theorem cellsL_length : ∀ l, (cellsL l).length = l.length * 3
  | [] => rfl
  | x :: l => by simp only [cellsL, List.length_cons, cellsL_length l]; omega
theorem cellsL_at : ∀ (l : List LV) (i : Nat) (x : LV), l[i]? = some x → (cellsL l)[i * 3]? = some (.bool x.l.neg) ∧ (cellsL l)[i * 3 + 1]? = some (.int .i64 x.l.atom.pred) ∧ (cellsL l)[i * 3 + 2]? = some x.av
  | [], i, x, h => by simp at h
  | y :: l, 0, x, h => by
    obtain rfl : y = x := by simpa using h
    exact ⟨rfl, rfl, rfl⟩
  | y :: l, i + 1, x, h => by
    have := cellsL_at l i x (by simpa using h)
    rw [show (i + 1) * 3 = i * 3 + 3 by omega]
    simpa [cellsL] using this
theorem cellsL_one {w : World} : ∀ {l : List LV}, (∀ x ∈ l, LVok w x) → ∀ u ∈ cellsL l, u.oneCell' = true
  | [], _, u, hu => by cases hu
  | x :: l, h, u, hu => by
    have hx := h x (by simp)
    simp only [cellsL, List.mem_cons] at hu
    rcases hu with rfl | rfl | rfl | hu
    · rfl
    · rfl
    · exact one_terms hx
    · exact cellsL_one (fun y hy => h y (by simp [hy])) u hu
theorem cellsL_set : ∀ (l : List LV) (i : Nat) (x : LV), cellsL (l.set i x) = (((cellsL l).set (i * 3) (.bool x.l.neg)).set (i * 3 + 1) (.int .i64 x.l.atom.pred)).set (i * 3 + 2) x.av
  | [], i, x => by simp [cellsL]
  | y :: l, 0, x => by simp [cellsL]
  | y :: l, i + 1, x => by
    rw [show (i + 1) * 3 = i * 3 + 3 by omega]
    simp [cellsL, cellsL_set l i x]
def cellsP : List Prd → List Value
  | [] => []
  | x :: l => .string x.name :: .int .i64 x.arity :: .int .i64 x.kind :: cellsP l
theorem cellsP_length : ∀ l, (cellsP l).length = l.length * 3
  | [] => rfl
  | x :: l => by simp only [cellsP, List.length_cons, cellsP_length l]; omega
theorem cellsP_at : ∀ (l : List Prd) (i : Nat) (x : Prd), l[i]? = some x → (cellsP l)[i * 3]? = some (.string x.name) ∧ (cellsP l)[i * 3 + 1]? = some (.int .i64 x.arity) ∧ (cellsP l)[i * 3 + 2]? = some (.int .i64 x.kind)
  | [], i, x, h => by simp at h
  | y :: l, 0, x, h => by
    obtain rfl : y = x := by simpa using h
    exact ⟨rfl, rfl, rfl⟩
  | y :: l, i + 1, x, h => by
    have := cellsP_at l i x (by simpa using h)
    rw [show (i + 1) * 3 = i * 3 + 3 by omega]
    simpa [cellsP] using this
theorem cellsP_one : ∀ l, ∀ u ∈ cellsP l, u.oneCell' = true
  | [], u, h => by cases h
  | x :: l, u, h => by
    simp only [cellsP, List.mem_cons] at h
    rcases h with rfl | rfl | rfl | h
    · rfl
    · rfl
    · rfl
    · exact cellsP_one l u h

/-- v is a slice of n elements, whose cells are cs, somewhere in memory -/
def pieceC (w : World) (v : Value) (n : Nat) (cs : List Value) : Prop :=
  (∃ c, v = .slice none 0 c ∧ n = 0 ∧ cs = []) ∨ ∃ ad c, v = .slice (some ad) n c ∧ ∀ j u, cs[j]? = some u → w.cell? (ad.add j) = some u
theorem addr_lt {w : World} {p : Addr} {v : Value} (h : w.cell? p = some v) : p.block < w.heap.size := by
  refine Classical.byContradiction fun hn => ?_
  have : w.heap[p.block]? = none := by simp; omega
  simp [World.cell?, this] at h
theorem pieceC.lasts {w w' : World} {v : Value} {n : Nat} {cs : List Value} (h : pieceC w v n cs) (hb : Below w.heap.size w w') : pieceC w' v n cs := by
  rcases h with h | ⟨ad, c, h1, h2⟩
  · exact .inl h
  · exact .inr ⟨ad, c, h1, fun j u hu => (hb.cell (addr_lt (h2 j u hu))).trans (h2 j u hu)⟩
theorem terms_cells {w : World} {b : Nat} : ∀ (l : List Tm) (off : Nat), (∀ i x, l[i]? = some x → termAt w b (off + i * 2) x) → ∀ j u, (cellsT l)[j]? = some u → w.cell? ⟨b, off + j, none⟩ = some u
  | [], off, _, j, u, h => by simp [cellsT] at h
  | t :: l, off, h, j, u, hj => by
    have ih := terms_cells l (off + 2) (fun i x hi => by
      have := h (i + 1) x (by simpa using hi)
      rw [show off + (i + 1) * 2 = off + 2 + i * 2 by omega] at this
      exact this)
    obtain ⟨k0, k1⟩ := h 0 t rfl
    match j, hj with
    | 0, hj =>
      obtain rfl : Value.bool t.var = u := by simpa [cellsT] using hj
      exact k0
    | 1, hj =>
      obtain rfl : Value.int .i64 t.n = u := by simpa [cellsT] using hj
      exact k1
    | j + 2, hj =>
      have := ih j u (by simpa [cellsT] using hj)
      rw [show off + (j + 2) = off + 2 + j by omega]
      exact this
theorem preds_cells {w : World} {b : Nat} : ∀ (l : List Prd) (off : Nat), (∀ i x, l[i]? = some x → predAt w b (off + i * 3) x) → ∀ j u, (cellsP l)[j]? = some u → w.cell? ⟨b, off + j, none⟩ = some u
  | [], off, _, j, u, h => by simp [cellsP] at h
  | t :: l, off, h, j, u, hj => by
    have ih := preds_cells l (off + 3) (fun i x hi => by
      have := h (i + 1) x (by simpa using hi)
      rw [show off + (i + 1) * 3 = off + 3 + i * 3 by omega] at this
      exact this)
    obtain ⟨k0, k1, k2⟩ := h 0 t rfl
    match j, hj with
    | 0, hj =>
      obtain rfl : Value.string t.name = u := by simpa [cellsP] using hj
      exact k0
    | 1, hj =>
      obtain rfl : Value.int .i64 t.arity = u := by simpa [cellsP] using hj
      exact k1
    | 2, hj =>
      obtain rfl : Value.int .i64 t.kind = u := by simpa [cellsP] using hj
      exact k2
    | j + 3, hj =>
      have := ih j u (by simpa [cellsP] using hj)
      rw [show off + (j + 3) = off + 3 + j by omega]
      exact this
theorem terms_piece {w : World} {v : Value} {l : List Tm} (h : termsAt w v l) : pieceC w v l.length (cellsT l) := by
  obtain ⟨a, c, rfl, _, hx⟩ := h
  rcases hx with rfl | ⟨b, off, rfl, _, hx⟩
  · cases a with
    | none => exact .inl ⟨c, rfl, rfl, rfl⟩
    | some ad => exact .inr ⟨ad, c, rfl, fun j u hu => by simp [cellsT] at hu⟩
  · exact .inr ⟨_, c, rfl, fun j u hu => by rw [add_none]; exact terms_cells l off hx j u hu⟩
theorem preds_piece {w : World} {v : Value} {l : List Prd} (h : predsAt w v l) : pieceC w v l.length (cellsP l) := by
  obtain ⟨a, c, rfl, _, hx⟩ := h
  rcases hx with rfl | ⟨b, off, rfl, _, hx⟩
  · cases a with
    | none => exact .inl ⟨c, rfl, rfl, rfl⟩
    | some ad => exact .inr ⟨ad, c, rfl, fun j u hu => by simp [cellsP] at hu⟩
  · exact .inr ⟨_, c, rfl, fun j u hu => by rw [add_none]; exact preds_cells l off hx j u hu⟩
theorem lits_rows {w : World} {b : Nat} : ∀ (ls : List Ltr) (off : Nat), (∀ i x, ls[i]? = some x → litAt w b (off + i * 3) x) → ∃ vs : List LV, vs.map LV.l = ls ∧ (∀ x ∈ vs, LVok w x) ∧ ∀ j u, (cellsL vs)[j]? = some u → w.cell? ⟨b, off + j, none⟩ = some u
  | [], off, _ => ⟨[], rfl, by simp, by simp [cellsL]⟩
  | r :: ls, off, h => by
    obtain ⟨vs, h1, h2, h3⟩ := lits_rows ls (off + 3) (fun i x hi => by
      have := h (i + 1) x (by simpa using hi)
      rw [show off + (i + 1) * 3 = off + 3 + i * 3 by omega] at this
      exact this)
    obtain ⟨k0, k1, av, k2, k2'⟩ := h 0 r rfl
    refine ⟨⟨r, av⟩ :: vs, by rw [List.map_cons, h1], ?_, ?_⟩
    · intro x hx
      rcases List.mem_cons.1 hx with rfl | hx
      · exact k2'
      · exact h2 x hx
    · intro j u hj
      match j, hj with
      | 0, hj =>
        obtain rfl : Value.bool r.neg = u := by simpa [cellsL] using hj
        exact k0
      | 1, hj =>
        obtain rfl : Value.int .i64 r.atom.pred = u := by simpa [cellsL] using hj
        exact k1
      | 2, hj =>
        obtain rfl : av = u := by simpa [cellsL] using hj
        exact k2
      | j + 3, hj =>
        have := h3 j u (by simpa [cellsL] using hj)
        rw [show off + (j + 3) = off + 3 + j by omega]
        exact this
theorem lits_open {w : World} {v : Value} {ls : List Ltr} (h : litsAt w v ls) : ∃ vs : List LV, vs.map LV.l = ls ∧ (∀ x ∈ vs, LVok w x) ∧ pieceC w v vs.length (cellsL vs) := by
  obtain ⟨a, cap, rfl, hl, hx⟩ := h
  rcases hx with rfl | ⟨b, off, rfl, hb, hx⟩
  · refine ⟨[], rfl, by simp, ?_⟩
    cases a with
    | none => exact .inl ⟨cap, rfl, rfl, rfl⟩
    | some ad => exact .inr ⟨ad, cap, rfl, fun j u hu => by simp [cellsL] at hu⟩
  · obtain ⟨vs, h1, h2, h3⟩ := lits_rows ls off hx
    refine ⟨vs, h1, h2, .inr ⟨_, cap, ?_, fun j u hu => by rw [add_none]; exact h3 j u hu⟩⟩
    rw [← h1, List.length_map]
theorem rules_piece {w : World} {v : Value} {rs : List Rul} (h : rulesAt w v rs) : ∃ vs : List RV, vs.map RV.r = rs ∧ (∀ x ∈ vs, RVok w x) ∧ pieceC w v vs.length (cellsR vs) := by
  obtain ⟨vs, a, cap, rfl, h1, h2, h3⟩ := rules_open h
  have hl : vs.length = rs.length := by rw [← h1, List.length_map]
  rcases h3 with rfl | ⟨b, off, rfl, hb, h3⟩
  · obtain rfl : vs = [] := List.eq_nil_of_length_eq_zero hl
    refine ⟨[], rfl, by simp, ?_⟩
    cases a with
    | none => exact .inl ⟨cap, rfl, rfl, rfl⟩
    | some ad => exact .inr ⟨ad, cap, rfl, fun j u hu => by simp [cellsR] at hu⟩
  · exact ⟨vs, h1, h2, .inr ⟨_, cap, by rw [hl], fun j u hu => by rw [add_none]; exact h3 j u hu⟩⟩

/-! ### Back: rows of the call's own are slices -/
theorem own_cell {w : World} {base sz : Nat} {e : TypeId} {v : Value} {n : Nat} {cs : List Value} (h : w.ownsRow base e sz v n cs) (hl : cs.length = n * sz) : (v = .slice none 0 0 ∧ n = 0) ∨ ∃ g cap, v = .slice (some ⟨g, 0, none⟩) n cap ∧ base ≤ g ∧ g < w.heap.size ∧ (∀ k, w.frozen? ⟨g, k, none⟩ = false) ∧ ∀ j z, cs[j]? = some z → w.cell? ⟨g, 0 + j, none⟩ = some z := by
  obtain ⟨h0, h1⟩ := h
  rcases h1 with ⟨rfl, hn⟩ | ⟨g, cap, cur, rfl, hb, hg, hc, hm, hsz, htk⟩
  · exact .inl ⟨rfl, hn⟩
  · refine .inr ⟨g, cap, rfl, hb, (Array.getElem?_eq_some_iff.1 hg).1, fun k => by simp [World.frozen?, hg], ?_⟩
    intro j z hz
    have hj : j < n * sz := by
      have := (List.getElem?_eq_some_iff.1 hz).1
      omega
    rw [← htk, List.getElem?_take_of_lt hj] at hz
    simp [World.cell?, hg]
    simpa using hz
theorem termsAt_own {w : World} {base : Nat} {e : TypeId} {v : Value} {l : List Tm} (h : w.ownsRow base e 2 v l.length (cellsT l)) (hl : l.length ≤ 140737488355328) : termsAt w v l := by
  rcases own_cell h (cellsT_length l) with ⟨rfl, hn⟩ | ⟨g, cap, rfl, _, hg, _, hc⟩
  · obtain rfl := List.eq_nil_of_length_eq_zero hn
    exact ⟨none, 0, rfl, by simp, .inl rfl⟩
  · refine ⟨_, cap, rfl, hl, .inr ⟨g, 0, rfl, hg, fun i x hi => ?_⟩⟩
    obtain ⟨k0, k1⟩ := cellsT_at l i x hi
    exact ⟨hc _ _ k0, hc _ _ k1⟩
theorem predsAt_own {w : World} {base : Nat} {e : TypeId} {v : Value} {l : List Prd} (h : w.ownsRow base e 3 v l.length (cellsP l)) (hl : l.length ≤ 140737488355328) : predsAt w v l := by
  rcases own_cell h (cellsP_length l) with ⟨rfl, hn⟩ | ⟨g, cap, rfl, _, hg, _, hc⟩
  · obtain rfl := List.eq_nil_of_length_eq_zero hn
    exact ⟨none, 0, rfl, by simp, .inl rfl⟩
  · refine ⟨_, cap, rfl, hl, .inr ⟨g, 0, rfl, hg, fun i x hi => ?_⟩⟩
    obtain ⟨k0, k1, k2⟩ := cellsP_at l i x hi
    exact ⟨hc _ _ k0, hc _ _ k1, hc _ _ k2⟩
theorem litsAt_own {w : World} {base : Nat} {e : TypeId} {v : Value} {l : List LV} (h : w.ownsRow base e 3 v l.length (cellsL l)) (hl : l.length ≤ 140737488355328) (ht : ∀ x ∈ l, LVok w x) : litsAt w v (l.map LV.l) := by
  rcases own_cell h (cellsL_length l) with ⟨rfl, hn⟩ | ⟨g, cap, rfl, _, hg, _, hc⟩
  · obtain rfl := List.eq_nil_of_length_eq_zero hn
    exact ⟨none, 0, rfl, by simp, .inl rfl⟩
  · refine ⟨_, cap, by rw [List.length_map], by rw [List.length_map]; exact hl, .inr ⟨g, 0, rfl, hg, fun i x hi => ?_⟩⟩
    rw [List.getElem?_map] at hi
    obtain ⟨y, hy, rfl⟩ := Option.map_eq_some_iff.1 hi
    obtain ⟨k0, k1, k2⟩ := cellsL_at l i y hy
    exact ⟨hc _ _ k0, hc _ _ k1, y.av, hc _ _ k2, ht _ (List.mem_of_getElem? hy)⟩
/-- a cell of a row is written over -/
theorem own_store {w : World} {base g cap n sz k : Nat} {e : TypeId} {xs : List Value} {v : Value} (h : w.ownsRow base e sz (.slice (some ⟨g, 0, none⟩) n cap) n xs) : (w.setCell ⟨g, k, none⟩ v).ownsRow base e sz (.slice (some ⟨g, 0, none⟩) n cap) n (xs.set k v) := by
  obtain ⟨hlen, h1⟩ := h
  rcases h1 with ⟨h1, _⟩ | ⟨g', cap', cur, hv, hb, hg, hc, hm, hsz, htk⟩
  · cases h1
  · obtain ⟨rfl, rfl⟩ : g = g' ∧ cap = cap' := by simpa using hv
    refine ⟨by simpa using hlen, .inr ⟨g, cap, cur.setIfInBounds k v, rfl, hb, heap_setCell_same w g k _ _ _ hg, hc, hm, by simpa using hsz, ?_⟩⟩
    obtain ⟨cl⟩ := cur
    simp only [List.setIfInBounds_toArray] at htk ⊢
    rw [List.take_set, htk]
theorem own_lasts {w w' : World} {base sz n : Nat} {e : TypeId} {v : Value} {xs : List Value} (h : w.ownsRow base e sz v n xs) (hb : Below w.heap.size w w') : w'.ownsRow base e sz v n xs := by
  obtain ⟨h0, h1⟩ := h
  refine ⟨h0, ?_⟩
  rcases h1 with h1 | ⟨g, cap, cur, h1, h2, h3, h4⟩
  · exact .inl h1
  · exact .inr ⟨g, cap, cur, h1, h2, (hb.block g (Array.getElem?_eq_some_iff.1 h3).1).trans h3, h4⟩

/-! ### What hangs on the blocks from n on alone -/
def KeepsFrom (n : Nat) (w w' : World) : Prop := w.heap.size ≤ w'.heap.size ∧ ∀ b, n ≤ b → b < w.heap.size → w'.heap[b]? = w.heap[b]?
theorem KeepsFrom.refl (n : Nat) (w : World) : KeepsFrom n w w := ⟨Nat.le_refl _, fun _ _ _ => rfl⟩
theorem KeepsFrom.trans {n : Nat} {w w1 w2 : World} (h : KeepsFrom n w w1) (k : KeepsFrom n w1 w2) : KeepsFrom n w w2 := ⟨Nat.le_trans h.1 k.1, fun b h1 h2 => (k.2 b h1 (Nat.lt_of_lt_of_le h2 h.1)).trans (h.2 b h1 h2)⟩
theorem KeepsFrom.mono {n m : Nat} {w w' : World} (h : KeepsFrom n w w') (hm : n ≤ m) : KeepsFrom m w w' := ⟨h.1, fun b h1 h2 => h.2 b (Nat.le_trans hm h1) h2⟩
theorem KeepsFrom.below {n : Nat} {w w' : World} (h : Below w.heap.size w w') : KeepsFrom n w w' := ⟨h.size, fun b _ h2 => h.block b h2⟩
theorem heap_other {w : World} {g k : Nat} {v : Value} {b : Nat} (h : g ≠ b) : (w.setCell ⟨g, k, none⟩ v).heap[b]? = w.heap[b]? := by
  show (w.heap.modify g _)[b]? = _
  rw [Array.getElem?_modify, if_neg h]
theorem KeepsFrom.set {n g k : Nat} {w : World} {v : Value} (h : g < n) : KeepsFrom n w (w.setCell ⟨g, k, none⟩ v) := ⟨by rw [size_set]; exact Nat.le_refl _, fun b h1 _ => heap_other (by omega)⟩
def Fresh (n : Nat) (Φ : World → Prop) (w : World) : Prop := ∀ w', KeepsFrom n w w' → Φ w'
theorem Fresh.here {n : Nat} {Φ : World → Prop} {w : World} (h : Fresh n Φ w) : Φ w := h w (KeepsFrom.refl n w)
theorem Fresh.keeps {n m : Nat} {Φ : World → Prop} {w w' : World} (h : Fresh n Φ w) (k : KeepsFrom m w w') (hm : m ≤ n) : Fresh n Φ w' := fun x hx => h x ((k.mono hm).trans hx)
theorem Fresh.mono {n m : Nat} {Φ : World → Prop} {w : World} (h : Fresh n Φ w) (hm : m ≤ n) : Fresh m Φ w := fun x hx => h x (hx.mono hm)
theorem own_keeps {w w' : World} {base sz n m : Nat} {e : TypeId} {v : Value} {xs : List Value} (h : w.ownsRow base e sz v n xs) (k : KeepsFrom m w w') (hm : m ≤ base) : w'.ownsRow base e sz v n xs := by
  obtain ⟨h0, h1⟩ := h
  refine ⟨h0, ?_⟩
  rcases h1 with h1 | ⟨g, cap, cur, h1, h2, h3, h4⟩
  · exact .inl h1
  · exact .inr ⟨g, cap, cur, h1, h2, (k.2 g (by omega) (Array.getElem?_eq_some_iff.1 h3).1).trans h3, h4⟩
theorem own_base {w : World} {base b' sz n : Nat} {e : TypeId} {v : Value} {xs : List Value} (h : w.ownsRow base e sz v n xs) (hb : b' ≤ base) : w.ownsRow b' e sz v n xs := by
  obtain ⟨h0, h1⟩ := h
  refine ⟨h0, ?_⟩
  rcases h1 with h1 | ⟨g, cap, cur, h1, h2, h3, h4⟩
  · exact .inl h1
  · exact .inr ⟨g, cap, cur, h1, by omega, h3, h4⟩
theorem fresh_terms {w : World} {base : Nat} {e : TypeId} {v : Value} {l : List Tm} (h : w.ownsRow base e 2 v l.length (cellsT l)) (hl : l.length ≤ 140737488355328) : Fresh base (fun x => termsAt x v l) w := fun _ hx => termsAt_own (own_keeps h hx (Nat.le_refl _)) hl
theorem fresh_lits {w : World} {base : Nat} {e : TypeId} {v : Value} {l : List LV} (h : w.ownsRow base e 3 v l.length (cellsL l)) (hl : l.length ≤ 140737488355328) (ht : ∀ x ∈ l, Fresh base (fun y => LVok y x) w) : Fresh base (fun x => litsAt x v (l.map LV.l)) w := fun _ hx => litsAt_own (own_keeps h hx (Nat.le_refl _)) hl fun x hm => ht x hm _ hx
/-- what is behind a store that meets no cell of the row's -/
theorem own_away {w : World} {base sz n g k : Nat} {e : TypeId} {v u : Value} {xs : List Value} (h : w.ownsRow base e sz v n xs) (hg : g < base) : (w.setCell ⟨g, k, none⟩ u).ownsRow base e sz v n xs := own_keeps h (KeepsFrom.set hg) (Nat.le_refl _)

theorem infoTerm : (Tryz.prog.info? 94).map (fun i => (i.zero, i.size, i.bytes)) = some (some (.agg #[.bool false, .int .i64 0]), 2, 16) := by kernel_rfl
theorem infoLit : (Tryz.prog.info? 66).map (fun i => (i.zero, i.size, i.bytes)) = some (some (.agg #[.bool false, .int .i64 0, .slice none 0 0]), 3, 40) := by kernel_rfl
theorem infoPred : (Tryz.prog.info? 47).map (fun i => (i.zero, i.size, i.bytes)) = some (some (.agg #[.string ByteArray.empty, .int .i64 0, .int .i64 0]), 3, 32) := by kernel_rfl
end Go.Proofs.YtlfccloaoopadafGreatDoor.Sum
