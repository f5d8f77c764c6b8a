/-
  What the document's own 'add' and 'AddOf' answer.
-/
import Derived.Test.YtabhmlkpbdfjcabOwn7
namespace Go.Proofs.Ytabhmlkpbdfjcab.Base
open Go.ChangeShapes Go.WideShapes Go.ChangeAt Go.RowKit
open Lat (within within_c join)
open Rule (factFine factFine_c isPred kindOf arityOf isPred_iff)

/-- does one stand at x's place, or behind it? -/
def hit (x : Fct) (f : List Fct) : Bool := f.any fun y => decide (place x ≤ place y)
theorem hit_cons (x y : Fct) (f : List Fct) : hit x (y :: f) = (decide (place x ≤ place y) || hit x f) := rfl
theorem add_hit {K : Int → Int} {x : Fct} : ∀ {f : List Fct} (g : List Fct), hit x f = true → addF K x (f ++ g) = addF K x f ++ g ∧ addC K x (f ++ g) = addC K x f
  | [], g, h => by cases h
  | y :: f, g, h => by
    rw [List.cons_append, addF, addF, addC, addC]
    by_cases e : place y = place x
    · rw [if_pos e, if_pos e, if_pos e, if_pos e]
      exact ⟨rfl, rfl⟩
    · rw [if_neg e, if_neg e, if_neg e, if_neg e]
      by_cases l : place x < place y
      · rw [if_pos l, if_pos l, if_pos l, if_pos l]
        exact ⟨rfl, rfl⟩
      · rw [if_neg l, if_neg l, if_neg l, if_neg l]
        have h' : hit x f = true := by
          rw [hit_cons] at h
          have : decide (place x ≤ place y) = false := by simp; omega
          rw [this, Bool.false_or] at h
          exact h
        obtain ⟨h1, h2⟩ := add_hit g h'
        rw [h1, h2]
        exact ⟨rfl, rfl⟩
theorem add_miss {K : Int → Int} {x : Fct} : ∀ {f : List Fct} (g : List Fct), hit x f = false → addF K x (f ++ g) = f ++ addF K x g ∧ addC K x (f ++ g) = addC K x g
  | [], g, _ => ⟨rfl, rfl⟩
  | y :: f, g, h => by
    rw [hit_cons, Bool.or_eq_false_iff] at h
    have hy : ¬ place x ≤ place y := by simpa using h.1
    obtain ⟨h1, h2⟩ := add_miss (K := K) g h.2
    rw [List.cons_append, addF, addC, if_neg (by omega), if_neg (by omega), if_neg (by omega), if_neg (by omega), h1, h2]
    exact ⟨rfl, rfl⟩
def outTo (K : Int → Int) (x : Fct) (f : List Fct) : List Fct := if hit x f then addF K x f else f
def chgTo (K : Int → Int) (x : Fct) (f : List Fct) : Bool := if hit x f then addC K x f else false
theorem hit_app (x y : Fct) (f : List Fct) : hit x (f ++ [y]) = (hit x f || decide (place x ≤ place y)) := by simp [hit]
theorem stepA {K : Int → Int} {x y : Fct} {f : List Fct} (h : hit x f = true) : hit x (f ++ [y]) = true ∧ outTo K x (f ++ [y]) = outTo K x f ++ [y] ∧ chgTo K x (f ++ [y]) = chgTo K x f := by
  have h1 : hit x (f ++ [y]) = true := by rw [hit_app, h]; rfl
  obtain ⟨h2, h3⟩ := add_hit (K := K) [y] h
  refine ⟨h1, ?_, ?_⟩
  · unfold outTo; rw [if_pos h1, if_pos h, h2]
  · unfold chgTo; rw [if_pos h1, if_pos h, h3]
theorem stepB {K : Int → Int} {x y : Fct} {f : List Fct} (h : hit x f = false) (hy : place y < place x) : hit x (f ++ [y]) = false ∧ outTo K x (f ++ [y]) = outTo K x f ++ [y] ∧ chgTo K x (f ++ [y]) = chgTo K x f := by
  have h1 : hit x (f ++ [y]) = false := by rw [hit_app, h]; simp; omega
  refine ⟨h1, ?_, ?_⟩
  · unfold outTo; rw [if_neg (by rw [h1]; simp), if_neg (by rw [h]; simp)]
  · unfold chgTo; rw [if_neg (by rw [h1]; simp), if_neg (by rw [h]; simp)]
theorem stepC {K : Int → Int} {x y : Fct} {f : List Fct} (h : hit x f = false) (hy : place y = place x) : hit x (f ++ [y]) = true ∧ outTo K x (f ++ [y]) = outTo K x f ++ [⟨y.pred, y.a, y.b, join (K x.pred) y.val x.val⟩] ∧ chgTo K x (f ++ [y]) = (join (K x.pred) y.val x.val != y.val) := by
  have h1 : hit x (f ++ [y]) = true := by rw [hit_app, h]; simp; omega
  obtain ⟨h2, h3⟩ := add_miss (K := K) [y] h
  refine ⟨h1, ?_, ?_⟩
  · unfold outTo; rw [if_pos h1, if_neg (by rw [h]; simp), h2, addF, if_pos hy]
  · unfold chgTo; rw [if_pos h1, h3, addC, if_pos hy]
theorem stepD {K : Int → Int} {x y : Fct} {f : List Fct} (h : hit x f = false) (hy : place x < place y) : hit x (f ++ [y]) = true ∧ outTo K x (f ++ [y]) = outTo K x f ++ [x] ++ [y] ∧ chgTo K x (f ++ [y]) = true := by
  have h1 : hit x (f ++ [y]) = true := by rw [hit_app, h]; simp; omega
  obtain ⟨h2, h3⟩ := add_miss (K := K) [y] h
  refine ⟨h1, ?_, ?_⟩
  · unfold outTo; rw [if_pos h1, if_neg (by rw [h]; simp), h2, addF, if_neg (by omega), if_pos hy]; simp
  · unfold chgTo; rw [if_pos h1, h3, addC, if_neg (by omega), if_pos hy]
theorem endHit {K : Int → Int} {x : Fct} {f : List Fct} (h : hit x f = true) : outTo K x f = addF K x f ∧ chgTo K x f = addC K x f := by
  unfold outTo chgTo; rw [if_pos h, if_pos h]; exact ⟨rfl, rfl⟩
theorem endMiss {K : Int → Int} {x : Fct} {f : List Fct} (h : hit x f = false) : addF K x f = outTo K x f ++ [x] ∧ addC K x f = true := by
  obtain ⟨h1, h2⟩ := add_miss (K := K) [] h
  rw [List.append_nil] at h1 h2
  unfold outTo; rw [if_neg (by rw [h]; simp), h1, h2]; exact ⟨rfl, rfl⟩
theorem hit_ne {f : List Fct} {x : Fct} (hs : Sorted f) {k : Nat} (hk : k < f.length) (h : hit x (f.take k) = true) : place f[k] ≠ place x := by
  obtain ⟨y, hy, hp⟩ := List.any_eq_true.1 h
  obtain ⟨i, hi, rfl⟩ := List.mem_iff_getElem.1 hy
  rw [List.getElem_take] at hp
  have hik : i < k := by simp at hi; omega
  have := List.pairwise_iff_getElem.1 hs i k (by omega) hk hik
  have hp' : place x ≤ place f[i] := by simpa using hp
  omega
theorem out_length (K : Int → Int) (x : Fct) (f : List Fct) : (outTo K x f).length ≤ f.length + 1 := by
  have : ∀ g : List Fct, (addF K x g).length ≤ g.length + 1 := by
    intro g
    induction g with
    | nil => simp [addF]
    | cons y g ih =>
      rw [addF]
      split
      · simp
      · split
        · simp
        · simp; exact ih
  unfold outTo
  split
  · exact this f
  · omega
theorem own_lasts {w w' : World} {base : Nat} {e : TypeId} {sz n : Nat} {v : Value} {xs : List Value} (h : w.ownsRow base e sz v n xs) (hb : Below w.heap.size w w') : w'.ownsRow base e sz v n xs := by
  obtain ⟨h0, h1⟩ := h
  refine ⟨h0, ?_⟩
  rcases h1 with h1 | ⟨g, cap, cur, h1, h2, h3, h4⟩
  · exact .inl h1
  · exact .inr ⟨g, cap, cur, h1, h2, (hb.block g (Array.getElem?_eq_some_iff.1 h3).1).trans h3, h4⟩
theorem own_set {w : World} {base : Nat} {e : TypeId} {sz n : Nat} {v : Value} {xs : List Value} (h : w.ownsRow base e sz v n xs) {b o : Nat} {u : Value} (hb : ∀ g, v.ownBlock = some g → g ≠ b) : (w.setCell ⟨b, o, none⟩ u).ownsRow base e sz v n xs := by
  obtain ⟨h0, h1⟩ := h
  refine ⟨h0, ?_⟩
  rcases h1 with h1 | ⟨g, cap, cur, h1, h2, h3, h4⟩
  · exact .inl h1
  · refine .inr ⟨g, cap, cur, h1, h2, ?_, h4⟩
    have : g ≠ b := hb g (by rw [h1]; rfl)
    rw [Below.heap_setCell _ _ _ _ this]
    exact h3
theorem own_lt {w : World} {base : Nat} {e : TypeId} {sz n : Nat} {v : Value} {xs : List Value} (h : w.ownsRow base e sz v n xs) : ∀ g, v.ownBlock = some g → g < w.heap.size := fun g hg => (h.lt g hg).2

set_option maxRecDepth 100000 in
set_option maxHeartbeats 16000000 in
theorem add_c (w : World) (pv fv : Value) (ps : List Prd) (f : List Fct) (p a b v : Int) (hp : predsAt w pv ps) (hf : factsAt w fv f) (ef : factsErr ps f = 0) (ex : factFine ps ⟨p, a, b, v⟩ = true) :
    Calls Try.prog 60 #[pv, fv, .agg #[.int .i64 p, .int .i64 a, .int .i64 b, .int .i64 v]] w fun e w' => ∃ u, e = .returned (.tuple #[u, .bool (addC (kindOf ps) ⟨p, a, b, v⟩ f)]) ∧ factsAt w' u (addF (kindOf ps) ⟨p, a, b, v⟩ f) ∧ capOk u ∧ Below w.heap.size w w' := by
  have HF : Hid (factsAt w fv f) := hf
  have HS : Hid (∀ y ∈ f, Small y) := facts_small ef
  have HX : Hid (Small ⟨p, a, b, v⟩) := fine_small (factsErr_zero ef).1 ex
  have HSO : Hid (Sorted f) := (right_of ef).sorted
  have hshort := facts_short ef
  obtain ⟨pk, hpk, hpe⟩ : ∃ k : Nat, k < ps.length ∧ p = (k : Int) := isPred_iff.1 (by have := ex; simp only [factFine, Bool.and_eq_true] at this; exact this.1)
  subst hpe
  obtain ⟨pa, pc, rfl, hpm, hpx⟩ := hp
  obtain ⟨fa, fc, rfl, hfm, hfx⟩ := hf
  obtain ⟨pb, po, rfl, hbp, hxx⟩ := hpx.resolve_left (by rintro rfl; simp at hpk)
  obtain ⟨_, _, k2⟩ := hxx pk ps[pk] (by simp [hpk])
  have HQ4 : Hid (ps[pk].kind = 0 ∨ ps[pk].kind = 1 ∨ ps[pk].kind = 2 ∨ ps[pk].kind = 3) := kind_four (factsErr_zero ef).2.1 hpk
  have HKO : Hid (kindOf ps (pk : Int) = ps[pk].kind) := kindOf_at hpk
  have hpl : (pk : Int) < (ps.length : Int) := by omega
  have hp0 : (0 : Int) ≤ (pk : Int) := by omega
  clear hpx hxx hfx ef ex
  generalize ps[pk].kind = qk at *
  go_enter Try.func60, Try.ntmps60
  go_wp2_with fail
  go_loopw [8, 9, 10, 11] (fun s8 s9 s10 s11 wr => ∃ (k : Nat) (vv : Value), vv = s8 ∧ k ≤ f.length ∧ s11 = .int .i64 k ∧ s9 = .bool (hit ⟨(pk : Int), a, b, v⟩ (f.take k)) ∧ s10 = .bool (chgTo (kindOf ps) ⟨(pk : Int), a, b, v⟩ (f.take k)) ∧ wr.ownsRow (w.heap.size + 1) 54 4 vv (outTo (kindOf ps) ⟨(pk : Int), a, b, v⟩ (f.take k)).length (cellsF (outTo (kindOf ps) ⟨(pk : Int), a, b, v⟩ (f.take k))) ∧ Below (w.heap.size + 1) (w.alloc (.cells #[.int .i64 (pk : Int), .int .i64 a, .int .i64 b, .int .i64 v] 54)) wr) (fun _ _ _ i _ => f.length - (intOf i).toNat)
  case atStart => exact ⟨0, _, rfl, Nat.zero_le _, rfl, rfl, rfl, World.ownsRow_nil _ _ _ _, by have := Below.refl (w.alloc (.cells #[.int .i64 (pk : Int), .int .i64 a, .int .i64 b, .int .i64 v] 54)).heap.size (w.alloc (.cells #[.int .i64 (pk : Int), .int .i64 a, .int .i64 b, .int .i64 v] 54)); simpa using this⟩
  case round =>
    obtain ⟨k, vv, hvv, hk, rfl, rfl, rfl, hown, hbr⟩ := hrel
    subst hvv
    have hbw : Below w.heap.size w wr := (below_alloc _ _).trans (hbr.mono (by simp))
    have c0 : wr.cell? ⟨w.heap.size, 0, none⟩ = some (.int .i64 (pk : Int)) := by rw [hbr.cell (by simp)]; simp [go_sem]
    have c1 : wr.cell? ⟨w.heap.size, 1, none⟩ = some (.int .i64 a) := by rw [hbr.cell (by simp)]; simp [go_sem]
    have c2 : wr.cell? ⟨w.heap.size, 2, none⟩ = some (.int .i64 b) := by rw [hbr.cell (by simp)]; simp [go_sem]
    have c3 : wr.cell? ⟨w.heap.size, 3, none⟩ = some (.int .i64 v) := by rw [hbr.cell (by simp)]; simp [go_sem]
    have sxr : w.heap.size < wr.heap.size := by have := hbr.size; simp at this; omega
    have k2r := (cell_lasts hbw hbp).trans k2
    by_cases hlt : k < f.length
    · obtain ⟨bb, off, cap, hv, hbl, hcells⟩ := fact_cells HF.out hlt
      obtain ⟨rfl, rfl⟩ : fa = some ⟨bb, off, none⟩ ∧ fc = cap := by simpa using hv
      obtain ⟨t0, t1, t2, t3⟩ := factAt.lasts w wr bb _ _ hbw hbl hcells
      have HSY : Hid (Small f[k]) := HS.out _ (List.getElem_mem hlt)
      have hjl : (k : Int) < (f.length : Int) := by omega
      have hj0 : (0 : Int) ≤ (k : Int) := by omega
      have hOl : (outTo (kindOf ps) ⟨(pk : Int), a, b, v⟩ (f.take k)).length ≤ 126 := Nat.le_trans (out_length _ _ _) (by simp; omega)
      have hne : ∀ g, vv.ownBlock = some g → g < wr.heap.size := own_lt hown
      have HT1 : Hid (f.take (k + 1) = f.take k ++ [f[k]]) := List.take_succ_eq_append_getElem hlt
      have HA : Hid (hit ⟨(pk : Int), a, b, v⟩ (f.take k) = true → place f[k] ≠ place ⟨(pk : Int), a, b, v⟩ ∧ hit ⟨(pk : Int), a, b, v⟩ (f.take (k + 1)) = true ∧ outTo (kindOf ps) ⟨(pk : Int), a, b, v⟩ (f.take (k + 1)) = outTo (kindOf ps) ⟨(pk : Int), a, b, v⟩ (f.take k) ++ [f[k]] ∧ chgTo (kindOf ps) ⟨(pk : Int), a, b, v⟩ (f.take (k + 1)) = chgTo (kindOf ps) ⟨(pk : Int), a, b, v⟩ (f.take k)) := fun h => ⟨hit_ne HSO.out hlt h, by rw [HT1.out]; exact stepA h⟩
      have HB : Hid (hit ⟨(pk : Int), a, b, v⟩ (f.take k) = false → place f[k] < place ⟨(pk : Int), a, b, v⟩ → hit ⟨(pk : Int), a, b, v⟩ (f.take (k + 1)) = false ∧ outTo (kindOf ps) ⟨(pk : Int), a, b, v⟩ (f.take (k + 1)) = outTo (kindOf ps) ⟨(pk : Int), a, b, v⟩ (f.take k) ++ [f[k]] ∧ chgTo (kindOf ps) ⟨(pk : Int), a, b, v⟩ (f.take (k + 1)) = chgTo (kindOf ps) ⟨(pk : Int), a, b, v⟩ (f.take k)) := fun h g => by rw [HT1.out]; exact stepB h g
      have HC : Hid (hit ⟨(pk : Int), a, b, v⟩ (f.take k) = false → place f[k] = place ⟨(pk : Int), a, b, v⟩ → hit ⟨(pk : Int), a, b, v⟩ (f.take (k + 1)) = true ∧ outTo (kindOf ps) ⟨(pk : Int), a, b, v⟩ (f.take (k + 1)) = outTo (kindOf ps) ⟨(pk : Int), a, b, v⟩ (f.take k) ++ [⟨f[k].pred, f[k].a, f[k].b, join qk f[k].val v⟩] ∧ chgTo (kindOf ps) ⟨(pk : Int), a, b, v⟩ (f.take (k + 1)) = (join qk f[k].val v != f[k].val)) := fun h g => by rw [HT1.out, ← HKO.out]; exact stepC h g
      have HD : Hid (hit ⟨(pk : Int), a, b, v⟩ (f.take k) = false → place ⟨(pk : Int), a, b, v⟩ < place f[k] → hit ⟨(pk : Int), a, b, v⟩ (f.take (k + 1)) = true ∧ outTo (kindOf ps) ⟨(pk : Int), a, b, v⟩ (f.take (k + 1)) = outTo (kindOf ps) ⟨(pk : Int), a, b, v⟩ (f.take k) ++ [⟨(pk : Int), a, b, v⟩] ++ [f[k]] ∧ chgTo (kindOf ps) ⟨(pk : Int), a, b, v⟩ (f.take (k + 1)) = true) := fun h g => by rw [HT1.out]; exact stepD h g
      clear hcells hv HF HS HSO HT1 HKO
      generalize f[k] = y at *
      obtain ⟨yp, ya, yb, yv⟩ := y
      generalize outTo (kindOf ps) ⟨(pk : Int), a, b, v⟩ (f.take k) = O at *
      generalize chgTo (kindOf ps) ⟨(pk : Int), a, b, v⟩ (f.take k) = C at *
      have HOW : Hid (wr.ownsRow (w.heap.size + 1) 54 4 vv O.length (cellsF O)) := hown
      have hneb : vv.ownBlock ≠ some wr.heap.size := fun e => by have := hne _ e; omega
      clear hown
      cases hh : hit ⟨(pk : Int), a, b, v⟩ (f.take k)
      · by_cases hlt2 : place ⟨yp, ya, yb, yv⟩ < place ⟨(pk : Int), a, b, v⟩
        · have HT := HB.out hh hlt2
          have hpe : (place ⟨yp, ya, yb, yv⟩ == place ⟨(pk : Int), a, b, v⟩) = false := by simp; omega
          have hpg : decide (place ⟨(pk : Int), a, b, v⟩ < place ⟨yp, ya, yb, yv⟩) = false := by simp; omega
          have HT : Hid _ := HT
          clear HA HB HC HD hlt2 hh
          go_wp2_with fail
          refine wp_called (fun W => w.heap.size < W.heap.size ∧ wr.heap.size < W.heap.size ∧ Below (w.heap.size + 1) (w.alloc (.cells #[.int .i64 (pk : Int), .int .i64 a, .int .i64 b, .int .i64 v] 54)) W ∧ W.ownsRow (w.heap.size + 1) 54 4 vv O.length (cellsF O) ∧ W.frozen? ⟨wr.heap.size, 3, none⟩ = false ∧ W.cell? ⟨pb, po + pk * 3 + 2, none⟩ = some (.int .i64 qk) ∧ W.cell? ⟨w.heap.size, 0, none⟩ = some (.int .i64 (pk : Int)) ∧ W.cell? ⟨w.heap.size, 1, none⟩ = some (.int .i64 a) ∧ W.cell? ⟨w.heap.size, 2, none⟩ = some (.int .i64 b) ∧ W.cell? ⟨w.heap.size, 3, none⟩ = some (.int .i64 v) ∧ W.cell? ⟨wr.heap.size, 0, none⟩ = some (.int .i64 yp) ∧ W.cell? ⟨wr.heap.size, 1, none⟩ = some (.int .i64 ya) ∧ W.cell? ⟨wr.heap.size, 2, none⟩ = some (.int .i64 yb) ∧ W.cell? ⟨wr.heap.size, 3, none⟩ = some (.int .i64 yv)) ⟨by simp; omega, by simp, hbr.alloc (by omega) _, own_lasts HOW.out (below_alloc _ _), by simp [go_sem], by rw [cell_lasts (below_alloc _ _) (by omega)]; exact k2r, by rw [cell_lasts (below_alloc _ _) sxr]; exact c0, by rw [cell_lasts (below_alloc _ _) sxr]; exact c1, by rw [cell_lasts (below_alloc _ _) sxr]; exact c2, by rw [cell_lasts (below_alloc _ _) sxr]; exact c3, by simp [go_sem], by simp [go_sem], by simp [go_sem], by simp [go_sem]⟩ ?_
          rintro W0 ⟨sx0, sy0, hx0, ho0, yf0, k20, x00, x10, x20, x30, y00, y10, y20, y30⟩
          have HO0 : Hid (W0.ownsRow (w.heap.size + 1) 54 4 vv O.length (cellsF O)) := ho0
          clear ho0 HOW t0 t1 t2 t3 c0 c1 c2 c3 k2r
          go_wp2_with fail
          have Lx0 : ∀ q : Low W0.heap.size W0, q.wd.cell? ⟨w.heap.size, 0, none⟩ = some (.int .i64 (pk : Int)) := fun q => (cell_lasts q.low sx0).trans x00
          have Lx1 : ∀ q : Low W0.heap.size W0, q.wd.cell? ⟨w.heap.size, 1, none⟩ = some (.int .i64 a) := fun q => (cell_lasts q.low sx0).trans x10
          have Lx2 : ∀ q : Low W0.heap.size W0, q.wd.cell? ⟨w.heap.size, 2, none⟩ = some (.int .i64 b) := fun q => (cell_lasts q.low sx0).trans x20
          have Lx3 : ∀ q : Low W0.heap.size W0, q.wd.cell? ⟨w.heap.size, 3, none⟩ = some (.int .i64 v) := fun q => (cell_lasts q.low sx0).trans x30
          have Ly0 : ∀ q : Low W0.heap.size W0, q.wd.cell? ⟨wr.heap.size, 0, none⟩ = some (.int .i64 yp) := fun q => (cell_lasts q.low sy0).trans y00
          have Ly1 : ∀ q : Low W0.heap.size W0, q.wd.cell? ⟨wr.heap.size, 1, none⟩ = some (.int .i64 ya) := fun q => (cell_lasts q.low sy0).trans y10
          have Ly2 : ∀ q : Low W0.heap.size W0, q.wd.cell? ⟨wr.heap.size, 2, none⟩ = some (.int .i64 yb) := fun q => (cell_lasts q.low sy0).trans y20
          have Ly3 : ∀ q : Low W0.heap.size W0, q.wd.cell? ⟨wr.heap.size, 3, none⟩ = some (.int .i64 yv) := fun q => (cell_lasts q.low sy0).trans y30
          refine wp_region_low W0.heap.size (by kernel_rfl) (by kernel_rfl) ?_
          repeat (go_big_quiet_step ((go_at_call 53; exact low_of (place_c _ _ _ _ _ (by first | exact HX.out | exact HSY.out)))))
          refine wpQuiet_nil ?_
          rintro w2 ⟨⟨w2', hq0⟩, hw0⟩
          obtain rfl : w2 = w2' := hw0
          clear Lx0 Lx1 Lx2 Lx3 Ly0 Ly1 Ly2 Ly3
          have x02 := (cell_lasts hq0 sx0).trans x00
          have x12 := (cell_lasts hq0 sx0).trans x10
          have x22 := (cell_lasts hq0 sx0).trans x20
          have x32 := (cell_lasts hq0 sx0).trans x30
          have y02 := (cell_lasts hq0 sy0).trans y00
          have y12 := (cell_lasts hq0 sy0).trans y10
          have y22 := (cell_lasts hq0 sy0).trans y20
          have y32 := (cell_lasts hq0 sy0).trans y30
          have sx2 : w.heap.size < w2.heap.size := Nat.lt_of_lt_of_le sx0 hq0.size
          have sy2 : wr.heap.size < w2.heap.size := Nat.lt_of_lt_of_le sy0 hq0.size
          have HO2 : Hid (w2.ownsRow (w.heap.size + 1) 54 4 vv O.length (cellsF O)) := own_lasts HO0.out hq0
          have hx2 : Below (w.heap.size + 1) (w.alloc (.cells #[.int .i64 (pk : Int), .int .i64 a, .int .i64 b, .int .i64 v] 54)) w2 := hx0.trans (hq0.mono (by have := sx0; omega))
          clear x00 x10 x20 x30 y00 y10 y20 y30 HO0
          go_wp2_with fail
          have Lx0 : ∀ q : Low w2.heap.size w2, q.wd.cell? ⟨w.heap.size, 0, none⟩ = some (.int .i64 (pk : Int)) := fun q => (cell_lasts q.low sx2).trans x02
          have Lx1 : ∀ q : Low w2.heap.size w2, q.wd.cell? ⟨w.heap.size, 1, none⟩ = some (.int .i64 a) := fun q => (cell_lasts q.low sx2).trans x12
          have Lx2 : ∀ q : Low w2.heap.size w2, q.wd.cell? ⟨w.heap.size, 2, none⟩ = some (.int .i64 b) := fun q => (cell_lasts q.low sx2).trans x22
          have Lx3 : ∀ q : Low w2.heap.size w2, q.wd.cell? ⟨w.heap.size, 3, none⟩ = some (.int .i64 v) := fun q => (cell_lasts q.low sx2).trans x32
          have Ly0 : ∀ q : Low w2.heap.size w2, q.wd.cell? ⟨wr.heap.size, 0, none⟩ = some (.int .i64 yp) := fun q => (cell_lasts q.low sy2).trans y02
          have Ly1 : ∀ q : Low w2.heap.size w2, q.wd.cell? ⟨wr.heap.size, 1, none⟩ = some (.int .i64 ya) := fun q => (cell_lasts q.low sy2).trans y12
          have Ly2 : ∀ q : Low w2.heap.size w2, q.wd.cell? ⟨wr.heap.size, 2, none⟩ = some (.int .i64 yb) := fun q => (cell_lasts q.low sy2).trans y22
          have Ly3 : ∀ q : Low w2.heap.size w2, q.wd.cell? ⟨wr.heap.size, 3, none⟩ = some (.int .i64 yv) := fun q => (cell_lasts q.low sy2).trans y32
          refine wp_region_low w2.heap.size (by kernel_rfl) (by kernel_rfl) ?_
          repeat (go_big_quiet_step ((go_at_call 53; exact low_of (place_c _ _ _ _ _ (by first | exact HX.out | exact HSY.out)))))
          refine wpQuiet_nil ?_
          rintro w3 ⟨⟨w3', hq2⟩, hw2⟩
          obtain rfl : w3 = w3' := hw2
          clear Lx0 Lx1 Lx2 Lx3 Ly0 Ly1 Ly2 Ly3
          have y03 := (cell_lasts hq2 sy2).trans y02
          have y13 := (cell_lasts hq2 sy2).trans y12
          have y23 := (cell_lasts hq2 sy2).trans y22
          have y33 := (cell_lasts hq2 sy2).trans y32
          have sx3 : w.heap.size < w3.heap.size := Nat.lt_of_lt_of_le sx2 hq2.size
          have sy3 : wr.heap.size < w3.heap.size := Nat.lt_of_lt_of_le sy2 hq2.size
          have HO3 : Hid (w3.ownsRow (w.heap.size + 1) 54 4 vv O.length (cellsF O)) := own_lasts HO2.out hq2
          have hx3 : Below (w.heap.size + 1) (w.alloc (.cells #[.int .i64 (pk : Int), .int .i64 a, .int .i64 b, .int .i64 v] 54)) w3 := hx2.trans (hq2.mono (by have := sx2; omega))
          clear y02 y12 y22 y32 HO2
          go_wp2_with (at_builtin; refine wpList_append_piece _ rfl _ _ rfl (w.heap.size + 1) vv (O) [⟨yp, ya, yb, yv⟩] (own_lasts HO3.out (below_alloc _ _)) rfl _ rfl (piece_one (heap_alloc_new _ _)) (by simp; omega) (by have := sx3; simp; omega) ?_; intro v5 w5 hown5 hgr5; have hx5 : Below (w.heap.size + 1) (w.alloc (.cells #[.int .i64 (pk : Int), .int .i64 a, .int .i64 b, .int .i64 v] 54)) w5 := grown_below (hx3.alloc (by have := sx3; omega) _) (own_lasts HO3.out (below_alloc _ _)) hgr5 (by have := sx3; simp; omega))
          go_roundw
          case rel => exact ⟨k + 1, _, rfl, by omega, by go_num, by rw [HT.out.1], by rw [HT.out.2.2], by rw [HT.out.2.1]; exact hown5, hx5⟩
          case measure => simp [intOf]; omega
        · by_cases heq : place ⟨yp, ya, yb, yv⟩ = place ⟨(pk : Int), a, b, v⟩
          · have HT : Hid _ := HC.out hh heq
            have hpe : (place ⟨yp, ya, yb, yv⟩ == place ⟨(pk : Int), a, b, v⟩) = true := by simpa using heq
            clear HA HB HC HD hlt2 hh heq
            go_wp2_with fail
            refine wp_called (fun W => w.heap.size < W.heap.size ∧ wr.heap.size < W.heap.size ∧ Below (w.heap.size + 1) (w.alloc (.cells #[.int .i64 (pk : Int), .int .i64 a, .int .i64 b, .int .i64 v] 54)) W ∧ W.ownsRow (w.heap.size + 1) 54 4 vv O.length (cellsF O) ∧ W.frozen? ⟨wr.heap.size, 3, none⟩ = false ∧ W.cell? ⟨pb, po + pk * 3 + 2, none⟩ = some (.int .i64 qk) ∧ W.cell? ⟨w.heap.size, 0, none⟩ = some (.int .i64 (pk : Int)) ∧ W.cell? ⟨w.heap.size, 1, none⟩ = some (.int .i64 a) ∧ W.cell? ⟨w.heap.size, 2, none⟩ = some (.int .i64 b) ∧ W.cell? ⟨w.heap.size, 3, none⟩ = some (.int .i64 v) ∧ W.cell? ⟨wr.heap.size, 0, none⟩ = some (.int .i64 yp) ∧ W.cell? ⟨wr.heap.size, 1, none⟩ = some (.int .i64 ya) ∧ W.cell? ⟨wr.heap.size, 2, none⟩ = some (.int .i64 yb) ∧ W.cell? ⟨wr.heap.size, 3, none⟩ = some (.int .i64 yv)) ⟨by simp; omega, by simp, hbr.alloc (by omega) _, own_lasts HOW.out (below_alloc _ _), by simp [go_sem], by rw [cell_lasts (below_alloc _ _) (by omega)]; exact k2r, by rw [cell_lasts (below_alloc _ _) sxr]; exact c0, by rw [cell_lasts (below_alloc _ _) sxr]; exact c1, by rw [cell_lasts (below_alloc _ _) sxr]; exact c2, by rw [cell_lasts (below_alloc _ _) sxr]; exact c3, by simp [go_sem], by simp [go_sem], by simp [go_sem], by simp [go_sem]⟩ ?_
            rintro W0 ⟨sx0, sy0, hx0, ho0, yf0, k20, x00, x10, x20, x30, y00, y10, y20, y30⟩
            have HO0 : Hid (W0.ownsRow (w.heap.size + 1) 54 4 vv O.length (cellsF O)) := ho0
            clear ho0 HOW t0 t1 t2 t3 c0 c1 c2 c3 k2r
            go_wp2_with fail
            have Lx0 : ∀ q : Low W0.heap.size W0, q.wd.cell? ⟨w.heap.size, 0, none⟩ = some (.int .i64 (pk : Int)) := fun q => (cell_lasts q.low sx0).trans x00
            have Lx1 : ∀ q : Low W0.heap.size W0, q.wd.cell? ⟨w.heap.size, 1, none⟩ = some (.int .i64 a) := fun q => (cell_lasts q.low sx0).trans x10
            have Lx2 : ∀ q : Low W0.heap.size W0, q.wd.cell? ⟨w.heap.size, 2, none⟩ = some (.int .i64 b) := fun q => (cell_lasts q.low sx0).trans x20
            have Lx3 : ∀ q : Low W0.heap.size W0, q.wd.cell? ⟨w.heap.size, 3, none⟩ = some (.int .i64 v) := fun q => (cell_lasts q.low sx0).trans x30
            have Ly0 : ∀ q : Low W0.heap.size W0, q.wd.cell? ⟨wr.heap.size, 0, none⟩ = some (.int .i64 yp) := fun q => (cell_lasts q.low sy0).trans y00
            have Ly1 : ∀ q : Low W0.heap.size W0, q.wd.cell? ⟨wr.heap.size, 1, none⟩ = some (.int .i64 ya) := fun q => (cell_lasts q.low sy0).trans y10
            have Ly2 : ∀ q : Low W0.heap.size W0, q.wd.cell? ⟨wr.heap.size, 2, none⟩ = some (.int .i64 yb) := fun q => (cell_lasts q.low sy0).trans y20
            have Ly3 : ∀ q : Low W0.heap.size W0, q.wd.cell? ⟨wr.heap.size, 3, none⟩ = some (.int .i64 yv) := fun q => (cell_lasts q.low sy0).trans y30
            refine wp_region_low W0.heap.size (by kernel_rfl) (by kernel_rfl) ?_
            repeat (go_big_quiet_step ((go_at_call 53; exact low_of (place_c _ _ _ _ _ (by first | exact HX.out | exact HSY.out)))))
            refine wpQuiet_nil ?_
            rintro w2 ⟨⟨w2', hq0⟩, hw0⟩
            obtain rfl : w2 = w2' := hw0
            clear Lx0 Lx1 Lx2 Lx3 Ly0 Ly1 Ly2 Ly3
            have x02 := (cell_lasts hq0 sx0).trans x00
            have x12 := (cell_lasts hq0 sx0).trans x10
            have x22 := (cell_lasts hq0 sx0).trans x20
            have x32 := (cell_lasts hq0 sx0).trans x30
            have y02 := (cell_lasts hq0 sy0).trans y00
            have y12 := (cell_lasts hq0 sy0).trans y10
            have y22 := (cell_lasts hq0 sy0).trans y20
            have y32 := (cell_lasts hq0 sy0).trans y30
            have k22 := (cell_lasts hq0 (by have := sx0; omega)).trans k20
            have yf2 : w2.frozen? ⟨wr.heap.size, 3, none⟩ = false := (hq0.frozen (p := ⟨wr.heap.size, 3, none⟩) sy0).trans yf0
            have sx2 : w.heap.size < w2.heap.size := Nat.lt_of_lt_of_le sx0 hq0.size
            have sy2 : wr.heap.size < w2.heap.size := Nat.lt_of_lt_of_le sy0 hq0.size
            have HO2 : Hid (w2.ownsRow (w.heap.size + 1) 54 4 vv O.length (cellsF O)) := own_lasts HO0.out hq0
            have hx2 : Below (w.heap.size + 1) (w.alloc (.cells #[.int .i64 (pk : Int), .int .i64 a, .int .i64 b, .int .i64 v] 54)) w2 := hx0.trans (hq0.mono (by have := sx0; omega))
            clear x00 x10 x20 x30 y00 y10 y20 y30 k20 yf0 HO0
            go_wp2_with fail
            have Lx0 : ∀ q : Low w2.heap.size w2, q.wd.cell? ⟨w.heap.size, 0, none⟩ = some (.int .i64 (pk : Int)) := fun q => (cell_lasts q.low sx2).trans x02
            have Lx1 : ∀ q : Low w2.heap.size w2, q.wd.cell? ⟨w.heap.size, 1, none⟩ = some (.int .i64 a) := fun q => (cell_lasts q.low sx2).trans x12
            have Lx2 : ∀ q : Low w2.heap.size w2, q.wd.cell? ⟨w.heap.size, 2, none⟩ = some (.int .i64 b) := fun q => (cell_lasts q.low sx2).trans x22
            have Lx3 : ∀ q : Low w2.heap.size w2, q.wd.cell? ⟨w.heap.size, 3, none⟩ = some (.int .i64 v) := fun q => (cell_lasts q.low sx2).trans x32
            have Ly0 : ∀ q : Low w2.heap.size w2, q.wd.cell? ⟨wr.heap.size, 0, none⟩ = some (.int .i64 yp) := fun q => (cell_lasts q.low sy2).trans y02
            have Ly1 : ∀ q : Low w2.heap.size w2, q.wd.cell? ⟨wr.heap.size, 1, none⟩ = some (.int .i64 ya) := fun q => (cell_lasts q.low sy2).trans y12
            have Ly2 : ∀ q : Low w2.heap.size w2, q.wd.cell? ⟨wr.heap.size, 2, none⟩ = some (.int .i64 yb) := fun q => (cell_lasts q.low sy2).trans y22
            have Ly3 : ∀ q : Low w2.heap.size w2, q.wd.cell? ⟨wr.heap.size, 3, none⟩ = some (.int .i64 yv) := fun q => (cell_lasts q.low sy2).trans y32
            have LP : ∀ q : Low w2.heap.size w2, q.wd.cell? ⟨pb, po + pk * 3 + 2, none⟩ = some (.int .i64 qk) := fun q => (cell_lasts q.low (by have := sx2; omega)).trans k22
            refine wp_region_low w2.heap.size (by kernel_rfl) (by kernel_rfl) ?_
            repeat (go_big_quiet_step ((go_at_call 81; exact low_same (Lat.joinR_c _ _ _ _ HQ4.out))))
            refine wpQuiet_nil ?_
            rintro w3 ⟨⟨w3', hq2⟩, hw2⟩
            obtain rfl : w3 = w3' := hw2
            clear Lx0 Lx1 Lx2 Lx3 Ly0 Ly1 Ly2 Ly3 LP
            have y03 := (cell_lasts hq2 sy2).trans y02
            have y13 := (cell_lasts hq2 sy2).trans y12
            have y23 := (cell_lasts hq2 sy2).trans y22
            have y33 := (cell_lasts hq2 sy2).trans y32
            have yf3 : w3.frozen? ⟨wr.heap.size, 3, none⟩ = false := (hq2.frozen (p := ⟨wr.heap.size, 3, none⟩) sy2).trans yf2
            have sx3 : w.heap.size < w3.heap.size := Nat.lt_of_lt_of_le sx2 hq2.size
            have sy3 : wr.heap.size < w3.heap.size := Nat.lt_of_lt_of_le sy2 hq2.size
            have HO3 : Hid (w3.ownsRow (w.heap.size + 1) 54 4 vv O.length (cellsF O)) := own_lasts HO2.out hq2
            have hx3 : Below (w.heap.size + 1) (w.alloc (.cells #[.int .i64 (pk : Int), .int .i64 a, .int .i64 b, .int .i64 v] 54)) w3 := hx2.trans (hq2.mono (by have := sx2; omega))
            clear y02 y12 y22 y32 yf2 HO2
            go_wp2_with fail
            refine wp_called (fun W => w.heap.size < W.heap.size ∧ wr.heap.size < W.heap.size ∧ Below (w.heap.size + 1) (w.alloc (.cells #[.int .i64 (pk : Int), .int .i64 a, .int .i64 b, .int .i64 v] 54)) W ∧ W.ownsRow (w.heap.size + 1) 54 4 vv O.length (cellsF O) ∧ W.cell? ⟨wr.heap.size, 0, none⟩ = some (.int .i64 yp) ∧ W.cell? ⟨wr.heap.size, 1, none⟩ = some (.int .i64 ya) ∧ W.cell? ⟨wr.heap.size, 2, none⟩ = some (.int .i64 yb) ∧ W.cell? ⟨wr.heap.size, 3, none⟩ = some (.int .i64 (join qk yv v))) ⟨by rw [size_set]; exact sx3, by rw [size_set]; exact sy3, hx3.setCell (p := ⟨wr.heap.size, 3, none⟩) (by show w.heap.size + 1 ≤ wr.heap.size; omega) _, own_set HO3.out (fun g hg => by have := hne g hg; omega), by rw [cell_off (by omega)]; exact y03, by rw [cell_off (by omega)]; exact y13, by rw [cell_off (by omega)]; exact y23, cell_set y33⟩ ?_
            rintro w4 ⟨sx4, sy4, hx4, ho4, y04, y14, y24, y34⟩
            have HO4 : Hid (w4.ownsRow (w.heap.size + 1) 54 4 vv O.length (cellsF O)) := ho4
            clear ho4 HO3 y03 y13 y23 y33 yf3
            go_wp2_with fail
            have Ly0 : ∀ q : Low w4.heap.size w4, q.wd.cell? ⟨wr.heap.size, 0, none⟩ = some (.int .i64 yp) := fun q => (cell_lasts q.low sy4).trans y04
            have Ly1 : ∀ q : Low w4.heap.size w4, q.wd.cell? ⟨wr.heap.size, 1, none⟩ = some (.int .i64 ya) := fun q => (cell_lasts q.low sy4).trans y14
            have Ly2 : ∀ q : Low w4.heap.size w4, q.wd.cell? ⟨wr.heap.size, 2, none⟩ = some (.int .i64 yb) := fun q => (cell_lasts q.low sy4).trans y24
            have Ly3 : ∀ q : Low w4.heap.size w4, q.wd.cell? ⟨wr.heap.size, 3, none⟩ = some (.int .i64 (join qk yv v)) := fun q => (cell_lasts q.low sy4).trans y34
            refine wp_region_low w4.heap.size (by kernel_rfl) (by kernel_rfl) ?_
            repeat (go_big_quiet_step ((go_at_call 53; exact low_of (place_c _ _ _ _ _ (by first | exact HX.out | exact HSY.out)))))
            refine wpQuiet_nil ?_
            rintro w6 ⟨⟨w6', hq4⟩, hw4⟩
            obtain rfl : w6 = w6' := hw4
            clear Ly0 Ly1 Ly2 Ly3
            have y06 := (cell_lasts hq4 sy4).trans y04
            have y16 := (cell_lasts hq4 sy4).trans y14
            have y26 := (cell_lasts hq4 sy4).trans y24
            have y36 := (cell_lasts hq4 sy4).trans y34
            have sx6 : w.heap.size < w6.heap.size := Nat.lt_of_lt_of_le sx4 hq4.size
            have sy6 : wr.heap.size < w6.heap.size := Nat.lt_of_lt_of_le sy4 hq4.size
            have HO6 : Hid (w6.ownsRow (w.heap.size + 1) 54 4 vv O.length (cellsF O)) := own_lasts HO4.out hq4
            have hx6 : Below (w.heap.size + 1) (w.alloc (.cells #[.int .i64 (pk : Int), .int .i64 a, .int .i64 b, .int .i64 v] 54)) w6 := hx4.trans (hq4.mono (by have := sx4; omega))
            clear y04 y14 y24 y34 HO4
            go_wp2_with (at_builtin; refine wpList_append_piece _ rfl _ _ rfl (w.heap.size + 1) vv (O) [⟨yp, ya, yb, join qk yv v⟩] (own_lasts HO6.out (below_alloc _ _)) rfl _ rfl (piece_one (heap_alloc_new _ _)) (by simp; omega) (by have := sx6; simp; omega) ?_; intro v5 w5 hown5 hgr5; have hx5 : Below (w.heap.size + 1) (w.alloc (.cells #[.int .i64 (pk : Int), .int .i64 a, .int .i64 b, .int .i64 v] 54)) w5 := grown_below (hx6.alloc (by have := sx6; omega) _) (own_lasts HO6.out (below_alloc _ _)) hgr5 (by have := sx6; simp; omega))
            go_roundw
            case rel => exact ⟨k + 1, _, rfl, by omega, by go_num, by rw [HT.out.1], by rw [HT.out.2.2], by rw [HT.out.2.1]; exact hown5, hx5⟩
            case measure => simp [intOf]; omega
          · have HT : Hid _ := HD.out hh (by omega)
            have hpe : (place ⟨yp, ya, yb, yv⟩ == place ⟨(pk : Int), a, b, v⟩) = false := by simpa using heq
            have hpg : decide (place ⟨(pk : Int), a, b, v⟩ < place ⟨yp, ya, yb, yv⟩) = true := by simp; omega
            have tok1 : True := trivial
            have tok2 : True := trivial
            clear HA HB HC HD hlt2 hh heq
            go_wp2_with fail
            refine wp_called (fun W => w.heap.size < W.heap.size ∧ wr.heap.size < W.heap.size ∧ Below (w.heap.size + 1) (w.alloc (.cells #[.int .i64 (pk : Int), .int .i64 a, .int .i64 b, .int .i64 v] 54)) W ∧ W.ownsRow (w.heap.size + 1) 54 4 vv O.length (cellsF O) ∧ W.frozen? ⟨wr.heap.size, 3, none⟩ = false ∧ W.cell? ⟨pb, po + pk * 3 + 2, none⟩ = some (.int .i64 qk) ∧ W.cell? ⟨w.heap.size, 0, none⟩ = some (.int .i64 (pk : Int)) ∧ W.cell? ⟨w.heap.size, 1, none⟩ = some (.int .i64 a) ∧ W.cell? ⟨w.heap.size, 2, none⟩ = some (.int .i64 b) ∧ W.cell? ⟨w.heap.size, 3, none⟩ = some (.int .i64 v) ∧ W.cell? ⟨wr.heap.size, 0, none⟩ = some (.int .i64 yp) ∧ W.cell? ⟨wr.heap.size, 1, none⟩ = some (.int .i64 ya) ∧ W.cell? ⟨wr.heap.size, 2, none⟩ = some (.int .i64 yb) ∧ W.cell? ⟨wr.heap.size, 3, none⟩ = some (.int .i64 yv)) ⟨by simp; omega, by simp, hbr.alloc (by omega) _, own_lasts HOW.out (below_alloc _ _), by simp [go_sem], by rw [cell_lasts (below_alloc _ _) (by omega)]; exact k2r, by rw [cell_lasts (below_alloc _ _) sxr]; exact c0, by rw [cell_lasts (below_alloc _ _) sxr]; exact c1, by rw [cell_lasts (below_alloc _ _) sxr]; exact c2, by rw [cell_lasts (below_alloc _ _) sxr]; exact c3, by simp [go_sem], by simp [go_sem], by simp [go_sem], by simp [go_sem]⟩ ?_
            rintro W0 ⟨sx0, sy0, hx0, ho0, yf0, k20, x00, x10, x20, x30, y00, y10, y20, y30⟩
            have HO0 : Hid (W0.ownsRow (w.heap.size + 1) 54 4 vv O.length (cellsF O)) := ho0
            clear ho0 HOW t0 t1 t2 t3 c0 c1 c2 c3 k2r
            go_wp2_with fail
            have Lx0 : ∀ q : Low W0.heap.size W0, q.wd.cell? ⟨w.heap.size, 0, none⟩ = some (.int .i64 (pk : Int)) := fun q => (cell_lasts q.low sx0).trans x00
            have Lx1 : ∀ q : Low W0.heap.size W0, q.wd.cell? ⟨w.heap.size, 1, none⟩ = some (.int .i64 a) := fun q => (cell_lasts q.low sx0).trans x10
            have Lx2 : ∀ q : Low W0.heap.size W0, q.wd.cell? ⟨w.heap.size, 2, none⟩ = some (.int .i64 b) := fun q => (cell_lasts q.low sx0).trans x20
            have Lx3 : ∀ q : Low W0.heap.size W0, q.wd.cell? ⟨w.heap.size, 3, none⟩ = some (.int .i64 v) := fun q => (cell_lasts q.low sx0).trans x30
            have Ly0 : ∀ q : Low W0.heap.size W0, q.wd.cell? ⟨wr.heap.size, 0, none⟩ = some (.int .i64 yp) := fun q => (cell_lasts q.low sy0).trans y00
            have Ly1 : ∀ q : Low W0.heap.size W0, q.wd.cell? ⟨wr.heap.size, 1, none⟩ = some (.int .i64 ya) := fun q => (cell_lasts q.low sy0).trans y10
            have Ly2 : ∀ q : Low W0.heap.size W0, q.wd.cell? ⟨wr.heap.size, 2, none⟩ = some (.int .i64 yb) := fun q => (cell_lasts q.low sy0).trans y20
            have Ly3 : ∀ q : Low W0.heap.size W0, q.wd.cell? ⟨wr.heap.size, 3, none⟩ = some (.int .i64 yv) := fun q => (cell_lasts q.low sy0).trans y30
            refine wp_region_low W0.heap.size (by kernel_rfl) (by kernel_rfl) ?_
            repeat (go_big_quiet_step ((go_at_call 53; exact low_of (place_c _ _ _ _ _ (by first | exact HX.out | exact HSY.out)))))
            refine wpQuiet_nil ?_
            rintro w2 ⟨⟨w2', hq0⟩, hw0⟩
            obtain rfl : w2 = w2' := hw0
            clear Lx0 Lx1 Lx2 Lx3 Ly0 Ly1 Ly2 Ly3
            have x02 := (cell_lasts hq0 sx0).trans x00
            have x12 := (cell_lasts hq0 sx0).trans x10
            have x22 := (cell_lasts hq0 sx0).trans x20
            have x32 := (cell_lasts hq0 sx0).trans x30
            have y02 := (cell_lasts hq0 sy0).trans y00
            have y12 := (cell_lasts hq0 sy0).trans y10
            have y22 := (cell_lasts hq0 sy0).trans y20
            have y32 := (cell_lasts hq0 sy0).trans y30
            have sx2 : w.heap.size < w2.heap.size := Nat.lt_of_lt_of_le sx0 hq0.size
            have sy2 : wr.heap.size < w2.heap.size := Nat.lt_of_lt_of_le sy0 hq0.size
            have HO2 : Hid (w2.ownsRow (w.heap.size + 1) 54 4 vv O.length (cellsF O)) := own_lasts HO0.out hq0
            have hx2 : Below (w.heap.size + 1) (w.alloc (.cells #[.int .i64 (pk : Int), .int .i64 a, .int .i64 b, .int .i64 v] 54)) w2 := hx0.trans (hq0.mono (by have := sx0; omega))
            clear x00 x10 x20 x30 y00 y10 y20 y30 HO0
            go_wp2_with fail
            have Lx0 : ∀ q : Low w2.heap.size w2, q.wd.cell? ⟨w.heap.size, 0, none⟩ = some (.int .i64 (pk : Int)) := fun q => (cell_lasts q.low sx2).trans x02
            have Lx1 : ∀ q : Low w2.heap.size w2, q.wd.cell? ⟨w.heap.size, 1, none⟩ = some (.int .i64 a) := fun q => (cell_lasts q.low sx2).trans x12
            have Lx2 : ∀ q : Low w2.heap.size w2, q.wd.cell? ⟨w.heap.size, 2, none⟩ = some (.int .i64 b) := fun q => (cell_lasts q.low sx2).trans x22
            have Lx3 : ∀ q : Low w2.heap.size w2, q.wd.cell? ⟨w.heap.size, 3, none⟩ = some (.int .i64 v) := fun q => (cell_lasts q.low sx2).trans x32
            have Ly0 : ∀ q : Low w2.heap.size w2, q.wd.cell? ⟨wr.heap.size, 0, none⟩ = some (.int .i64 yp) := fun q => (cell_lasts q.low sy2).trans y02
            have Ly1 : ∀ q : Low w2.heap.size w2, q.wd.cell? ⟨wr.heap.size, 1, none⟩ = some (.int .i64 ya) := fun q => (cell_lasts q.low sy2).trans y12
            have Ly2 : ∀ q : Low w2.heap.size w2, q.wd.cell? ⟨wr.heap.size, 2, none⟩ = some (.int .i64 yb) := fun q => (cell_lasts q.low sy2).trans y22
            have Ly3 : ∀ q : Low w2.heap.size w2, q.wd.cell? ⟨wr.heap.size, 3, none⟩ = some (.int .i64 yv) := fun q => (cell_lasts q.low sy2).trans y32
            refine wp_region_low w2.heap.size (by kernel_rfl) (by kernel_rfl) ?_
            repeat (go_big_quiet_step ((go_at_call 53; exact low_of (place_c _ _ _ _ _ (by first | exact HX.out | exact HSY.out)))))
            refine wpQuiet_nil ?_
            rintro w3 ⟨⟨w3', hq2⟩, hw2⟩
            obtain rfl : w3 = w3' := hw2
            clear Lx0 Lx1 Lx2 Lx3 Ly0 Ly1 Ly2 Ly3
            have x03 := (cell_lasts hq2 sx2).trans x02
            have x13 := (cell_lasts hq2 sx2).trans x12
            have x23 := (cell_lasts hq2 sx2).trans x22
            have x33 := (cell_lasts hq2 sx2).trans x32
            have y03 := (cell_lasts hq2 sy2).trans y02
            have y13 := (cell_lasts hq2 sy2).trans y12
            have y23 := (cell_lasts hq2 sy2).trans y22
            have y33 := (cell_lasts hq2 sy2).trans y32
            have sx3 : w.heap.size < w3.heap.size := Nat.lt_of_lt_of_le sx2 hq2.size
            have sy3 : wr.heap.size < w3.heap.size := Nat.lt_of_lt_of_le sy2 hq2.size
            have HO3 : Hid (w3.ownsRow (w.heap.size + 1) 54 4 vv O.length (cellsF O)) := own_lasts HO2.out hq2
            have hx3 : Below (w.heap.size + 1) (w.alloc (.cells #[.int .i64 (pk : Int), .int .i64 a, .int .i64 b, .int .i64 v] 54)) w3 := hx2.trans (hq2.mono (by have := sx2; omega))
            clear x02 x12 x22 x32 y02 y12 y22 y32 HO2
            go_wp2_with (first | (have _t := tok1; at_builtin; refine wpList_append_piece _ rfl _ _ rfl (w.heap.size + 1) vv (O) [⟨(pk : Int), a, b, v⟩] (own_lasts HO3.out (below_alloc _ _)) rfl _ rfl (piece_one (heap_alloc_new _ _)) (by simp; omega) (by have := sx3; simp; omega) ?_; intro v4 w4 hown4 hgr4; have hx4 : Below (w.heap.size + 1) (w.alloc (.cells #[.int .i64 (pk : Int), .int .i64 a, .int .i64 b, .int .i64 v] 54)) w4 := grown_below (hx3.alloc (by have := sx3; omega) _) (own_lasts HO3.out (below_alloc _ _)) hgr4 (by have := sx3; simp; omega); clear tok1; have HO4 : Hid (w4.ownsRow (w.heap.size + 1) 54 4 v4 (O ++ [(⟨(pk : Int), a, b, v⟩ : Fct)]).length (cellsF (O ++ [(⟨(pk : Int), a, b, v⟩ : Fct)]))) := hown4; have sx4 : w.heap.size < w4.heap.size := Nat.lt_of_lt_of_le (by have := sx3; simp; omega) hgr4.size; have y04 := hgr4.cell ((cell_lasts (below_alloc _ _) sy3).trans y03) (fun e => hneb e.symm); have y14 := hgr4.cell ((cell_lasts (below_alloc _ _) sy3).trans y13) (fun e => hneb e.symm); have y24 := hgr4.cell ((cell_lasts (below_alloc _ _) sy3).trans y23) (fun e => hneb e.symm); have y34 := hgr4.cell ((cell_lasts (below_alloc _ _) sy3).trans y33) (fun e => hneb e.symm)) | (have _t := tok2; at_builtin; refine wpList_append_piece _ rfl _ _ rfl (w.heap.size + 1) v4 (O ++ [(⟨(pk : Int), a, b, v⟩ : Fct)]) [⟨yp, ya, yb, yv⟩] (own_lasts HO4.out (below_alloc _ _)) rfl _ rfl (piece_one (heap_alloc_new _ _)) (by simp; omega) (by have := sx4; simp; omega) ?_; intro v5 w5 hown5 hgr5; have hx5 : Below (w.heap.size + 1) (w.alloc (.cells #[.int .i64 (pk : Int), .int .i64 a, .int .i64 b, .int .i64 v] 54)) w5 := grown_below (hx4.alloc (by have := sx4; omega) _) (own_lasts HO4.out (below_alloc _ _)) hgr5 (by have := sx4; simp; omega); clear tok2))
            go_roundw
            case rel => exact ⟨k + 1, _, rfl, by omega, by go_num, by rw [HT.out.1], by rw [HT.out.2.2], by rw [HT.out.2.1]; exact hown5, hx5⟩
            case measure => simp [intOf]; omega
      · have HT0 := HA.out hh
        have hpe : (place ⟨yp, ya, yb, yv⟩ == place ⟨(pk : Int), a, b, v⟩) = false := by simpa using HT0.1
        have HT : Hid _ := HT0.2
        clear HA HB HC HD HT0 hh
        go_wp2_with fail
        refine wp_called (fun W => w.heap.size < W.heap.size ∧ wr.heap.size < W.heap.size ∧ Below (w.heap.size + 1) (w.alloc (.cells #[.int .i64 (pk : Int), .int .i64 a, .int .i64 b, .int .i64 v] 54)) W ∧ W.ownsRow (w.heap.size + 1) 54 4 vv O.length (cellsF O) ∧ W.frozen? ⟨wr.heap.size, 3, none⟩ = false ∧ W.cell? ⟨pb, po + pk * 3 + 2, none⟩ = some (.int .i64 qk) ∧ W.cell? ⟨w.heap.size, 0, none⟩ = some (.int .i64 (pk : Int)) ∧ W.cell? ⟨w.heap.size, 1, none⟩ = some (.int .i64 a) ∧ W.cell? ⟨w.heap.size, 2, none⟩ = some (.int .i64 b) ∧ W.cell? ⟨w.heap.size, 3, none⟩ = some (.int .i64 v) ∧ W.cell? ⟨wr.heap.size, 0, none⟩ = some (.int .i64 yp) ∧ W.cell? ⟨wr.heap.size, 1, none⟩ = some (.int .i64 ya) ∧ W.cell? ⟨wr.heap.size, 2, none⟩ = some (.int .i64 yb) ∧ W.cell? ⟨wr.heap.size, 3, none⟩ = some (.int .i64 yv)) ⟨by simp; omega, by simp, hbr.alloc (by omega) _, own_lasts HOW.out (below_alloc _ _), by simp [go_sem], by rw [cell_lasts (below_alloc _ _) (by omega)]; exact k2r, by rw [cell_lasts (below_alloc _ _) sxr]; exact c0, by rw [cell_lasts (below_alloc _ _) sxr]; exact c1, by rw [cell_lasts (below_alloc _ _) sxr]; exact c2, by rw [cell_lasts (below_alloc _ _) sxr]; exact c3, by simp [go_sem], by simp [go_sem], by simp [go_sem], by simp [go_sem]⟩ ?_
        rintro W0 ⟨sx0, sy0, hx0, ho0, yf0, k20, x00, x10, x20, x30, y00, y10, y20, y30⟩
        have HO0 : Hid (W0.ownsRow (w.heap.size + 1) 54 4 vv O.length (cellsF O)) := ho0
        clear ho0 HOW t0 t1 t2 t3 c0 c1 c2 c3 k2r
        go_wp2_with fail
        have Lx0 : ∀ q : Low W0.heap.size W0, q.wd.cell? ⟨w.heap.size, 0, none⟩ = some (.int .i64 (pk : Int)) := fun q => (cell_lasts q.low sx0).trans x00
        have Lx1 : ∀ q : Low W0.heap.size W0, q.wd.cell? ⟨w.heap.size, 1, none⟩ = some (.int .i64 a) := fun q => (cell_lasts q.low sx0).trans x10
        have Lx2 : ∀ q : Low W0.heap.size W0, q.wd.cell? ⟨w.heap.size, 2, none⟩ = some (.int .i64 b) := fun q => (cell_lasts q.low sx0).trans x20
        have Lx3 : ∀ q : Low W0.heap.size W0, q.wd.cell? ⟨w.heap.size, 3, none⟩ = some (.int .i64 v) := fun q => (cell_lasts q.low sx0).trans x30
        have Ly0 : ∀ q : Low W0.heap.size W0, q.wd.cell? ⟨wr.heap.size, 0, none⟩ = some (.int .i64 yp) := fun q => (cell_lasts q.low sy0).trans y00
        have Ly1 : ∀ q : Low W0.heap.size W0, q.wd.cell? ⟨wr.heap.size, 1, none⟩ = some (.int .i64 ya) := fun q => (cell_lasts q.low sy0).trans y10
        have Ly2 : ∀ q : Low W0.heap.size W0, q.wd.cell? ⟨wr.heap.size, 2, none⟩ = some (.int .i64 yb) := fun q => (cell_lasts q.low sy0).trans y20
        have Ly3 : ∀ q : Low W0.heap.size W0, q.wd.cell? ⟨wr.heap.size, 3, none⟩ = some (.int .i64 yv) := fun q => (cell_lasts q.low sy0).trans y30
        refine wp_region_low W0.heap.size (by kernel_rfl) (by kernel_rfl) ?_
        repeat (go_big_quiet_step ((go_at_call 53; exact low_of (place_c _ _ _ _ _ (by first | exact HX.out | exact HSY.out)))))
        refine wpQuiet_nil ?_
        rintro w2 ⟨⟨w2', hq0⟩, hw0⟩
        obtain rfl : w2 = w2' := hw0
        clear Lx0 Lx1 Lx2 Lx3 Ly0 Ly1 Ly2 Ly3
        have x02 := (cell_lasts hq0 sx0).trans x00
        have x12 := (cell_lasts hq0 sx0).trans x10
        have x22 := (cell_lasts hq0 sx0).trans x20
        have x32 := (cell_lasts hq0 sx0).trans x30
        have y02 := (cell_lasts hq0 sy0).trans y00
        have y12 := (cell_lasts hq0 sy0).trans y10
        have y22 := (cell_lasts hq0 sy0).trans y20
        have y32 := (cell_lasts hq0 sy0).trans y30
        have sx2 : w.heap.size < w2.heap.size := Nat.lt_of_lt_of_le sx0 hq0.size
        have sy2 : wr.heap.size < w2.heap.size := Nat.lt_of_lt_of_le sy0 hq0.size
        have HO2 : Hid (w2.ownsRow (w.heap.size + 1) 54 4 vv O.length (cellsF O)) := own_lasts HO0.out hq0
        have hx2 : Below (w.heap.size + 1) (w.alloc (.cells #[.int .i64 (pk : Int), .int .i64 a, .int .i64 b, .int .i64 v] 54)) w2 := hx0.trans (hq0.mono (by have := sx0; omega))
        clear x00 x10 x20 x30 y00 y10 y20 y30 HO0
        go_wp2_with fail
        have Lx0 : ∀ q : Low w2.heap.size w2, q.wd.cell? ⟨w.heap.size, 0, none⟩ = some (.int .i64 (pk : Int)) := fun q => (cell_lasts q.low sx2).trans x02
        have Lx1 : ∀ q : Low w2.heap.size w2, q.wd.cell? ⟨w.heap.size, 1, none⟩ = some (.int .i64 a) := fun q => (cell_lasts q.low sx2).trans x12
        have Lx2 : ∀ q : Low w2.heap.size w2, q.wd.cell? ⟨w.heap.size, 2, none⟩ = some (.int .i64 b) := fun q => (cell_lasts q.low sx2).trans x22
        have Lx3 : ∀ q : Low w2.heap.size w2, q.wd.cell? ⟨w.heap.size, 3, none⟩ = some (.int .i64 v) := fun q => (cell_lasts q.low sx2).trans x32
        have Ly0 : ∀ q : Low w2.heap.size w2, q.wd.cell? ⟨wr.heap.size, 0, none⟩ = some (.int .i64 yp) := fun q => (cell_lasts q.low sy2).trans y02
        have Ly1 : ∀ q : Low w2.heap.size w2, q.wd.cell? ⟨wr.heap.size, 1, none⟩ = some (.int .i64 ya) := fun q => (cell_lasts q.low sy2).trans y12
        have Ly2 : ∀ q : Low w2.heap.size w2, q.wd.cell? ⟨wr.heap.size, 2, none⟩ = some (.int .i64 yb) := fun q => (cell_lasts q.low sy2).trans y22
        have Ly3 : ∀ q : Low w2.heap.size w2, q.wd.cell? ⟨wr.heap.size, 3, none⟩ = some (.int .i64 yv) := fun q => (cell_lasts q.low sy2).trans y32
        refine wp_region_low w2.heap.size (by kernel_rfl) (by kernel_rfl) ?_
        repeat (go_big_quiet_step ((go_at_call 53; exact low_of (place_c _ _ _ _ _ (by first | exact HX.out | exact HSY.out)))))
        refine wpQuiet_nil ?_
        rintro w3 ⟨⟨w3', hq2⟩, hw2⟩
        obtain rfl : w3 = w3' := hw2
        clear Lx0 Lx1 Lx2 Lx3 Ly0 Ly1 Ly2 Ly3
        have y03 := (cell_lasts hq2 sy2).trans y02
        have y13 := (cell_lasts hq2 sy2).trans y12
        have y23 := (cell_lasts hq2 sy2).trans y22
        have y33 := (cell_lasts hq2 sy2).trans y32
        have sx3 : w.heap.size < w3.heap.size := Nat.lt_of_lt_of_le sx2 hq2.size
        have sy3 : wr.heap.size < w3.heap.size := Nat.lt_of_lt_of_le sy2 hq2.size
        have HO3 : Hid (w3.ownsRow (w.heap.size + 1) 54 4 vv O.length (cellsF O)) := own_lasts HO2.out hq2
        have hx3 : Below (w.heap.size + 1) (w.alloc (.cells #[.int .i64 (pk : Int), .int .i64 a, .int .i64 b, .int .i64 v] 54)) w3 := hx2.trans (hq2.mono (by have := sx2; omega))
        clear y02 y12 y22 y32 HO2
        go_wp2_with (at_builtin; refine wpList_append_piece _ rfl _ _ rfl (w.heap.size + 1) vv (O) [⟨yp, ya, yb, yv⟩] (own_lasts HO3.out (below_alloc _ _)) rfl _ rfl (piece_one (heap_alloc_new _ _)) (by simp; omega) (by have := sx3; simp; omega) ?_; intro v5 w5 hown5 hgr5; have hx5 : Below (w.heap.size + 1) (w.alloc (.cells #[.int .i64 (pk : Int), .int .i64 a, .int .i64 b, .int .i64 v] 54)) w5 := grown_below (hx3.alloc (by have := sx3; omega) _) (own_lasts HO3.out (below_alloc _ _)) hgr5 (by have := sx3; simp; omega))
        go_roundw
        case rel => exact ⟨k + 1, _, rfl, by omega, by go_num, by rw [HT.out.1], by rw [HT.out.2.2], by rw [HT.out.2.1]; exact hown5, hx5⟩
        case measure => simp [intOf]; omega
    · have HFE : Hid (f.take k = f) := List.take_of_length_le (by omega)
      rw [HFE.out] at hown
      have hOl : (outTo (kindOf ps) ⟨(pk : Int), a, b, v⟩ f).length ≤ 126 := Nat.le_trans (out_length _ _ _) (by omega)
      rw [HFE.out]
      cases hh : hit ⟨(pk : Int), a, b, v⟩ f
      · obtain ⟨e1, e2⟩ := endMiss (K := kindOf ps) hh
        have HE1 : Hid (addF (kindOf ps) ⟨(pk : Int), a, b, v⟩ f = outTo (kindOf ps) ⟨(pk : Int), a, b, v⟩ f ++ [⟨(pk : Int), a, b, v⟩]) := e1
        have HE2 : Hid (addC (kindOf ps) ⟨(pk : Int), a, b, v⟩ f = true) := e2
        have HO3 : Hid (wr.ownsRow (w.heap.size + 1) 54 4 vv (outTo (kindOf ps) ⟨(pk : Int), a, b, v⟩ f).length (cellsF (outTo (kindOf ps) ⟨(pk : Int), a, b, v⟩ f))) := hown
        have sx3 := sxr
        have hx3 := hbr
        clear e1 e2 hown HF HS HSO hh
        generalize outTo (kindOf ps) ⟨(pk : Int), a, b, v⟩ f = O at *
        go_wp2_with (at_builtin; refine wpList_append_piece _ rfl _ _ rfl (w.heap.size + 1) vv (O) [⟨(pk : Int), a, b, v⟩] (own_lasts HO3.out (below_alloc _ _)) rfl _ rfl (piece_one (heap_alloc_new _ _)) (by simp; omega) (by have := sx3; simp; omega) ?_; intro v5 w5 hown5 hgr5; have hx5 : Below (w.heap.size + 1) (w.alloc (.cells #[.int .i64 (pk : Int), .int .i64 a, .int .i64 b, .int .i64 v] 54)) w5 := grown_below (hx3.alloc (by have := sx3; omega) _) (own_lasts HO3.out (below_alloc _ _)) hgr5 (by have := sx3; simp; omega))
        go_ret2
        have hl : (O ++ [(⟨(pk : Int), a, b, v⟩ : Fct)]).length ≤ 140737488355328 := by simp; omega
        exact ⟨v5, by rw [HE2.out]; rfl, by rw [HE1.out]; exact factsAt_of hown5 hl, cap_own hown5, (below_alloc _ _).trans (hx5.mono (by simp))⟩
      · obtain ⟨e1, e2⟩ := endHit (K := kindOf ps) hh
        have HOW : Hid (wr.ownsRow (w.heap.size + 1) 54 4 vv (outTo (kindOf ps) ⟨(pk : Int), a, b, v⟩ f).length (cellsF (outTo (kindOf ps) ⟨(pk : Int), a, b, v⟩ f))) := hown
        have HE1 : Hid (addF (kindOf ps) ⟨(pk : Int), a, b, v⟩ f = outTo (kindOf ps) ⟨(pk : Int), a, b, v⟩ f) := e1.symm
        have HE2 : Hid (addC (kindOf ps) ⟨(pk : Int), a, b, v⟩ f = chgTo (kindOf ps) ⟨(pk : Int), a, b, v⟩ f) := e2.symm
        clear e1 e2 hown HF HS HSO hh
        generalize outTo (kindOf ps) ⟨(pk : Int), a, b, v⟩ f = O at *
        generalize chgTo (kindOf ps) ⟨(pk : Int), a, b, v⟩ f = C at *
        go_wp2_with fail
        go_ret2
        exact ⟨vv, by rw [HE2.out]; rfl, by rw [HE1.out]; exact factsAt_of HOW.out (by omega), cap_own HOW.out, hbw⟩

set_option maxRecDepth 100000 in
set_option maxHeartbeats 4000000 in
theorem addOf_c (w : World) (pv fv : Value) (ps : List Prd) (f : List Fct) (p a b v : Int) (hp : predsAt w pv ps) (hf : factsAt w fv f) :
    Calls Try.prog 28 #[pv, fv, .agg #[.int .i64 p, .int .i64 a, .int .i64 b, .int .i64 v]] w fun e w' => ∃ u, e = .returned (.tuple #[u, .bool (addOf ps f ⟨p, a, b, v⟩).2.1, .int .i64 (addOf ps f ⟨p, a, b, v⟩).2.2]) ∧ factsAt w' u (addOf ps f ⟨p, a, b, v⟩).1 ∧ capOk u ∧ Below w.heap.size w w' := by
  have HP : Hid (∀ (w1 : World), Below w.heap.size w w1 → predsAt w1 pv ps) := fun w1 hb1 => predsAt.lasts hb1 hp
  have HF : Hid (∀ (w1 : World), Below w.heap.size w w1 → factsAt w1 fv f) := fun w1 hb1 => factsAt.lasts hb1 hf
  clear hp hf
  by_cases h0 : factsErr ps f = 0
  · have H0 : Hid (factsErr ps f = 0) := h0
    cases hff : factFine ps ⟨p, a, b, v⟩
    · have e : addOf ps f ⟨p, a, b, v⟩ = ([], false, 1) := by simp [addOf, withErr, h0, hff]
      rw [e]
      clear e
      go_enter Try.func28, Try.ntmps28
      go_wp2_with (first
        | (go_at_call 25; refine (checkFacts_c _ _ _ ps f (HP.out _ (below_alloc _ _)) (HF.out _ (below_alloc _ _))).mono ?_; rintro e w1 ⟨rfl, hb1⟩; obtain ⟨c0, c1, c2, c3⟩ := four_last hb1; have HB : Hid (Below w.heap.size w w1) := (below_alloc _ _).trans (hb1.mono (by simp)); clear hb1)
        | (go_at_call 46; refine (factFine_c _ _ ps _ _ _ _ (HP.out _ HB.out)).mono ?_; rintro e w2 ⟨rfl, hb2⟩))
      go_ret3
      exact ⟨_, rfl, facts_nil _, cap_nil, HB.out.trans (hb2.mono HB.out.size)⟩
    · have e : addOf ps f ⟨p, a, b, v⟩ = (addF (kindOf ps) ⟨p, a, b, v⟩ f, addC (kindOf ps) ⟨p, a, b, v⟩ f, 0) := by simp [addOf, withErr, h0, hff]
      rw [e]
      clear e
      have HX : Hid (factFine ps ⟨p, a, b, v⟩ = true) := hff
      go_enter Try.func28, Try.ntmps28
      go_wp2_with (first
        | (go_at_call 25; refine (checkFacts_c _ _ _ ps f (HP.out _ (below_alloc _ _)) (HF.out _ (below_alloc _ _))).mono ?_; rintro e w1 ⟨rfl, hb1⟩; obtain ⟨c0, c1, c2, c3⟩ := four_last hb1; have HB : Hid (Below w.heap.size w w1) := (below_alloc _ _).trans (hb1.mono (by simp)); have hs1 : w.heap.size < w1.heap.size := Nat.lt_of_lt_of_le (by simp) hb1.size; clear hb1)
        | (go_at_call 46; refine (factFine_c _ _ ps _ _ _ _ (HP.out _ HB.out)).mono ?_; rintro e w2 ⟨rfl, hb2⟩; replace c0 := (cell_lasts hb2 hs1).trans c0; replace c1 := (cell_lasts hb2 hs1).trans c1; replace c2 := (cell_lasts hb2 hs1).trans c2; replace c3 := (cell_lasts hb2 hs1).trans c3; have HB2 : Hid (Below w.heap.size w w2) := HB.out.trans (hb2.mono HB.out.size); clear hb2)
        | (go_at_call 60; refine (add_c _ _ _ ps f _ _ _ _ (HP.out _ HB2.out) (HF.out _ HB2.out) H0.out HX.out).mono ?_; rintro e w3 ⟨u3, rfl, hf3, hc3, hb3⟩; have HF3 : Hid (factsAt w3 u3 (addF (kindOf ps) ⟨p, a, b, v⟩ f)) := hf3; have HC3 : Hid (capOk u3) := hc3; clear hf3 hc3))
      go_ret3
      exact ⟨_, rfl, HF3.out, HC3.out, HB2.out.trans (hb3.mono HB2.out.size)⟩
  · have e : addOf ps f ⟨p, a, b, v⟩ = ([], false, factsErr ps f) := by simp [addOf, withErr, h0]
    rw [e]
    clear e
    have h0' : (factsErr ps f == 0) = false := by simpa using h0
    go_enter Try.func28, Try.ntmps28
    go_wp2_with (go_at_call 25; refine (checkFacts_c _ _ _ ps f (HP.out _ (below_alloc _ _)) (HF.out _ (below_alloc _ _))).mono ?_; rintro e w1 ⟨rfl, hb1⟩; have HB : Hid (Below w.heap.size w w1) := (below_alloc _ _).trans (hb1.mono (by simp)); clear hb1)
    go_ret3
    exact ⟨_, rfl, facts_nil _, cap_nil, HB.out⟩
end Go.Proofs.Ytabhmlkpbdfjcab.Base
