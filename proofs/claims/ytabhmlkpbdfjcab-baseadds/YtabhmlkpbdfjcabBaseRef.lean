/-
  What the document's own reckoning of facts answers, call by call.
-/
import Derived.Test.YtabhmlkpbdfjcabFine
import Derived.Test.YtabhmlkpbdfjcabBasePlain
import Derived.Deep.RegionHeld3
namespace Go.Proofs.Ytabhmlkpbdfjcab.Base
open Go.ChangeShapes Go.WideShapes Go.ChangeAt Go.RowKit
open Lat (within within_c)
open Rule (factFine factFine_c isPred kindOf arityOf isPred_iff)

def Small (x : Fct) : Prop := 0 ≤ x.pred ∧ x.pred ≤ 1000 ∧ 0 ≤ x.a ∧ x.a ≤ 4 ∧ 0 ≤ x.b ∧ x.b ≤ 4

theorem place_c (p a b v : Int) (w : World) (h : Small ⟨p, a, b, v⟩) : Calls Try.prog 53 #[.agg #[.int .i64 p, .int .i64 a, .int .i64 b, .int .i64 v]] w fun e w' => e = .returned (.int .i64 (place ⟨p, a, b, v⟩)) ∧ Below w.heap.size w w' := by
  obtain ⟨h1, h2, h3, h4, h5, h6⟩ := h
  have h1 : 0 ≤ p := h1
  have h2 : p ≤ 1000 := h2
  have h3 : 0 ≤ a := h3
  have h4 : a ≤ 4 := h4
  have h5 : 0 ≤ b := h5
  have h6 : b ≤ 4 := h6
  have e : place ⟨p, a, b, v⟩ = (p * 5 + a) * 5 + b := rfl
  rw [e]
  go_enter Try.func53, Try.ntmps53
  go_wp2
  go_ret
  exact ⟨rfl, below_alloc _ _⟩

/-- a fact at a place of memory, its cells -/
theorem fact_cells {w : World} {v : Value} {f : List Fct} (h : factsAt w v f) {j : Nat} (hj : j < f.length) : ∃ b off cap, v = .slice (some ⟨b, off, none⟩) f.length cap ∧ b < w.heap.size ∧ factAt w b (off + j * 4) f[j] := by
  obtain ⟨a, cap, rfl, hm, hx⟩ := h
  rcases hx with rfl | ⟨b, off, rfl, hb, hx⟩
  · simp at hj
  · exact ⟨b, off, cap, rfl, hb, hx j f[j] (by simp [hj])⟩

def findTo (f : List Fct) (pl : Int) : Int := (get f pl).getD 0
theorem get_take {f : List Fct} {j : Nat} (h : j < f.length) (pl : Int) (hn : get (f.take j) pl = none) : get (f.take (j + 1)) pl = if place f[j] = pl then some f[j].val else none := by
  induction f generalizing j with
  | nil => simp at h
  | cons y f ih =>
    cases j with
    | zero => simp [get_cons, get_nil]
    | succ j =>
      simp only [List.take_succ_cons, get_cons] at hn ⊢
      by_cases e : place y = pl
      · rw [if_pos e] at hn; cases hn
      · rw [if_neg e] at hn
        rw [if_neg e, ih (by simpa using h) hn]
        rfl
theorem get_first {f : List Fct} {j : Nat} (h : j < f.length) (pl : Int) (hn : get (f.take j) pl = none) (hp : place f[j] = pl) : get f pl = some f[j].val := by
  induction f generalizing j with
  | nil => simp at h
  | cons y f ih =>
    cases j with
    | zero => rw [get_cons, if_pos (show place y = pl from hp)]; rfl
    | succ j =>
      simp only [List.take_succ_cons, get_cons] at hn
      by_cases e : place y = pl
      · rw [if_pos e] at hn; cases hn
      · rw [if_neg e] at hn
        rw [get_cons, if_neg e]
        exact ih (by simpa using h) hn hp

set_option maxRecDepth 100000 in
set_option maxHeartbeats 4000000 in
theorem find_c (w : World) (fv : Value) (f : List Fct) (p a b v : Int) (hf : factsAt w fv f) (hs : ∀ y ∈ f, Small y) (hx : Small ⟨p, a, b, v⟩) :
    Calls Try.prog 47 #[fv, .agg #[.int .i64 p, .int .i64 a, .int .i64 b, .int .i64 v]] w fun e w' => e = .returned (.tuple #[.int .i64 (findTo f (place ⟨p, a, b, v⟩)), .bool (get f (place ⟨p, a, b, v⟩)).isSome]) ∧ Below w.heap.size w w' := by
  have HF : Hid (factsAt w fv f) := hf
  obtain ⟨fa, fc, rfl, hm, _⟩ := hf
  have HS : Hid (∀ y ∈ f, Small y) := hs
  have HX : Hid (Small ⟨p, a, b, v⟩) := hx
  clear hs hx
  go_enter Try.func47, Try.ntmps47
  go_wp2_with fail
  go_loopw [6] (fun i wr => ∃ j : Nat, j ≤ f.length ∧ i = .int .i64 j ∧ get (f.take j) (place ⟨p, a, b, v⟩) = none ∧ Below (w.heap.size + 1) (w.alloc (.cells #[.int .i64 p, .int .i64 a, .int .i64 b, .int .i64 v] 54)) wr) (fun i _ => f.length - (intOf i).toNat)
  case atStart => exact ⟨0, Nat.zero_le _, rfl, rfl, Below.refl _ _⟩
  case round =>
    obtain ⟨j, hj, rfl, hno, hbr⟩ := hrel
    have hbw : Below w.heap.size w wr := (below_alloc _ _).trans (hbr.mono (by omega))
    by_cases hlt : j < f.length
    · have c0 : wr.cell? ⟨w.heap.size, 0, none⟩ = some (.int .i64 p) := by rw [hbr.cell (p := ⟨w.heap.size, 0, none⟩) (by simp)]; simp [go_sem]
      have c1 : wr.cell? ⟨w.heap.size, 1, none⟩ = some (.int .i64 a) := by rw [hbr.cell (p := ⟨w.heap.size, 1, none⟩) (by simp)]; simp [go_sem]
      have c2 : wr.cell? ⟨w.heap.size, 2, none⟩ = some (.int .i64 b) := by rw [hbr.cell (p := ⟨w.heap.size, 2, none⟩) (by simp)]; simp [go_sem]
      have c3 : wr.cell? ⟨w.heap.size, 3, none⟩ = some (.int .i64 v) := by rw [hbr.cell (p := ⟨w.heap.size, 3, none⟩) (by simp)]; simp [go_sem]
      have s1 : w.heap.size < wr.heap.size := by have := hbr.size; simp at this; omega
      obtain ⟨bb, off, cap, hv, hbl, hcells⟩ := fact_cells HF.out hlt
      obtain ⟨rfl, rfl⟩ : fa = some ⟨bb, off, none⟩ ∧ fc = cap := by simpa using hv
      obtain ⟨t0, t1, t2, t3⟩ := factAt.lasts w wr bb _ _ hbw hbl hcells
      have s2 : bb < wr.heap.size := by omega
      have HSJ : Hid (Small f[j]) := HS.out f[j] (List.getElem_mem hlt)
      have HY : Hid (place f[j] = place ⟨p, a, b, v⟩ → get f (place ⟨p, a, b, v⟩) = some f[j].val) := get_first hlt _ hno
      have HN : Hid (place f[j] ≠ place ⟨p, a, b, v⟩ → get (f.take (j + 1)) (place ⟨p, a, b, v⟩) = none) := fun h => by rw [get_take hlt _ hno, if_neg h]
      have hjl : (j : Int) < (f.length : Int) := by omega
      have hj0 : (0 : Int) ≤ (j : Int) := by omega
      clear hcells hno HF HS hv
      generalize f[j] = y at *
      obtain ⟨yp, ya, yb, yv⟩ := y
      have KEEP : Hid (∀ w', Below wr.heap.size wr w' → (fun w' => Below wr.heap.size wr w' ∧ w'.cell? ⟨w.heap.size, 0, none⟩ = some (.int .i64 p) ∧ w'.cell? ⟨w.heap.size, 1, none⟩ = some (.int .i64 a) ∧ w'.cell? ⟨w.heap.size, 2, none⟩ = some (.int .i64 b) ∧ w'.cell? ⟨w.heap.size, 3, none⟩ = some (.int .i64 v) ∧
          w'.cell? ⟨bb, off + j * 4, none⟩ = some (.int .i64 yp) ∧ w'.cell? ⟨bb, off + j * 4 + 1, none⟩ = some (.int .i64 ya) ∧ w'.cell? ⟨bb, off + j * 4 + 2, none⟩ = some (.int .i64 yb) ∧ w'.cell? ⟨bb, off + j * 4 + 3, none⟩ = some (.int .i64 yv)) w') :=
        fun w' hq => ⟨hq, (cell_lasts hq s1).trans c0, (cell_lasts hq s1).trans c1, (cell_lasts hq s1).trans c2, (cell_lasts hq s1).trans c3, (cell_lasts hq s2).trans t0, (cell_lasts hq s2).trans t1, (cell_lasts hq s2).trans t2, (cell_lasts hq s2).trans t3⟩
      cases hpe : (place ⟨yp, ya, yb, yv⟩ == place ⟨p, a, b, v⟩)
      · have HN' : Hid (get (f.take (j + 1)) (place ⟨p, a, b, v⟩) = none) := HN.out (by simpa using hpe)
        clear HN HY
        go_wp2_with fail
        go_region_held3 (fun w' => Below wr.heap.size wr w' ∧ w'.cell? ⟨w.heap.size, 0, none⟩ = some (.int .i64 p) ∧ w'.cell? ⟨w.heap.size, 1, none⟩ = some (.int .i64 a) ∧ w'.cell? ⟨w.heap.size, 2, none⟩ = some (.int .i64 b) ∧ w'.cell? ⟨w.heap.size, 3, none⟩ = some (.int .i64 v) ∧
            w'.cell? ⟨bb, off + j * 4, none⟩ = some (.int .i64 yp) ∧ w'.cell? ⟨bb, off + j * 4 + 1, none⟩ = some (.int .i64 ya) ∧ w'.cell? ⟨bb, off + j * 4 + 2, none⟩ = some (.int .i64 yb) ∧ w'.cell? ⟨bb, off + j * 4 + 3, none⟩ = some (.int .i64 yv))
          ((refine KEEP.out _ ?_; first | exact Below.refl _ _ | exact (Below.refl _ _).drew | exact hk | exact hk.drew))
          (first
            | (go_at_call 53; refine (place_c _ _ _ _ _ (by first | exact HSJ.out | exact HX.out)).mono ?_; rintro e w1 ⟨rfl, hb6⟩; have hk : Below wr.heap.size wr w1 := Below.trans (by first | exact Below.refl _ _ | exact (Below.refl _ _).drew | exact hk | exact hk.drew) (hb6.mono (by first | exact Nat.le_refl _ | exact hk.size)); clear hb6))
        clear KEEP
        go_wp2_with fail
        go_roundw
        case rel => exact ⟨j + 1, by omega, by go_num, HN'.out, hbr.trans (hk.mono (by have := hbr.size; simp at this; omega))⟩
        case measure => simp [intOf]; omega
      · have HY' : Hid (get f (place ⟨p, a, b, v⟩) = some yv) := HY.out (by simpa using hpe)
        clear HN HY
        go_wp2_with fail
        go_region_held3 (fun w' => Below wr.heap.size wr w' ∧ w'.cell? ⟨w.heap.size, 0, none⟩ = some (.int .i64 p) ∧ w'.cell? ⟨w.heap.size, 1, none⟩ = some (.int .i64 a) ∧ w'.cell? ⟨w.heap.size, 2, none⟩ = some (.int .i64 b) ∧ w'.cell? ⟨w.heap.size, 3, none⟩ = some (.int .i64 v) ∧
            w'.cell? ⟨bb, off + j * 4, none⟩ = some (.int .i64 yp) ∧ w'.cell? ⟨bb, off + j * 4 + 1, none⟩ = some (.int .i64 ya) ∧ w'.cell? ⟨bb, off + j * 4 + 2, none⟩ = some (.int .i64 yb) ∧ w'.cell? ⟨bb, off + j * 4 + 3, none⟩ = some (.int .i64 yv))
          ((refine KEEP.out _ ?_; first | exact Below.refl _ _ | exact (Below.refl _ _).drew | exact hk | exact hk.drew))
          (first
            | (go_at_call 53; refine (place_c _ _ _ _ _ (by first | exact HSJ.out | exact HX.out)).mono ?_; rintro e w1 ⟨rfl, hb6⟩; have hk : Below wr.heap.size wr w1 := Below.trans (by first | exact Below.refl _ _ | exact (Below.refl _ _).drew | exact hk | exact hk.drew) (hb6.mono (by first | exact Nat.le_refl _ | exact hk.size)); clear hb6))
        have t3' := (cell_lasts hk s2).trans t3
        clear KEEP
        go_wp2_with fail
        go_ret2
        exact ⟨by rw [findTo, HY'.out]; rfl, hbw.trans (hk.mono hbw.size)⟩
    · have HG : Hid (get f (place ⟨p, a, b, v⟩) = none) := by rw [List.take_of_length_le (by omega)] at hno; exact hno
      clear hno HF HS
      go_wp2_with fail
      go_ret2
      exact ⟨by rw [findTo, HG.out]; rfl, hbw⟩
end Go.Proofs.Ytabhmlkpbdfjcab.Base
