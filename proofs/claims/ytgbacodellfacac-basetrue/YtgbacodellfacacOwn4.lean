/-
  The library's slices.BinarySearchFunc over facts in their order.
-/
import Derived.Test.YtgbacodellfacacOwn3
namespace Go.Proofs.Ytgbacodellfacac.Base
open Go.ChangeShapes Go.WideShapes Go.ChangeAt Go.RowKit
open Lat (within)
open Rule (factFine isPred kindOf arityOf isPred_iff)

/-- how many facts stand ahead of a place -/
def pos (f : List Fct) (pl : Int) : Nat := f.countP fun y => decide (place y < pl)
theorem pos_le (f : List Fct) (pl : Int) : pos f pl ≤ f.length := List.countP_le_length
theorem pos_cons (y : Fct) (f : List Fct) (pl : Int) : pos (y :: f) pl = if place y < pl then pos f pl + 1 else pos f pl := by
  unfold pos
  rw [List.countP_cons]
  by_cases h : place y < pl <;> simp [h]
theorem pos_zero {f : List Fct} {pl : Int} (h : ∀ y ∈ f, pl ≤ place y) : pos f pl = 0 := by
  unfold pos
  rw [List.countP_eq_zero]
  intro y hy
  have := h y hy
  simp
  omega
theorem pos_iff {f : List Fct} {pl : Int} (hs : Sorted f) : ∀ {k : Nat} (hk : k < f.length), place f[k] < pl ↔ k < pos f pl := by
  induction f with
  | nil => intro k hk; simp at hk
  | cons y f ih =>
    intro k hk
    obtain ⟨h1, h2⟩ := List.pairwise_cons.1 hs
    rw [pos_cons]
    cases k with
    | zero =>
      by_cases h : place y < pl
      · simp [h]
      · rw [if_neg h, pos_zero (fun z hz => by have := h1 z hz; omega)]
        simpa using h
    | succ k =>
      have hk' : k < f.length := by simpa using hk
      rw [List.getElem_cons_succ, ih h2 hk']
      by_cases h : place y < pl
      · rw [if_pos h]; omega
      · rw [if_neg h, pos_zero (fun z hz => by have := h1 z hz; omega)]
        omega
theorem get_pos {f : List Fct} {pl : Int} (hs : Sorted f) : get f pl = if h : pos f pl < f.length then (if place f[pos f pl] = pl then some f[pos f pl].val else none) else none := by
  induction f with
  | nil => rfl
  | cons y f ih =>
    obtain ⟨h1, h2⟩ := List.pairwise_cons.1 hs
    rw [get_cons]
    by_cases h : place y < pl
    · have e : pos (y :: f) pl = pos f pl + 1 := by rw [pos_cons, if_pos h]
      rw [if_neg (by omega), ih h2]
      simp only [e, List.length_cons, Nat.add_lt_add_iff_right, List.getElem_cons_succ]
    · have e : pos (y :: f) pl = 0 := by
        rw [pos_cons, if_neg h]
        exact pos_zero (fun z hz => by have := h1 z hz; omega)
      simp only [e, List.length_cons, Nat.zero_lt_succ, List.getElem_cons_zero, dif_pos]
      by_cases g : place y = pl
      · rw [if_pos g, if_pos g]
      · rw [if_neg g, if_neg g]
        exact get_lt (fun z hz => by have := h1 z hz; omega)
theorem get_some_pos {f : List Fct} {pl v : Int} (hs : Sorted f) (h : get f pl = some v) : ∃ hp : pos f pl < f.length, place f[pos f pl] = pl ∧ f[pos f pl].val = v := by
  rw [get_pos hs] at h
  split at h
  · rename_i hp
    split at h
    · rename_i he
      exact ⟨hp, he, Option.some.inj h⟩
    · cases h
  · cases h
theorem get_none_pos {f : List Fct} {pl : Int} (hs : Sorted f) (h : get f pl = none) (hp : pos f pl < f.length) : place f[pos f pl] ≠ pl := by
  rw [get_pos hs, dif_pos hp] at h
  split at h
  · cases h
  · assumption

set_option maxRecDepth 100000 in
set_option maxHeartbeats 8000000 in
theorem search_c (w : World) (fv : Value) (f : List Fct) (p a b v : Int) (hf : factsAt w fv f) (hs : ∀ y ∈ f, Small y) (hx : Small ⟨p, a, b, v⟩) (hso : Sorted f) :
    Calls Try.prog 9 #[fv, .agg #[.int .i64 p, .int .i64 a, .int .i64 b, .int .i64 v], .func (.func 10) #[] #[]] w
      fun e w' => e = .returned (.tuple #[.int .i64 (pos f (place ⟨p, a, b, v⟩)), .bool (get f (place ⟨p, a, b, v⟩)).isSome]) ∧ Below w.heap.size w w' := by
  have HF : Hid (factsAt w fv f) := hf
  have HS : Hid (∀ y ∈ f, Small y) := hs
  have HX : Hid (Small ⟨p, a, b, v⟩) := hx
  have HSO : Hid (Sorted f) := hso
  obtain ⟨fa, fc, rfl, hfm, hfx⟩ := hf
  have hpl : pos f (place ⟨p, a, b, v⟩) ≤ f.length := pos_le _ _
  clear hfx hs hx hso
  go_enter Try.func9, Try.ntmps9
  go_wp2_with fail
  go_loopw [9, 10] (fun i j wr => ∃ lo hi : Nat, i = .int .i64 lo ∧ j = .int .i64 hi ∧ lo ≤ pos f (place ⟨p, a, b, v⟩) ∧ pos f (place ⟨p, a, b, v⟩) ≤ hi ∧ hi ≤ f.length ∧ Below (w.heap.size + 1) (w.alloc (.cells #[.int .i64 p, .int .i64 a, .int .i64 b, .int .i64 v] 25)) wr) (fun i j _ => (intOf j).toNat - (intOf i).toNat)
  case atStart => exact ⟨0, f.length, rfl, rfl, Nat.zero_le _, hpl, Nat.le_refl _, by have := Below.refl (w.alloc (.cells #[.int .i64 p, .int .i64 a, .int .i64 b, .int .i64 v] 25)).heap.size (w.alloc (.cells #[.int .i64 p, .int .i64 a, .int .i64 b, .int .i64 v] 25)); simpa using this⟩
  case round =>
    obtain ⟨lo, hi, rfl, rfl, h1, h2, h3, hbr⟩ := hrel
    have hbw : Below w.heap.size w wr := (below_alloc _ _).trans (hbr.mono (by simp))
    have c0 : wr.cell? ⟨w.heap.size, 0, none⟩ = some (.int .i64 p) := by rw [hbr.cell (by simp)]; simp [go_sem]
    have c1 : wr.cell? ⟨w.heap.size, 1, none⟩ = some (.int .i64 a) := by rw [hbr.cell (by simp)]; simp [go_sem]
    have c2 : wr.cell? ⟨w.heap.size, 2, none⟩ = some (.int .i64 b) := by rw [hbr.cell (by simp)]; simp [go_sem]
    have c3 : wr.cell? ⟨w.heap.size, 3, none⟩ = some (.int .i64 v) := by rw [hbr.cell (by simp)]; simp [go_sem]
    have s1 : w.heap.size < wr.heap.size := by have := hbr.size; simp at this; omega
    by_cases hlt : lo < hi
    · obtain ⟨mid, hmid, m1, m2⟩ : ∃ mid : Nat, ((lo : Int) + (hi : Int)) / 2 = (mid : Int) ∧ lo ≤ mid ∧ mid < hi := ⟨(lo + hi) / 2, by omega, by omega, by omega⟩
      have hml : mid < f.length := by omega
      obtain ⟨bb, off, cap, hv, hbl, hcells⟩ := fact_cells HF.out hml
      obtain ⟨rfl, rfl⟩ : fa = some ⟨bb, off, none⟩ ∧ fc = cap := by simpa using hv
      have s2 : bb < wr.heap.size := Nat.lt_of_lt_of_le hbl hbw.size
      obtain ⟨t0, t1, t2, t3⟩ := factAt.lasts w wr bb _ _ hbw hbl hcells
      have HSY : Hid (Small f[mid]) := HS.out _ (List.getElem_mem hml)
      have HI : Hid (place f[mid] < place ⟨p, a, b, v⟩ ↔ mid < pos f (place ⟨p, a, b, v⟩)) := pos_iff HSO.out hml
      have hjl : (mid : Int) < (f.length : Int) := by omega
      have hj0 : (0 : Int) ≤ (mid : Int) := by omega
      clear hcells hv HS HSO HF
      generalize f[mid] = y at *
      obtain ⟨yp, ya, yb, yv⟩ := y
      by_cases hc : place ⟨yp, ya, yb, yv⟩ < place ⟨p, a, b, v⟩
      · have hc' : decide (cmpF ⟨yp, ya, yb, yv⟩ ⟨p, a, b, v⟩ < 0) = true := by simpa using ((cmpF_spec HSY.out HX.out).1).2 hc
        have hmp : mid + 1 ≤ pos f (place ⟨p, a, b, v⟩) := HI.out.1 hc
        clear hc HSY HI
        go_wp2_with fail
        have Lc0 : ∀ x : Low wr.heap.size wr, x.wd.cell? ⟨w.heap.size, 0, none⟩ = some (.int .i64 p) := fun x => (cell_lasts x.low s1).trans c0
        have Lc1 : ∀ x : Low wr.heap.size wr, x.wd.cell? ⟨w.heap.size, 1, none⟩ = some (.int .i64 a) := fun x => (cell_lasts x.low s1).trans c1
        have Lc2 : ∀ x : Low wr.heap.size wr, x.wd.cell? ⟨w.heap.size, 2, none⟩ = some (.int .i64 b) := fun x => (cell_lasts x.low s1).trans c2
        have Lc3 : ∀ x : Low wr.heap.size wr, x.wd.cell? ⟨w.heap.size, 3, none⟩ = some (.int .i64 v) := fun x => (cell_lasts x.low s1).trans c3
        have Lt0 : ∀ x : Low wr.heap.size wr, x.wd.cell? ⟨bb, off + mid * 4, none⟩ = some (.int .i64 yp) := fun x => (cell_lasts x.low s2).trans t0
        have Lt1 : ∀ x : Low wr.heap.size wr, x.wd.cell? ⟨bb, off + mid * 4 + 1, none⟩ = some (.int .i64 ya) := fun x => (cell_lasts x.low s2).trans t1
        have Lt2 : ∀ x : Low wr.heap.size wr, x.wd.cell? ⟨bb, off + mid * 4 + 2, none⟩ = some (.int .i64 yb) := fun x => (cell_lasts x.low s2).trans t2
        have Lt3 : ∀ x : Low wr.heap.size wr, x.wd.cell? ⟨bb, off + mid * 4 + 3, none⟩ = some (.int .i64 yv) := fun x => (cell_lasts x.low s2).trans t3
        refine wp_region_low wr.heap.size (by kernel_rfl) (by kernel_rfl) ?_
        repeat (go_big_quiet_step (((go_at_call 10; exact low_of (order_c _ _ _ _ _ _ _ _ _)))))
        refine wpQuiet_nil ?_
        rintro _ ⟨⟨w2, hk⟩, rfl⟩
        clear Lc0 Lc1 Lc2 Lc3 Lt0 Lt1 Lt2 Lt3
        go_wp2_with fail
        go_roundw
        case rel => exact ⟨mid + 1, hi, by go_num, rfl, hmp, h2, h3, hbr.trans (hk.mono (by have := hbr.size; simp at this; omega))⟩
        case measure => simp [intOf]; omega
      · have hc' : decide (cmpF ⟨yp, ya, yb, yv⟩ ⟨p, a, b, v⟩ < 0) = false := by
          have := (cmpF_spec HSY.out HX.out).1
          simp only [decide_eq_false_iff_not]
          omega
        have hmp : pos f (place ⟨p, a, b, v⟩) ≤ mid := by
          have := HI.out
          omega
        clear hc HSY HI
        go_wp2_with fail
        have Lc0 : ∀ x : Low wr.heap.size wr, x.wd.cell? ⟨w.heap.size, 0, none⟩ = some (.int .i64 p) := fun x => (cell_lasts x.low s1).trans c0
        have Lc1 : ∀ x : Low wr.heap.size wr, x.wd.cell? ⟨w.heap.size, 1, none⟩ = some (.int .i64 a) := fun x => (cell_lasts x.low s1).trans c1
        have Lc2 : ∀ x : Low wr.heap.size wr, x.wd.cell? ⟨w.heap.size, 2, none⟩ = some (.int .i64 b) := fun x => (cell_lasts x.low s1).trans c2
        have Lc3 : ∀ x : Low wr.heap.size wr, x.wd.cell? ⟨w.heap.size, 3, none⟩ = some (.int .i64 v) := fun x => (cell_lasts x.low s1).trans c3
        have Lt0 : ∀ x : Low wr.heap.size wr, x.wd.cell? ⟨bb, off + mid * 4, none⟩ = some (.int .i64 yp) := fun x => (cell_lasts x.low s2).trans t0
        have Lt1 : ∀ x : Low wr.heap.size wr, x.wd.cell? ⟨bb, off + mid * 4 + 1, none⟩ = some (.int .i64 ya) := fun x => (cell_lasts x.low s2).trans t1
        have Lt2 : ∀ x : Low wr.heap.size wr, x.wd.cell? ⟨bb, off + mid * 4 + 2, none⟩ = some (.int .i64 yb) := fun x => (cell_lasts x.low s2).trans t2
        have Lt3 : ∀ x : Low wr.heap.size wr, x.wd.cell? ⟨bb, off + mid * 4 + 3, none⟩ = some (.int .i64 yv) := fun x => (cell_lasts x.low s2).trans t3
        refine wp_region_low wr.heap.size (by kernel_rfl) (by kernel_rfl) ?_
        repeat (go_big_quiet_step (((go_at_call 10; exact low_of (order_c _ _ _ _ _ _ _ _ _)))))
        refine wpQuiet_nil ?_
        rintro _ ⟨⟨w2, hk⟩, rfl⟩
        clear Lc0 Lc1 Lc2 Lc3 Lt0 Lt1 Lt2 Lt3
        go_wp2_with fail
        go_roundw
        case rel => exact ⟨lo, mid, rfl, rfl, h1, hmp, by omega, hbr.trans (hk.mono (by have := hbr.size; simp at this; omega))⟩
        case measure => simp [intOf]; omega
    · have hlo : pos f (place ⟨p, a, b, v⟩) = lo := by omega
      have hlen : lo ≤ f.length := by omega
      have HLO : Hid (pos f (place ⟨p, a, b, v⟩) = lo) := hlo
      clear h1 h2 hlo hpl
      by_cases hin : lo < f.length
      · have hjl : (lo : Int) < (f.length : Int) := by omega
        have hj0 : (0 : Int) ≤ (lo : Int) := by omega
        obtain ⟨bb, off, cap, hv, hbl, hcells⟩ := fact_cells HF.out hin
        obtain ⟨rfl, rfl⟩ : fa = some ⟨bb, off, none⟩ ∧ fc = cap := by simpa using hv
        have s2 : bb < wr.heap.size := Nat.lt_of_lt_of_le hbl hbw.size
        obtain ⟨t0, t1, t2, t3⟩ := factAt.lasts w wr bb _ _ hbw hbl hcells
        have HSY : Hid (Small f[lo]) := HS.out _ (List.getElem_mem hin)
        have HG : Hid (get f (place ⟨p, a, b, v⟩) = if place f[lo] = place ⟨p, a, b, v⟩ then some f[lo].val else none) := by
          show _ = _
          rw [get_pos HSO.out]
          simp only [HLO.out, dif_pos hin]
        clear hcells hv HS HSO HF
        generalize f[lo] = y at *
        obtain ⟨yp, ya, yb, yv⟩ := y
        by_cases hc : place ⟨yp, ya, yb, yv⟩ = place ⟨p, a, b, v⟩
        · have hc' : (cmpF ⟨yp, ya, yb, yv⟩ ⟨p, a, b, v⟩ == 0) = true := by simpa using ((cmpF_spec HSY.out HX.out).2).2 hc
          have HG' : Hid ((get f (place ⟨p, a, b, v⟩)).isSome = true) := by show _ = _; rw [HG.out, if_pos hc]; rfl
          clear hc HSY HG
          go_wp2_with fail
          have Lc0 : ∀ x : Low wr.heap.size wr, x.wd.cell? ⟨w.heap.size, 0, none⟩ = some (.int .i64 p) := fun x => (cell_lasts x.low s1).trans c0
          have Lc1 : ∀ x : Low wr.heap.size wr, x.wd.cell? ⟨w.heap.size, 1, none⟩ = some (.int .i64 a) := fun x => (cell_lasts x.low s1).trans c1
          have Lc2 : ∀ x : Low wr.heap.size wr, x.wd.cell? ⟨w.heap.size, 2, none⟩ = some (.int .i64 b) := fun x => (cell_lasts x.low s1).trans c2
          have Lc3 : ∀ x : Low wr.heap.size wr, x.wd.cell? ⟨w.heap.size, 3, none⟩ = some (.int .i64 v) := fun x => (cell_lasts x.low s1).trans c3
          have Lt0 : ∀ x : Low wr.heap.size wr, x.wd.cell? ⟨bb, off + lo * 4, none⟩ = some (.int .i64 yp) := fun x => (cell_lasts x.low s2).trans t0
          have Lt1 : ∀ x : Low wr.heap.size wr, x.wd.cell? ⟨bb, off + lo * 4 + 1, none⟩ = some (.int .i64 ya) := fun x => (cell_lasts x.low s2).trans t1
          have Lt2 : ∀ x : Low wr.heap.size wr, x.wd.cell? ⟨bb, off + lo * 4 + 2, none⟩ = some (.int .i64 yb) := fun x => (cell_lasts x.low s2).trans t2
          have Lt3 : ∀ x : Low wr.heap.size wr, x.wd.cell? ⟨bb, off + lo * 4 + 3, none⟩ = some (.int .i64 yv) := fun x => (cell_lasts x.low s2).trans t3
          refine wp_region_low wr.heap.size (by kernel_rfl) (by kernel_rfl) ?_
          repeat (go_big_quiet_step (((go_at_call 10; exact low_of (order_c _ _ _ _ _ _ _ _ _)))))
          refine wpQuiet_nil ?_
          rintro _ ⟨⟨w2, hk⟩, rfl⟩
          clear Lc0 Lc1 Lc2 Lc3 Lt0 Lt1 Lt2 Lt3
          go_wp2_with fail
          go_ret2
          exact ⟨by rw [HG'.out, HLO.out]; rfl, hbw.trans (hk.mono hbw.size)⟩
        · have hc' : (cmpF ⟨yp, ya, yb, yv⟩ ⟨p, a, b, v⟩ == 0) = false := by
            have := (cmpF_spec HSY.out HX.out).2
            simp only [beq_eq_false_iff_ne, ne_eq]
            omega
          have HG' : Hid ((get f (place ⟨p, a, b, v⟩)).isSome = false) := by show _ = _; rw [HG.out, if_neg hc]; rfl
          clear hc HSY HG
          go_wp2_with fail
          have Lc0 : ∀ x : Low wr.heap.size wr, x.wd.cell? ⟨w.heap.size, 0, none⟩ = some (.int .i64 p) := fun x => (cell_lasts x.low s1).trans c0
          have Lc1 : ∀ x : Low wr.heap.size wr, x.wd.cell? ⟨w.heap.size, 1, none⟩ = some (.int .i64 a) := fun x => (cell_lasts x.low s1).trans c1
          have Lc2 : ∀ x : Low wr.heap.size wr, x.wd.cell? ⟨w.heap.size, 2, none⟩ = some (.int .i64 b) := fun x => (cell_lasts x.low s1).trans c2
          have Lc3 : ∀ x : Low wr.heap.size wr, x.wd.cell? ⟨w.heap.size, 3, none⟩ = some (.int .i64 v) := fun x => (cell_lasts x.low s1).trans c3
          have Lt0 : ∀ x : Low wr.heap.size wr, x.wd.cell? ⟨bb, off + lo * 4, none⟩ = some (.int .i64 yp) := fun x => (cell_lasts x.low s2).trans t0
          have Lt1 : ∀ x : Low wr.heap.size wr, x.wd.cell? ⟨bb, off + lo * 4 + 1, none⟩ = some (.int .i64 ya) := fun x => (cell_lasts x.low s2).trans t1
          have Lt2 : ∀ x : Low wr.heap.size wr, x.wd.cell? ⟨bb, off + lo * 4 + 2, none⟩ = some (.int .i64 yb) := fun x => (cell_lasts x.low s2).trans t2
          have Lt3 : ∀ x : Low wr.heap.size wr, x.wd.cell? ⟨bb, off + lo * 4 + 3, none⟩ = some (.int .i64 yv) := fun x => (cell_lasts x.low s2).trans t3
          refine wp_region_low wr.heap.size (by kernel_rfl) (by kernel_rfl) ?_
          repeat (go_big_quiet_step (((go_at_call 10; exact low_of (order_c _ _ _ _ _ _ _ _ _)))))
          refine wpQuiet_nil ?_
          rintro _ ⟨⟨w2, hk⟩, rfl⟩
          clear Lc0 Lc1 Lc2 Lc3 Lt0 Lt1 Lt2 Lt3
          go_wp2_with fail
          go_ret2
          exact ⟨by rw [HG'.out, HLO.out]; rfl, hbw.trans (hk.mono hbw.size)⟩
      · have HG' : Hid ((get f (place ⟨p, a, b, v⟩)).isSome = false) := by
          show _ = _
          rw [get_pos HSO.out, dif_neg (by rw [HLO.out]; exact hin)]
          rfl
        have hjl : ¬ (lo : Int) < (f.length : Int) := by omega
        clear HS HSO HF
        go_wp2_with fail
        have Lc0 : ∀ x : Low wr.heap.size wr, x.wd.cell? ⟨w.heap.size, 0, none⟩ = some (.int .i64 p) := fun x => (cell_lasts x.low s1).trans c0
        have Lc1 : ∀ x : Low wr.heap.size wr, x.wd.cell? ⟨w.heap.size, 1, none⟩ = some (.int .i64 a) := fun x => (cell_lasts x.low s1).trans c1
        have Lc2 : ∀ x : Low wr.heap.size wr, x.wd.cell? ⟨w.heap.size, 2, none⟩ = some (.int .i64 b) := fun x => (cell_lasts x.low s1).trans c2
        have Lc3 : ∀ x : Low wr.heap.size wr, x.wd.cell? ⟨w.heap.size, 3, none⟩ = some (.int .i64 v) := fun x => (cell_lasts x.low s1).trans c3
        refine wp_region_low wr.heap.size (by kernel_rfl) (by kernel_rfl) ?_
        repeat (go_big_quiet_step (((go_at_call 10; exact low_of (order_c _ _ _ _ _ _ _ _ _)))))
        refine wpQuiet_nil ?_
        rintro _ ⟨⟨w2, hk⟩, rfl⟩
        clear Lc0 Lc1 Lc2 Lc3
        go_wp2_with fail
        go_ret2
        exact ⟨by rw [HG'.out, HLO.out]; rfl, hbw.trans (hk.mono hbw.size)⟩
end Go.Proofs.Ytgbacodellfacac.Base
