/-
  What the document's own reckoning of facts answers, call by call.
-/
import Derived.Deep.RegionHeld3
import Derived.Test.YtlfccloaoopadafGreatDoorG8
import Derived.Test.YtlfccloaoopadafGreatDoorG1
import Derived.Test.YtlfccloaoopadafGreatDoorG6
namespace Go.Proofs.YtlfccloaoopadafGreatDoor.Base
open Go.ChangeShapes Go.WideShapes Go.ChangeAt Go.RowKit
open Lat (within within_c)
open Rule (factFine factFine_c isPred kindOf arityOf isPred_iff)

def Small (x : Fct) : Prop := 0 ≤ x.pred ∧ x.pred ≤ 1000 ∧ 0 ≤ x.a ∧ x.a ≤ 4 ∧ 0 ≤ x.b ∧ x.b ≤ 4

theorem place_c (p a b v : Int) (w : World) (h : Small ⟨p, a, b, v⟩) : Calls Tryz.prog 74 #[.agg #[.int .i64 p, .int .i64 a, .int .i64 b, .int .i64 v]] w fun e w' => e = .returned (.int .i64 (place ⟨p, a, b, v⟩)) ∧ Below w.heap.size w w' := by
  obtain ⟨h1, h2, h3, h4, h5, h6⟩ := h
  have h1 : 0 ≤ p := h1
  have h2 : p ≤ 1000 := h2
  have h3 : 0 ≤ a := h3
  have h4 : a ≤ 4 := h4
  have h5 : 0 ≤ b := h5
  have h6 : b ≤ 4 := h6
  have e : place ⟨p, a, b, v⟩ = (p * 5 + a) * 5 + b := rfl
  rw [e]
  go_enter Tryz.func74, Tryz.ntmps74
  go_wp2
  go_ret
  exact ⟨rfl, below_alloc _ _⟩

/-- a fact at a place of memory, its cells -/
theorem fact_cells {w : World} {v : Value} {f : List Fct} (h : factsAt w v f) {j : Nat} (hj : j < f.length) : ∃ b off cap, v = .slice (some ⟨b, off, none⟩) f.length cap ∧ b < w.heap.size ∧ factAt w b (off + j * 4) f[j] := by
  obtain ⟨a, cap, rfl, hm, hx⟩ := h
  rcases hx with rfl | ⟨b, off, rfl, hb, hx⟩
  · simp at hj
  · exact ⟨b, off, cap, rfl, hb, hx j f[j] (by simp [hj])⟩

def findTo (f : List Fct) (pl : Int) : Int := (get f pl).getD 0
theorem get_take {f : List Fct} {j : Nat} (h : j < f.length) (pl : Int) (hn : get (f.take j) pl = none) : get (f.take (j + 1)) pl = if place f[j] = pl then some f[j].val else none := by
  induction f generalizing j with
  | nil => simp at h
  | cons y f ih =>
    cases j with
    | zero => simp [get_cons, get_nil]
    | succ j =>
      simp only [List.take_succ_cons, get_cons] at hn ⊢
      by_cases e : place y = pl
      · rw [if_pos e] at hn; cases hn
      · rw [if_neg e] at hn
        rw [if_neg e, ih (by simpa using h) hn]
        rfl
theorem get_first {f : List Fct} {j : Nat} (h : j < f.length) (pl : Int) (hn : get (f.take j) pl = none) (hp : place f[j] = pl) : get f pl = some f[j].val := by
  induction f generalizing j with
  | nil => simp at h
  | cons y f ih =>
    cases j with
    | zero => rw [get_cons, if_pos (show place y = pl from hp)]; rfl
    | succ j =>
      simp only [List.take_succ_cons, get_cons] at hn
      by_cases e : place y = pl
      · rw [if_pos e] at hn; cases hn
      · rw [if_neg e] at hn
        rw [get_cons, if_neg e]
        exact ih (by simpa using h) hn hp

end Go.Proofs.YtlfccloaoopadafGreatDoor.Base

/-
  What the document's own check of facts answers.
-/
namespace Go.Proofs.YtlfccloaoopadafGreatDoor.Base
open Go.ChangeShapes Go.WideShapes Go.ChangeAt Go.RowKit
open Lat (within within_c)
open Rule (factFine factFine_c isPred kindOf arityOf isPred_iff)

def predOk (p : Prd) : Bool := within p.kind 0 3 && within p.arity 0 2
def predsOk (ps : List Prd) : Bool := ps.all predOk
def nth (f : List Fct) (i : Nat) : Fct := f.getD i ⟨0, 0, 0, 0⟩
def goodAt (ps : List Prd) (f : List Fct) (i : Nat) : Bool := factFine ps (nth f i) && (i == 0 || decide (place (nth f (i - 1)) < place (nth f i)))
def goodTo (ps : List Prd) (f : List Fct) (k : Nat) : Bool := (List.range k).all (goodAt ps f)
/-- D1 -/
def factsErr (ps : List Prd) (f : List Fct) : Int := if 5 < ps.length then 2 else if predsOk ps = false then 2 else if goodTo ps f f.length then 0 else 1

theorem goodTo_succ (ps : List Prd) (f : List Fct) (k : Nat) : goodTo ps f (k + 1) = (goodTo ps f k && goodAt ps f k) := by simp [goodTo, List.range_succ]
theorem goodTo_not {ps : List Prd} {f : List Fct} {k : Nat} (hk : k < f.length) (h : goodAt ps f k = false) : goodTo ps f f.length = false := List.all_eq_false.2 ⟨k, List.mem_range.2 hk, by simp [h]⟩
theorem fine_small {ps : List Prd} {x : Fct} (h5 : ps.length ≤ 5) (h : factFine ps x = true) : Small x := by
  simp only [factFine, Bool.and_eq_true] at h
  obtain ⟨h1, h2, h3, _⟩ := h
  obtain ⟨k, hk, he⟩ := isPred_iff.1 h1
  have g2 : 0 ≤ x.a ∧ x.a ≤ 4 := by simpa [within] using h2
  have g3 : 0 ≤ x.b ∧ x.b ≤ 4 := by simpa [within] using h3
  exact ⟨by omega, by omega, g2.1, g2.2, g3.1, g3.2⟩
theorem hideS {x : Fct} (h : Small x) : Hid (Small x) := h
theorem nth_eq {f : List Fct} {j : Nat} (h : j < f.length) : nth f j = f[j] := by simp [nth, h]

set_option maxRecDepth 100000 in
set_option maxHeartbeats 8000000 in
theorem checkFacts_c (w : World) (pv fv : Value) (ps : List Prd) (f : List Fct) (hp : predsAt w pv ps) (hf : factsAt w fv f) :
    Calls Tryz.prog 43 #[pv, fv] w fun e w' => e = .returned (.int .i64 (factsErr ps f)) ∧ Below w.heap.size w w' := by
  have HP : Hid (∀ (w1 : World), Below w.heap.size w w1 → predsAt w1 pv ps) := fun w1 hb1 => predsAt.lasts hb1 hp
  have HF : Hid (factsAt w fv f) := hf
  obtain ⟨pa, pc, rfl, hpm, hpx⟩ := hp
  obtain ⟨fa, fc, rfl, hfm, _⟩ := hf
  have HPX : Hid (ps = [] ∨ ∃ b off, pa = some ⟨b, off, none⟩ ∧ b < w.heap.size ∧ ∀ i x, ps[i]? = some x → predAt w b (off + i * 3) x) := hpx
  clear hpx
  by_cases h5 : 5 < ps.length
  · have e : factsErr ps f = 2 := by rw [factsErr, if_pos h5]
    rw [e]
    have h5' : (5 : Int) < (ps.length : Int) := by omega
    go_enter Tryz.func43, Tryz.ntmps43
    go_wp2_with fail
    go_ret
    exact ⟨rfl, Below.refl _ _⟩
  · have h5' : ¬ (5 : Int) < (ps.length : Int) := by omega
    go_enter Tryz.func43, Tryz.ntmps43
    go_wp2_with fail
    go_loop [5] (fun i => ∃ k : Nat, k ≤ ps.length ∧ i = .int .i64 k ∧ (ps.take k).all predOk = true) (fun i => ps.length - (intOf i).toNat)
    case atStart => exact ⟨0, Nat.zero_le _, rfl, rfl⟩
    case round =>
      obtain ⟨k, hk, rfl, hall⟩ := hrel
      by_cases hlt : k < ps.length
      · obtain ⟨b, off, rfl, hbl, hx⟩ := HPX.out.resolve_left (by rintro rfl; simp at hlt)
        obtain ⟨hc0, hc1, hc2⟩ := hx k ps[k] (by simp [hlt])
        have H : Hid ((ps.take (k + 1)).all predOk = predOk ps[k]) := by show _ = _; rw [all_take hlt, hall, Bool.true_and]
        have H2 : Hid (predOk ps[k] = false → factsErr ps f = 2) := fun h => by rw [factsErr, if_neg h5, if_pos (show predsOk ps = false from all_not hlt h)]
        clear hx hall hc0
        generalize ps[k] = q at *
        obtain ⟨qn, qa, qk⟩ := q
        cases g1 : within qk 0 3
        · have H3 : Hid (factsErr ps f = 2) := H2.out (by simp only [predOk, g1, Bool.false_and])
          clear H H2
          go_wp2_with (go_at_call 24; refine (within_c _ _ _ _).mono ?_; rintro e w' ⟨rfl, rfl⟩)
          go_ret
          exact ⟨ret_int H3.out.symm, Below.refl _ _⟩
        · cases g2 : within qa 0 2
          · have H3 : Hid (factsErr ps f = 2) := H2.out (by simp only [predOk, g2, Bool.and_false])
            clear H H2
            go_wp2_with (go_at_call 24; refine (within_c _ _ _ _).mono ?_; rintro e w' ⟨rfl, rfl⟩)
            go_ret
            exact ⟨ret_int H3.out.symm, Below.refl _ _⟩
          · have H3 : Hid ((ps.take (k + 1)).all predOk = true) := by show _ = _; rw [H.out]; simp only [predOk, g1, g2]; rfl
            clear H H2
            go_wp2_with (go_at_call 24; refine (within_c _ _ _ _).mono ?_; rintro e w' ⟨rfl, rfl⟩)
            go_round
            case rel => exact ⟨k + 1, by omega, by go_num, H3.out⟩
            case measure => simp [intOf]; omega
      · have hpk : predsOk ps = true := all_take_end hlt hall
        have HE : Hid (factsErr ps f = if goodTo ps f f.length then 0 else 1) := by show _ = _; rw [factsErr, if_neg h5, if_neg (by rw [hpk]; simp)]
        clear hall hpk
        go_wp2_with fail
        clear hlt hk
        go_loopw [6] (fun i wr => ∃ j : Nat, j ≤ f.length ∧ i = .int .i64 j ∧ goodTo ps f j = true ∧ Below w.heap.size w wr) (fun i _ => f.length - (intOf i).toNat)
        case atStart => exact ⟨0, Nat.zero_le _, rfl, rfl, Below.refl _ _⟩
        case round =>
          obtain ⟨j, hj, rfl, hgo, hbw⟩ := hrel
          by_cases hlt : j < f.length
          · have H : Hid (goodTo ps f (j + 1) = goodAt ps f j) := by show _ = _; rw [goodTo_succ, hgo, Bool.true_and]
            have H2 : Hid (goodAt ps f j = false → factsErr ps f = 1) := fun h => by rw [HE.out, if_neg (by rw [goodTo_not hlt h]; simp)]
            obtain ⟨bb, off, cap, hv, hbl, hcells⟩ := fact_cells HF.out hlt
            obtain ⟨rfl, rfl⟩ : fa = some ⟨bb, off, none⟩ ∧ fc = cap := by simpa using hv
            have s2 : bb < wr.heap.size := Nat.lt_of_lt_of_le hbl hbw.size
            obtain ⟨t0, t1, t2, t3⟩ := factAt.lasts w wr bb _ _ hbw hbl hcells
            have hjl : (j : Int) < (f.length : Int) := by omega
            have hj0 : (0 : Int) ≤ (j : Int) := by omega
            have HNJ : Hid (nth f j = f[j]) := nth_eq hlt
            clear hcells hv
            rcases Nat.eq_zero_or_pos j with rfl | hjp
            · have HGA : Hid (goodAt ps f 0 = factFine ps f[0]) := by show _ = _; rw [goodAt, HNJ.out]; simp
              simp only [Nat.zero_mul, Nat.add_zero] at t0 t1 t2 t3
              clear HNJ HF hgo
              generalize f[0] = y at *
              obtain ⟨yp, ya, yb, yv⟩ := y
              cases hff : factFine ps ⟨yp, ya, yb, yv⟩
              · have H3 : Hid (factsErr ps f = 1) := H2.out (HGA.out.trans hff)
                clear H H2 HE HGA
                go_wp2_with fail
                have L0 : ∀ x : Low wr.heap.size wr, x.wd.cell? ⟨bb, off, none⟩ = some (.int .i64 yp) := fun x => (cell_lasts x.low s2).trans t0
                have L1 : ∀ x : Low wr.heap.size wr, x.wd.cell? ⟨bb, off + 1, none⟩ = some (.int .i64 ya) := fun x => (cell_lasts x.low s2).trans t1
                have L2 : ∀ x : Low wr.heap.size wr, x.wd.cell? ⟨bb, off + 2, none⟩ = some (.int .i64 yb) := fun x => (cell_lasts x.low s2).trans t2
                have L3 : ∀ x : Low wr.heap.size wr, x.wd.cell? ⟨bb, off + 3, none⟩ = some (.int .i64 yv) := fun x => (cell_lasts x.low s2).trans t3
                refine wp_region_low wr.heap.size (by kernel_rfl) (by kernel_rfl) ?_
                repeat (go_big_quiet_step ((first | (go_at_call 73; exact low_of (factFine_c _ _ ps _ _ _ _ (HP.out _ (hbw.trans ((Low.low _).mono hbw.size))))) | (go_at_call 74; exact low_of (place_c _ _ _ _ _ (by first | exact HSJ.out | exact HSI.out))))))
                refine wpQuiet_nil ?_
                rintro _ ⟨⟨w1, hk⟩, rfl⟩
                clear L0 L1 L2 L3
                go_wp2_with fail
                go_ret
                exact ⟨ret_int H3.out.symm, hbw.trans (hk.mono hbw.size)⟩
              · have H3 : Hid (goodTo ps f (0 + 1) = true) := H.out.trans (HGA.out.trans hff)
                clear H H2 HE HGA
                go_wp2_with fail
                have L0 : ∀ x : Low wr.heap.size wr, x.wd.cell? ⟨bb, off, none⟩ = some (.int .i64 yp) := fun x => (cell_lasts x.low s2).trans t0
                have L1 : ∀ x : Low wr.heap.size wr, x.wd.cell? ⟨bb, off + 1, none⟩ = some (.int .i64 ya) := fun x => (cell_lasts x.low s2).trans t1
                have L2 : ∀ x : Low wr.heap.size wr, x.wd.cell? ⟨bb, off + 2, none⟩ = some (.int .i64 yb) := fun x => (cell_lasts x.low s2).trans t2
                have L3 : ∀ x : Low wr.heap.size wr, x.wd.cell? ⟨bb, off + 3, none⟩ = some (.int .i64 yv) := fun x => (cell_lasts x.low s2).trans t3
                refine wp_region_low wr.heap.size (by kernel_rfl) (by kernel_rfl) ?_
                repeat (go_big_quiet_step ((first | (go_at_call 73; exact low_of (factFine_c _ _ ps _ _ _ _ (HP.out _ (hbw.trans ((Low.low _).mono hbw.size))))) | (go_at_call 74; exact low_of (place_c _ _ _ _ _ (by first | exact HSJ.out | exact HSI.out))))))
                refine wpQuiet_nil ?_
                rintro _ ⟨⟨w1, hk⟩, rfl⟩
                clear L0 L1 L2 L3
                go_wp2_with fail
                go_roundw
                case rel => exact ⟨0 + 1, by omega, by go_num, H3.out, hbw.trans (hk.mono hbw.size)⟩
                case measure => simp [intOf]; omega
            · obtain ⟨i, rfl⟩ : ∃ i, j = i + 1 := ⟨j - 1, by omega⟩
              have hil : i < f.length := by omega
              obtain ⟨bb', off', cap', hv', hbl', hcells'⟩ := fact_cells HF.out hil
              obtain ⟨⟨rfl, rfl⟩, hcc⟩ : (bb = bb' ∧ off = off') ∧ _ := by simpa using hv'
              clear hcc
              obtain ⟨u0, u1, u2, u3⟩ := factAt.lasts w wr bb _ _ hbw hbl hcells'
              have HGA : Hid (goodAt ps f (i + 1) = (factFine ps f[i + 1] && decide (place f[i] < place f[i + 1]))) := by show _ = _; rw [goodAt, HNJ.out, Nat.add_sub_cancel, nth_eq hil]; simp
              have HFI : Hid (factFine ps f[i] = true) := by
                have := List.all_eq_true.1 hgo i (List.mem_range.2 (by omega))
                simp only [goodAt, nth_eq hil, Bool.and_eq_true] at this
                exact this.1
              have HSI : Hid (Small f[i]) := fine_small (by omega) HFI.out
              have HSJ : Hid (factFine ps f[i + 1] = true → Small f[i + 1]) := fine_small (by omega)
              have hil' : (i : Int) < (f.length : Int) := by omega
              clear HNJ HF hgo hcells' hv' HFI
              generalize f[i + 1] = y at *
              generalize f[i] = z at *
              obtain ⟨yp, ya, yb, yv⟩ := y
              obtain ⟨zp, za, zb, zv⟩ := z
              cases hff : factFine ps ⟨yp, ya, yb, yv⟩
              · have H3 : Hid (factsErr ps f = 1) := H2.out (HGA.out.trans (by rw [hff]; rfl))
                clear H H2 HE HGA HSJ
                go_wp2_with fail
                have L0 : ∀ x : Low wr.heap.size wr, x.wd.cell? ⟨bb, off + (i + 1) * 4, none⟩ = some (.int .i64 yp) := fun x => (cell_lasts x.low s2).trans t0
                have L1 : ∀ x : Low wr.heap.size wr, x.wd.cell? ⟨bb, off + (i + 1) * 4 + 1, none⟩ = some (.int .i64 ya) := fun x => (cell_lasts x.low s2).trans t1
                have L2 : ∀ x : Low wr.heap.size wr, x.wd.cell? ⟨bb, off + (i + 1) * 4 + 2, none⟩ = some (.int .i64 yb) := fun x => (cell_lasts x.low s2).trans t2
                have L3 : ∀ x : Low wr.heap.size wr, x.wd.cell? ⟨bb, off + (i + 1) * 4 + 3, none⟩ = some (.int .i64 yv) := fun x => (cell_lasts x.low s2).trans t3
                have M0 : ∀ x : Low wr.heap.size wr, x.wd.cell? ⟨bb, off + i * 4, none⟩ = some (.int .i64 zp) := fun x => (cell_lasts x.low s2).trans u0
                have M1 : ∀ x : Low wr.heap.size wr, x.wd.cell? ⟨bb, off + i * 4 + 1, none⟩ = some (.int .i64 za) := fun x => (cell_lasts x.low s2).trans u1
                have M2 : ∀ x : Low wr.heap.size wr, x.wd.cell? ⟨bb, off + i * 4 + 2, none⟩ = some (.int .i64 zb) := fun x => (cell_lasts x.low s2).trans u2
                have M3 : ∀ x : Low wr.heap.size wr, x.wd.cell? ⟨bb, off + i * 4 + 3, none⟩ = some (.int .i64 zv) := fun x => (cell_lasts x.low s2).trans u3
                refine wp_region_low wr.heap.size (by kernel_rfl) (by kernel_rfl) ?_
                repeat (go_big_quiet_step ((first | (go_at_call 73; exact low_of (factFine_c _ _ ps _ _ _ _ (HP.out _ (hbw.trans ((Low.low _).mono hbw.size))))) | (go_at_call 74; exact low_of (place_c _ _ _ _ _ (by first | exact HSJ.out | exact HSI.out))))))
                refine wpQuiet_nil ?_
                rintro _ ⟨⟨w1, hk⟩, rfl⟩
                clear L0 L1 L2 L3 M0 M1 M2 M3
                go_wp2_with fail
                go_ret
                exact ⟨ret_int H3.out.symm, hbw.trans (hk.mono hbw.size)⟩
              · have HSJ := hideS (HSJ.out hff)
                by_cases hpl : place ⟨yp, ya, yb, yv⟩ ≤ place ⟨zp, za, zb, zv⟩
                · have H3 : Hid (factsErr ps f = 1) := H2.out (HGA.out.trans (by rw [hff]; simp; omega))
                  have hpl' : decide (place ⟨yp, ya, yb, yv⟩ ≤ place ⟨zp, za, zb, zv⟩) = true := by simpa using hpl
                  clear H H2 HE HGA
                  go_wp2_with fail
                  have L0 : ∀ x : Low wr.heap.size wr, x.wd.cell? ⟨bb, off + (i + 1) * 4, none⟩ = some (.int .i64 yp) := fun x => (cell_lasts x.low s2).trans t0
                  have L1 : ∀ x : Low wr.heap.size wr, x.wd.cell? ⟨bb, off + (i + 1) * 4 + 1, none⟩ = some (.int .i64 ya) := fun x => (cell_lasts x.low s2).trans t1
                  have L2 : ∀ x : Low wr.heap.size wr, x.wd.cell? ⟨bb, off + (i + 1) * 4 + 2, none⟩ = some (.int .i64 yb) := fun x => (cell_lasts x.low s2).trans t2
                  have L3 : ∀ x : Low wr.heap.size wr, x.wd.cell? ⟨bb, off + (i + 1) * 4 + 3, none⟩ = some (.int .i64 yv) := fun x => (cell_lasts x.low s2).trans t3
                  have M0 : ∀ x : Low wr.heap.size wr, x.wd.cell? ⟨bb, off + i * 4, none⟩ = some (.int .i64 zp) := fun x => (cell_lasts x.low s2).trans u0
                  have M1 : ∀ x : Low wr.heap.size wr, x.wd.cell? ⟨bb, off + i * 4 + 1, none⟩ = some (.int .i64 za) := fun x => (cell_lasts x.low s2).trans u1
                  have M2 : ∀ x : Low wr.heap.size wr, x.wd.cell? ⟨bb, off + i * 4 + 2, none⟩ = some (.int .i64 zb) := fun x => (cell_lasts x.low s2).trans u2
                  have M3 : ∀ x : Low wr.heap.size wr, x.wd.cell? ⟨bb, off + i * 4 + 3, none⟩ = some (.int .i64 zv) := fun x => (cell_lasts x.low s2).trans u3
                  refine wp_region_low wr.heap.size (by kernel_rfl) (by kernel_rfl) ?_
                  repeat (go_big_quiet_step ((first | (go_at_call 73; exact low_of (factFine_c _ _ ps _ _ _ _ (HP.out _ (hbw.trans ((Low.low _).mono hbw.size))))) | (go_at_call 74; exact low_of (place_c _ _ _ _ _ (by first | exact HSJ.out | exact HSI.out))))))
                  refine wpQuiet_nil ?_
                  rintro _ ⟨⟨w1, hk⟩, rfl⟩
                  clear L0 L1 L2 L3 M0 M1 M2 M3
                  go_wp2_with fail
                  go_ret
                  exact ⟨ret_int H3.out.symm, hbw.trans (hk.mono hbw.size)⟩
                · have H3 : Hid (goodTo ps f (i + 1 + 1) = true) := H.out.trans (HGA.out.trans (by rw [hff]; simp; omega))
                  have hpl' : decide (place ⟨yp, ya, yb, yv⟩ ≤ place ⟨zp, za, zb, zv⟩) = false := by simpa using hpl
                  clear H H2 HE HGA
                  go_wp2_with fail
                  have L0 : ∀ x : Low wr.heap.size wr, x.wd.cell? ⟨bb, off + (i + 1) * 4, none⟩ = some (.int .i64 yp) := fun x => (cell_lasts x.low s2).trans t0
                  have L1 : ∀ x : Low wr.heap.size wr, x.wd.cell? ⟨bb, off + (i + 1) * 4 + 1, none⟩ = some (.int .i64 ya) := fun x => (cell_lasts x.low s2).trans t1
                  have L2 : ∀ x : Low wr.heap.size wr, x.wd.cell? ⟨bb, off + (i + 1) * 4 + 2, none⟩ = some (.int .i64 yb) := fun x => (cell_lasts x.low s2).trans t2
                  have L3 : ∀ x : Low wr.heap.size wr, x.wd.cell? ⟨bb, off + (i + 1) * 4 + 3, none⟩ = some (.int .i64 yv) := fun x => (cell_lasts x.low s2).trans t3
                  have M0 : ∀ x : Low wr.heap.size wr, x.wd.cell? ⟨bb, off + i * 4, none⟩ = some (.int .i64 zp) := fun x => (cell_lasts x.low s2).trans u0
                  have M1 : ∀ x : Low wr.heap.size wr, x.wd.cell? ⟨bb, off + i * 4 + 1, none⟩ = some (.int .i64 za) := fun x => (cell_lasts x.low s2).trans u1
                  have M2 : ∀ x : Low wr.heap.size wr, x.wd.cell? ⟨bb, off + i * 4 + 2, none⟩ = some (.int .i64 zb) := fun x => (cell_lasts x.low s2).trans u2
                  have M3 : ∀ x : Low wr.heap.size wr, x.wd.cell? ⟨bb, off + i * 4 + 3, none⟩ = some (.int .i64 zv) := fun x => (cell_lasts x.low s2).trans u3
                  refine wp_region_low wr.heap.size (by kernel_rfl) (by kernel_rfl) ?_
                  repeat (go_big_quiet_step ((first | (go_at_call 73; exact low_of (factFine_c _ _ ps _ _ _ _ (HP.out _ (hbw.trans ((Low.low _).mono hbw.size))))) | (go_at_call 74; exact low_of (place_c _ _ _ _ _ (by first | exact HSJ.out | exact HSI.out))))))
                  refine wpQuiet_nil ?_
                  rintro _ ⟨⟨w1, hk⟩, rfl⟩
                  clear L0 L1 L2 L3 M0 M1 M2 M3
                  go_wp2_with fail
                  go_roundw
                  case rel => exact ⟨i + 1 + 1, by omega, by go_num, H3.out, hbw.trans (hk.mono hbw.size)⟩
                  case measure => simp [intOf]; omega
          · have HG : Hid (factsErr ps f = 0) := by show _ = _; rw [HE.out, if_pos (by obtain rfl : j = f.length := (by omega); exact hgo)]
            clear hgo HE HF
            go_wp2_with fail
            go_ret
            exact ⟨ret_int HG.out.symm, hbw⟩
end Go.Proofs.YtlfccloaoopadafGreatDoor.Base

/-
  What the document's own 'FindOf' answers.
-/
namespace Go.Proofs.YtlfccloaoopadafGreatDoor.Base
open Go.ChangeShapes Go.WideShapes Go.ChangeAt Go.RowKit
open Lat (within within_c)
open Rule (factFine factFine_c isPred kindOf arityOf isPred_iff)

theorem factsErr_zero {ps : List Prd} {f : List Fct} (h : factsErr ps f = 0) : ps.length ≤ 5 ∧ predsOk ps = true ∧ goodTo ps f f.length = true := by
  unfold factsErr at h
  split at h
  · omega
  · split at h
    · omega
    · split at h
      · rename_i h1 h2 h3
        exact ⟨by omega, by simpa using h2, h3⟩
      · omega
theorem factsErr_is (ps : List Prd) (f : List Fct) : factsErr ps f = 0 ∨ factsErr ps f = 1 ∨ factsErr ps f = 2 := by
  unfold factsErr
  split
  · exact .inr (.inr rfl)
  · split
    · exact .inr (.inr rfl)
    · split
      · exact .inl rfl
      · exact .inr (.inl rfl)
theorem facts_fine {ps : List Prd} {f : List Fct} (h : factsErr ps f = 0) : ∀ y ∈ f, factFine ps y = true := by
  obtain ⟨_, _, h3⟩ := factsErr_zero h
  intro y hy
  obtain ⟨i, hi, rfl⟩ := List.getElem_of_mem hy
  have := List.all_eq_true.1 h3 i (List.mem_range.2 hi)
  simp only [goodAt, nth_eq hi, Bool.and_eq_true] at this
  exact this.1
theorem facts_small {ps : List Prd} {f : List Fct} (h : factsErr ps f = 0) : ∀ y ∈ f, Small y := fun y hy => fine_small (factsErr_zero h).1 (facts_fine h y hy)

theorem fine_of {ps : List Prd} {x : Fct} (h : factFine ps x = true) : Fine ps.length (kindOf ps) x := by
  simp only [factFine, Bool.and_eq_true] at h
  obtain ⟨h1, h2, h3, _, _, h6⟩ := h
  obtain ⟨k, hk, he⟩ := isPred_iff.1 h1
  have g2 : 0 ≤ x.a ∧ x.a ≤ 4 := by simpa [within] using h2
  have g3 : 0 ≤ x.b ∧ x.b ≤ 4 := by simpa [within] using h3
  exact ⟨by omega, by omega, g2.1, g2.2, g3.1, g3.2, by simpa using h6⟩
theorem good_adj {ps : List Prd} {f : List Fct} (h : goodTo ps f f.length = true) (i : Nat) (hi : i + 1 < f.length) : place f[i] < place f[i + 1] := by
  have := List.all_eq_true.1 h (i + 1) (List.mem_range.2 hi)
  simp only [goodAt, Bool.and_eq_true, Nat.add_sub_cancel, nth_eq hi, nth_eq (show i < f.length by omega)] at this
  simpa using this.2
theorem good_lt {ps : List Prd} {f : List Fct} (h : goodTo ps f f.length = true) (i : Nat) : ∀ (d : Nat) (hi : i + d + 1 < f.length), place (f[i]'(by omega)) < place f[i + d + 1] := by
  intro d
  induction d with
  | zero => intro hi; exact good_adj h i hi
  | succ d ih => intro hi; exact Int.lt_trans (ih (by omega)) (good_adj h (i + d + 1) hi)
/-- facts that the document calls right, as plain facts -/
theorem right_of {ps : List Prd} {f : List Fct} (h : factsErr ps f = 0) : Right ps.length (kindOf ps) f := by
  refine ⟨?_, fun x hx => fine_of (facts_fine h x hx)⟩
  rw [Sorted, List.pairwise_iff_getElem]
  intro i j hi hj hij
  obtain ⟨d, rfl⟩ : ∃ d, j = i + d + 1 := ⟨j - i - 1, by omega⟩
  exact good_lt (factsErr_zero h).2.2 i d hj

/-- D2 -/
def findOf (ps : List Prd) (f : List Fct) (x : Fct) : Int × Bool × Int :=
  if factsErr ps f ≠ 0 then (0, false, factsErr ps f) else if factFine ps x = false then (0, false, 1) else (findTo f (place x), (get f (place x)).isSome, 0)

theorem ret_find {n n' : Int} {b b' : Bool} {e e' : Int} (h : (n, b, e) = (n', b', e')) : Ending.returned (.tuple #[.int .i64 n, .bool b, .int .i64 e]) = .returned (.tuple #[.int .i64 n', .bool b', .int .i64 e']) := by cases h; rfl
theorem four_last {w w1 : World} {p a b v : Int} {t : Nat} (h : Below (w.alloc (.cells #[.int .i64 p, .int .i64 a, .int .i64 b, .int .i64 v] t)).heap.size (w.alloc (.cells #[.int .i64 p, .int .i64 a, .int .i64 b, .int .i64 v] t)) w1) :
    w1.cell? ⟨w.heap.size, 0, none⟩ = some (.int .i64 p) ∧ w1.cell? ⟨w.heap.size, 1, none⟩ = some (.int .i64 a) ∧ w1.cell? ⟨w.heap.size, 2, none⟩ = some (.int .i64 b) ∧ w1.cell? ⟨w.heap.size, 3, none⟩ = some (.int .i64 v) := by
  refine ⟨?_, ?_, ?_, ?_⟩ <;> (rw [h.cell (by simp)]; simp [go_sem])

end Go.Proofs.YtlfccloaoopadafGreatDoor.Base

/-
  The use of a rule, in plain words: when its body holds, and which fact follows.
-/
namespace Go.Proofs.YtlfccloaoopadafGreatDoor.Fire
open Lat (within lift err)
open Rule (Vars groundOk groundErr argAt groundTo termOk isPred kindOf arityOf atomErr ruleErr factFine isPred_iff)
open Base (place get findTo factsErr predsOk predOk findOf Small)
open Prog (progErr)

def consts (v : Vars) : Bool := within v.x 0 4 && (within v.y 0 4 && within v.z 0 4)
def atomF (v : Vars) (a : Atm) : Fct := groundTo v a.pred a.args
def there (f : List Fct) (v : Vars) (l : Ltr) : Bool := (get f (place (atomF v l.atom))).isSome
def litOk (f : List Fct) (v : Vars) (l : Ltr) : Bool := there f v l != l.neg
def bodyOk (f : List Fct) (v : Vars) (ls : List Ltr) : Bool := ls.all (litOk f v)
def valueAt (ps : List Prd) (f : List Fct) (r : Rul) (v : Vars) (k : Nat) : Int := lift (kindOf ps r.head.pred) (findTo f (place (atomF v ((r.body[k]?.map Ltr.atom).getD ⟨0, []⟩)))) r.n
/-- the value of the fact that follows, the literals ahead of k being looked at -/
def valTo (ps : List Prd) (f : List Fct) (r : Rul) (v : Vars) (k : Nat) : Int := if 0 ≤ r.src ∧ r.src < (k : Int) then valueAt ps f r v r.src.toNat else r.n
def headF (ps : List Prd) (f : List Fct) (r : Rul) (v : Vars) : Fct := ⟨r.head.pred, argAt v r.head.args 0, argAt v r.head.args 1, valTo ps f r v r.body.length⟩
/-- E1, of right ones -/
def holdsF (ps : List Prd) (f : List Fct) (r : Rul) (v : Vars) : Fct := if bodyOk f v r.body then headF ps f r v else ⟨0, 0, 0, 0⟩
def fireErr (ps : List Prd) (rs : List Rul) (f : List Fct) (n : Int) : Int := if progErr ps rs ≠ 0 then progErr ps rs else if factsErr ps f ≠ 0 then factsErr ps f else if 0 ≤ n ∧ n < (rs.length : Int) then 0 else 7
def holdsErr (ps : List Prd) (rs : List Rul) (f : List Fct) (n : Int) (v : Vars) : Int := if fireErr ps rs f n ≠ 0 then fireErr ps rs f n else if consts v then 0 else 3

theorem within_iff {n a b : Int} : within n a b = true ↔ a ≤ n ∧ n ≤ b := by unfold within; simp
theorem consts_at {v : Vars} (h : consts v = true) (n : Int) : within (v.at n) 0 4 = true := by
  unfold consts at h
  rw [Bool.and_eq_true, Bool.and_eq_true] at h
  unfold Vars.at
  split
  · exact h.1
  · split
    · exact h.2.1
    · exact h.2.2
theorem pred_ok {ps : List Prd} (h : predsOk ps = true) {p : Int} (hp : isPred ps p = true) : within (kindOf ps p) 0 3 = true ∧ within (arityOf ps p) 0 2 = true := by
  obtain ⟨k, hk, rfl⟩ := isPred_iff.1 hp
  have := List.all_eq_true.1 h ps[k] (List.getElem_mem hk)
  unfold predOk at this
  rw [Bool.and_eq_true] at this
  unfold kindOf arityOf
  rw [Int.toNat_natCast, List.getElem?_eq_getElem hk]
  exact this
/-- a right atom, its variables standing for constants, is a fact that may be asked for -/
theorem atom_ground {ps : List Prd} {a : Atm} {v : Vars} (h : atomErr ps a = 0) (hp : predsOk ps = true) (hv : consts v = true) : groundErr v a.args = 0 ∧ factFine ps (atomF v a) = true := by
  unfold atomErr at h
  split at h
  · rename_i h1
    split at h
    · rename_i h2
      obtain ⟨q1, q2⟩ := pred_ok hp h1
      have q2' := within_iff.1 q2
      have ht : a.args.all termOk = true := by
        unfold Rule.argsErr at h
        split at h
        · assumption
        · cases h
      have hval : ∀ t ∈ a.args, within (Rule.valOf v t) 0 4 = true := fun t htm => by
        have := List.all_eq_true.1 ht t htm
        unfold termOk at this
        unfold Rule.valOf
        split
        · exact consts_at hv _
        · rename_i hn
          rw [if_neg hn] at this
          exact this
      have hg : groundErr v a.args = 0 := by
        unfold groundErr
        rw [if_neg (by omega), if_pos (List.all_eq_true.2 fun t htm => by unfold groundOk; rw [List.all_eq_true.1 ht t htm, hval t htm]; rfl)]
      have harg : ∀ i, within (argAt v a.args i) 0 4 = true := fun i => by
        unfold argAt
        cases e : a.args[i]? with
        | none => rfl
        | some t => exact hval t (List.mem_of_getElem? e)
      have h0 : (decide (1 ≤ arityOf ps a.pred) || argAt v a.args 0 == 0) = true := by
        by_cases e : 1 ≤ arityOf ps a.pred
        · rw [decide_eq_true e, Bool.true_or]
        · have : argAt v a.args 0 = 0 := by unfold argAt; rw [List.getElem?_eq_none (by omega)]; rfl
          rw [this]; simp
      have h3 : (decide (2 ≤ arityOf ps a.pred) || argAt v a.args 1 == 0) = true := by
        by_cases e : 2 ≤ arityOf ps a.pred
        · rw [decide_eq_true e, Bool.true_or]
        · have : argAt v a.args 1 = 0 := by unfold argAt; rw [List.getElem?_eq_none (by omega)]; rfl
          rw [this]; simp
      have h4 : err (kindOf ps a.pred) 0 = 0 := by
        have := within_iff.1 q1
        obtain e | e | e | e : kindOf ps a.pred = 0 ∨ kindOf ps a.pred = 1 ∨ kindOf ps a.pred = 2 ∨ kindOf ps a.pred = 3 := by omega
        all_goals rw [e]; rfl
      refine ⟨hg, ?_⟩
      show (isPred ps a.pred && (within (argAt v a.args 0) 0 4 && (within (argAt v a.args 1) 0 4 && ((decide (1 ≤ arityOf ps a.pred) || argAt v a.args 0 == 0) && ((decide (2 ≤ arityOf ps a.pred) || argAt v a.args 1 == 0) && err (kindOf ps a.pred) 0 == 0))))) = true
      rw [h1, harg 0, harg 1, h0, h3, h4]
      rfl
    · cases h
  · cases h
theorem rule_parts {ps : List Prd} {r : Rul} (h : ruleErr ps r = 0) : atomErr ps r.head = 0 ∧ (∀ l ∈ r.body, atomErr ps l.atom = 0) ∧ -1 ≤ r.src ∧ r.src < (r.body.length : Int) ∧ 0 ≤ r.n ∧ r.n ≤ 15 ∧ r.body.length ≤ 3 := by
  rw [ruleErr] at h
  split at h
  · contradiction
  · rename_i h1
    split at h
    · contradiction
    · rename_i h2
      split at h
      · contradiction
      · rename_i h3
        split at h
        · contradiction
        · unfold Rule.valueErr at h
          split at h
          · contradiction
          · rename_i h4
            split at h
            · contradiction
            · split at h
              · contradiction
              · split at h
                · contradiction
                · rename_i h5
                  exact ⟨Classical.not_not.1 h1, Prog.body_all (Classical.not_not.1 h3), by omega, by omega, by omega, by omega, by omega⟩
theorem find_range {ps : List Prd} {f : List Fct} (h : factsErr ps f = 0) (pl : Int) : 0 ≤ findTo f pl ∧ findTo f pl ≤ 15 := by
  have hf := Base.facts_fine h
  unfold findTo
  clear h
  induction f with
  | nil => rw [Base.get_nil]; exact ⟨by decide, by decide⟩
  | cons y f ih =>
    rw [Base.get_cons]
    split
    · have := hf y (by simp)
      unfold factFine at this
      simp only [Bool.and_eq_true, beq_iff_eq] at this
      have := Lat.err_ok this.2.2.2.2.2
      exact ⟨this.2.1, this.2.2⟩
    · exact ih fun z hz => hf z (by simp [hz])
theorem valTo_at {ps : List Prd} {f : List Fct} {r : Rul} {v : Vars} {k : Nat} (h : k < r.body.length) : valTo ps f r v (k + 1) = if (k : Int) = r.src then lift (kindOf ps r.head.pred) (findTo f (place (atomF v r.body[k].atom))) r.n else valTo ps f r v k := by
  unfold valTo
  by_cases e : (k : Int) = r.src
  · rw [if_pos e, if_pos (by omega), valueAt, ← e, Int.toNat_natCast, List.getElem?_eq_getElem h]
    rfl
  · rw [if_neg e]
    by_cases e2 : 0 ≤ r.src ∧ r.src < (k : Int)
    · rw [if_pos (by omega), if_pos e2]
    · rw [if_neg (by omega), if_neg e2]
theorem valTo_zero (ps : List Prd) (f : List Fct) (r : Rul) (v : Vars) : valTo ps f r v 0 = r.n := by
  unfold valTo
  rw [if_neg (by omega)]
end Go.Proofs.YtlfccloaoopadafGreatDoor.Fire

/-
  Package base, its small parts: how two facts are ordered, and whether a fact is right.
-/
namespace Go.Proofs.YtlfccloaoopadafGreatDoor.Base
open Go.ChangeShapes Go.WideShapes Go.ChangeAt Go.RowKit
open Lat (within within_c)
open Rule (factFine factFine_c isPred kindOf arityOf isPred_iff)

/-- name this world by what is known of it -/
theorem wp_called {P : Program} {c : Code} {Q : Exit → Act → World → Prop} {a : Act} {W : World} (F : World → Prop) (hF : F W) (h : ∀ W0, F W0 → Code.wp P c Q a W0) : Code.wp P c Q a W := h W hF

def cmpI (x y : Int) : Int := if x < y then -1 else if y < x then 1 else 0
def first (x y z : Int) : Int := if x ≠ 0 then x else if y ≠ 0 then y else z
def cmpF (x y : Fct) : Int := first (cmpI x.pred y.pred) (cmpI x.a y.a) (cmpI x.b y.b)

theorem cmpF_spec {x y : Fct} (hx : Small x) (hy : Small y) : (cmpF x y < 0 ↔ place x < place y) ∧ (cmpF x y = 0 ↔ place x = place y) := by
  obtain ⟨_, _, _, _, _, _⟩ := hx
  obtain ⟨_, _, _, _, _, _⟩ := hy
  unfold cmpF first cmpI place
  by_cases h1 : x.pred < y.pred
  · simp only [h1, if_true]
    simp
    omega
  · by_cases h2 : y.pred < x.pred
    · simp only [h1, h2, if_true, if_false]
      simp
      omega
    · simp only [h1, h2, if_false]
      by_cases h3 : x.a < y.a
      · simp only [h3, if_true]
        simp
        omega
      · by_cases h4 : y.a < x.a
        · simp only [h3, h4, if_true, if_false]
          simp
          omega
        · simp only [h3, h4, if_false]
          by_cases h5 : x.b < y.b
          · simp only [h5, if_true]
            simp
            omega
          · by_cases h6 : y.b < x.b
            · simp only [h5, h6, if_true, if_false]
              simp
              omega
            · simp only [h5, h6, if_false]
              simp
              omega

theorem isNaN_c (x : Int) (w : World) : Calls Tryz.prog 111 #[.int .i64 x] w fun e w' => e = .returned (.bool false) ∧ w' = w := by
  go_enter Tryz.func111, Tryz.ntmps111
  go_wp2
  go_ret
  simp

theorem compare_c (x y : Int) (w : World) : Calls Tryz.prog 95 #[.int .i64 x, .int .i64 y] w fun e w' => e = .returned (.int .i64 (cmpI x y)) ∧ w' = w := by
  unfold cmpI
  by_cases h1 : x < y
  · rw [if_pos h1]
    go_enter Tryz.func95, Tryz.ntmps95
    go_wp2_with (go_at_call 111; refine (isNaN_c _ _).mono ?_; rintro e w' ⟨rfl, rfl⟩)
    go_ret
    exact ⟨rfl, rfl⟩
  · rw [if_neg h1]
    by_cases h2 : y < x
    · rw [if_pos h2]
      go_enter Tryz.func95, Tryz.ntmps95
      go_wp2_with (go_at_call 111; refine (isNaN_c _ _).mono ?_; rintro e w' ⟨rfl, rfl⟩)
      go_ret
      exact ⟨rfl, rfl⟩
    · rw [if_neg h2]
      go_enter Tryz.func95, Tryz.ntmps95
      go_wp2_with (go_at_call 111; refine (isNaN_c _ _).mono ?_; rintro e w' ⟨rfl, rfl⟩)
      go_ret
      exact ⟨rfl, rfl⟩

theorem or_c (w : World) (b : Nat) (x y z : Int) (h0 : w.cell? ⟨b, 0, none⟩ = some (.int .i64 x)) (h1 : w.cell? ⟨b, 1, none⟩ = some (.int .i64 y)) (h2 : w.cell? ⟨b, 2, none⟩ = some (.int .i64 z)) :
    Calls Tryz.prog 94 #[.slice (some ⟨b, 0, none⟩) 3 3] w fun e w' => e = .returned (.int .i64 (first x y z)) ∧ w' = w := by
  go_enter Tryz.func94, Tryz.ntmps94
  go_wp2_with fail
  go_loop [8] (fun i => ∃ k : Nat, k ≤ 3 ∧ i = .int .i64 k ∧ (0 < k → x = 0) ∧ (1 < k → y = 0) ∧ (2 < k → z = 0)) (fun i => 3 - (intOf i).toNat)
  case atStart => exact ⟨0, by omega, rfl, by omega, by omega, by omega⟩
  case round =>
    obtain ⟨k, hk, rfl, k0, k1, k2⟩ := hrel
    have HK0 : Hid (0 < k → x = 0) := k0
    have HK1 : Hid (1 < k → y = 0) := k1
    have HK2 : Hid (2 < k → z = 0) := k2
    clear k0 k1 k2
    rcases (show k = 0 ∨ k = 1 ∨ k = 2 ∨ k = 3 by omega) with rfl | rfl | rfl | rfl
    · by_cases hx : x = 0
      · have hx' : (x == 0) = true := by simpa using hx
        have HX : Hid (x = 0) := hx
        clear hx
        go_wp2_with fail
        go_round
        case rel => exact ⟨1, by omega, by go_num, fun _ => HX.out, by omega, by omega⟩
        case measure => simp [intOf]
      · have HX : Hid (x ≠ 0) := hx
        go_wp2_with fail
        go_ret
        exact ⟨by rw [first, if_pos HX.out]; rfl, rfl⟩
    · have HX : Hid (x = 0) := HK0.out (by omega)
      by_cases hy : y = 0
      · have hy' : (y == 0) = true := by simpa using hy
        have HY : Hid (y = 0) := hy
        clear hy
        go_wp2_with fail
        go_round
        case rel => exact ⟨2, by omega, by go_num, fun _ => HX.out, fun _ => HY.out, by omega⟩
        case measure => simp [intOf]
      · have HY : Hid (y ≠ 0) := hy
        go_wp2_with fail
        go_ret
        exact ⟨by rw [first, if_neg (by simp [HX.out]), if_pos HY.out]; rfl, rfl⟩
    · have HX : Hid (x = 0) := HK0.out (by omega)
      have HY : Hid (y = 0) := HK1.out (by omega)
      by_cases hz : z = 0
      · have hz' : (z == 0) = true := by simpa using hz
        have HZ : Hid (z = 0) := hz
        clear hz
        go_wp2_with fail
        go_round
        case rel => exact ⟨3, by omega, by go_num, fun _ => HX.out, fun _ => HY.out, fun _ => HZ.out⟩
        case measure => simp [intOf]
      · have HZ : Hid (z ≠ 0) := hz
        go_wp2_with fail
        go_ret
        exact ⟨by rw [first, if_neg (by simp [HX.out]), if_neg (by simp [HY.out])]; rfl, rfl⟩
    · go_wp2_with fail
      go_ret
      exact ⟨by rw [first, if_neg (by simp [HK0.out]), if_neg (by simp [HK1.out]), HK2.out (by omega)]; rfl, rfl⟩

/-- has a fact such an argument? -/
theorem isArg_c (has : Bool) (n : Int) (w : World) : Calls Tryz.prog 93 #[.bool has, .int .i64 n] w fun e w' => e = .returned (.bool (within n 0 4 && (has || n == 0))) ∧ w' = w := by
  by_cases h0 : n = 0
  · subst h0
    go_enter Tryz.func93, Tryz.ntmps93
    go_wp2_with fail
    go_ret
    simp [within]
  · have h0' : (n == 0) = false := by simpa using h0
    cases has
    · go_enter Tryz.func93, Tryz.ntmps93
      go_wp2_with fail
      go_ret
      simp [h0]
    · by_cases h1 : 0 < n
      · by_cases h2 : n ≤ 4
        · have e : (within n 0 4 && (true || n == 0)) = true := by simp [within]; omega
          rw [e]
          go_enter Tryz.func93, Tryz.ntmps93
          go_wp2_with fail
          go_ret
          exact ⟨rfl, rfl⟩
        · have e : (within n 0 4 && (true || n == 0)) = false := by simp [within]; omega
          rw [e]
          go_enter Tryz.func93, Tryz.ntmps93
          go_wp2_with fail
          go_ret
          exact ⟨rfl, rfl⟩
      · have e : (within n 0 4 && (true || n == 0)) = false := by simp [within]; omega
        rw [e]
        go_enter Tryz.func93, Tryz.ntmps93
        go_wp2_with fail
        go_ret
        exact ⟨rfl, rfl⟩
end Go.Proofs.YtlfccloaoopadafGreatDoor.Base

/-
  Package base: how two facts are ordered; whether a fact is right.
-/
namespace Go.Proofs.YtlfccloaoopadafGreatDoor.Base
open Go.ChangeShapes Go.WideShapes Go.ChangeAt Go.RowKit
open Lat (within within_c)
open Rule (factFine factFine_c isPred kindOf arityOf isPred_iff)

set_option maxRecDepth 100000 in
set_option maxHeartbeats 4000000 in
theorem order_c (p a b v q c d u : Int) (w : World) : Calls Tryz.prog 72 #[.agg #[.int .i64 p, .int .i64 a, .int .i64 b, .int .i64 v], .agg #[.int .i64 q, .int .i64 c, .int .i64 d, .int .i64 u]] w fun e w' => e = .returned (.int .i64 (cmpF ⟨p, a, b, v⟩ ⟨q, c, d, u⟩)) ∧ Below w.heap.size w w' := by
  go_enter Tryz.func72, Tryz.ntmps72
  go_wp2_with fail
  refine wp_called (fun w' => Below w.heap.size w w' ∧ w.heap.size + 2 = w'.heap.size ∧ w'.cell? ⟨w.heap.size, 0, none⟩ = some (.int .i64 p) ∧ w'.cell? ⟨w.heap.size, 1, none⟩ = some (.int .i64 a) ∧ w'.cell? ⟨w.heap.size, 2, none⟩ = some (.int .i64 b) ∧ w'.cell? ⟨w.heap.size + 1, 0, none⟩ = some (.int .i64 q) ∧ w'.cell? ⟨w.heap.size + 1, 1, none⟩ = some (.int .i64 c) ∧ w'.cell? ⟨w.heap.size + 1, 2, none⟩ = some (.int .i64 d)) ⟨(below_alloc _ _).alloc (by simp) _, by simp, by simp [go_sem], by simp [go_sem], by simp [go_sem], by simp [go_sem], by simp [go_sem], by simp [go_sem]⟩ ?_
  rintro W0 ⟨hb0, hs, d0, d1, d2, d3, d4, d5⟩
  have s1 : w.heap.size < W0.heap.size := by omega
  have s2 : w.heap.size + 1 < W0.heap.size := by omega
  have KEEP : Hid (∀ w', Below W0.heap.size W0 w' → (fun w' => Below W0.heap.size W0 w' ∧ w'.cell? ⟨w.heap.size, 0, none⟩ = some (.int .i64 p) ∧ w'.cell? ⟨w.heap.size, 1, none⟩ = some (.int .i64 a) ∧ w'.cell? ⟨w.heap.size, 2, none⟩ = some (.int .i64 b) ∧ w'.cell? ⟨w.heap.size + 1, 0, none⟩ = some (.int .i64 q) ∧ w'.cell? ⟨w.heap.size + 1, 1, none⟩ = some (.int .i64 c) ∧ w'.cell? ⟨w.heap.size + 1, 2, none⟩ = some (.int .i64 d)) w') :=
    fun w' hq => ⟨hq, (cell_lasts hq s1).trans d0, (cell_lasts hq s1).trans d1, (cell_lasts hq s1).trans d2, (cell_lasts hq s2).trans d3, (cell_lasts hq s2).trans d4, (cell_lasts hq s2).trans d5⟩
  clear hs
  go_region_held3 (fun w' => Below W0.heap.size W0 w' ∧ w'.cell? ⟨w.heap.size, 0, none⟩ = some (.int .i64 p) ∧ w'.cell? ⟨w.heap.size, 1, none⟩ = some (.int .i64 a) ∧ w'.cell? ⟨w.heap.size, 2, none⟩ = some (.int .i64 b) ∧ w'.cell? ⟨w.heap.size + 1, 0, none⟩ = some (.int .i64 q) ∧ w'.cell? ⟨w.heap.size + 1, 1, none⟩ = some (.int .i64 c) ∧ w'.cell? ⟨w.heap.size + 1, 2, none⟩ = some (.int .i64 d))
    ((refine KEEP.out _ ?_; (first | exact Below.refl _ _ | exact (Below.refl _ _).drew | exact hk | exact hk.drew | exact hk.alloc hk.size _ | exact (hk.alloc hk.size _).drew | exact hk.drew.alloc hk.size _)))
    (first
      | (go_at_call 95; refine (compare_c _ _ _).mono ?_; rintro e w4 ⟨rfl, hw4⟩; have hk : Below W0.heap.size W0 w4 := (by rw [hw4]; (first | exact Below.refl _ _ | exact (Below.refl _ _).drew | exact hk | exact hk.drew)); clear hw4)
      | (go_at_call 94; refine (or_c _ _ (cmpI p q) (cmpI a c) (cmpI b d) (by simp [go_sem]) (by simp [go_sem]) (by simp [go_sem])).mono ?_; rintro e w5 ⟨rfl, hw5⟩; have hk : Below W0.heap.size W0 w5 := (by rw [hw5]; (first | exact hk.alloc hk.size _ | exact (hk.alloc hk.size _).drew | exact hk.drew.alloc hk.size _)); clear hw5))
  clear KEEP
  go_wp2_with fail
  go_ret
  exact ⟨rfl, hb0.trans (hk.mono hb0.size)⟩

def isArgB (has : Bool) (n : Int) : Bool := within n 0 4 && (has || n == 0)
theorem isArg_is (has : Bool) (n : Int) (r : Bool) (w : World) (h : isArgB has n = r) : Calls Tryz.prog 93 #[.bool has, .int .i64 n] w fun e w' => e = .returned (.bool r) ∧ w' = w := h ▸ isArg_c has n w

theorem fine_parts {ps : List Prd} {k : Nat} (hk : k < ps.length) (a b v : Int) : factFine ps ⟨(k : Int), a, b, v⟩ = (isArgB (decide (0 < ps[k].arity)) a && (isArgB (decide (1 < ps[k].arity)) b && Lat.err ps[k].kind v == 0)) := by
  have h1 : isPred ps (k : Int) = true := isPred_iff.2 ⟨k, hk, rfl⟩
  have har : arityOf ps (k : Int) = ps[k].arity := by simp [arityOf, hk]
  have hki : kindOf ps (k : Int) = ps[k].kind := by simp [kindOf, hk]
  simp only [factFine, h1, har, hki, Bool.true_and, isArgB]
  rw [show decide (1 ≤ ps[k].arity) = decide (0 < ps[k].arity) from decide_eq_decide.2 (by omega), show decide (2 ≤ ps[k].arity) = decide (1 < ps[k].arity) from decide_eq_decide.2 (by omega)]
  cases within a 0 4 <;> cases within b 0 4 <;> cases (decide (0 < ps[k].arity) || a == 0) <;> simp

set_option maxRecDepth 100000 in
set_option maxHeartbeats 4000000 in
theorem isRight_c (w : World) (pv : Value) (ps : List Prd) (p a b v : Int) (h : predsAt w pv ps) :
    Calls Tryz.prog 71 #[pv, .agg #[.int .i64 p, .int .i64 a, .int .i64 b, .int .i64 v]] w fun e w' => e = .returned (.bool (factFine ps ⟨p, a, b, v⟩)) ∧ Below w.heap.size w w' := by
  obtain ⟨pa, cap, rfl, hm, hx⟩ := h
  cases h1 : isPred ps p
  · have e : factFine ps ⟨p, a, b, v⟩ = false := by simp [factFine, h1]
    rw [e]
    clear e hx
    by_cases hp : p < 0
    · clear h1
      go_enter Tryz.func71, Tryz.ntmps71
      go_wp2_with fail
      go_ret
      exact ⟨rfl, below_alloc _ _⟩
    · have hp2 : (ps.length : Int) ≤ p := by
        refine Classical.byContradiction fun hc => ?_
        have := isPred_iff.2 (⟨p.toNat, by omega, by show p = _; omega⟩ : ∃ k : Nat, k < ps.length ∧ p = (k : Int))
        rw [h1] at this
        cases this
      clear h1
      go_enter Tryz.func71, Tryz.ntmps71
      go_wp2_with fail
      go_ret
      exact ⟨rfl, below_alloc _ _⟩
  · obtain ⟨k, hk, rfl⟩ := isPred_iff.1 h1
    obtain ⟨bb, off, rfl, hbl, hx⟩ := hx.resolve_left (by rintro rfl; simp at hk)
    obtain ⟨hc0, hc1, hc2⟩ := hx k ps[k] (by simp [hk])
    rw [fine_parts hk]
    have hk0 : (0 : Int) ≤ (k : Int) := by omega
    have hk1 : (k : Int) < (ps.length : Int) := by omega
    have hk2 : ¬ (k : Int) < 0 := by omega
    have hk3 : ¬ (ps.length : Int) ≤ (k : Int) := by omega
    clear hx h1
    generalize ps[k] = qq at *
    obtain ⟨qn, qa, qk⟩ := qq
    dsimp only at hc0 hc1 hc2 ⊢
    clear hx
    by_cases g1 : 0 < qa
    · have g1' : decide (0 < qa) = true := by simpa using g1
      rw [g1']
      by_cases g2 : 1 < qa
      · have g2' : decide (1 < qa) = true := by simpa using g2
        rw [g2']
        cases r1 : isArgB true a
        · rw [Bool.false_and]
          go_enter Tryz.func71, Tryz.ntmps71
          go_wp2_with (first | (go_at_call 93; refine (isArg_is _ _ _ _ (by assumption)).mono ?_; rintro e w' ⟨rfl, rfl⟩) | (go_at_call 69; refine (Lat.check_c _ _ _).mono ?_; rintro e w' ⟨rfl, rfl⟩))
          go_ret
          exact ⟨rfl, (below_alloc _ _).alloc (by simp) _⟩
        · cases r2 : isArgB true b
          · rw [Bool.false_and, Bool.and_false]
            go_enter Tryz.func71, Tryz.ntmps71
            go_wp2_with (first | (go_at_call 93; refine (isArg_is _ _ _ _ (by assumption)).mono ?_; rintro e w' ⟨rfl, rfl⟩) | (go_at_call 69; refine (Lat.check_c _ _ _).mono ?_; rintro e w' ⟨rfl, rfl⟩))
            go_ret
            exact ⟨rfl, (below_alloc _ _).alloc (by simp) _⟩
          · cases g5 : (Lat.err qk v == 0)
            all_goals
              rw [Bool.true_and, Bool.true_and]
              go_enter Tryz.func71, Tryz.ntmps71
              go_wp2_with (first | (go_at_call 93; refine (isArg_is _ _ _ _ (by assumption)).mono ?_; rintro e w' ⟨rfl, rfl⟩) | (go_at_call 69; refine (Lat.check_c _ _ _).mono ?_; rintro e w' ⟨rfl, rfl⟩))
              go_ret
              exact ⟨rfl, (below_alloc _ _).alloc (by simp) _⟩
      · have g2' : decide (1 < qa) = false := by simpa using g2
        rw [g2']
        cases r1 : isArgB true a
        · rw [Bool.false_and]
          go_enter Tryz.func71, Tryz.ntmps71
          go_wp2_with (first | (go_at_call 93; refine (isArg_is _ _ _ _ (by assumption)).mono ?_; rintro e w' ⟨rfl, rfl⟩) | (go_at_call 69; refine (Lat.check_c _ _ _).mono ?_; rintro e w' ⟨rfl, rfl⟩))
          go_ret
          exact ⟨rfl, (below_alloc _ _).alloc (by simp) _⟩
        · cases r2 : isArgB false b
          · rw [Bool.false_and, Bool.and_false]
            go_enter Tryz.func71, Tryz.ntmps71
            go_wp2_with (first | (go_at_call 93; refine (isArg_is _ _ _ _ (by assumption)).mono ?_; rintro e w' ⟨rfl, rfl⟩) | (go_at_call 69; refine (Lat.check_c _ _ _).mono ?_; rintro e w' ⟨rfl, rfl⟩))
            go_ret
            exact ⟨rfl, (below_alloc _ _).alloc (by simp) _⟩
          · cases g5 : (Lat.err qk v == 0)
            all_goals
              rw [Bool.true_and, Bool.true_and]
              go_enter Tryz.func71, Tryz.ntmps71
              go_wp2_with (first | (go_at_call 93; refine (isArg_is _ _ _ _ (by assumption)).mono ?_; rintro e w' ⟨rfl, rfl⟩) | (go_at_call 69; refine (Lat.check_c _ _ _).mono ?_; rintro e w' ⟨rfl, rfl⟩))
              go_ret
              exact ⟨rfl, (below_alloc _ _).alloc (by simp) _⟩
    · have g1' : decide (0 < qa) = false := by simpa using g1
      have g2 : ¬ 1 < qa := by omega
      have g2' : decide (1 < qa) = false := by simpa using g2
      rw [g1', g2']
      cases r1 : isArgB false a
      · rw [Bool.false_and]
        go_enter Tryz.func71, Tryz.ntmps71
        go_wp2_with (first | (go_at_call 93; refine (isArg_is _ _ _ _ (by assumption)).mono ?_; rintro e w' ⟨rfl, rfl⟩) | (go_at_call 69; refine (Lat.check_c _ _ _).mono ?_; rintro e w' ⟨rfl, rfl⟩))
        go_ret
        exact ⟨rfl, (below_alloc _ _).alloc (by simp) _⟩
      · cases r2 : isArgB false b
        · rw [Bool.false_and, Bool.and_false]
          go_enter Tryz.func71, Tryz.ntmps71
          go_wp2_with (first | (go_at_call 93; refine (isArg_is _ _ _ _ (by assumption)).mono ?_; rintro e w' ⟨rfl, rfl⟩) | (go_at_call 69; refine (Lat.check_c _ _ _).mono ?_; rintro e w' ⟨rfl, rfl⟩))
          go_ret
          exact ⟨rfl, (below_alloc _ _).alloc (by simp) _⟩
        · cases g5 : (Lat.err qk v == 0)
          all_goals
            rw [Bool.true_and, Bool.true_and]
            go_enter Tryz.func71, Tryz.ntmps71
            go_wp2_with (first | (go_at_call 93; refine (isArg_is _ _ _ _ (by assumption)).mono ?_; rintro e w' ⟨rfl, rfl⟩) | (go_at_call 69; refine (Lat.check_c _ _ _).mono ?_; rintro e w' ⟨rfl, rfl⟩))
            go_ret
            exact ⟨rfl, (below_alloc _ _).alloc (by simp) _⟩
end Go.Proofs.YtlfccloaoopadafGreatDoor.Base

/-
  What the document's own 'under', 'UnderOf' and 'SameFacts' answer.
-/
namespace Go.Proofs.YtlfccloaoopadafGreatDoor.Base
open Go.ChangeShapes Go.WideShapes Go.ChangeAt Go.RowKit
open Lat (within within_c join)
open Rule (factFine factFine_c isPred kindOf arityOf isPred_iff)

theorem kind_four {ps : List Prd} (h : predsOk ps = true) {k : Nat} (hk : k < ps.length) : ps[k].kind = 0 ∨ ps[k].kind = 1 ∨ ps[k].kind = 2 ∨ ps[k].kind = 3 := by
  have := List.all_eq_true.1 h ps[k] (List.getElem_mem hk)
  simp only [predOk, within, Bool.and_eq_true, decide_eq_true_eq] at this
  omega
theorem kindOf_at {ps : List Prd} {k : Nat} (hk : k < ps.length) : kindOf ps (k : Int) = ps[k].kind := by simp [kindOf, hk]

/-- D2 -/
def underOf (ps : List Prd) (f g : List Fct) : Bool × Int := if factsErr ps f ≠ 0 then (false, factsErr ps f) else if factsErr ps g ≠ 0 then (false, factsErr ps g) else (under (kindOf ps) f g, 0)

end Go.Proofs.YtlfccloaoopadafGreatDoor.Base

/-
  The steps of a rule as the developers gather them (facts laid to the literals one after the other), in plain words; and that these, put in order, are all steps at which the body holds.
-/
namespace Go.Proofs.YtlfccloaoopadafGreatDoor.Fire
open Lat (within)
open Rule (Vars asked bound boundIn stands standsIn freeR ruleErr atomErr termOk argAt groundTo kindOf factFine isPred_iff)
open Base (place get factsErr)

/-- what variables stand for so far, and which of them are bound -/
structure Std where
  v : Vars
  bx : Bool
  bq : Bool
  bz : Bool
def slot (n : Int) : Nat := if n = 0 then 0 else if n = 1 then 1 else 2
def Std.bd (s : Std) (n : Int) : Bool := if n = 0 then s.bx else if n = 1 then s.bq else s.bz
def Std.put (s : Std) (n c : Int) : Std := if n = 0 then ⟨⟨c, s.v.y, s.v.z⟩, true, s.bq, s.bz⟩ else if n = 1 then ⟨⟨s.v.x, c, s.v.z⟩, s.bx, true, s.bz⟩ else ⟨⟨s.v.x, s.v.y, c⟩, s.bx, s.bq, true⟩
def argOf (x : Fct) (i : Nat) : Int := if i = 0 then x.a else x.b
def layTo (x : Fct) : Std → List Tm → Nat → Option Std
  | s, [], _ => some s
  | s, t :: ts, i => if t.var = true ∧ s.bd t.n = false then layTo x (s.put t.n (argOf x i)) ts (i + 1) else if Rule.valOf s.v t = argOf x i then layTo x s ts (i + 1) else none
def withF (s : Std) (a : Atm) (x : Fct) : Option Std := if a.pred = x.pred then layTo x s a.args 0 else none
def layL (f : List Fct) (body : List Ltr) : List Ltr → Std → List Vars
  | [], s => if bodyOk f s.v body then [s.v] else []
  | l :: ls, s => if l.neg then layL f body ls s else f.flatMap fun x => match withF s l.atom x with
    | some s' => layL f body ls s'
    | none => []
def std0 : Std := ⟨⟨0, 0, 0⟩, false, false, false⟩

theorem at_slot (v : Vars) {m n : Int} (h : slot m = slot n) : v.at m = v.at n := by
  unfold slot at h
  unfold Vars.at
  split at h <;> split at h <;> simp_all
  all_goals (split at h <;> simp_all)
theorem bd_slot (s : Std) {m n : Int} (h : slot m = slot n) : s.bd m = s.bd n := by
  unfold slot at h
  unfold Std.bd
  split at h <;> split at h <;> simp_all
  all_goals (split at h <;> simp_all)
theorem at_put (s : Std) (n c m : Int) : (s.put n c).v.at m = if slot m = slot n then c else s.v.at m := by
  unfold Std.put slot Vars.at
  by_cases h0 : n = 0 <;> by_cases h1 : n = 1 <;> by_cases k0 : m = 0 <;> by_cases k1 : m = 1 <;> simp [h0, h1, k0, k1] <;> omega
theorem bd_put (s : Std) (n c m : Int) : (s.put n c).bd m = (decide (slot m = slot n) || s.bd m) := by
  unfold Std.put slot Std.bd
  by_cases h0 : n = 0 <;> by_cases h1 : n = 1 <;> by_cases k0 : m = 0 <;> by_cases k1 : m = 1 <;> simp [h0, h1, k0, k1] <;> omega

/-- v stands as s says -/
def Fits (s : Std) (v : Vars) : Prop := ∀ n, s.bd n = true → v.at n = s.v.at n
def Zero (s : Std) : Prop := ∀ n, s.bd n = false → s.v.at n = 0
theorem fits_put {s : Std} {v : Vars} {n c : Int} (h : s.bd n = false) : Fits (s.put n c) v ↔ Fits s v ∧ v.at n = c := by
  constructor
  · intro hf
    refine ⟨fun m hm => ?_, ?_⟩
    · have := hf m (by rw [bd_put, hm]; simp)
      rw [at_put] at this
      by_cases e : slot m = slot n
      · rw [bd_slot s e, h] at hm
        cases hm
      · rwa [if_neg e] at this
    · have := hf n (by rw [bd_put]; simp)
      rwa [at_put, if_pos rfl] at this
  · rintro ⟨hf, rfl⟩ m hm
    rw [at_put]
    by_cases e : slot m = slot n
    · rw [if_pos e, at_slot v e]
    · rw [if_neg e]
      rw [bd_put, decide_eq_false e, Bool.false_or] at hm
      exact hf m hm
theorem val_fits {s : Std} {v : Vars} {t : Tm} (hf : Fits s v) (h : ¬ (t.var = true ∧ s.bd t.n = false)) : Rule.valOf v t = Rule.valOf s.v t := by
  unfold Rule.valOf
  split
  · rename_i hv
    exact hf _ (by cases e : s.bd t.n; exact absurd ⟨hv, e⟩ h; rfl)
  · rfl
theorem layTo_iff (x : Fct) (v : Vars) : ∀ (ts : List Tm) (s : Std) (i : Nat), (∃ s', layTo x s ts i = some s' ∧ Fits s' v) ↔ Fits s v ∧ ∀ j t, ts[j]? = some t → Rule.valOf v t = argOf x (i + j)
  | [], s, i => by simp [layTo]
  | t :: ts, s, i => by
    have hall : (∀ j u, (t :: ts)[j]? = some u → Rule.valOf v u = argOf x (i + j)) ↔ Rule.valOf v t = argOf x i ∧ ∀ j u, ts[j]? = some u → Rule.valOf v u = argOf x (i + 1 + j) := by
      constructor
      · intro h
        exact ⟨h 0 t rfl, fun j u hu => by have := h (j + 1) u (by simpa using hu); rwa [show i + (j + 1) = i + 1 + j by omega] at this⟩
      · rintro ⟨h1, h2⟩ j u hu
        cases j with
        | zero => simp at hu; subst hu; exact h1
        | succ j => rw [show i + (j + 1) = i + 1 + j by omega]; exact h2 j u (by simpa using hu)
    rw [hall, layTo]
    by_cases h : t.var = true ∧ s.bd t.n = false
    · rw [if_pos h, layTo_iff x v ts, fits_put h.2]
      have : Rule.valOf v t = v.at t.n := by unfold Rule.valOf; rw [if_pos h.1]
      rw [this, and_assoc]
    · rw [if_neg h]
      by_cases e : Rule.valOf s.v t = argOf x i
      · rw [if_pos e, layTo_iff x v ts]
        constructor
        · rintro ⟨h1, h2⟩
          exact ⟨h1, (val_fits h1 h).trans e, h2⟩
        · rintro ⟨h1, _, h2⟩
          exact ⟨h1, h2⟩
      · rw [if_neg e]
        constructor
        · rintro ⟨_, h1, _⟩
          cases h1
        · rintro ⟨h1, h2, _⟩
          exact absurd ((val_fits h1 h).symm.trans h2) e
def inTerms (ts : List Tm) (m : Int) : Bool := ts.any fun t => t.var && decide (slot m = slot t.n)
theorem layTo_bd (x : Fct) : ∀ (ts : List Tm) (s s' : Std) (i : Nat), layTo x s ts i = some s' → ∀ m, s'.bd m = (s.bd m || inTerms ts m)
  | [], s, s', i, h, m => by cases h; simp [inTerms]
  | t :: ts, s, s', i, h, m => by
    rw [layTo] at h
    by_cases e : t.var = true ∧ s.bd t.n = false
    · rw [if_pos e] at h
      rw [layTo_bd x ts _ _ _ h m, bd_put]
      unfold inTerms
      rw [List.any_cons, e.1]
      cases decide (slot m = slot t.n) <;> cases s.bd m <;> simp
    · rw [if_neg e] at h
      split at h
      · rw [layTo_bd x ts _ _ _ h m]
        unfold inTerms
        rw [List.any_cons]
        cases hv : t.var
        · simp
        · have hb : s.bd t.n = true := by cases e' : s.bd t.n; exact absurd ⟨hv, e'⟩ e; rfl
          by_cases hs : slot m = slot t.n
          · rw [bd_slot s hs, hb]; simp
          · rw [decide_eq_false hs]; simp
      · cases h
theorem layTo_zero (x : Fct) : ∀ (ts : List Tm) (s s' : Std) (i : Nat), layTo x s ts i = some s' → Zero s → Zero s'
  | [], s, s', i, h, hz => by cases h; exact hz
  | t :: ts, s, s', i, h, hz => by
    rw [layTo] at h
    split at h
    · refine layTo_zero x ts _ _ _ h fun m hm => ?_
      rw [bd_put, Bool.or_eq_false_iff] at hm
      rw [at_put, if_neg (by simpa using hm.1)]
      exact hz m hm.2
    · split at h
      · exact layTo_zero x ts _ _ _ h hz
      · cases h

/-- the atom, its variables standing for v, is the fact x -/
def Same (v : Vars) (a : Atm) (x : Fct) : Prop := a.pred = x.pred ∧ ∀ j t, a.args[j]? = some t → Rule.valOf v t = argOf x j
theorem withF_iff {s : Std} {a : Atm} {x : Fct} {v : Vars} : (∃ s', withF s a x = some s' ∧ Fits s' v) ↔ Fits s v ∧ Same v a x := by
  unfold withF Same
  by_cases h : a.pred = x.pred
  · rw [if_pos h, layTo_iff]
    simp [h]
  · rw [if_neg h]
    constructor
    · rintro ⟨_, h1, _⟩; cases h1
    · rintro ⟨_, h1, _⟩; exact absurd h1 h
theorem withF_bd {s s' : Std} {a : Atm} {x : Fct} (h : withF s a x = some s') (m : Int) : s'.bd m = (s.bd m || inTerms a.args m) := by
  unfold withF at h
  split at h
  · exact layTo_bd _ _ _ _ _ h m
  · cases h
theorem withF_zero {s s' : Std} {a : Atm} {x : Fct} (h : withF s a x = some s') (hz : Zero s) : Zero s' := by
  unfold withF at h
  split at h
  · exact layTo_zero _ _ _ _ _ h hz
  · cases h
def posIn (ls : List Ltr) (m : Int) : Bool := ls.any fun l => !l.neg && inTerms l.atom.args m
theorem vars_ext {v u : Vars} (h : ∀ n, v.at n = u.at n) : v = u := by
  have h0 := h 0
  have h1 := h 1
  have h2 := h 2
  cases v
  cases u
  simp [Vars.at] at h0 h1 h2
  simp [h0, h1, h2]
theorem mem_lay {f : List Fct} {body : List Ltr} {v : Vars} : ∀ {ls : List Ltr} {s : Std}, Zero s → (v ∈ layL f body ls s ↔ Fits s v ∧ (∀ m, (s.bd m || posIn ls m) = false → v.at m = 0) ∧ bodyOk f v body = true ∧ ∀ l ∈ ls, l.neg = false → ∃ x ∈ f, Same v l.atom x)
  | [], s, hz => by
    rw [layL]
    constructor
    · intro h
      split at h
      · rename_i hb
        rw [List.mem_singleton] at h
        subst h
        exact ⟨fun _ _ => rfl, fun m hm => hz m (by simpa [posIn] using hm), hb, by simp⟩
      · cases h
    · rintro ⟨h1, h2, h3, _⟩
      have : v = s.v := vars_ext fun n => by
        cases e : s.bd n
        · rw [h2 n (by simp [e, posIn]), hz n e]
        · exact h1 n e
      subst this
      rw [if_pos h3]
      simp
  | l :: ls, s, hz => by
    rw [layL]
    cases hn : l.neg
    · rw [if_neg (by simp), List.mem_flatMap]
      have hp : ∀ m, posIn (l :: ls) m = (inTerms l.atom.args m || posIn ls m) := fun m => by unfold posIn; rw [List.any_cons, hn]; simp
      constructor
      · rintro ⟨x, hx, hv⟩
        split at hv
        · rename_i s' hs'
          obtain ⟨g1, g2, g3, g4⟩ := (mem_lay (withF_zero hs' hz)).1 hv
          obtain ⟨k1, k2⟩ := withF_iff.1 ⟨s', hs', g1⟩
          refine ⟨k1, fun m hm => g2 m ?_, g3, ?_⟩
          · rw [hp] at hm
            rw [withF_bd hs', Bool.or_assoc]
            exact hm
          · intro l' hl' hl''
            rcases List.mem_cons.1 hl' with rfl | hl'
            · exact ⟨x, hx, k2⟩
            · exact g4 l' hl' hl''
        · cases hv
      · rintro ⟨g1, g2, g3, g4⟩
        obtain ⟨x, hx, hxs⟩ := g4 l (by simp) hn
        obtain ⟨s', hs', hf⟩ := withF_iff.2 ⟨g1, hxs⟩
        refine ⟨x, hx, ?_⟩
        rw [hs']
        refine (mem_lay (withF_zero hs' hz)).2 ⟨hf, fun m hm => g2 m ?_, g3, fun l' hl' => g4 l' (by simp [hl'])⟩
        rw [hp, ← Bool.or_assoc, ← withF_bd hs']
        exact hm
    · rw [if_pos rfl, mem_lay hz]
      have hp : ∀ m, posIn (l :: ls) m = posIn ls m := fun m => by unfold posIn; rw [List.any_cons, hn]; simp
      simp only [hp]
      constructor
      · rintro ⟨g1, g2, g3, g4⟩
        refine ⟨g1, g2, g3, fun l' hl' hl'' => ?_⟩
        rcases List.mem_cons.1 hl' with rfl | hl'
        · rw [hn] at hl''; cases hl''
        · exact g4 l' hl' hl''
      · rintro ⟨g1, g2, g3, g4⟩
        exact ⟨g1, g2, g3, fun l' hl' => g4 l' (by simp [hl'])⟩

/-- atoms of no more than two terms: the same place is the same fact -/
theorem same_place {v : Vars} {a : Atm} {x : Fct} (h : Same v a x) (hx : (1 ≤ a.args.length ∨ x.a = 0) ∧ (2 ≤ a.args.length ∨ x.b = 0)) : place (atomF v a) = place x := by
  obtain ⟨h1, h2⟩ := h
  have ha : argAt v a.args 0 = x.a := by
    unfold argAt
    cases e : a.args[0]? with
    | none => have := List.getElem?_eq_none_iff.1 e; rcases hx.1 with h | h; omega; exact h.symm
    | some t => exact h2 0 t e
  have hb : argAt v a.args 1 = x.b := by
    unfold argAt
    cases e : a.args[1]? with
    | none => have := List.getElem?_eq_none_iff.1 e; rcases hx.2 with h | h; omega; exact h.symm
    | some t => exact h2 1 t e
  show (a.pred * 5 + argAt v a.args 0) * 5 + argAt v a.args 1 = _
  rw [ha, hb, h1]
  rfl
theorem place_same {ps : List Prd} {v : Vars} {a : Atm} {x : Fct} (ha : atomErr ps a = 0) (hp : Base.predsOk ps = true) (hv : consts v = true) (hx : factFine ps x = true) (h : place x = place (atomF v a)) (hl : a.args.length ≤ 2) : Same v a x := by
  have hf := (atom_ground ha hp hv).2
  obtain ⟨e1, e2, e3⟩ := Base.place_inj (Base.fine_of hx) (Base.fine_of hf) h
  refine ⟨e1.symm, fun j t hj => ?_⟩
  have hjl : j < 2 := by have := (List.getElem?_eq_some_iff.1 hj).1; omega
  obtain rfl | rfl : j = 0 ∨ j = 1 := by omega
  · show _ = x.a
    rw [e2]
    show _ = argAt v a.args 0
    unfold argAt
    rw [hj]
    rfl
  · show _ = x.b
    rw [e3]
    show _ = argAt v a.args 1
    unfold argAt
    rw [hj]
    rfl
theorem atom_len {ps : List Prd} {a : Atm} (h : atomErr ps a = 0) (hp : Base.predsOk ps = true) : (a.args.length : Int) = Rule.arityOf ps a.pred ∧ a.args.length ≤ 2 := by
  unfold atomErr at h
  split at h
  · rename_i h1
    split at h
    · rename_i h2
      have := within_iff.1 (pred_ok hp h1).2
      exact ⟨by omega, by omega⟩
    · cases h
  · cases h
theorem fine_args {ps : List Prd} {x : Fct} (h : factFine ps x = true) : within x.a 0 4 = true ∧ within x.b 0 4 = true ∧ (1 ≤ Rule.arityOf ps x.pred ∨ x.a = 0) ∧ (2 ≤ Rule.arityOf ps x.pred ∨ x.b = 0) := by
  unfold factFine at h
  simp only [Bool.and_eq_true, Bool.or_eq_true, decide_eq_true_eq, beq_iff_eq] at h
  exact ⟨h.2.1, h.2.2.1, h.2.2.2.1, h.2.2.2.2.1⟩
theorem lay_nodup {f : List Fct} {body : List Ltr} {ps : List Prd} (hf : factsErr ps f = 0) : ∀ {ls : List Ltr} {s : Std}, Zero s → (∀ l ∈ ls, atomErr ps l.atom = 0) → (layL f body ls s).Nodup
  | [], s, _, _ => by
    rw [layL]
    split <;> simp
  | l :: ls, s, hz, ha => by
    rw [layL]
    have hal : ∀ l ∈ ls, atomErr ps l.atom = 0 := fun l' h => ha l' (by simp [h])
    split
    · exact lay_nodup hf hz hal
    · rw [List.Nodup, List.pairwise_flatMap]
      have hr := Base.right_of hf
      refine ⟨fun x hx => ?_, ?_⟩
      · split
        · rename_i s' hs'
          exact lay_nodup hf (withF_zero hs' hz) hal
        · exact List.Pairwise.nil
      · refine List.Pairwise.imp_of_mem ?_ hr.sorted
        intro x y hx hy hxy u hu u' hu' e
        subst e
        have key : ∀ z ∈ f, u ∈ (match withF s l.atom z with | some s' => layL f body ls s' | none => []) → place (atomF u l.atom) = place z := fun z hzm hm => by
          split at hm
          · rename_i s' hs'
            obtain ⟨g1, _⟩ := (mem_lay (withF_zero hs' hz)).1 hm
            have hs := (withF_iff.1 ⟨s', hs', g1⟩).2
            have hal' := atom_len (ha l (by simp)) (Base.factsErr_zero hf).2.1
            obtain ⟨_, _, q1, q2⟩ := fine_args (Base.facts_fine hf z hzm)
            rw [← hs.1] at q1 q2
            exact same_place hs ⟨by omega, by omega⟩
          · cases hm
        have e1 := key x hx hu
        have e2 := key y hy hu'
        omega

theorem inTerms_stands {ts : List Tm} (h : ts.all termOk = true) {m : Int} (hm : m = 0 ∨ m = 1 ∨ m = 2) : inTerms ts m = stands ts m := by
  unfold inTerms stands
  rw [List.all_eq_true] at h
  induction ts with
  | nil => rfl
  | cons t ts ih =>
    rw [List.any_cons, List.any_cons, ih fun t ht => h t (by simp [ht])]
    have ht := h t (by simp)
    congr 1
    unfold standsIn
    cases hv : t.var
    · rfl
    · unfold termOk at ht
      rw [if_pos hv] at ht
      have := within_iff.1 ht
      rw [Bool.true_and, Bool.true_and]
      unfold slot
      by_cases e : t.n = m
      · subst e; simp
      · have : ¬ ((if m = 0 then 0 else if m = 1 then 1 else 2 : Nat) = if t.n = 0 then 0 else if t.n = 1 then 1 else 2) := by
          split <;> split <;> (try split) <;> (try split) <;> omega
        rw [decide_eq_false this]
        simpa using e
theorem rule_bound {ps : List Prd} {r : Rul} (h : ruleErr ps r = 0) {m : Int} (hm : m = 0 ∨ m = 1 ∨ m = 2) : posIn r.body m = asked r m := by
  obtain ⟨hh, hb, _⟩ := rule_parts h
  have e : posIn r.body m = bound r m := by
    unfold posIn bound
    have : ∀ l ∈ r.body, (!l.neg && inTerms l.atom.args m) = boundIn m l := fun l hl => by
      unfold boundIn
      rw [inTerms_stands (Rule.atom_right (hb l hl)).2 hm]
    clear hh h hb
    generalize r.body = ls at this ⊢
    induction ls with
    | nil => rfl
    | cons l ls ih => rw [List.any_cons, List.any_cons, this l (by simp), ih fun l hl => this l (by simp [hl])]
  have hfree : freeR r m = false := by
    rw [ruleErr] at h
    split at h
    · contradiction
    · split at h
      · contradiction
      · split at h
        · contradiction
        · split at h
          · contradiction
          · rename_i hf
            simp only [Bool.or_eq_true, not_or, Bool.not_eq_true] at hf
            rcases hm with rfl | rfl | rfl
            · exact hf.1
            · exact hf.2.1
            · exact hf.2.2
  rw [e]
  unfold freeR at hfree
  cases ha : asked r m
  · cases hb' : bound r m
    · rfl
    · exfalso
      unfold asked at ha
      rw [Bool.or_eq_false_iff] at ha
      unfold bound at hb'
      obtain ⟨l, hl, hl'⟩ := List.any_eq_true.1 hb'
      unfold boundIn at hl'
      rw [Bool.and_eq_true] at hl'
      have := List.any_eq_false.1 ha.2 l hl
      exact this hl'.2
  · rw [ha] at hfree
    simpa using hfree
/-- a step of the rule: its variables stand for constants, those that do not stand in it for 0, and its body holds -/
def StepOk (f : List Fct) (r : Rul) (v : Vars) : Prop := consts v = true ∧ bodyOk f v r.body = true ∧ (∀ m, (m = 0 ∨ m = 1 ∨ m = 2) → asked r m = false → v.at m = 0)
theorem std0_zero : Zero std0 := fun n _ => by
  unfold Vars.at std0
  split
  · rfl
  · split <;> rfl
theorem std0_fits (v : Vars) : Fits std0 v := fun n h => by
  unfold Std.bd std0 at h
  split at h
  · cases h
  · split at h <;> cases h
theorem posIn_slot (ls : List Ltr) {m n : Int} (h : slot m = slot n) : posIn ls m = posIn ls n := by
  unfold posIn inTerms
  rw [h]
theorem slot_is (m : Int) : ∃ n : Int, (n = 0 ∨ n = 1 ∨ n = 2) ∧ slot m = slot n := by
  by_cases h0 : m = 0
  · exact ⟨0, .inl rfl, by rw [h0]⟩
  · by_cases h1 : m = 1
    · exact ⟨1, .inr (.inl rfl), by rw [h1]⟩
    · exact ⟨2, .inr (.inr rfl), by unfold slot; rw [if_neg h0, if_neg h1]; rfl⟩
theorem lay_ok {ps : List Prd} {f : List Fct} {r : Rul} (hr : ruleErr ps r = 0) (hf : factsErr ps f = 0) (v : Vars) : v ∈ layL f r.body r.body std0 ↔ StepOk f r v := by
  obtain ⟨_, hb, _⟩ := rule_parts hr
  have hp := (Base.factsErr_zero hf).2.1
  rw [mem_lay std0_zero]
  constructor
  · rintro ⟨_, h2, h3, h4⟩
    have h2' : ∀ m, posIn r.body m = false → v.at m = 0 := fun m hm => h2 m (by
      have : std0.bd m = false := by unfold Std.bd std0; split; rfl; split <;> rfl
      rw [this, hm]; rfl)
    have hat : ∀ m, within (v.at m) 0 4 = true := fun m => by
      cases e : posIn r.body m
      · rw [h2' m e]; rfl
      · unfold posIn at e
        obtain ⟨l, hl, hl'⟩ := List.any_eq_true.1 e
        rw [Bool.and_eq_true, Bool.not_eq_true'] at hl'
        obtain ⟨x, hx, hs⟩ := h4 l hl hl'.1
        unfold inTerms at hl'
        obtain ⟨t, ht, ht'⟩ := List.any_eq_true.1 hl'.2
        obtain ⟨j, hj⟩ := List.mem_iff_getElem?.1 ht
        have := hs.2 j t hj
        rw [Bool.and_eq_true, decide_eq_true_eq] at ht'
        unfold Rule.valOf at this
        rw [if_pos ht'.1] at this
        rw [at_slot v ht'.2, this]
        obtain ⟨q1, q2, _⟩ := fine_args (Base.facts_fine hf x hx)
        unfold argOf
        split
        · exact q1
        · exact q2
    refine ⟨?_, h3, fun m hm ha => h2' m (by rw [rule_bound hr hm, ha])⟩
    unfold consts
    have q0 := hat 0
    have q1 := hat 1
    have q2 := hat 2
    simp only [Vars.at] at q0 q1 q2
    rw [Bool.and_eq_true, Bool.and_eq_true]
    exact ⟨by simpa using q0, by simpa using q1, by simpa using q2⟩
  · rintro ⟨hv, hbo, h0⟩
    refine ⟨std0_fits v, fun m hm => ?_, hbo, fun l hl hn => ?_⟩
    · rw [Bool.or_eq_false_iff] at hm
      obtain ⟨n, hn, hs⟩ := slot_is m
      rw [at_slot v hs]
      refine h0 n hn ?_
      rw [← rule_bound hr hn, ← posIn_slot _ hs]
      exact hm.2
    · have := List.all_eq_true.1 hbo l hl
      unfold litOk there at this
      rw [hn] at this
      have hs : (get f (place (atomF v l.atom))).isSome = true := by simpa using this
      obtain ⟨u, hu⟩ := Option.isSome_iff_exists.1 hs
      obtain ⟨x, hx, hpx, _⟩ := Base.get_mem hu
      exact ⟨x, hx, place_same (hb l hl) hp hv (Base.facts_fine hf x hx) hpx (atom_len (hb l hl) hp).2⟩
end Go.Proofs.YtlfccloaoopadafGreatDoor.Fire

/-
  The developers' 'with' of package fire: a fact laid to an atom.
-/
namespace Go.Proofs.YtlfccloaoopadafGreatDoor.Fire
open Go.ChangeShapes Go.WideShapes Go.ChangeAt Go.RowKit
open Rule (Vars termOk)
open Lat (within)

def Std.value (s : Std) : Value := .agg #[.int .i64 s.v.x, .int .i64 s.v.y, .int .i64 s.v.z, .bool s.bx, .bool s.bq, .bool s.bz]

/-- what 'with' has in memory in the middle of its loop -/
structure WRel (w : World) (s : Std) (x : Fct) (wr : World) : Prop where
  below : Below w.heap.size w wr
  size : w.heap.size + 1 + 1 + 1 + 1 < wr.heap.size
  s0 : wr.cell? ⟨w.heap.size, 0, none⟩ = some (.int .i64 s.v.x)
  s1 : wr.cell? ⟨w.heap.size, 1, none⟩ = some (.int .i64 s.v.y)
  s2 : wr.cell? ⟨w.heap.size, 2, none⟩ = some (.int .i64 s.v.z)
  s3 : wr.cell? ⟨w.heap.size, 3, none⟩ = some (.bool s.bx)
  s4 : wr.cell? ⟨w.heap.size, 4, none⟩ = some (.bool s.bq)
  s5 : wr.cell? ⟨w.heap.size, 5, none⟩ = some (.bool s.bz)
  sf : ∀ o, wr.frozen? ⟨w.heap.size, o, none⟩ = false
  r0 : wr.cell? ⟨w.heap.size + 1 + 1 + 1, 0, none⟩ = some (.int .i64 0)
  r1 : wr.cell? ⟨w.heap.size + 1 + 1 + 1, 1, none⟩ = some (.int .i64 0)
  r2 : wr.cell? ⟨w.heap.size + 1 + 1 + 1, 2, none⟩ = some (.int .i64 0)
  r3 : wr.cell? ⟨w.heap.size + 1 + 1 + 1, 3, none⟩ = some (.bool false)
  r4 : wr.cell? ⟨w.heap.size + 1 + 1 + 1, 4, none⟩ = some (.bool false)
  r5 : wr.cell? ⟨w.heap.size + 1 + 1 + 1, 5, none⟩ = some (.bool false)
  rf : ∀ o, wr.frozen? ⟨w.heap.size + 1 + 1 + 1, o, none⟩ = false
  a0 : wr.cell? ⟨w.heap.size + 1 + 1 + 1 + 1, 0, none⟩ = some (.int .i64 x.a)
  a1 : wr.cell? ⟨w.heap.size + 1 + 1 + 1 + 1, 1, none⟩ = some (.int .i64 x.b)

theorem WRel.lasts {w : World} {s : Std} {x : Fct} {wr w1 : World} (h : WRel w s x wr) (hb : Below wr.heap.size wr w1) : WRel w s x w1 := by
  have hs := h.size
  have hs1 := hb.size
  exact ⟨h.below.trans (hb.mono h.below.size), by omega, by rw [cell_lasts hb (by omega), h.s0], by rw [cell_lasts hb (by omega), h.s1], by rw [cell_lasts hb (by omega), h.s2], by rw [cell_lasts hb (by omega), h.s3], by rw [cell_lasts hb (by omega), h.s4], by rw [cell_lasts hb (by omega), h.s5], fun o => by rw [(bcell hb).2 _ _ (by omega), h.sf],
    by rw [cell_lasts hb (by omega), h.r0], by rw [cell_lasts hb (by omega), h.r1], by rw [cell_lasts hb (by omega), h.r2], by rw [cell_lasts hb (by omega), h.r3], by rw [cell_lasts hb (by omega), h.r4], by rw [cell_lasts hb (by omega), h.r5], fun o => by rw [(bcell hb).2 _ _ (by omega), h.rf],
    by rw [cell_lasts hb (by omega), h.a0], by rw [cell_lasts hb (by omega), h.a1]⟩
theorem WRel.set {w : World} {s : Std} {x : Fct} {wr : World} (h : WRel w s x wr) (n : Nat) (hn : n < 3) (c : Int) : WRel w (s.put n c) x ((wr.setCell ⟨w.heap.size, n, none⟩ (.int .i64 c)).setCell ⟨w.heap.size, 3 + n, none⟩ (.bool true)) := by
  have hs := h.size
  have e : ∀ b o, b ≠ w.heap.size → ((wr.setCell ⟨w.heap.size, n, none⟩ (.int .i64 c)).setCell ⟨w.heap.size, 3 + n, none⟩ (.bool true)).cell? ⟨b, o, none⟩ = wr.cell? ⟨b, o, none⟩ := fun b o hb => by rw [cell_block (by omega), cell_block (by omega)]
  have hf : ∀ b o, ((wr.setCell ⟨w.heap.size, n, none⟩ (.int .i64 c)).setCell ⟨w.heap.size, 3 + n, none⟩ (.bool true)).frozen? ⟨b, o, none⟩ = wr.frozen? ⟨b, o, none⟩ := fun b o => by rw [frozen_set, frozen_set]
  have hsz : ((wr.setCell ⟨w.heap.size, n, none⟩ (.int .i64 c)).setCell ⟨w.heap.size, 3 + n, none⟩ (.bool true)).heap.size = wr.heap.size := by rw [size_set, size_set]
  have hbl : Below w.heap.size w ((wr.setCell ⟨w.heap.size, n, none⟩ (.int .i64 c)).setCell ⟨w.heap.size, 3 + n, none⟩ (.bool true)) := (h.below.setCell (Nat.le_refl _) _).setCell (Nat.le_refl _) _
  have hcell : ∀ o, ((wr.setCell ⟨w.heap.size, n, none⟩ (.int .i64 c)).setCell ⟨w.heap.size, 3 + n, none⟩ (.bool true)).cell? ⟨w.heap.size, o, none⟩ = if o = 3 + n then (wr.cell? ⟨w.heap.size, o, none⟩).map (fun _ => .bool true) else if o = n then (wr.cell? ⟨w.heap.size, o, none⟩).map (fun _ => .int .i64 c) else wr.cell? ⟨w.heap.size, o, none⟩ := fun o => by
    by_cases e1 : o = 3 + n
    · subst e1
      rw [if_pos rfl]
      have : ∃ v, wr.cell? ⟨w.heap.size, 3 + n, none⟩ = some v := by
        obtain rfl | rfl | rfl : n = 0 ∨ n = 1 ∨ n = 2 := by omega
        · exact ⟨_, h.s3⟩
        · exact ⟨_, h.s4⟩
        · exact ⟨_, h.s5⟩
      obtain ⟨v, hv⟩ := this
      rw [hv]
      refine cell_set (x := v) ?_
      rw [cell_off (by omega)]
      exact hv
    · rw [if_neg e1, cell_off (by omega)]
      by_cases e2 : o = n
      · subst e2
        rw [if_pos rfl]
        have : ∃ v, wr.cell? ⟨w.heap.size, o, none⟩ = some v := by
          obtain rfl | rfl | rfl : o = 0 ∨ o = 1 ∨ o = 2 := by omega
          · exact ⟨_, h.s0⟩
          · exact ⟨_, h.s1⟩
          · exact ⟨_, h.s2⟩
        obtain ⟨v, hv⟩ := this
        rw [hv]
        exact cell_set hv
      · rw [if_neg e2, cell_off (by omega)]
  refine ⟨hbl, by rw [hsz]; exact hs, ?_, ?_, ?_, ?_, ?_, ?_, fun o => by rw [hf, h.sf], by rw [e _ _ (by omega), h.r0], by rw [e _ _ (by omega), h.r1], by rw [e _ _ (by omega), h.r2], by rw [e _ _ (by omega), h.r3], by rw [e _ _ (by omega), h.r4], by rw [e _ _ (by omega), h.r5], fun o => by rw [hf, h.rf], by rw [e _ _ (by omega), h.a0], by rw [e _ _ (by omega), h.a1]⟩
  all_goals
    rw [hcell]
    first | rw [h.s0] | rw [h.s1] | rw [h.s2] | rw [h.s3] | rw [h.s4] | rw [h.s5]
    obtain rfl | rfl | rfl : n = 0 ∨ n = 1 ∨ n = 2 := by omega
    all_goals rfl
theorem below_six {w wr : World} (hb : Below w.heap.size w wr) (y0 y1 y2 y3 y4 y5 : Value) : Below w.heap.size w ((((((wr.setCell ⟨w.heap.size + 1 + 1 + 1, 0, none⟩ y0).setCell ⟨w.heap.size + 1 + 1 + 1, 1, none⟩ y1).setCell ⟨w.heap.size + 1 + 1 + 1, 2, none⟩ y2).setCell ⟨w.heap.size + 1 + 1 + 1, 3, none⟩ y3).setCell ⟨w.heap.size + 1 + 1 + 1, 4, none⟩ y4).setCell ⟨w.heap.size + 1 + 1 + 1, 5, none⟩ y5) := by
  have e : ∀ o, w.heap.size ≤ (⟨w.heap.size + 1 + 1 + 1, o, none⟩ : Addr).block := fun o => by show w.heap.size ≤ w.heap.size + 1 + 1 + 1; omega
  exact (((((hb.setCell (e _) _).setCell (e _) _).setCell (e _) _).setCell (e _) _).setCell (e _) _).setCell (e _) _
theorem layTo_at {x : Fct} {s : Std} {ts : List Tm} {j : Nat} (h : j < ts.length) : layTo x s (ts.drop j) j = if ts[j].var = true ∧ s.bd ts[j].n = false then layTo x (s.put ts[j].n (argOf x j)) (ts.drop (j + 1)) (j + 1) else if Rule.valOf s.v ts[j] = argOf x j then layTo x s (ts.drop (j + 1)) (j + 1) else none := by
  rw [List.drop_eq_getElem_cons h, layTo]

set_option maxRecDepth 100000 in
set_option maxHeartbeats 8000000 in
theorem with_c (w : World) (s : Std) (a : Atm) (aa : Option Addr) (ac : Nat) (x : Fct) (ha : termsAt w (.slice aa a.args.length ac) a.args) (hl : a.args.length ≤ 2) (ht : a.args.all termOk = true) :
    Calls Tryz.prog 166 #[.agg #[.int .i64 s.v.x, .int .i64 s.v.y, .int .i64 s.v.z, .bool s.bx, .bool s.bq, .bool s.bz], .agg #[.int .i64 a.pred, .slice aa a.args.length ac], .agg #[.int .i64 x.pred, .int .i64 x.a, .int .i64 x.b, .int .i64 x.val]] w fun e w' => (∃ s' : Std, e = .returned (.tuple #[.agg #[.int .i64 s'.v.x, .int .i64 s'.v.y, .int .i64 s'.v.z, .bool s'.bx, .bool s'.bq, .bool s'.bz], .bool (withF s a x).isSome]) ∧ ∀ t, withF s a x = some t → s' = t) ∧ Below w.heap.size w w' := by
  obtain ⟨a', cap', he, hm, hx⟩ := ha
  obtain ⟨rfl, rfl⟩ : aa = a' ∧ ac = cap' := by simpa using he
  clear he
  have HX : Hid (a.args = [] ∨ ∃ b off, aa = some ⟨b, off, none⟩ ∧ b < w.heap.size ∧ ∀ i x, a.args[i]? = some x → termAt w b (off + i * 2) x) := hx
  have HT : Hid (∀ t ∈ a.args, termOk t = true) := List.all_eq_true.1 ht
  clear hx ht
  obtain ⟨ap, ts⟩ := a
  dsimp only at *
  by_cases hp : ap = x.pred
  · have HW : Hid (withF s ⟨ap, ts⟩ x = layTo x s ts 0) := by show _ = _; rw [withF, if_pos hp]
    have hl' : (ts.length : Int) ≤ 2 := by omega
    go_enter Tryz.func166, Tryz.ntmps166
    go_wp2_with fail
    go_loopw [26] (fun i wr => ∃ (j : Nat) (t : Std), j ≤ ts.length ∧ i = .int .i64 j ∧ Hid (layTo x s ts 0 = layTo x t (ts.drop j) j) ∧ WRel w t x wr) (fun i _ => ts.length - (intOf i).toNat)
    case atStart =>
      exact ⟨0, s, Nat.zero_le _, rfl, rfl, (((((Below.refl _ _).alloc (Nat.le_refl _) _).alloc (by simp) _).alloc (by simp; omega) _).alloc (by simp; omega) _).alloc (by simp; omega) _, by simp, by simp [go_sem], by simp [go_sem], by simp [go_sem], by simp [go_sem], by simp [go_sem], by simp [go_sem], by intro o; simp [go_sem], by simp [go_sem], by simp [go_sem], by simp [go_sem], by simp [go_sem], by simp [go_sem], by simp [go_sem], by intro o; simp [go_sem], by simp [go_sem], by simp [go_sem]⟩
    case round =>
      obtain ⟨j, st, hj, rfl, hlay, hR⟩ := hrel
      by_cases hlt : j < ts.length
      · obtain ⟨b', off', rfl, hbl', hx⟩ := HX.out.resolve_left (by rintro rfl; simp at hlt)
        obtain ⟨ht1, ht2⟩ := hx j ts[j] (by simp [hlt])
        have hr1 : wr.cell? ⟨b', off' + j * 2, none⟩ = some (.bool ts[j].var) := by rw [cell_lasts hR.below hbl', ht1]
        have hr2 : wr.cell? ⟨b', off' + j * 2 + 1, none⟩ = some (.int .i64 ts[j].n) := by rw [cell_lasts hR.below hbl', ht2]
        have HTJ : Hid (termOk ts[j] = true) := HT.out _ (List.getElem_mem hlt)
        have HL : Hid (layTo x st (ts.drop j) j = if ts[j].var = true ∧ st.bd ts[j].n = false then layTo x (st.put ts[j].n (argOf x j)) (ts.drop (j + 1)) (j + 1) else if Rule.valOf st.v ts[j] = argOf x j then layTo x st (ts.drop (j + 1)) (j + 1) else none) := layTo_at hlt
        clear hx ht1 ht2 HX HT
        generalize ts[j] = t at *
        obtain ⟨tv, tn⟩ := t
        dsimp only at *
        have HR : Hid (WRel w st x wr) := hR
        obtain ⟨hbr, hsz, s0, s1, s2, s3, s4, s5, sf, r0, r1, r2, r3, r4, r5, rf, a0, a1⟩ := hR
        have HRA : Hid (∀ o, WRel w st x (wr.alloc o)) := fun o => HR.out.lasts (below_alloc _ _)
        have z0 : w.heap.size < wr.heap.size := by omega
        have z3 : w.heap.size + 1 + 1 + 1 < wr.heap.size := by omega
        have hj2 : (j : Int) < 2 := by omega
        have haj : wr.cell? ⟨w.heap.size + 1 + 1 + 1 + 1, j, none⟩ = some (.int .i64 (argOf x j)) := by
          obtain rfl | rfl : j = 0 ∨ j = 1 := by omega
          · exact a0
          · exact a1
        clear a0 a1
        generalize argOf x j = aj at *
        have HBS : Hid (∀ y0 y1 y2 y3 y4 y5, Below w.heap.size w ((((((wr.setCell ⟨w.heap.size + 1 + 1 + 1, 0, none⟩ y0).setCell ⟨w.heap.size + 1 + 1 + 1, 1, none⟩ y1).setCell ⟨w.heap.size + 1 + 1 + 1, 2, none⟩ y2).setCell ⟨w.heap.size + 1 + 1 + 1, 3, none⟩ y3).setCell ⟨w.heap.size + 1 + 1 + 1, 4, none⟩ y4).setCell ⟨w.heap.size + 1 + 1 + 1, 5, none⟩ y5)) := fun y0 y1 y2 y3 y4 y5 => below_six hbr _ _ _ _ _ _
        cases tv
        · by_cases e : tn = aj
          · subst e
            have HL' : Hid (layTo x s ts 0 = layTo x st (ts.drop (j + 1)) (j + 1)) := by
              show _ = _
              rw [hlay.out, HL.out, if_neg (by simp), if_pos (show Rule.valOf st.v ⟨false, tn⟩ = tn from rfl)]
            clear hlay HL
            go_wp2_with fail
            exact ⟨⟨j + 1, st, by omega, by go_num, HL', HRA.out _⟩, by simp [intOf]; omega⟩
          · have e' : (tn == aj) = false := by simpa using e
            have HL' : Hid (withF s ⟨ap, ts⟩ x = none) := by
              show _ = _
              rw [HW.out, hlay.out, HL.out, if_neg (by simp), if_neg (show ¬ Rule.valOf st.v ⟨false, tn⟩ = aj from e)]
            clear hlay HL
            go_wp2_with fail
            refine bodyPost_ret (v := .tuple #[.agg #[.int .i64 st.v.x, .int .i64 st.v.y, .int .i64 st.v.z, .bool st.bx, .bool st.bq, .bool st.bz], .bool false]) (by simp [results, Tryz.results166, go_sem, r0, r1, r2, r3, r4, r5, z3]) rfl ⟨⟨st, by rw [HL'.out]; rfl, fun t ht => by rw [HL'.out] at ht; cases ht⟩, ?_⟩
            refine (HBS.out _ _ _ _ _ _).alloc (by rw [size_set, size_set, size_set, size_set, size_set, size_set]; omega) _
        · have htn : tn = 0 ∨ tn = 1 ∨ tn = 2 := by
            have h := HTJ.out
            unfold termOk at h
            rw [if_pos rfl] at h
            have h' : 0 ≤ tn ∧ tn ≤ 2 := within_iff.1 h
            omega
          clear HTJ
          rcases htn with rfl | rfl | rfl
          · cases hbd : st.bx
            · have HL' : Hid (layTo x s ts 0 = layTo x (st.put 0 aj) (ts.drop (j + 1)) (j + 1)) := by
                show _ = _
                rw [hlay.out, HL.out, if_pos ⟨rfl, hbd⟩]
              clear hlay HL
              rw [hbd] at s3
              go_wp2_with fail
              obtain ⟨W2, hW2⟩ : ∃ W2, wr.alloc (.cells #[.bool true, .int .i64 0] 94) = W2 := ⟨_, rfl⟩
              have HR2 : Hid (WRel w st x W2) := by rw [← hW2]; exact HRA.out _
              have t1 : W2.cell? ⟨wr.heap.size, 1, none⟩ = some (.int .i64 0) := by rw [← hW2]; simp [go_sem]
              have t0 : W2.cell? ⟨wr.heap.size, 0, none⟩ = some (.bool true) := by rw [← hW2]; simp [go_sem]
              have haj2 : W2.cell? ⟨w.heap.size + 1 + 1 + 1 + 1, j, none⟩ = some (.int .i64 aj) := by rw [← hW2]; exact (cell_lasts (below_alloc _ _) hsz).trans haj
              rw [hW2]
              have y0 := HR2.out.s0
              have y3 := HR2.out.s3
              rw [hbd] at y3
              have yf := HR2.out.sf
              clear hW2 hr1 hr2 s0 s1 s2 s3 s4 s5 sf r0 r1 r2 r3 r4 r5 rf haj HRA HR HBS
              go_region
              obtain ⟨W3, hW3⟩ : ∃ W3, ((W2.setCell ⟨w.heap.size, 0, none⟩ (.int .i64 aj)).setCell ⟨w.heap.size, 3, none⟩ (.bool true)).drew = W3 := ⟨_, rfl⟩
              have HR3 : Hid (WRel w (st.put 0 aj) x W3) := by rw [← hW3]; exact (HR2.out.set 0 (by omega) aj).lasts ((Below.refl _ _).drew)
              have u1 : W3.cell? ⟨wr.heap.size, 1, none⟩ = some (.int .i64 0) := by rw [← hW3]; exact (cell_block (by omega)).trans ((cell_block (by omega)).trans t1)
              have u0 : W3.cell? ⟨wr.heap.size, 0, none⟩ = some (.bool true) := by rw [← hW3]; exact (cell_block (by omega)).trans ((cell_block (by omega)).trans t0)
              have haj3 : W3.cell? ⟨w.heap.size + 1 + 1 + 1 + 1, j, none⟩ = some (.int .i64 aj) := by rw [← hW3]; exact (cell_block (by omega)).trans ((cell_block (by omega)).trans haj2)
              have v0 : W3.cell? ⟨w.heap.size, 0, none⟩ = some (.int .i64 aj) := HR3.out.s0
              rw [hW3]
              clear hW3 t0 t1 haj2 y0 y3 yf HR2
              go_wp2_with fail
              exact ⟨⟨j + 1, st.put 0 aj, by omega, by go_num, HL', HR3.out⟩, by simp [intOf]; omega⟩
            · have hnb : ¬ ((true = true) ∧ st.bd 0 = false) := fun h => by have := h.2; simp [Std.bd, hbd] at this
              have hat : Rule.valOf st.v ⟨true, 0⟩ = st.v.x := rfl
              rw [hbd] at s3
              by_cases e : st.v.x = aj
              · have HL' : Hid (layTo x s ts 0 = layTo x st (ts.drop (j + 1)) (j + 1)) := by
                  show _ = _
                  rw [hlay.out, HL.out, if_neg hnb, if_pos (hat.trans e)]
                clear hlay HL hnb hat
                rw [e] at s0
                go_wp2_with fail
                exact ⟨⟨j + 1, st, by omega, by go_num, HL', HRA.out _⟩, by simp [intOf]; omega⟩
              · have e' : (st.v.x == aj) = false := by simpa using e
                have HL' : Hid (withF s ⟨ap, ts⟩ x = none) := by
                  show _ = _
                  rw [HW.out, hlay.out, HL.out, if_neg hnb, if_neg (fun q => e (hat.symm.trans q))]
                clear hlay HL hnb hat
                go_wp2_with fail
                refine bodyPost_ret (v := .tuple #[.agg #[.int .i64 st.v.x, .int .i64 st.v.y, .int .i64 st.v.z, .bool true, .bool st.bq, .bool st.bz], .bool false]) (by simp [results, Tryz.results166, go_sem, r0, r1, r2, r3, r4, r5, z3]) rfl ⟨⟨st, by rw [HL'.out, hbd]; rfl, fun t ht => by rw [HL'.out] at ht; cases ht⟩, ?_⟩
                refine (HBS.out _ _ _ _ _ _).alloc (by rw [size_set, size_set, size_set, size_set, size_set, size_set]; omega) _
          · cases hbd : st.bq
            · have HL' : Hid (layTo x s ts 0 = layTo x (st.put 1 aj) (ts.drop (j + 1)) (j + 1)) := by
                show _ = _
                rw [hlay.out, HL.out, if_pos ⟨rfl, hbd⟩]
              clear hlay HL
              rw [hbd] at s4
              go_wp2_with fail
              obtain ⟨W2, hW2⟩ : ∃ W2, wr.alloc (.cells #[.bool true, .int .i64 1] 94) = W2 := ⟨_, rfl⟩
              have HR2 : Hid (WRel w st x W2) := by rw [← hW2]; exact HRA.out _
              have t1 : W2.cell? ⟨wr.heap.size, 1, none⟩ = some (.int .i64 1) := by rw [← hW2]; simp [go_sem]
              have t0 : W2.cell? ⟨wr.heap.size, 0, none⟩ = some (.bool true) := by rw [← hW2]; simp [go_sem]
              have haj2 : W2.cell? ⟨w.heap.size + 1 + 1 + 1 + 1, j, none⟩ = some (.int .i64 aj) := by rw [← hW2]; exact (cell_lasts (below_alloc _ _) hsz).trans haj
              rw [hW2]
              have y0 := HR2.out.s1
              have y3 := HR2.out.s4
              rw [hbd] at y3
              have yf := HR2.out.sf
              clear hW2 hr1 hr2 s0 s1 s2 s3 s4 s5 sf r0 r1 r2 r3 r4 r5 rf haj HRA HR HBS
              go_region
              obtain ⟨W3, hW3⟩ : ∃ W3, ((W2.setCell ⟨w.heap.size, 1, none⟩ (.int .i64 aj)).setCell ⟨w.heap.size, 4, none⟩ (.bool true)).drew = W3 := ⟨_, rfl⟩
              have HR3 : Hid (WRel w (st.put 1 aj) x W3) := by rw [← hW3]; exact (HR2.out.set 1 (by omega) aj).lasts ((Below.refl _ _).drew)
              have u1 : W3.cell? ⟨wr.heap.size, 1, none⟩ = some (.int .i64 1) := by rw [← hW3]; exact (cell_block (by omega)).trans ((cell_block (by omega)).trans t1)
              have u0 : W3.cell? ⟨wr.heap.size, 0, none⟩ = some (.bool true) := by rw [← hW3]; exact (cell_block (by omega)).trans ((cell_block (by omega)).trans t0)
              have haj3 : W3.cell? ⟨w.heap.size + 1 + 1 + 1 + 1, j, none⟩ = some (.int .i64 aj) := by rw [← hW3]; exact (cell_block (by omega)).trans ((cell_block (by omega)).trans haj2)
              have v0 : W3.cell? ⟨w.heap.size, 1, none⟩ = some (.int .i64 aj) := HR3.out.s1
              rw [hW3]
              clear hW3 t0 t1 haj2 y0 y3 yf HR2
              go_wp2_with fail
              exact ⟨⟨j + 1, st.put 1 aj, by omega, by go_num, HL', HR3.out⟩, by simp [intOf]; omega⟩
            · have hnb : ¬ ((true = true) ∧ st.bd 1 = false) := fun h => by have := h.2; simp [Std.bd, hbd] at this
              have hat : Rule.valOf st.v ⟨true, 1⟩ = st.v.y := rfl
              rw [hbd] at s4
              by_cases e : st.v.y = aj
              · have HL' : Hid (layTo x s ts 0 = layTo x st (ts.drop (j + 1)) (j + 1)) := by
                  show _ = _
                  rw [hlay.out, HL.out, if_neg hnb, if_pos (hat.trans e)]
                clear hlay HL hnb hat
                rw [e] at s1
                go_wp2_with fail
                exact ⟨⟨j + 1, st, by omega, by go_num, HL', HRA.out _⟩, by simp [intOf]; omega⟩
              · have e' : (st.v.y == aj) = false := by simpa using e
                have HL' : Hid (withF s ⟨ap, ts⟩ x = none) := by
                  show _ = _
                  rw [HW.out, hlay.out, HL.out, if_neg hnb, if_neg (fun q => e (hat.symm.trans q))]
                clear hlay HL hnb hat
                go_wp2_with fail
                refine bodyPost_ret (v := .tuple #[.agg #[.int .i64 st.v.x, .int .i64 st.v.y, .int .i64 st.v.z, .bool st.bx, .bool true, .bool st.bz], .bool false]) (by simp [results, Tryz.results166, go_sem, r0, r1, r2, r3, r4, r5, z3]) rfl ⟨⟨st, by rw [HL'.out, hbd]; rfl, fun t ht => by rw [HL'.out] at ht; cases ht⟩, ?_⟩
                refine (HBS.out _ _ _ _ _ _).alloc (by rw [size_set, size_set, size_set, size_set, size_set, size_set]; omega) _
          · cases hbd : st.bz
            · have HL' : Hid (layTo x s ts 0 = layTo x (st.put 2 aj) (ts.drop (j + 1)) (j + 1)) := by
                show _ = _
                rw [hlay.out, HL.out, if_pos ⟨rfl, hbd⟩]
              clear hlay HL
              rw [hbd] at s5
              go_wp2_with fail
              obtain ⟨W2, hW2⟩ : ∃ W2, wr.alloc (.cells #[.bool true, .int .i64 2] 94) = W2 := ⟨_, rfl⟩
              have HR2 : Hid (WRel w st x W2) := by rw [← hW2]; exact HRA.out _
              have t1 : W2.cell? ⟨wr.heap.size, 1, none⟩ = some (.int .i64 2) := by rw [← hW2]; simp [go_sem]
              have t0 : W2.cell? ⟨wr.heap.size, 0, none⟩ = some (.bool true) := by rw [← hW2]; simp [go_sem]
              have haj2 : W2.cell? ⟨w.heap.size + 1 + 1 + 1 + 1, j, none⟩ = some (.int .i64 aj) := by rw [← hW2]; exact (cell_lasts (below_alloc _ _) hsz).trans haj
              rw [hW2]
              have y0 := HR2.out.s2
              have y3 := HR2.out.s5
              rw [hbd] at y3
              have yf := HR2.out.sf
              clear hW2 hr1 hr2 s0 s1 s2 s3 s4 s5 sf r0 r1 r2 r3 r4 r5 rf haj HRA HR HBS
              go_region
              obtain ⟨W3, hW3⟩ : ∃ W3, ((W2.setCell ⟨w.heap.size, 2, none⟩ (.int .i64 aj)).setCell ⟨w.heap.size, 5, none⟩ (.bool true)).drew = W3 := ⟨_, rfl⟩
              have HR3 : Hid (WRel w (st.put 2 aj) x W3) := by rw [← hW3]; exact (HR2.out.set 2 (by omega) aj).lasts ((Below.refl _ _).drew)
              have u1 : W3.cell? ⟨wr.heap.size, 1, none⟩ = some (.int .i64 2) := by rw [← hW3]; exact (cell_block (by omega)).trans ((cell_block (by omega)).trans t1)
              have u0 : W3.cell? ⟨wr.heap.size, 0, none⟩ = some (.bool true) := by rw [← hW3]; exact (cell_block (by omega)).trans ((cell_block (by omega)).trans t0)
              have haj3 : W3.cell? ⟨w.heap.size + 1 + 1 + 1 + 1, j, none⟩ = some (.int .i64 aj) := by rw [← hW3]; exact (cell_block (by omega)).trans ((cell_block (by omega)).trans haj2)
              have v0 : W3.cell? ⟨w.heap.size, 2, none⟩ = some (.int .i64 aj) := HR3.out.s2
              rw [hW3]
              clear hW3 t0 t1 haj2 y0 y3 yf HR2
              go_wp2_with fail
              exact ⟨⟨j + 1, st.put 2 aj, by omega, by go_num, HL', HR3.out⟩, by simp [intOf]; omega⟩
            · have hnb : ¬ ((true = true) ∧ st.bd 2 = false) := fun h => by have := h.2; simp [Std.bd, hbd] at this
              have hat : Rule.valOf st.v ⟨true, 2⟩ = st.v.z := rfl
              rw [hbd] at s5
              by_cases e : st.v.z = aj
              · have HL' : Hid (layTo x s ts 0 = layTo x st (ts.drop (j + 1)) (j + 1)) := by
                  show _ = _
                  rw [hlay.out, HL.out, if_neg hnb, if_pos (hat.trans e)]
                clear hlay HL hnb hat
                rw [e] at s2
                go_wp2_with fail
                exact ⟨⟨j + 1, st, by omega, by go_num, HL', HRA.out _⟩, by simp [intOf]; omega⟩
              · have e' : (st.v.z == aj) = false := by simpa using e
                have HL' : Hid (withF s ⟨ap, ts⟩ x = none) := by
                  show _ = _
                  rw [HW.out, hlay.out, HL.out, if_neg hnb, if_neg (fun q => e (hat.symm.trans q))]
                clear hlay HL hnb hat
                go_wp2_with fail
                refine bodyPost_ret (v := .tuple #[.agg #[.int .i64 st.v.x, .int .i64 st.v.y, .int .i64 st.v.z, .bool st.bx, .bool st.bq, .bool true], .bool false]) (by simp [results, Tryz.results166, go_sem, r0, r1, r2, r3, r4, r5, z3]) rfl ⟨⟨st, by rw [HL'.out, hbd]; rfl, fun t ht => by rw [HL'.out] at ht; cases ht⟩, ?_⟩
                refine (HBS.out _ _ _ _ _ _).alloc (by rw [size_set, size_set, size_set, size_set, size_set, size_set]; omega) _
      · obtain rfl : j = ts.length := by omega
        have HL' : Hid (withF s ⟨ap, ts⟩ x = some st) := by
          show _ = _
          rw [HW.out, hlay.out, List.drop_length, layTo]
        clear HW hlay
        obtain ⟨hbr, hsz, s0, s1, s2, s3, s4, s5, sf, r0, r1, r2, r3, r4, r5, rf, a0, a1⟩ := hR
        go_wp2_with fail
        refine bodyPost_ret (v := .tuple #[.agg #[.int .i64 st.v.x, .int .i64 st.v.y, .int .i64 st.v.z, .bool st.bx, .bool st.bq, .bool st.bz], .bool true]) (by simp [results, Tryz.results166, go_sem, r0, r1, r2, r3, r4, r5]) rfl ⟨⟨st, by rw [HL'.out]; rfl, fun t ht => by rw [HL'.out] at ht; cases ht; rfl⟩, ?_⟩
        exact below_six hbr _ _ _ _ _ _
  · have HW : Hid (withF s ⟨ap, ts⟩ x = none) := by show _ = _; rw [withF, if_neg hp]
    have hp' : (ap == x.pred) = false := by simpa using hp
    go_enter Tryz.func166, Tryz.ntmps166
    go_wp2_with fail
    refine bodyPost_ret (v := .tuple #[.agg #[.int .i64 s.v.x, .int .i64 s.v.y, .int .i64 s.v.z, .bool s.bx, .bool s.bq, .bool s.bz], .bool false]) (by simp [results, Tryz.results166, go_sem]) rfl ⟨⟨s, by rw [HW.out]; rfl, fun t ht => by rw [HW.out] at ht; cases ht⟩, ?_⟩
    exact (((((Below.refl _ _).alloc (Nat.le_refl _) _).alloc (by simp) _).alloc (by simp; omega) _).alloc (by simp; omega) _)
end Go.Proofs.YtlfccloaoopadafGreatDoor.Fire

/-
  What the document's own 'SameFacts' answers.
-/
namespace Go.Proofs.YtlfccloaoopadafGreatDoor.Base
open Go.ChangeShapes Go.WideShapes Go.ChangeAt Go.RowKit

deriving instance DecidableEq for Fct

theorem take_same {f g : List Fct} {j : Nat} (h1 : j < f.length) (h2 : j < g.length) : f.take (j + 1) = g.take (j + 1) ↔ f.take j = g.take j ∧ f[j] = g[j] := by
  rw [List.take_succ_eq_append_getElem h1, List.take_succ_eq_append_getElem h2]
  constructor
  · intro h
    have := List.append_inj' h rfl
    exact ⟨this.1, by simpa using this.2⟩
  · rintro ⟨h, h'⟩
    rw [h, h']

set_option maxRecDepth 100000 in
set_option maxHeartbeats 4000000 in
theorem sameFacts_c (w : World) (fv gv : Value) (f g : List Fct) (hf : factsAt w fv f) (hg : factsAt w gv g) :
    Calls Tryz.prog 17 #[fv, gv] w fun e w' => e = .returned (.bool (decide (f = g))) ∧ Below w.heap.size w w' := by
  have HF : Hid (factsAt w fv f) := hf
  have HG : Hid (factsAt w gv g) := hg
  obtain ⟨fa, fc, rfl, hfm, hfx⟩ := hf
  obtain ⟨ga, gc, rfl, hgm, hgx⟩ := hg
  clear hfx hgx
  by_cases hl : f.length = g.length
  · have HL : Hid (f.length = g.length) := hl
    rw [← hl]
    clear hl
    go_enter Tryz.func17, Tryz.ntmps17
    go_wp2_with fail
    go_loopw [5] (fun i wr => ∃ j : Nat, j ≤ f.length ∧ i = .int .i64 j ∧ f.take j = g.take j ∧ Below w.heap.size w wr) (fun i _ => f.length - (intOf i).toNat)
    case atStart => exact ⟨0, Nat.zero_le _, rfl, rfl, Below.refl _ _⟩
    case round =>
      obtain ⟨j, hj, rfl, hall, hbw⟩ := hrel
      by_cases hlt : j < f.length
      · have hlt2 : j < g.length := by have := HL.out; omega
        have HT : Hid (f[j] = g[j] → f.take (j + 1) = g.take (j + 1)) := fun h => (take_same hlt hlt2).2 ⟨hall, h⟩
        have HN : Hid (f[j] ≠ g[j] → decide (f = g) = false) := fun h => by simp only [decide_eq_false_iff_not]; rintro rfl; exact h rfl
        obtain ⟨b1, o1, c1, hv1, hb1, hc1⟩ := fact_cells HF.out hlt
        obtain ⟨rfl, rfl⟩ : fa = some ⟨b1, o1, none⟩ ∧ fc = c1 := by simpa using hv1
        obtain ⟨b2, o2, c2, hv2, hb2, hc2⟩ := fact_cells HG.out hlt2
        obtain ⟨rfl, rfl⟩ : ga = some ⟨b2, o2, none⟩ ∧ gc = c2 := by simpa using hv2
        obtain ⟨t0, t1, t2, t3⟩ := factAt.lasts w wr b1 _ _ hbw hb1 hc1
        obtain ⟨u0, u1, u2, u3⟩ := factAt.lasts w wr b2 _ _ hbw hb2 hc2
        have s1 : b1 < wr.heap.size := Nat.lt_of_lt_of_le hb1 hbw.size
        have s2 : b2 < wr.heap.size := Nat.lt_of_lt_of_le hb2 hbw.size
        have hjl : (j : Int) < (f.length : Int) := by omega
        have hjg : (j : Int) < (g.length : Int) := by omega
        have hj0 : (0 : Int) ≤ (j : Int) := by omega
        clear hv1 hv2 hc1 hc2 hall HF HG
        generalize f[j] = y at *
        generalize g[j] = z at *
        obtain ⟨yp, ya, yb, yv⟩ := y
        obtain ⟨zp, za, zb, zv⟩ := z
        by_cases h0 : yp ≠ zp
        · have H3 : Hid (decide (f = g) = false) := HN.out (by simp [h0])
          clear HN HT
          go_wp2_with fail
          have L0 : ∀ x : Low wr.heap.size wr, x.wd.cell? ⟨b1, o1 + j * 4, none⟩ = some (.int .i64 yp) := fun x => (cell_lasts x.low s1).trans t0
          have L1 : ∀ x : Low wr.heap.size wr, x.wd.cell? ⟨b1, o1 + j * 4 + 1, none⟩ = some (.int .i64 ya) := fun x => (cell_lasts x.low s1).trans t1
          have L2 : ∀ x : Low wr.heap.size wr, x.wd.cell? ⟨b1, o1 + j * 4 + 2, none⟩ = some (.int .i64 yb) := fun x => (cell_lasts x.low s1).trans t2
          have L3 : ∀ x : Low wr.heap.size wr, x.wd.cell? ⟨b1, o1 + j * 4 + 3, none⟩ = some (.int .i64 yv) := fun x => (cell_lasts x.low s1).trans t3
          have M0 : ∀ x : Low wr.heap.size wr, x.wd.cell? ⟨b2, o2 + j * 4, none⟩ = some (.int .i64 zp) := fun x => (cell_lasts x.low s2).trans u0
          have M1 : ∀ x : Low wr.heap.size wr, x.wd.cell? ⟨b2, o2 + j * 4 + 1, none⟩ = some (.int .i64 za) := fun x => (cell_lasts x.low s2).trans u1
          have M2 : ∀ x : Low wr.heap.size wr, x.wd.cell? ⟨b2, o2 + j * 4 + 2, none⟩ = some (.int .i64 zb) := fun x => (cell_lasts x.low s2).trans u2
          have M3 : ∀ x : Low wr.heap.size wr, x.wd.cell? ⟨b2, o2 + j * 4 + 3, none⟩ = some (.int .i64 zv) := fun x => (cell_lasts x.low s2).trans u3
          refine wp_region_low wr.heap.size (by kernel_rfl) (by kernel_rfl) ?_
          repeat (go_big_quiet_step (fail))
          refine wpQuiet_nil ?_
          rintro _ ⟨⟨w1, hk⟩, rfl⟩
          clear L0 L1 L2 L3 M0 M1 M2 M3
          go_wp2_with fail
          go_ret
          exact ⟨by rw [H3.out]; rfl, hbw.trans (hk.mono hbw.size)⟩
        obtain rfl : yp = zp := Decidable.not_not.1 h0
        clear h0
        by_cases h1 : ya ≠ za
        · have H3 : Hid (decide (f = g) = false) := HN.out (by simp [h1])
          clear HN HT
          go_wp2_with fail
          have L0 : ∀ x : Low wr.heap.size wr, x.wd.cell? ⟨b1, o1 + j * 4, none⟩ = some (.int .i64 yp) := fun x => (cell_lasts x.low s1).trans t0
          have L1 : ∀ x : Low wr.heap.size wr, x.wd.cell? ⟨b1, o1 + j * 4 + 1, none⟩ = some (.int .i64 ya) := fun x => (cell_lasts x.low s1).trans t1
          have L2 : ∀ x : Low wr.heap.size wr, x.wd.cell? ⟨b1, o1 + j * 4 + 2, none⟩ = some (.int .i64 yb) := fun x => (cell_lasts x.low s1).trans t2
          have L3 : ∀ x : Low wr.heap.size wr, x.wd.cell? ⟨b1, o1 + j * 4 + 3, none⟩ = some (.int .i64 yv) := fun x => (cell_lasts x.low s1).trans t3
          have M0 : ∀ x : Low wr.heap.size wr, x.wd.cell? ⟨b2, o2 + j * 4, none⟩ = some (.int .i64 yp) := fun x => (cell_lasts x.low s2).trans u0
          have M1 : ∀ x : Low wr.heap.size wr, x.wd.cell? ⟨b2, o2 + j * 4 + 1, none⟩ = some (.int .i64 za) := fun x => (cell_lasts x.low s2).trans u1
          have M2 : ∀ x : Low wr.heap.size wr, x.wd.cell? ⟨b2, o2 + j * 4 + 2, none⟩ = some (.int .i64 zb) := fun x => (cell_lasts x.low s2).trans u2
          have M3 : ∀ x : Low wr.heap.size wr, x.wd.cell? ⟨b2, o2 + j * 4 + 3, none⟩ = some (.int .i64 zv) := fun x => (cell_lasts x.low s2).trans u3
          refine wp_region_low wr.heap.size (by kernel_rfl) (by kernel_rfl) ?_
          repeat (go_big_quiet_step (fail))
          refine wpQuiet_nil ?_
          rintro _ ⟨⟨w1, hk⟩, rfl⟩
          clear L0 L1 L2 L3 M0 M1 M2 M3
          go_wp2_with fail
          go_ret
          exact ⟨by rw [H3.out]; rfl, hbw.trans (hk.mono hbw.size)⟩
        obtain rfl : ya = za := Decidable.not_not.1 h1
        clear h1
        by_cases h2 : yb ≠ zb
        · have H3 : Hid (decide (f = g) = false) := HN.out (by simp [h2])
          clear HN HT
          go_wp2_with fail
          have L0 : ∀ x : Low wr.heap.size wr, x.wd.cell? ⟨b1, o1 + j * 4, none⟩ = some (.int .i64 yp) := fun x => (cell_lasts x.low s1).trans t0
          have L1 : ∀ x : Low wr.heap.size wr, x.wd.cell? ⟨b1, o1 + j * 4 + 1, none⟩ = some (.int .i64 ya) := fun x => (cell_lasts x.low s1).trans t1
          have L2 : ∀ x : Low wr.heap.size wr, x.wd.cell? ⟨b1, o1 + j * 4 + 2, none⟩ = some (.int .i64 yb) := fun x => (cell_lasts x.low s1).trans t2
          have L3 : ∀ x : Low wr.heap.size wr, x.wd.cell? ⟨b1, o1 + j * 4 + 3, none⟩ = some (.int .i64 yv) := fun x => (cell_lasts x.low s1).trans t3
          have M0 : ∀ x : Low wr.heap.size wr, x.wd.cell? ⟨b2, o2 + j * 4, none⟩ = some (.int .i64 yp) := fun x => (cell_lasts x.low s2).trans u0
          have M1 : ∀ x : Low wr.heap.size wr, x.wd.cell? ⟨b2, o2 + j * 4 + 1, none⟩ = some (.int .i64 ya) := fun x => (cell_lasts x.low s2).trans u1
          have M2 : ∀ x : Low wr.heap.size wr, x.wd.cell? ⟨b2, o2 + j * 4 + 2, none⟩ = some (.int .i64 zb) := fun x => (cell_lasts x.low s2).trans u2
          have M3 : ∀ x : Low wr.heap.size wr, x.wd.cell? ⟨b2, o2 + j * 4 + 3, none⟩ = some (.int .i64 zv) := fun x => (cell_lasts x.low s2).trans u3
          refine wp_region_low wr.heap.size (by kernel_rfl) (by kernel_rfl) ?_
          repeat (go_big_quiet_step (fail))
          refine wpQuiet_nil ?_
          rintro _ ⟨⟨w1, hk⟩, rfl⟩
          clear L0 L1 L2 L3 M0 M1 M2 M3
          go_wp2_with fail
          go_ret
          exact ⟨by rw [H3.out]; rfl, hbw.trans (hk.mono hbw.size)⟩
        obtain rfl : yb = zb := Decidable.not_not.1 h2
        clear h2
        by_cases h3 : yv ≠ zv
        · have H3 : Hid (decide (f = g) = false) := HN.out (by simp [h3])
          clear HN HT
          go_wp2_with fail
          have L0 : ∀ x : Low wr.heap.size wr, x.wd.cell? ⟨b1, o1 + j * 4, none⟩ = some (.int .i64 yp) := fun x => (cell_lasts x.low s1).trans t0
          have L1 : ∀ x : Low wr.heap.size wr, x.wd.cell? ⟨b1, o1 + j * 4 + 1, none⟩ = some (.int .i64 ya) := fun x => (cell_lasts x.low s1).trans t1
          have L2 : ∀ x : Low wr.heap.size wr, x.wd.cell? ⟨b1, o1 + j * 4 + 2, none⟩ = some (.int .i64 yb) := fun x => (cell_lasts x.low s1).trans t2
          have L3 : ∀ x : Low wr.heap.size wr, x.wd.cell? ⟨b1, o1 + j * 4 + 3, none⟩ = some (.int .i64 yv) := fun x => (cell_lasts x.low s1).trans t3
          have M0 : ∀ x : Low wr.heap.size wr, x.wd.cell? ⟨b2, o2 + j * 4, none⟩ = some (.int .i64 yp) := fun x => (cell_lasts x.low s2).trans u0
          have M1 : ∀ x : Low wr.heap.size wr, x.wd.cell? ⟨b2, o2 + j * 4 + 1, none⟩ = some (.int .i64 ya) := fun x => (cell_lasts x.low s2).trans u1
          have M2 : ∀ x : Low wr.heap.size wr, x.wd.cell? ⟨b2, o2 + j * 4 + 2, none⟩ = some (.int .i64 yb) := fun x => (cell_lasts x.low s2).trans u2
          have M3 : ∀ x : Low wr.heap.size wr, x.wd.cell? ⟨b2, o2 + j * 4 + 3, none⟩ = some (.int .i64 zv) := fun x => (cell_lasts x.low s2).trans u3
          refine wp_region_low wr.heap.size (by kernel_rfl) (by kernel_rfl) ?_
          repeat (go_big_quiet_step (fail))
          refine wpQuiet_nil ?_
          rintro _ ⟨⟨w1, hk⟩, rfl⟩
          clear L0 L1 L2 L3 M0 M1 M2 M3
          go_wp2_with fail
          go_ret
          exact ⟨by rw [H3.out]; rfl, hbw.trans (hk.mono hbw.size)⟩
        obtain rfl : yv = zv := Decidable.not_not.1 h3
        clear h3
        · have H3 : Hid (f.take (j + 1) = g.take (j + 1)) := HT.out rfl
          clear HN HT
          go_wp2_with fail
          have L0 : ∀ x : Low wr.heap.size wr, x.wd.cell? ⟨b1, o1 + j * 4, none⟩ = some (.int .i64 yp) := fun x => (cell_lasts x.low s1).trans t0
          have L1 : ∀ x : Low wr.heap.size wr, x.wd.cell? ⟨b1, o1 + j * 4 + 1, none⟩ = some (.int .i64 ya) := fun x => (cell_lasts x.low s1).trans t1
          have L2 : ∀ x : Low wr.heap.size wr, x.wd.cell? ⟨b1, o1 + j * 4 + 2, none⟩ = some (.int .i64 yb) := fun x => (cell_lasts x.low s1).trans t2
          have L3 : ∀ x : Low wr.heap.size wr, x.wd.cell? ⟨b1, o1 + j * 4 + 3, none⟩ = some (.int .i64 yv) := fun x => (cell_lasts x.low s1).trans t3
          have M0 : ∀ x : Low wr.heap.size wr, x.wd.cell? ⟨b2, o2 + j * 4, none⟩ = some (.int .i64 yp) := fun x => (cell_lasts x.low s2).trans u0
          have M1 : ∀ x : Low wr.heap.size wr, x.wd.cell? ⟨b2, o2 + j * 4 + 1, none⟩ = some (.int .i64 ya) := fun x => (cell_lasts x.low s2).trans u1
          have M2 : ∀ x : Low wr.heap.size wr, x.wd.cell? ⟨b2, o2 + j * 4 + 2, none⟩ = some (.int .i64 yb) := fun x => (cell_lasts x.low s2).trans u2
          have M3 : ∀ x : Low wr.heap.size wr, x.wd.cell? ⟨b2, o2 + j * 4 + 3, none⟩ = some (.int .i64 yv) := fun x => (cell_lasts x.low s2).trans u3
          refine wp_region_low wr.heap.size (by kernel_rfl) (by kernel_rfl) ?_
          repeat (go_big_quiet_step (fail))
          refine wpQuiet_nil ?_
          rintro _ ⟨⟨w1, hk⟩, rfl⟩
          clear L0 L1 L2 L3 M0 M1 M2 M3
          go_wp2_with fail
          go_roundw
          case rel => exact ⟨j + 1, by omega, by go_num, H3.out, hbw.trans (hk.mono hbw.size)⟩
          case measure => simp [intOf]; omega
      · have HE : Hid (decide (f = g) = true) := by
          show _ = _
          rw [List.take_of_length_le (by omega), List.take_of_length_le (by have := HL.out; omega)] at hall
          simpa using hall
        clear hall HF HG
        go_wp2_with fail
        go_ret
        exact ⟨by rw [HE.out]; rfl, hbw⟩
  · have hl' : ((f.length : Int) == (g.length : Int)) = false := by simpa using (by omega : ¬ (f.length : Int) = (g.length : Int))
    have H : Hid (decide (f = g) = false) := by show _ = _; simp only [decide_eq_false_iff_not]; rintro rfl; exact hl rfl
    go_enter Tryz.func17, Tryz.ntmps17
    go_wp2_with fail
    go_ret
    exact ⟨by rw [H.out]; rfl, Below.refl _ _⟩
end Go.Proofs.YtlfccloaoopadafGreatDoor.Base
