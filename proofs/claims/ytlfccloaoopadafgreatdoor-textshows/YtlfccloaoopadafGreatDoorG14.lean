/-
  What the document's own reckoning of facts answers, call by call.
-/
import Derived.Deep.RegionHeld3
import Derived.Test.YtlfccloaoopadafGreatDoorG8
import Derived.Test.YtlfccloaoopadafGreatDoorG1
import Derived.Test.YtlfccloaoopadafGreatDoorG6
namespace Go.Proofs.YtlfccloaoopadafGreatDoor.Base
open Go.ChangeShapes Go.WideShapes Go.ChangeAt Go.RowKit
open Lat (within within_c)
open Rule (factFine factFine_c isPred kindOf arityOf isPred_iff)

def Small (x : Fct) : Prop := 0 ≤ x.pred ∧ x.pred ≤ 1000 ∧ 0 ≤ x.a ∧ x.a ≤ 4 ∧ 0 ≤ x.b ∧ x.b ≤ 4

theorem place_c (p a b v : Int) (w : World) (h : Small ⟨p, a, b, v⟩) : Calls Tryz.prog 74 #[.agg #[.int .i64 p, .int .i64 a, .int .i64 b, .int .i64 v]] w fun e w' => e = .returned (.int .i64 (place ⟨p, a, b, v⟩)) ∧ Below w.heap.size w w' := by
  obtain ⟨h1, h2, h3, h4, h5, h6⟩ := h
  have h1 : 0 ≤ p := h1
  have h2 : p ≤ 1000 := h2
  have h3 : 0 ≤ a := h3
  have h4 : a ≤ 4 := h4
  have h5 : 0 ≤ b := h5
  have h6 : b ≤ 4 := h6
  have e : place ⟨p, a, b, v⟩ = (p * 5 + a) * 5 + b := rfl
  rw [e]
  go_enter Tryz.func74, Tryz.ntmps74
  go_wp2
  go_ret
  exact ⟨rfl, below_alloc _ _⟩

/-- a fact at a place of memory, its cells -/
theorem fact_cells {w : World} {v : Value} {f : List Fct} (h : factsAt w v f) {j : Nat} (hj : j < f.length) : ∃ b off cap, v = .slice (some ⟨b, off, none⟩) f.length cap ∧ b < w.heap.size ∧ factAt w b (off + j * 4) f[j] := by
  obtain ⟨a, cap, rfl, hm, hx⟩ := h
  rcases hx with rfl | ⟨b, off, rfl, hb, hx⟩
  · simp at hj
  · exact ⟨b, off, cap, rfl, hb, hx j f[j] (by simp [hj])⟩

def findTo (f : List Fct) (pl : Int) : Int := (get f pl).getD 0
theorem get_take {f : List Fct} {j : Nat} (h : j < f.length) (pl : Int) (hn : get (f.take j) pl = none) : get (f.take (j + 1)) pl = if place f[j] = pl then some f[j].val else none := by
  induction f generalizing j with
  | nil => simp at h
  | cons y f ih =>
    cases j with
    | zero => simp [get_cons, get_nil]
    | succ j =>
      simp only [List.take_succ_cons, get_cons] at hn ⊢
      by_cases e : place y = pl
      · rw [if_pos e] at hn; cases hn
      · rw [if_neg e] at hn
        rw [if_neg e, ih (by simpa using h) hn]
        rfl
theorem get_first {f : List Fct} {j : Nat} (h : j < f.length) (pl : Int) (hn : get (f.take j) pl = none) (hp : place f[j] = pl) : get f pl = some f[j].val := by
  induction f generalizing j with
  | nil => simp at h
  | cons y f ih =>
    cases j with
    | zero => rw [get_cons, if_pos (show place y = pl from hp)]; rfl
    | succ j =>
      simp only [List.take_succ_cons, get_cons] at hn
      by_cases e : place y = pl
      · rw [if_pos e] at hn; cases hn
      · rw [if_neg e] at hn
        rw [get_cons, if_neg e]
        exact ih (by simpa using h) hn hp

end Go.Proofs.YtlfccloaoopadafGreatDoor.Base

/-
  What the document's own check of facts answers.
-/
namespace Go.Proofs.YtlfccloaoopadafGreatDoor.Base
open Go.ChangeShapes Go.WideShapes Go.ChangeAt Go.RowKit
open Lat (within within_c)
open Rule (factFine factFine_c isPred kindOf arityOf isPred_iff)

def predOk (p : Prd) : Bool := within p.kind 0 3 && within p.arity 0 2
def predsOk (ps : List Prd) : Bool := ps.all predOk
def nth (f : List Fct) (i : Nat) : Fct := f.getD i ⟨0, 0, 0, 0⟩
def goodAt (ps : List Prd) (f : List Fct) (i : Nat) : Bool := factFine ps (nth f i) && (i == 0 || decide (place (nth f (i - 1)) < place (nth f i)))
def goodTo (ps : List Prd) (f : List Fct) (k : Nat) : Bool := (List.range k).all (goodAt ps f)
/-- D1 -/
def factsErr (ps : List Prd) (f : List Fct) : Int := if 5 < ps.length then 2 else if predsOk ps = false then 2 else if goodTo ps f f.length then 0 else 1

theorem goodTo_succ (ps : List Prd) (f : List Fct) (k : Nat) : goodTo ps f (k + 1) = (goodTo ps f k && goodAt ps f k) := by simp [goodTo, List.range_succ]
theorem goodTo_not {ps : List Prd} {f : List Fct} {k : Nat} (hk : k < f.length) (h : goodAt ps f k = false) : goodTo ps f f.length = false := List.all_eq_false.2 ⟨k, List.mem_range.2 hk, by simp [h]⟩
theorem fine_small {ps : List Prd} {x : Fct} (h5 : ps.length ≤ 5) (h : factFine ps x = true) : Small x := by
  simp only [factFine, Bool.and_eq_true] at h
  obtain ⟨h1, h2, h3, _⟩ := h
  obtain ⟨k, hk, he⟩ := isPred_iff.1 h1
  have g2 : 0 ≤ x.a ∧ x.a ≤ 4 := by simpa [within] using h2
  have g3 : 0 ≤ x.b ∧ x.b ≤ 4 := by simpa [within] using h3
  exact ⟨by omega, by omega, g2.1, g2.2, g3.1, g3.2⟩
theorem hideS {x : Fct} (h : Small x) : Hid (Small x) := h
theorem nth_eq {f : List Fct} {j : Nat} (h : j < f.length) : nth f j = f[j] := by simp [nth, h]

set_option maxRecDepth 100000 in
set_option maxHeartbeats 8000000 in
theorem checkFacts_c (w : World) (pv fv : Value) (ps : List Prd) (f : List Fct) (hp : predsAt w pv ps) (hf : factsAt w fv f) :
    Calls Tryz.prog 43 #[pv, fv] w fun e w' => e = .returned (.int .i64 (factsErr ps f)) ∧ Below w.heap.size w w' := by
  have HP : Hid (∀ (w1 : World), Below w.heap.size w w1 → predsAt w1 pv ps) := fun w1 hb1 => predsAt.lasts hb1 hp
  have HF : Hid (factsAt w fv f) := hf
  obtain ⟨pa, pc, rfl, hpm, hpx⟩ := hp
  obtain ⟨fa, fc, rfl, hfm, _⟩ := hf
  have HPX : Hid (ps = [] ∨ ∃ b off, pa = some ⟨b, off, none⟩ ∧ b < w.heap.size ∧ ∀ i x, ps[i]? = some x → predAt w b (off + i * 3) x) := hpx
  clear hpx
  by_cases h5 : 5 < ps.length
  · have e : factsErr ps f = 2 := by rw [factsErr, if_pos h5]
    rw [e]
    have h5' : (5 : Int) < (ps.length : Int) := by omega
    go_enter Tryz.func43, Tryz.ntmps43
    go_wp2_with fail
    go_ret
    exact ⟨rfl, Below.refl _ _⟩
  · have h5' : ¬ (5 : Int) < (ps.length : Int) := by omega
    go_enter Tryz.func43, Tryz.ntmps43
    go_wp2_with fail
    go_loop [5] (fun i => ∃ k : Nat, k ≤ ps.length ∧ i = .int .i64 k ∧ (ps.take k).all predOk = true) (fun i => ps.length - (intOf i).toNat)
    case atStart => exact ⟨0, Nat.zero_le _, rfl, rfl⟩
    case round =>
      obtain ⟨k, hk, rfl, hall⟩ := hrel
      by_cases hlt : k < ps.length
      · obtain ⟨b, off, rfl, hbl, hx⟩ := HPX.out.resolve_left (by rintro rfl; simp at hlt)
        obtain ⟨hc0, hc1, hc2⟩ := hx k ps[k] (by simp [hlt])
        have H : Hid ((ps.take (k + 1)).all predOk = predOk ps[k]) := by show _ = _; rw [all_take hlt, hall, Bool.true_and]
        have H2 : Hid (predOk ps[k] = false → factsErr ps f = 2) := fun h => by rw [factsErr, if_neg h5, if_pos (show predsOk ps = false from all_not hlt h)]
        clear hx hall hc0
        generalize ps[k] = q at *
        obtain ⟨qn, qa, qk⟩ := q
        cases g1 : within qk 0 3
        · have H3 : Hid (factsErr ps f = 2) := H2.out (by simp only [predOk, g1, Bool.false_and])
          clear H H2
          go_wp2_with (go_at_call 24; refine (within_c _ _ _ _).mono ?_; rintro e w' ⟨rfl, rfl⟩)
          go_ret
          exact ⟨ret_int H3.out.symm, Below.refl _ _⟩
        · cases g2 : within qa 0 2
          · have H3 : Hid (factsErr ps f = 2) := H2.out (by simp only [predOk, g2, Bool.and_false])
            clear H H2
            go_wp2_with (go_at_call 24; refine (within_c _ _ _ _).mono ?_; rintro e w' ⟨rfl, rfl⟩)
            go_ret
            exact ⟨ret_int H3.out.symm, Below.refl _ _⟩
          · have H3 : Hid ((ps.take (k + 1)).all predOk = true) := by show _ = _; rw [H.out]; simp only [predOk, g1, g2]; rfl
            clear H H2
            go_wp2_with (go_at_call 24; refine (within_c _ _ _ _).mono ?_; rintro e w' ⟨rfl, rfl⟩)
            go_round
            case rel => exact ⟨k + 1, by omega, by go_num, H3.out⟩
            case measure => simp [intOf]; omega
      · have hpk : predsOk ps = true := all_take_end hlt hall
        have HE : Hid (factsErr ps f = if goodTo ps f f.length then 0 else 1) := by show _ = _; rw [factsErr, if_neg h5, if_neg (by rw [hpk]; simp)]
        clear hall hpk
        go_wp2_with fail
        clear hlt hk
        go_loopw [6] (fun i wr => ∃ j : Nat, j ≤ f.length ∧ i = .int .i64 j ∧ goodTo ps f j = true ∧ Below w.heap.size w wr) (fun i _ => f.length - (intOf i).toNat)
        case atStart => exact ⟨0, Nat.zero_le _, rfl, rfl, Below.refl _ _⟩
        case round =>
          obtain ⟨j, hj, rfl, hgo, hbw⟩ := hrel
          by_cases hlt : j < f.length
          · have H : Hid (goodTo ps f (j + 1) = goodAt ps f j) := by show _ = _; rw [goodTo_succ, hgo, Bool.true_and]
            have H2 : Hid (goodAt ps f j = false → factsErr ps f = 1) := fun h => by rw [HE.out, if_neg (by rw [goodTo_not hlt h]; simp)]
            obtain ⟨bb, off, cap, hv, hbl, hcells⟩ := fact_cells HF.out hlt
            obtain ⟨rfl, rfl⟩ : fa = some ⟨bb, off, none⟩ ∧ fc = cap := by simpa using hv
            have s2 : bb < wr.heap.size := Nat.lt_of_lt_of_le hbl hbw.size
            obtain ⟨t0, t1, t2, t3⟩ := factAt.lasts w wr bb _ _ hbw hbl hcells
            have hjl : (j : Int) < (f.length : Int) := by omega
            have hj0 : (0 : Int) ≤ (j : Int) := by omega
            have HNJ : Hid (nth f j = f[j]) := nth_eq hlt
            clear hcells hv
            rcases Nat.eq_zero_or_pos j with rfl | hjp
            · have HGA : Hid (goodAt ps f 0 = factFine ps f[0]) := by show _ = _; rw [goodAt, HNJ.out]; simp
              simp only [Nat.zero_mul, Nat.add_zero] at t0 t1 t2 t3
              clear HNJ HF hgo
              generalize f[0] = y at *
              obtain ⟨yp, ya, yb, yv⟩ := y
              cases hff : factFine ps ⟨yp, ya, yb, yv⟩
              · have H3 : Hid (factsErr ps f = 1) := H2.out (HGA.out.trans hff)
                clear H H2 HE HGA
                go_wp2_with fail
                have L0 : ∀ x : Low wr.heap.size wr, x.wd.cell? ⟨bb, off, none⟩ = some (.int .i64 yp) := fun x => (cell_lasts x.low s2).trans t0
                have L1 : ∀ x : Low wr.heap.size wr, x.wd.cell? ⟨bb, off + 1, none⟩ = some (.int .i64 ya) := fun x => (cell_lasts x.low s2).trans t1
                have L2 : ∀ x : Low wr.heap.size wr, x.wd.cell? ⟨bb, off + 2, none⟩ = some (.int .i64 yb) := fun x => (cell_lasts x.low s2).trans t2
                have L3 : ∀ x : Low wr.heap.size wr, x.wd.cell? ⟨bb, off + 3, none⟩ = some (.int .i64 yv) := fun x => (cell_lasts x.low s2).trans t3
                refine wp_region_low wr.heap.size (by kernel_rfl) (by kernel_rfl) ?_
                repeat (go_big_quiet_step ((first | (go_at_call 73; exact low_of (factFine_c _ _ ps _ _ _ _ (HP.out _ (hbw.trans ((Low.low _).mono hbw.size))))) | (go_at_call 74; exact low_of (place_c _ _ _ _ _ (by first | exact HSJ.out | exact HSI.out))))))
                refine wpQuiet_nil ?_
                rintro _ ⟨⟨w1, hk⟩, rfl⟩
                clear L0 L1 L2 L3
                go_wp2_with fail
                go_ret
                exact ⟨ret_int H3.out.symm, hbw.trans (hk.mono hbw.size)⟩
              · have H3 : Hid (goodTo ps f (0 + 1) = true) := H.out.trans (HGA.out.trans hff)
                clear H H2 HE HGA
                go_wp2_with fail
                have L0 : ∀ x : Low wr.heap.size wr, x.wd.cell? ⟨bb, off, none⟩ = some (.int .i64 yp) := fun x => (cell_lasts x.low s2).trans t0
                have L1 : ∀ x : Low wr.heap.size wr, x.wd.cell? ⟨bb, off + 1, none⟩ = some (.int .i64 ya) := fun x => (cell_lasts x.low s2).trans t1
                have L2 : ∀ x : Low wr.heap.size wr, x.wd.cell? ⟨bb, off + 2, none⟩ = some (.int .i64 yb) := fun x => (cell_lasts x.low s2).trans t2
                have L3 : ∀ x : Low wr.heap.size wr, x.wd.cell? ⟨bb, off + 3, none⟩ = some (.int .i64 yv) := fun x => (cell_lasts x.low s2).trans t3
                refine wp_region_low wr.heap.size (by kernel_rfl) (by kernel_rfl) ?_
                repeat (go_big_quiet_step ((first | (go_at_call 73; exact low_of (factFine_c _ _ ps _ _ _ _ (HP.out _ (hbw.trans ((Low.low _).mono hbw.size))))) | (go_at_call 74; exact low_of (place_c _ _ _ _ _ (by first | exact HSJ.out | exact HSI.out))))))
                refine wpQuiet_nil ?_
                rintro _ ⟨⟨w1, hk⟩, rfl⟩
                clear L0 L1 L2 L3
                go_wp2_with fail
                go_roundw
                case rel => exact ⟨0 + 1, by omega, by go_num, H3.out, hbw.trans (hk.mono hbw.size)⟩
                case measure => simp [intOf]; omega
            · obtain ⟨i, rfl⟩ : ∃ i, j = i + 1 := ⟨j - 1, by omega⟩
              have hil : i < f.length := by omega
              obtain ⟨bb', off', cap', hv', hbl', hcells'⟩ := fact_cells HF.out hil
              obtain ⟨⟨rfl, rfl⟩, hcc⟩ : (bb = bb' ∧ off = off') ∧ _ := by simpa using hv'
              clear hcc
              obtain ⟨u0, u1, u2, u3⟩ := factAt.lasts w wr bb _ _ hbw hbl hcells'
              have HGA : Hid (goodAt ps f (i + 1) = (factFine ps f[i + 1] && decide (place f[i] < place f[i + 1]))) := by show _ = _; rw [goodAt, HNJ.out, Nat.add_sub_cancel, nth_eq hil]; simp
              have HFI : Hid (factFine ps f[i] = true) := by
                have := List.all_eq_true.1 hgo i (List.mem_range.2 (by omega))
                simp only [goodAt, nth_eq hil, Bool.and_eq_true] at this
                exact this.1
              have HSI : Hid (Small f[i]) := fine_small (by omega) HFI.out
              have HSJ : Hid (factFine ps f[i + 1] = true → Small f[i + 1]) := fine_small (by omega)
              have hil' : (i : Int) < (f.length : Int) := by omega
              clear HNJ HF hgo hcells' hv' HFI
              generalize f[i + 1] = y at *
              generalize f[i] = z at *
              obtain ⟨yp, ya, yb, yv⟩ := y
              obtain ⟨zp, za, zb, zv⟩ := z
              cases hff : factFine ps ⟨yp, ya, yb, yv⟩
              · have H3 : Hid (factsErr ps f = 1) := H2.out (HGA.out.trans (by rw [hff]; rfl))
                clear H H2 HE HGA HSJ
                go_wp2_with fail
                have L0 : ∀ x : Low wr.heap.size wr, x.wd.cell? ⟨bb, off + (i + 1) * 4, none⟩ = some (.int .i64 yp) := fun x => (cell_lasts x.low s2).trans t0
                have L1 : ∀ x : Low wr.heap.size wr, x.wd.cell? ⟨bb, off + (i + 1) * 4 + 1, none⟩ = some (.int .i64 ya) := fun x => (cell_lasts x.low s2).trans t1
                have L2 : ∀ x : Low wr.heap.size wr, x.wd.cell? ⟨bb, off + (i + 1) * 4 + 2, none⟩ = some (.int .i64 yb) := fun x => (cell_lasts x.low s2).trans t2
                have L3 : ∀ x : Low wr.heap.size wr, x.wd.cell? ⟨bb, off + (i + 1) * 4 + 3, none⟩ = some (.int .i64 yv) := fun x => (cell_lasts x.low s2).trans t3
                have M0 : ∀ x : Low wr.heap.size wr, x.wd.cell? ⟨bb, off + i * 4, none⟩ = some (.int .i64 zp) := fun x => (cell_lasts x.low s2).trans u0
                have M1 : ∀ x : Low wr.heap.size wr, x.wd.cell? ⟨bb, off + i * 4 + 1, none⟩ = some (.int .i64 za) := fun x => (cell_lasts x.low s2).trans u1
                have M2 : ∀ x : Low wr.heap.size wr, x.wd.cell? ⟨bb, off + i * 4 + 2, none⟩ = some (.int .i64 zb) := fun x => (cell_lasts x.low s2).trans u2
                have M3 : ∀ x : Low wr.heap.size wr, x.wd.cell? ⟨bb, off + i * 4 + 3, none⟩ = some (.int .i64 zv) := fun x => (cell_lasts x.low s2).trans u3
                refine wp_region_low wr.heap.size (by kernel_rfl) (by kernel_rfl) ?_
                repeat (go_big_quiet_step ((first | (go_at_call 73; exact low_of (factFine_c _ _ ps _ _ _ _ (HP.out _ (hbw.trans ((Low.low _).mono hbw.size))))) | (go_at_call 74; exact low_of (place_c _ _ _ _ _ (by first | exact HSJ.out | exact HSI.out))))))
                refine wpQuiet_nil ?_
                rintro _ ⟨⟨w1, hk⟩, rfl⟩
                clear L0 L1 L2 L3 M0 M1 M2 M3
                go_wp2_with fail
                go_ret
                exact ⟨ret_int H3.out.symm, hbw.trans (hk.mono hbw.size)⟩
              · have HSJ := hideS (HSJ.out hff)
                by_cases hpl : place ⟨yp, ya, yb, yv⟩ ≤ place ⟨zp, za, zb, zv⟩
                · have H3 : Hid (factsErr ps f = 1) := H2.out (HGA.out.trans (by rw [hff]; simp; omega))
                  have hpl' : decide (place ⟨yp, ya, yb, yv⟩ ≤ place ⟨zp, za, zb, zv⟩) = true := by simpa using hpl
                  clear H H2 HE HGA
                  go_wp2_with fail
                  have L0 : ∀ x : Low wr.heap.size wr, x.wd.cell? ⟨bb, off + (i + 1) * 4, none⟩ = some (.int .i64 yp) := fun x => (cell_lasts x.low s2).trans t0
                  have L1 : ∀ x : Low wr.heap.size wr, x.wd.cell? ⟨bb, off + (i + 1) * 4 + 1, none⟩ = some (.int .i64 ya) := fun x => (cell_lasts x.low s2).trans t1
                  have L2 : ∀ x : Low wr.heap.size wr, x.wd.cell? ⟨bb, off + (i + 1) * 4 + 2, none⟩ = some (.int .i64 yb) := fun x => (cell_lasts x.low s2).trans t2
                  have L3 : ∀ x : Low wr.heap.size wr, x.wd.cell? ⟨bb, off + (i + 1) * 4 + 3, none⟩ = some (.int .i64 yv) := fun x => (cell_lasts x.low s2).trans t3
                  have M0 : ∀ x : Low wr.heap.size wr, x.wd.cell? ⟨bb, off + i * 4, none⟩ = some (.int .i64 zp) := fun x => (cell_lasts x.low s2).trans u0
                  have M1 : ∀ x : Low wr.heap.size wr, x.wd.cell? ⟨bb, off + i * 4 + 1, none⟩ = some (.int .i64 za) := fun x => (cell_lasts x.low s2).trans u1
                  have M2 : ∀ x : Low wr.heap.size wr, x.wd.cell? ⟨bb, off + i * 4 + 2, none⟩ = some (.int .i64 zb) := fun x => (cell_lasts x.low s2).trans u2
                  have M3 : ∀ x : Low wr.heap.size wr, x.wd.cell? ⟨bb, off + i * 4 + 3, none⟩ = some (.int .i64 zv) := fun x => (cell_lasts x.low s2).trans u3
                  refine wp_region_low wr.heap.size (by kernel_rfl) (by kernel_rfl) ?_
                  repeat (go_big_quiet_step ((first | (go_at_call 73; exact low_of (factFine_c _ _ ps _ _ _ _ (HP.out _ (hbw.trans ((Low.low _).mono hbw.size))))) | (go_at_call 74; exact low_of (place_c _ _ _ _ _ (by first | exact HSJ.out | exact HSI.out))))))
                  refine wpQuiet_nil ?_
                  rintro _ ⟨⟨w1, hk⟩, rfl⟩
                  clear L0 L1 L2 L3 M0 M1 M2 M3
                  go_wp2_with fail
                  go_ret
                  exact ⟨ret_int H3.out.symm, hbw.trans (hk.mono hbw.size)⟩
                · have H3 : Hid (goodTo ps f (i + 1 + 1) = true) := H.out.trans (HGA.out.trans (by rw [hff]; simp; omega))
                  have hpl' : decide (place ⟨yp, ya, yb, yv⟩ ≤ place ⟨zp, za, zb, zv⟩) = false := by simpa using hpl
                  clear H H2 HE HGA
                  go_wp2_with fail
                  have L0 : ∀ x : Low wr.heap.size wr, x.wd.cell? ⟨bb, off + (i + 1) * 4, none⟩ = some (.int .i64 yp) := fun x => (cell_lasts x.low s2).trans t0
                  have L1 : ∀ x : Low wr.heap.size wr, x.wd.cell? ⟨bb, off + (i + 1) * 4 + 1, none⟩ = some (.int .i64 ya) := fun x => (cell_lasts x.low s2).trans t1
                  have L2 : ∀ x : Low wr.heap.size wr, x.wd.cell? ⟨bb, off + (i + 1) * 4 + 2, none⟩ = some (.int .i64 yb) := fun x => (cell_lasts x.low s2).trans t2
                  have L3 : ∀ x : Low wr.heap.size wr, x.wd.cell? ⟨bb, off + (i + 1) * 4 + 3, none⟩ = some (.int .i64 yv) := fun x => (cell_lasts x.low s2).trans t3
                  have M0 : ∀ x : Low wr.heap.size wr, x.wd.cell? ⟨bb, off + i * 4, none⟩ = some (.int .i64 zp) := fun x => (cell_lasts x.low s2).trans u0
                  have M1 : ∀ x : Low wr.heap.size wr, x.wd.cell? ⟨bb, off + i * 4 + 1, none⟩ = some (.int .i64 za) := fun x => (cell_lasts x.low s2).trans u1
                  have M2 : ∀ x : Low wr.heap.size wr, x.wd.cell? ⟨bb, off + i * 4 + 2, none⟩ = some (.int .i64 zb) := fun x => (cell_lasts x.low s2).trans u2
                  have M3 : ∀ x : Low wr.heap.size wr, x.wd.cell? ⟨bb, off + i * 4 + 3, none⟩ = some (.int .i64 zv) := fun x => (cell_lasts x.low s2).trans u3
                  refine wp_region_low wr.heap.size (by kernel_rfl) (by kernel_rfl) ?_
                  repeat (go_big_quiet_step ((first | (go_at_call 73; exact low_of (factFine_c _ _ ps _ _ _ _ (HP.out _ (hbw.trans ((Low.low _).mono hbw.size))))) | (go_at_call 74; exact low_of (place_c _ _ _ _ _ (by first | exact HSJ.out | exact HSI.out))))))
                  refine wpQuiet_nil ?_
                  rintro _ ⟨⟨w1, hk⟩, rfl⟩
                  clear L0 L1 L2 L3 M0 M1 M2 M3
                  go_wp2_with fail
                  go_roundw
                  case rel => exact ⟨i + 1 + 1, by omega, by go_num, H3.out, hbw.trans (hk.mono hbw.size)⟩
                  case measure => simp [intOf]; omega
          · have HG : Hid (factsErr ps f = 0) := by show _ = _; rw [HE.out, if_pos (by obtain rfl : j = f.length := (by omega); exact hgo)]
            clear hgo HE HF
            go_wp2_with fail
            go_ret
            exact ⟨ret_int HG.out.symm, hbw⟩
end Go.Proofs.YtlfccloaoopadafGreatDoor.Base

/-
  What the document's own 'FindOf' answers.
-/
namespace Go.Proofs.YtlfccloaoopadafGreatDoor.Base
open Go.ChangeShapes Go.WideShapes Go.ChangeAt Go.RowKit
open Lat (within within_c)
open Rule (factFine factFine_c isPred kindOf arityOf isPred_iff)

theorem factsErr_zero {ps : List Prd} {f : List Fct} (h : factsErr ps f = 0) : ps.length ≤ 5 ∧ predsOk ps = true ∧ goodTo ps f f.length = true := by
  unfold factsErr at h
  split at h
  · omega
  · split at h
    · omega
    · split at h
      · rename_i h1 h2 h3
        exact ⟨by omega, by simpa using h2, h3⟩
      · omega
theorem factsErr_is (ps : List Prd) (f : List Fct) : factsErr ps f = 0 ∨ factsErr ps f = 1 ∨ factsErr ps f = 2 := by
  unfold factsErr
  split
  · exact .inr (.inr rfl)
  · split
    · exact .inr (.inr rfl)
    · split
      · exact .inl rfl
      · exact .inr (.inl rfl)
theorem facts_fine {ps : List Prd} {f : List Fct} (h : factsErr ps f = 0) : ∀ y ∈ f, factFine ps y = true := by
  obtain ⟨_, _, h3⟩ := factsErr_zero h
  intro y hy
  obtain ⟨i, hi, rfl⟩ := List.getElem_of_mem hy
  have := List.all_eq_true.1 h3 i (List.mem_range.2 hi)
  simp only [goodAt, nth_eq hi, Bool.and_eq_true] at this
  exact this.1
theorem facts_small {ps : List Prd} {f : List Fct} (h : factsErr ps f = 0) : ∀ y ∈ f, Small y := fun y hy => fine_small (factsErr_zero h).1 (facts_fine h y hy)

theorem fine_of {ps : List Prd} {x : Fct} (h : factFine ps x = true) : Fine ps.length (kindOf ps) x := by
  simp only [factFine, Bool.and_eq_true] at h
  obtain ⟨h1, h2, h3, _, _, h6⟩ := h
  obtain ⟨k, hk, he⟩ := isPred_iff.1 h1
  have g2 : 0 ≤ x.a ∧ x.a ≤ 4 := by simpa [within] using h2
  have g3 : 0 ≤ x.b ∧ x.b ≤ 4 := by simpa [within] using h3
  exact ⟨by omega, by omega, g2.1, g2.2, g3.1, g3.2, by simpa using h6⟩
theorem good_adj {ps : List Prd} {f : List Fct} (h : goodTo ps f f.length = true) (i : Nat) (hi : i + 1 < f.length) : place f[i] < place f[i + 1] := by
  have := List.all_eq_true.1 h (i + 1) (List.mem_range.2 hi)
  simp only [goodAt, Bool.and_eq_true, Nat.add_sub_cancel, nth_eq hi, nth_eq (show i < f.length by omega)] at this
  simpa using this.2
theorem good_lt {ps : List Prd} {f : List Fct} (h : goodTo ps f f.length = true) (i : Nat) : ∀ (d : Nat) (hi : i + d + 1 < f.length), place (f[i]'(by omega)) < place f[i + d + 1] := by
  intro d
  induction d with
  | zero => intro hi; exact good_adj h i hi
  | succ d ih => intro hi; exact Int.lt_trans (ih (by omega)) (good_adj h (i + d + 1) hi)
/-- facts that the document calls right, as plain facts -/
theorem right_of {ps : List Prd} {f : List Fct} (h : factsErr ps f = 0) : Right ps.length (kindOf ps) f := by
  refine ⟨?_, fun x hx => fine_of (facts_fine h x hx)⟩
  rw [Sorted, List.pairwise_iff_getElem]
  intro i j hi hj hij
  obtain ⟨d, rfl⟩ : ∃ d, j = i + d + 1 := ⟨j - i - 1, by omega⟩
  exact good_lt (factsErr_zero h).2.2 i d hj

/-- D2 -/
def findOf (ps : List Prd) (f : List Fct) (x : Fct) : Int × Bool × Int :=
  if factsErr ps f ≠ 0 then (0, false, factsErr ps f) else if factFine ps x = false then (0, false, 1) else (findTo f (place x), (get f (place x)).isSome, 0)

theorem ret_find {n n' : Int} {b b' : Bool} {e e' : Int} (h : (n, b, e) = (n', b', e')) : Ending.returned (.tuple #[.int .i64 n, .bool b, .int .i64 e]) = .returned (.tuple #[.int .i64 n', .bool b', .int .i64 e']) := by cases h; rfl
theorem four_last {w w1 : World} {p a b v : Int} {t : Nat} (h : Below (w.alloc (.cells #[.int .i64 p, .int .i64 a, .int .i64 b, .int .i64 v] t)).heap.size (w.alloc (.cells #[.int .i64 p, .int .i64 a, .int .i64 b, .int .i64 v] t)) w1) :
    w1.cell? ⟨w.heap.size, 0, none⟩ = some (.int .i64 p) ∧ w1.cell? ⟨w.heap.size, 1, none⟩ = some (.int .i64 a) ∧ w1.cell? ⟨w.heap.size, 2, none⟩ = some (.int .i64 b) ∧ w1.cell? ⟨w.heap.size, 3, none⟩ = some (.int .i64 v) := by
  refine ⟨?_, ?_, ?_, ?_⟩ <;> (rw [h.cell (by simp)]; simp [go_sem])

end Go.Proofs.YtlfccloaoopadafGreatDoor.Base

/-
  The use of a rule, in plain words: when its body holds, and which fact follows.
-/
namespace Go.Proofs.YtlfccloaoopadafGreatDoor.Fire
open Lat (within lift err)
open Rule (Vars groundOk groundErr argAt groundTo termOk isPred kindOf arityOf atomErr ruleErr factFine isPred_iff)
open Base (place get findTo factsErr predsOk predOk findOf Small)
open Prog (progErr)

def consts (v : Vars) : Bool := within v.x 0 4 && (within v.y 0 4 && within v.z 0 4)
def atomF (v : Vars) (a : Atm) : Fct := groundTo v a.pred a.args
def there (f : List Fct) (v : Vars) (l : Ltr) : Bool := (get f (place (atomF v l.atom))).isSome
def litOk (f : List Fct) (v : Vars) (l : Ltr) : Bool := there f v l != l.neg
def bodyOk (f : List Fct) (v : Vars) (ls : List Ltr) : Bool := ls.all (litOk f v)
def valueAt (ps : List Prd) (f : List Fct) (r : Rul) (v : Vars) (k : Nat) : Int := lift (kindOf ps r.head.pred) (findTo f (place (atomF v ((r.body[k]?.map Ltr.atom).getD ⟨0, []⟩)))) r.n
/-- the value of the fact that follows, the literals ahead of k being looked at -/
def valTo (ps : List Prd) (f : List Fct) (r : Rul) (v : Vars) (k : Nat) : Int := if 0 ≤ r.src ∧ r.src < (k : Int) then valueAt ps f r v r.src.toNat else r.n
def headF (ps : List Prd) (f : List Fct) (r : Rul) (v : Vars) : Fct := ⟨r.head.pred, argAt v r.head.args 0, argAt v r.head.args 1, valTo ps f r v r.body.length⟩
/-- E1, of right ones -/
def holdsF (ps : List Prd) (f : List Fct) (r : Rul) (v : Vars) : Fct := if bodyOk f v r.body then headF ps f r v else ⟨0, 0, 0, 0⟩
def fireErr (ps : List Prd) (rs : List Rul) (f : List Fct) (n : Int) : Int := if progErr ps rs ≠ 0 then progErr ps rs else if factsErr ps f ≠ 0 then factsErr ps f else if 0 ≤ n ∧ n < (rs.length : Int) then 0 else 7
def holdsErr (ps : List Prd) (rs : List Rul) (f : List Fct) (n : Int) (v : Vars) : Int := if fireErr ps rs f n ≠ 0 then fireErr ps rs f n else if consts v then 0 else 3

theorem within_iff {n a b : Int} : within n a b = true ↔ a ≤ n ∧ n ≤ b := by unfold within; simp
theorem consts_at {v : Vars} (h : consts v = true) (n : Int) : within (v.at n) 0 4 = true := by
  unfold consts at h
  rw [Bool.and_eq_true, Bool.and_eq_true] at h
  unfold Vars.at
  split
  · exact h.1
  · split
    · exact h.2.1
    · exact h.2.2
theorem pred_ok {ps : List Prd} (h : predsOk ps = true) {p : Int} (hp : isPred ps p = true) : within (kindOf ps p) 0 3 = true ∧ within (arityOf ps p) 0 2 = true := by
  obtain ⟨k, hk, rfl⟩ := isPred_iff.1 hp
  have := List.all_eq_true.1 h ps[k] (List.getElem_mem hk)
  unfold predOk at this
  rw [Bool.and_eq_true] at this
  unfold kindOf arityOf
  rw [Int.toNat_natCast, List.getElem?_eq_getElem hk]
  exact this
/-- a right atom, its variables standing for constants, is a fact that may be asked for -/
theorem atom_ground {ps : List Prd} {a : Atm} {v : Vars} (h : atomErr ps a = 0) (hp : predsOk ps = true) (hv : consts v = true) : groundErr v a.args = 0 ∧ factFine ps (atomF v a) = true := by
  unfold atomErr at h
  split at h
  · rename_i h1
    split at h
    · rename_i h2
      obtain ⟨q1, q2⟩ := pred_ok hp h1
      have q2' := within_iff.1 q2
      have ht : a.args.all termOk = true := by
        unfold Rule.argsErr at h
        split at h
        · assumption
        · cases h
      have hval : ∀ t ∈ a.args, within (Rule.valOf v t) 0 4 = true := fun t htm => by
        have := List.all_eq_true.1 ht t htm
        unfold termOk at this
        unfold Rule.valOf
        split
        · exact consts_at hv _
        · rename_i hn
          rw [if_neg hn] at this
          exact this
      have hg : groundErr v a.args = 0 := by
        unfold groundErr
        rw [if_neg (by omega), if_pos (List.all_eq_true.2 fun t htm => by unfold groundOk; rw [List.all_eq_true.1 ht t htm, hval t htm]; rfl)]
      have harg : ∀ i, within (argAt v a.args i) 0 4 = true := fun i => by
        unfold argAt
        cases e : a.args[i]? with
        | none => rfl
        | some t => exact hval t (List.mem_of_getElem? e)
      have h0 : (decide (1 ≤ arityOf ps a.pred) || argAt v a.args 0 == 0) = true := by
        by_cases e : 1 ≤ arityOf ps a.pred
        · rw [decide_eq_true e, Bool.true_or]
        · have : argAt v a.args 0 = 0 := by unfold argAt; rw [List.getElem?_eq_none (by omega)]; rfl
          rw [this]; simp
      have h3 : (decide (2 ≤ arityOf ps a.pred) || argAt v a.args 1 == 0) = true := by
        by_cases e : 2 ≤ arityOf ps a.pred
        · rw [decide_eq_true e, Bool.true_or]
        · have : argAt v a.args 1 = 0 := by unfold argAt; rw [List.getElem?_eq_none (by omega)]; rfl
          rw [this]; simp
      have h4 : err (kindOf ps a.pred) 0 = 0 := by
        have := within_iff.1 q1
        obtain e | e | e | e : kindOf ps a.pred = 0 ∨ kindOf ps a.pred = 1 ∨ kindOf ps a.pred = 2 ∨ kindOf ps a.pred = 3 := by omega
        all_goals rw [e]; rfl
      refine ⟨hg, ?_⟩
      show (isPred ps a.pred && (within (argAt v a.args 0) 0 4 && (within (argAt v a.args 1) 0 4 && ((decide (1 ≤ arityOf ps a.pred) || argAt v a.args 0 == 0) && ((decide (2 ≤ arityOf ps a.pred) || argAt v a.args 1 == 0) && err (kindOf ps a.pred) 0 == 0))))) = true
      rw [h1, harg 0, harg 1, h0, h3, h4]
      rfl
    · cases h
  · cases h
theorem rule_parts {ps : List Prd} {r : Rul} (h : ruleErr ps r = 0) : atomErr ps r.head = 0 ∧ (∀ l ∈ r.body, atomErr ps l.atom = 0) ∧ -1 ≤ r.src ∧ r.src < (r.body.length : Int) ∧ 0 ≤ r.n ∧ r.n ≤ 15 ∧ r.body.length ≤ 3 := by
  rw [ruleErr] at h
  split at h
  · contradiction
  · rename_i h1
    split at h
    · contradiction
    · rename_i h2
      split at h
      · contradiction
      · rename_i h3
        split at h
        · contradiction
        · unfold Rule.valueErr at h
          split at h
          · contradiction
          · rename_i h4
            split at h
            · contradiction
            · split at h
              · contradiction
              · split at h
                · contradiction
                · rename_i h5
                  exact ⟨Classical.not_not.1 h1, Prog.body_all (Classical.not_not.1 h3), by omega, by omega, by omega, by omega, by omega⟩
theorem find_range {ps : List Prd} {f : List Fct} (h : factsErr ps f = 0) (pl : Int) : 0 ≤ findTo f pl ∧ findTo f pl ≤ 15 := by
  have hf := Base.facts_fine h
  unfold findTo
  clear h
  induction f with
  | nil => rw [Base.get_nil]; exact ⟨by decide, by decide⟩
  | cons y f ih =>
    rw [Base.get_cons]
    split
    · have := hf y (by simp)
      unfold factFine at this
      simp only [Bool.and_eq_true, beq_iff_eq] at this
      have := Lat.err_ok this.2.2.2.2.2
      exact ⟨this.2.1, this.2.2⟩
    · exact ih fun z hz => hf z (by simp [hz])
theorem valTo_at {ps : List Prd} {f : List Fct} {r : Rul} {v : Vars} {k : Nat} (h : k < r.body.length) : valTo ps f r v (k + 1) = if (k : Int) = r.src then lift (kindOf ps r.head.pred) (findTo f (place (atomF v r.body[k].atom))) r.n else valTo ps f r v k := by
  unfold valTo
  by_cases e : (k : Int) = r.src
  · rw [if_pos e, if_pos (by omega), valueAt, ← e, Int.toNat_natCast, List.getElem?_eq_getElem h]
    rfl
  · rw [if_neg e]
    by_cases e2 : 0 ≤ r.src ∧ r.src < (k : Int)
    · rw [if_pos (by omega), if_pos e2]
    · rw [if_neg (by omega), if_neg e2]
theorem valTo_zero (ps : List Prd) (f : List Fct) (r : Rul) (v : Vars) : valTo ps f r v 0 = r.n := by
  unfold valTo
  rw [if_neg (by omega)]
end Go.Proofs.YtlfccloaoopadafGreatDoor.Fire

/-
  Package base, its small parts: how two facts are ordered, and whether a fact is right.
-/
namespace Go.Proofs.YtlfccloaoopadafGreatDoor.Base
open Go.ChangeShapes Go.WideShapes Go.ChangeAt Go.RowKit
open Lat (within within_c)
open Rule (factFine factFine_c isPred kindOf arityOf isPred_iff)

/-- name this world by what is known of it -/
theorem wp_called {P : Program} {c : Code} {Q : Exit → Act → World → Prop} {a : Act} {W : World} (F : World → Prop) (hF : F W) (h : ∀ W0, F W0 → Code.wp P c Q a W0) : Code.wp P c Q a W := h W hF

def cmpI (x y : Int) : Int := if x < y then -1 else if y < x then 1 else 0
def first (x y z : Int) : Int := if x ≠ 0 then x else if y ≠ 0 then y else z
def cmpF (x y : Fct) : Int := first (cmpI x.pred y.pred) (cmpI x.a y.a) (cmpI x.b y.b)

theorem cmpF_spec {x y : Fct} (hx : Small x) (hy : Small y) : (cmpF x y < 0 ↔ place x < place y) ∧ (cmpF x y = 0 ↔ place x = place y) := by
  obtain ⟨_, _, _, _, _, _⟩ := hx
  obtain ⟨_, _, _, _, _, _⟩ := hy
  unfold cmpF first cmpI place
  by_cases h1 : x.pred < y.pred
  · simp only [h1, if_true]
    simp
    omega
  · by_cases h2 : y.pred < x.pred
    · simp only [h1, h2, if_true, if_false]
      simp
      omega
    · simp only [h1, h2, if_false]
      by_cases h3 : x.a < y.a
      · simp only [h3, if_true]
        simp
        omega
      · by_cases h4 : y.a < x.a
        · simp only [h3, h4, if_true, if_false]
          simp
          omega
        · simp only [h3, h4, if_false]
          by_cases h5 : x.b < y.b
          · simp only [h5, if_true]
            simp
            omega
          · by_cases h6 : y.b < x.b
            · simp only [h5, h6, if_true, if_false]
              simp
              omega
            · simp only [h5, h6, if_false]
              simp
              omega

theorem isNaN_c (x : Int) (w : World) : Calls Tryz.prog 111 #[.int .i64 x] w fun e w' => e = .returned (.bool false) ∧ w' = w := by
  go_enter Tryz.func111, Tryz.ntmps111
  go_wp2
  go_ret
  simp

theorem compare_c (x y : Int) (w : World) : Calls Tryz.prog 95 #[.int .i64 x, .int .i64 y] w fun e w' => e = .returned (.int .i64 (cmpI x y)) ∧ w' = w := by
  unfold cmpI
  by_cases h1 : x < y
  · rw [if_pos h1]
    go_enter Tryz.func95, Tryz.ntmps95
    go_wp2_with (go_at_call 111; refine (isNaN_c _ _).mono ?_; rintro e w' ⟨rfl, rfl⟩)
    go_ret
    exact ⟨rfl, rfl⟩
  · rw [if_neg h1]
    by_cases h2 : y < x
    · rw [if_pos h2]
      go_enter Tryz.func95, Tryz.ntmps95
      go_wp2_with (go_at_call 111; refine (isNaN_c _ _).mono ?_; rintro e w' ⟨rfl, rfl⟩)
      go_ret
      exact ⟨rfl, rfl⟩
    · rw [if_neg h2]
      go_enter Tryz.func95, Tryz.ntmps95
      go_wp2_with (go_at_call 111; refine (isNaN_c _ _).mono ?_; rintro e w' ⟨rfl, rfl⟩)
      go_ret
      exact ⟨rfl, rfl⟩

theorem or_c (w : World) (b : Nat) (x y z : Int) (h0 : w.cell? ⟨b, 0, none⟩ = some (.int .i64 x)) (h1 : w.cell? ⟨b, 1, none⟩ = some (.int .i64 y)) (h2 : w.cell? ⟨b, 2, none⟩ = some (.int .i64 z)) :
    Calls Tryz.prog 94 #[.slice (some ⟨b, 0, none⟩) 3 3] w fun e w' => e = .returned (.int .i64 (first x y z)) ∧ w' = w := by
  go_enter Tryz.func94, Tryz.ntmps94
  go_wp2_with fail
  go_loop [8] (fun i => ∃ k : Nat, k ≤ 3 ∧ i = .int .i64 k ∧ (0 < k → x = 0) ∧ (1 < k → y = 0) ∧ (2 < k → z = 0)) (fun i => 3 - (intOf i).toNat)
  case atStart => exact ⟨0, by omega, rfl, by omega, by omega, by omega⟩
  case round =>
    obtain ⟨k, hk, rfl, k0, k1, k2⟩ := hrel
    have HK0 : Hid (0 < k → x = 0) := k0
    have HK1 : Hid (1 < k → y = 0) := k1
    have HK2 : Hid (2 < k → z = 0) := k2
    clear k0 k1 k2
    rcases (show k = 0 ∨ k = 1 ∨ k = 2 ∨ k = 3 by omega) with rfl | rfl | rfl | rfl
    · by_cases hx : x = 0
      · have hx' : (x == 0) = true := by simpa using hx
        have HX : Hid (x = 0) := hx
        clear hx
        go_wp2_with fail
        go_round
        case rel => exact ⟨1, by omega, by go_num, fun _ => HX.out, by omega, by omega⟩
        case measure => simp [intOf]
      · have HX : Hid (x ≠ 0) := hx
        go_wp2_with fail
        go_ret
        exact ⟨by rw [first, if_pos HX.out]; rfl, rfl⟩
    · have HX : Hid (x = 0) := HK0.out (by omega)
      by_cases hy : y = 0
      · have hy' : (y == 0) = true := by simpa using hy
        have HY : Hid (y = 0) := hy
        clear hy
        go_wp2_with fail
        go_round
        case rel => exact ⟨2, by omega, by go_num, fun _ => HX.out, fun _ => HY.out, by omega⟩
        case measure => simp [intOf]
      · have HY : Hid (y ≠ 0) := hy
        go_wp2_with fail
        go_ret
        exact ⟨by rw [first, if_neg (by simp [HX.out]), if_pos HY.out]; rfl, rfl⟩
    · have HX : Hid (x = 0) := HK0.out (by omega)
      have HY : Hid (y = 0) := HK1.out (by omega)
      by_cases hz : z = 0
      · have hz' : (z == 0) = true := by simpa using hz
        have HZ : Hid (z = 0) := hz
        clear hz
        go_wp2_with fail
        go_round
        case rel => exact ⟨3, by omega, by go_num, fun _ => HX.out, fun _ => HY.out, fun _ => HZ.out⟩
        case measure => simp [intOf]
      · have HZ : Hid (z ≠ 0) := hz
        go_wp2_with fail
        go_ret
        exact ⟨by rw [first, if_neg (by simp [HX.out]), if_neg (by simp [HY.out])]; rfl, rfl⟩
    · go_wp2_with fail
      go_ret
      exact ⟨by rw [first, if_neg (by simp [HK0.out]), if_neg (by simp [HK1.out]), HK2.out (by omega)]; rfl, rfl⟩

/-- has a fact such an argument? -/
theorem isArg_c (has : Bool) (n : Int) (w : World) : Calls Tryz.prog 93 #[.bool has, .int .i64 n] w fun e w' => e = .returned (.bool (within n 0 4 && (has || n == 0))) ∧ w' = w := by
  by_cases h0 : n = 0
  · subst h0
    go_enter Tryz.func93, Tryz.ntmps93
    go_wp2_with fail
    go_ret
    simp [within]
  · have h0' : (n == 0) = false := by simpa using h0
    cases has
    · go_enter Tryz.func93, Tryz.ntmps93
      go_wp2_with fail
      go_ret
      simp [h0]
    · by_cases h1 : 0 < n
      · by_cases h2 : n ≤ 4
        · have e : (within n 0 4 && (true || n == 0)) = true := by simp [within]; omega
          rw [e]
          go_enter Tryz.func93, Tryz.ntmps93
          go_wp2_with fail
          go_ret
          exact ⟨rfl, rfl⟩
        · have e : (within n 0 4 && (true || n == 0)) = false := by simp [within]; omega
          rw [e]
          go_enter Tryz.func93, Tryz.ntmps93
          go_wp2_with fail
          go_ret
          exact ⟨rfl, rfl⟩
      · have e : (within n 0 4 && (true || n == 0)) = false := by simp [within]; omega
        rw [e]
        go_enter Tryz.func93, Tryz.ntmps93
        go_wp2_with fail
        go_ret
        exact ⟨rfl, rfl⟩
end Go.Proofs.YtlfccloaoopadafGreatDoor.Base

/-
  Package base: how two facts are ordered; whether a fact is right.
-/
namespace Go.Proofs.YtlfccloaoopadafGreatDoor.Base
open Go.ChangeShapes Go.WideShapes Go.ChangeAt Go.RowKit
open Lat (within within_c)
open Rule (factFine factFine_c isPred kindOf arityOf isPred_iff)

set_option maxRecDepth 100000 in
set_option maxHeartbeats 4000000 in
theorem order_c (p a b v q c d u : Int) (w : World) : Calls Tryz.prog 72 #[.agg #[.int .i64 p, .int .i64 a, .int .i64 b, .int .i64 v], .agg #[.int .i64 q, .int .i64 c, .int .i64 d, .int .i64 u]] w fun e w' => e = .returned (.int .i64 (cmpF ⟨p, a, b, v⟩ ⟨q, c, d, u⟩)) ∧ Below w.heap.size w w' := by
  go_enter Tryz.func72, Tryz.ntmps72
  go_wp2_with fail
  refine wp_called (fun w' => Below w.heap.size w w' ∧ w.heap.size + 2 = w'.heap.size ∧ w'.cell? ⟨w.heap.size, 0, none⟩ = some (.int .i64 p) ∧ w'.cell? ⟨w.heap.size, 1, none⟩ = some (.int .i64 a) ∧ w'.cell? ⟨w.heap.size, 2, none⟩ = some (.int .i64 b) ∧ w'.cell? ⟨w.heap.size + 1, 0, none⟩ = some (.int .i64 q) ∧ w'.cell? ⟨w.heap.size + 1, 1, none⟩ = some (.int .i64 c) ∧ w'.cell? ⟨w.heap.size + 1, 2, none⟩ = some (.int .i64 d)) ⟨(below_alloc _ _).alloc (by simp) _, by simp, by simp [go_sem], by simp [go_sem], by simp [go_sem], by simp [go_sem], by simp [go_sem], by simp [go_sem]⟩ ?_
  rintro W0 ⟨hb0, hs, d0, d1, d2, d3, d4, d5⟩
  have s1 : w.heap.size < W0.heap.size := by omega
  have s2 : w.heap.size + 1 < W0.heap.size := by omega
  have KEEP : Hid (∀ w', Below W0.heap.size W0 w' → (fun w' => Below W0.heap.size W0 w' ∧ w'.cell? ⟨w.heap.size, 0, none⟩ = some (.int .i64 p) ∧ w'.cell? ⟨w.heap.size, 1, none⟩ = some (.int .i64 a) ∧ w'.cell? ⟨w.heap.size, 2, none⟩ = some (.int .i64 b) ∧ w'.cell? ⟨w.heap.size + 1, 0, none⟩ = some (.int .i64 q) ∧ w'.cell? ⟨w.heap.size + 1, 1, none⟩ = some (.int .i64 c) ∧ w'.cell? ⟨w.heap.size + 1, 2, none⟩ = some (.int .i64 d)) w') :=
    fun w' hq => ⟨hq, (cell_lasts hq s1).trans d0, (cell_lasts hq s1).trans d1, (cell_lasts hq s1).trans d2, (cell_lasts hq s2).trans d3, (cell_lasts hq s2).trans d4, (cell_lasts hq s2).trans d5⟩
  clear hs
  go_region_held3 (fun w' => Below W0.heap.size W0 w' ∧ w'.cell? ⟨w.heap.size, 0, none⟩ = some (.int .i64 p) ∧ w'.cell? ⟨w.heap.size, 1, none⟩ = some (.int .i64 a) ∧ w'.cell? ⟨w.heap.size, 2, none⟩ = some (.int .i64 b) ∧ w'.cell? ⟨w.heap.size + 1, 0, none⟩ = some (.int .i64 q) ∧ w'.cell? ⟨w.heap.size + 1, 1, none⟩ = some (.int .i64 c) ∧ w'.cell? ⟨w.heap.size + 1, 2, none⟩ = some (.int .i64 d))
    ((refine KEEP.out _ ?_; (first | exact Below.refl _ _ | exact (Below.refl _ _).drew | exact hk | exact hk.drew | exact hk.alloc hk.size _ | exact (hk.alloc hk.size _).drew | exact hk.drew.alloc hk.size _)))
    (first
      | (go_at_call 95; refine (compare_c _ _ _).mono ?_; rintro e w4 ⟨rfl, hw4⟩; have hk : Below W0.heap.size W0 w4 := (by rw [hw4]; (first | exact Below.refl _ _ | exact (Below.refl _ _).drew | exact hk | exact hk.drew)); clear hw4)
      | (go_at_call 94; refine (or_c _ _ (cmpI p q) (cmpI a c) (cmpI b d) (by simp [go_sem]) (by simp [go_sem]) (by simp [go_sem])).mono ?_; rintro e w5 ⟨rfl, hw5⟩; have hk : Below W0.heap.size W0 w5 := (by rw [hw5]; (first | exact hk.alloc hk.size _ | exact (hk.alloc hk.size _).drew | exact hk.drew.alloc hk.size _)); clear hw5))
  clear KEEP
  go_wp2_with fail
  go_ret
  exact ⟨rfl, hb0.trans (hk.mono hb0.size)⟩

def isArgB (has : Bool) (n : Int) : Bool := within n 0 4 && (has || n == 0)
theorem isArg_is (has : Bool) (n : Int) (r : Bool) (w : World) (h : isArgB has n = r) : Calls Tryz.prog 93 #[.bool has, .int .i64 n] w fun e w' => e = .returned (.bool r) ∧ w' = w := h ▸ isArg_c has n w

theorem fine_parts {ps : List Prd} {k : Nat} (hk : k < ps.length) (a b v : Int) : factFine ps ⟨(k : Int), a, b, v⟩ = (isArgB (decide (0 < ps[k].arity)) a && (isArgB (decide (1 < ps[k].arity)) b && Lat.err ps[k].kind v == 0)) := by
  have h1 : isPred ps (k : Int) = true := isPred_iff.2 ⟨k, hk, rfl⟩
  have har : arityOf ps (k : Int) = ps[k].arity := by simp [arityOf, hk]
  have hki : kindOf ps (k : Int) = ps[k].kind := by simp [kindOf, hk]
  simp only [factFine, h1, har, hki, Bool.true_and, isArgB]
  rw [show decide (1 ≤ ps[k].arity) = decide (0 < ps[k].arity) from decide_eq_decide.2 (by omega), show decide (2 ≤ ps[k].arity) = decide (1 < ps[k].arity) from decide_eq_decide.2 (by omega)]
  cases within a 0 4 <;> cases within b 0 4 <;> cases (decide (0 < ps[k].arity) || a == 0) <;> simp

set_option maxRecDepth 100000 in
set_option maxHeartbeats 4000000 in
theorem isRight_c (w : World) (pv : Value) (ps : List Prd) (p a b v : Int) (h : predsAt w pv ps) :
    Calls Tryz.prog 71 #[pv, .agg #[.int .i64 p, .int .i64 a, .int .i64 b, .int .i64 v]] w fun e w' => e = .returned (.bool (factFine ps ⟨p, a, b, v⟩)) ∧ Below w.heap.size w w' := by
  obtain ⟨pa, cap, rfl, hm, hx⟩ := h
  cases h1 : isPred ps p
  · have e : factFine ps ⟨p, a, b, v⟩ = false := by simp [factFine, h1]
    rw [e]
    clear e hx
    by_cases hp : p < 0
    · clear h1
      go_enter Tryz.func71, Tryz.ntmps71
      go_wp2_with fail
      go_ret
      exact ⟨rfl, below_alloc _ _⟩
    · have hp2 : (ps.length : Int) ≤ p := by
        refine Classical.byContradiction fun hc => ?_
        have := isPred_iff.2 (⟨p.toNat, by omega, by show p = _; omega⟩ : ∃ k : Nat, k < ps.length ∧ p = (k : Int))
        rw [h1] at this
        cases this
      clear h1
      go_enter Tryz.func71, Tryz.ntmps71
      go_wp2_with fail
      go_ret
      exact ⟨rfl, below_alloc _ _⟩
  · obtain ⟨k, hk, rfl⟩ := isPred_iff.1 h1
    obtain ⟨bb, off, rfl, hbl, hx⟩ := hx.resolve_left (by rintro rfl; simp at hk)
    obtain ⟨hc0, hc1, hc2⟩ := hx k ps[k] (by simp [hk])
    rw [fine_parts hk]
    have hk0 : (0 : Int) ≤ (k : Int) := by omega
    have hk1 : (k : Int) < (ps.length : Int) := by omega
    have hk2 : ¬ (k : Int) < 0 := by omega
    have hk3 : ¬ (ps.length : Int) ≤ (k : Int) := by omega
    clear hx h1
    generalize ps[k] = qq at *
    obtain ⟨qn, qa, qk⟩ := qq
    dsimp only at hc0 hc1 hc2 ⊢
    clear hx
    by_cases g1 : 0 < qa
    · have g1' : decide (0 < qa) = true := by simpa using g1
      rw [g1']
      by_cases g2 : 1 < qa
      · have g2' : decide (1 < qa) = true := by simpa using g2
        rw [g2']
        cases r1 : isArgB true a
        · rw [Bool.false_and]
          go_enter Tryz.func71, Tryz.ntmps71
          go_wp2_with (first | (go_at_call 93; refine (isArg_is _ _ _ _ (by assumption)).mono ?_; rintro e w' ⟨rfl, rfl⟩) | (go_at_call 69; refine (Lat.check_c _ _ _).mono ?_; rintro e w' ⟨rfl, rfl⟩))
          go_ret
          exact ⟨rfl, (below_alloc _ _).alloc (by simp) _⟩
        · cases r2 : isArgB true b
          · rw [Bool.false_and, Bool.and_false]
            go_enter Tryz.func71, Tryz.ntmps71
            go_wp2_with (first | (go_at_call 93; refine (isArg_is _ _ _ _ (by assumption)).mono ?_; rintro e w' ⟨rfl, rfl⟩) | (go_at_call 69; refine (Lat.check_c _ _ _).mono ?_; rintro e w' ⟨rfl, rfl⟩))
            go_ret
            exact ⟨rfl, (below_alloc _ _).alloc (by simp) _⟩
          · cases g5 : (Lat.err qk v == 0)
            all_goals
              rw [Bool.true_and, Bool.true_and]
              go_enter Tryz.func71, Tryz.ntmps71
              go_wp2_with (first | (go_at_call 93; refine (isArg_is _ _ _ _ (by assumption)).mono ?_; rintro e w' ⟨rfl, rfl⟩) | (go_at_call 69; refine (Lat.check_c _ _ _).mono ?_; rintro e w' ⟨rfl, rfl⟩))
              go_ret
              exact ⟨rfl, (below_alloc _ _).alloc (by simp) _⟩
      · have g2' : decide (1 < qa) = false := by simpa using g2
        rw [g2']
        cases r1 : isArgB true a
        · rw [Bool.false_and]
          go_enter Tryz.func71, Tryz.ntmps71
          go_wp2_with (first | (go_at_call 93; refine (isArg_is _ _ _ _ (by assumption)).mono ?_; rintro e w' ⟨rfl, rfl⟩) | (go_at_call 69; refine (Lat.check_c _ _ _).mono ?_; rintro e w' ⟨rfl, rfl⟩))
          go_ret
          exact ⟨rfl, (below_alloc _ _).alloc (by simp) _⟩
        · cases r2 : isArgB false b
          · rw [Bool.false_and, Bool.and_false]
            go_enter Tryz.func71, Tryz.ntmps71
            go_wp2_with (first | (go_at_call 93; refine (isArg_is _ _ _ _ (by assumption)).mono ?_; rintro e w' ⟨rfl, rfl⟩) | (go_at_call 69; refine (Lat.check_c _ _ _).mono ?_; rintro e w' ⟨rfl, rfl⟩))
            go_ret
            exact ⟨rfl, (below_alloc _ _).alloc (by simp) _⟩
          · cases g5 : (Lat.err qk v == 0)
            all_goals
              rw [Bool.true_and, Bool.true_and]
              go_enter Tryz.func71, Tryz.ntmps71
              go_wp2_with (first | (go_at_call 93; refine (isArg_is _ _ _ _ (by assumption)).mono ?_; rintro e w' ⟨rfl, rfl⟩) | (go_at_call 69; refine (Lat.check_c _ _ _).mono ?_; rintro e w' ⟨rfl, rfl⟩))
              go_ret
              exact ⟨rfl, (below_alloc _ _).alloc (by simp) _⟩
    · have g1' : decide (0 < qa) = false := by simpa using g1
      have g2 : ¬ 1 < qa := by omega
      have g2' : decide (1 < qa) = false := by simpa using g2
      rw [g1', g2']
      cases r1 : isArgB false a
      · rw [Bool.false_and]
        go_enter Tryz.func71, Tryz.ntmps71
        go_wp2_with (first | (go_at_call 93; refine (isArg_is _ _ _ _ (by assumption)).mono ?_; rintro e w' ⟨rfl, rfl⟩) | (go_at_call 69; refine (Lat.check_c _ _ _).mono ?_; rintro e w' ⟨rfl, rfl⟩))
        go_ret
        exact ⟨rfl, (below_alloc _ _).alloc (by simp) _⟩
      · cases r2 : isArgB false b
        · rw [Bool.false_and, Bool.and_false]
          go_enter Tryz.func71, Tryz.ntmps71
          go_wp2_with (first | (go_at_call 93; refine (isArg_is _ _ _ _ (by assumption)).mono ?_; rintro e w' ⟨rfl, rfl⟩) | (go_at_call 69; refine (Lat.check_c _ _ _).mono ?_; rintro e w' ⟨rfl, rfl⟩))
          go_ret
          exact ⟨rfl, (below_alloc _ _).alloc (by simp) _⟩
        · cases g5 : (Lat.err qk v == 0)
          all_goals
            rw [Bool.true_and, Bool.true_and]
            go_enter Tryz.func71, Tryz.ntmps71
            go_wp2_with (first | (go_at_call 93; refine (isArg_is _ _ _ _ (by assumption)).mono ?_; rintro e w' ⟨rfl, rfl⟩) | (go_at_call 69; refine (Lat.check_c _ _ _).mono ?_; rintro e w' ⟨rfl, rfl⟩))
            go_ret
            exact ⟨rfl, (below_alloc _ _).alloc (by simp) _⟩
end Go.Proofs.YtlfccloaoopadafGreatDoor.Base

/-
  What the document's own 'under', 'UnderOf' and 'SameFacts' answer.
-/
namespace Go.Proofs.YtlfccloaoopadafGreatDoor.Base
open Go.ChangeShapes Go.WideShapes Go.ChangeAt Go.RowKit
open Lat (within within_c join)
open Rule (factFine factFine_c isPred kindOf arityOf isPred_iff)

theorem kind_four {ps : List Prd} (h : predsOk ps = true) {k : Nat} (hk : k < ps.length) : ps[k].kind = 0 ∨ ps[k].kind = 1 ∨ ps[k].kind = 2 ∨ ps[k].kind = 3 := by
  have := List.all_eq_true.1 h ps[k] (List.getElem_mem hk)
  simp only [predOk, within, Bool.and_eq_true, decide_eq_true_eq] at this
  omega
theorem kindOf_at {ps : List Prd} {k : Nat} (hk : k < ps.length) : kindOf ps (k : Int) = ps[k].kind := by simp [kindOf, hk]

/-- D2 -/
def underOf (ps : List Prd) (f g : List Fct) : Bool × Int := if factsErr ps f ≠ 0 then (false, factsErr ps f) else if factsErr ps g ≠ 0 then (false, factsErr ps g) else (under (kindOf ps) f g, 0)

end Go.Proofs.YtlfccloaoopadafGreatDoor.Base
