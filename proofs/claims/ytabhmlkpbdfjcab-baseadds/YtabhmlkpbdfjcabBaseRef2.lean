/-
  What the document's own check of facts answers.
-/
import Derived.Test.YtabhmlkpbdfjcabBaseRef
import Derived.Test.YtabhmlkpbdfjcabLow
namespace Go.Proofs.Ytabhmlkpbdfjcab.Base
open Go.ChangeShapes Go.WideShapes Go.ChangeAt Go.RowKit
open Lat (within within_c)
open Rule (factFine factFine_c isPred kindOf arityOf isPred_iff)

def predOk (p : Prd) : Bool := within p.kind 0 3 && within p.arity 0 2
def predsOk (ps : List Prd) : Bool := ps.all predOk
def nth (f : List Fct) (i : Nat) : Fct := f.getD i ⟨0, 0, 0, 0⟩
def goodAt (ps : List Prd) (f : List Fct) (i : Nat) : Bool := factFine ps (nth f i) && (i == 0 || decide (place (nth f (i - 1)) < place (nth f i)))
def goodTo (ps : List Prd) (f : List Fct) (k : Nat) : Bool := (List.range k).all (goodAt ps f)
/-- D1 -/
def factsErr (ps : List Prd) (f : List Fct) : Int := if 5 < ps.length then 2 else if predsOk ps = false then 2 else if goodTo ps f f.length then 0 else 1

theorem goodTo_succ (ps : List Prd) (f : List Fct) (k : Nat) : goodTo ps f (k + 1) = (goodTo ps f k && goodAt ps f k) := by simp [goodTo, List.range_succ]
theorem goodTo_not {ps : List Prd} {f : List Fct} {k : Nat} (hk : k < f.length) (h : goodAt ps f k = false) : goodTo ps f f.length = false := List.all_eq_false.2 ⟨k, List.mem_range.2 hk, by simp [h]⟩
theorem fine_small {ps : List Prd} {x : Fct} (h5 : ps.length ≤ 5) (h : factFine ps x = true) : Small x := by
  simp only [factFine, Bool.and_eq_true] at h
  obtain ⟨h1, h2, h3, _⟩ := h
  obtain ⟨k, hk, he⟩ := isPred_iff.1 h1
  have g2 : 0 ≤ x.a ∧ x.a ≤ 4 := by simpa [within] using h2
  have g3 : 0 ≤ x.b ∧ x.b ≤ 4 := by simpa [within] using h3
  exact ⟨by omega, by omega, g2.1, g2.2, g3.1, g3.2⟩
theorem hideS {x : Fct} (h : Small x) : Hid (Small x) := h
theorem nth_eq {f : List Fct} {j : Nat} (h : j < f.length) : nth f j = f[j] := by simp [nth, h]

set_option maxRecDepth 100000 in
set_option maxHeartbeats 8000000 in
theorem checkFacts_c (w : World) (pv fv : Value) (ps : List Prd) (f : List Fct) (hp : predsAt w pv ps) (hf : factsAt w fv f) :
    Calls Try.prog 25 #[pv, fv] w fun e w' => e = .returned (.int .i64 (factsErr ps f)) ∧ Below w.heap.size w w' := by
  have HP : Hid (∀ (w1 : World), Below w.heap.size w w1 → predsAt w1 pv ps) := fun w1 hb1 => predsAt.lasts hb1 hp
  have HF : Hid (factsAt w fv f) := hf
  obtain ⟨pa, pc, rfl, hpm, hpx⟩ := hp
  obtain ⟨fa, fc, rfl, hfm, _⟩ := hf
  have HPX : Hid (ps = [] ∨ ∃ b off, pa = some ⟨b, off, none⟩ ∧ b < w.heap.size ∧ ∀ i x, ps[i]? = some x → predAt w b (off + i * 3) x) := hpx
  clear hpx
  by_cases h5 : 5 < ps.length
  · have e : factsErr ps f = 2 := by rw [factsErr, if_pos h5]
    rw [e]
    have h5' : (5 : Int) < (ps.length : Int) := by omega
    go_enter Try.func25, Try.ntmps25
    go_wp2_with fail
    go_ret
    exact ⟨rfl, Below.refl _ _⟩
  · have h5' : ¬ (5 : Int) < (ps.length : Int) := by omega
    go_enter Try.func25, Try.ntmps25
    go_wp2_with fail
    go_loop [5] (fun i => ∃ k : Nat, k ≤ ps.length ∧ i = .int .i64 k ∧ (ps.take k).all predOk = true) (fun i => ps.length - (intOf i).toNat)
    case atStart => exact ⟨0, Nat.zero_le _, rfl, rfl⟩
    case round =>
      obtain ⟨k, hk, rfl, hall⟩ := hrel
      by_cases hlt : k < ps.length
      · obtain ⟨b, off, rfl, hbl, hx⟩ := HPX.out.resolve_left (by rintro rfl; simp at hlt)
        obtain ⟨hc0, hc1, hc2⟩ := hx k ps[k] (by simp [hlt])
        have H : Hid ((ps.take (k + 1)).all predOk = predOk ps[k]) := by show _ = _; rw [all_take hlt, hall, Bool.true_and]
        have H2 : Hid (predOk ps[k] = false → factsErr ps f = 2) := fun h => by rw [factsErr, if_neg h5, if_pos (show predsOk ps = false from all_not hlt h)]
        clear hx hall hc0
        generalize ps[k] = q at *
        obtain ⟨qn, qa, qk⟩ := q
        cases g1 : within qk 0 3
        · have H3 : Hid (factsErr ps f = 2) := H2.out (by simp only [predOk, g1, Bool.false_and])
          clear H H2
          go_wp2_with (go_at_call 35; refine (within_c _ _ _ _).mono ?_; rintro e w' ⟨rfl, rfl⟩)
          go_ret
          exact ⟨ret_int H3.out.symm, Below.refl _ _⟩
        · cases g2 : within qa 0 2
          · have H3 : Hid (factsErr ps f = 2) := H2.out (by simp only [predOk, g2, Bool.and_false])
            clear H H2
            go_wp2_with (go_at_call 35; refine (within_c _ _ _ _).mono ?_; rintro e w' ⟨rfl, rfl⟩)
            go_ret
            exact ⟨ret_int H3.out.symm, Below.refl _ _⟩
          · have H3 : Hid ((ps.take (k + 1)).all predOk = true) := by show _ = _; rw [H.out]; simp only [predOk, g1, g2]; rfl
            clear H H2
            go_wp2_with (go_at_call 35; refine (within_c _ _ _ _).mono ?_; rintro e w' ⟨rfl, rfl⟩)
            go_round
            case rel => exact ⟨k + 1, by omega, by go_num, H3.out⟩
            case measure => simp [intOf]; omega
      · have hpk : predsOk ps = true := all_take_end hlt hall
        have HE : Hid (factsErr ps f = if goodTo ps f f.length then 0 else 1) := by show _ = _; rw [factsErr, if_neg h5, if_neg (by rw [hpk]; simp)]
        clear hall hpk
        go_wp2_with fail
        clear hlt hk
        go_loopw [6] (fun i wr => ∃ j : Nat, j ≤ f.length ∧ i = .int .i64 j ∧ goodTo ps f j = true ∧ Below w.heap.size w wr) (fun i _ => f.length - (intOf i).toNat)
        case atStart => exact ⟨0, Nat.zero_le _, rfl, rfl, Below.refl _ _⟩
        case round =>
          obtain ⟨j, hj, rfl, hgo, hbw⟩ := hrel
          by_cases hlt : j < f.length
          · have H : Hid (goodTo ps f (j + 1) = goodAt ps f j) := by show _ = _; rw [goodTo_succ, hgo, Bool.true_and]
            have H2 : Hid (goodAt ps f j = false → factsErr ps f = 1) := fun h => by rw [HE.out, if_neg (by rw [goodTo_not hlt h]; simp)]
            obtain ⟨bb, off, cap, hv, hbl, hcells⟩ := fact_cells HF.out hlt
            obtain ⟨rfl, rfl⟩ : fa = some ⟨bb, off, none⟩ ∧ fc = cap := by simpa using hv
            have s2 : bb < wr.heap.size := Nat.lt_of_lt_of_le hbl hbw.size
            obtain ⟨t0, t1, t2, t3⟩ := factAt.lasts w wr bb _ _ hbw hbl hcells
            have hjl : (j : Int) < (f.length : Int) := by omega
            have hj0 : (0 : Int) ≤ (j : Int) := by omega
            have HNJ : Hid (nth f j = f[j]) := nth_eq hlt
            clear hcells hv
            rcases Nat.eq_zero_or_pos j with rfl | hjp
            · have HGA : Hid (goodAt ps f 0 = factFine ps f[0]) := by show _ = _; rw [goodAt, HNJ.out]; simp
              simp only [Nat.zero_mul, Nat.add_zero] at t0 t1 t2 t3
              clear HNJ HF hgo
              generalize f[0] = y at *
              obtain ⟨yp, ya, yb, yv⟩ := y
              cases hff : factFine ps ⟨yp, ya, yb, yv⟩
              · have H3 : Hid (factsErr ps f = 1) := H2.out (HGA.out.trans hff)
                clear H H2 HE HGA
                go_wp2_with fail
                have L0 : ∀ x : Low wr.heap.size wr, x.wd.cell? ⟨bb, off, none⟩ = some (.int .i64 yp) := fun x => (cell_lasts x.low s2).trans t0
                have L1 : ∀ x : Low wr.heap.size wr, x.wd.cell? ⟨bb, off + 1, none⟩ = some (.int .i64 ya) := fun x => (cell_lasts x.low s2).trans t1
                have L2 : ∀ x : Low wr.heap.size wr, x.wd.cell? ⟨bb, off + 2, none⟩ = some (.int .i64 yb) := fun x => (cell_lasts x.low s2).trans t2
                have L3 : ∀ x : Low wr.heap.size wr, x.wd.cell? ⟨bb, off + 3, none⟩ = some (.int .i64 yv) := fun x => (cell_lasts x.low s2).trans t3
                refine wp_region_low wr.heap.size (by kernel_rfl) (by kernel_rfl) ?_
                repeat (go_big_quiet_step ((first | (go_at_call 46; exact low_of (factFine_c _ _ ps _ _ _ _ (HP.out _ (hbw.trans ((Low.low _).mono hbw.size))))) | (go_at_call 53; exact low_of (place_c _ _ _ _ _ (by first | exact HSJ.out | exact HSI.out))))))
                refine wpQuiet_nil ?_
                rintro _ ⟨⟨w1, hk⟩, rfl⟩
                clear L0 L1 L2 L3
                go_wp2_with fail
                go_ret
                exact ⟨ret_int H3.out.symm, hbw.trans (hk.mono hbw.size)⟩
              · have H3 : Hid (goodTo ps f (0 + 1) = true) := H.out.trans (HGA.out.trans hff)
                clear H H2 HE HGA
                go_wp2_with fail
                have L0 : ∀ x : Low wr.heap.size wr, x.wd.cell? ⟨bb, off, none⟩ = some (.int .i64 yp) := fun x => (cell_lasts x.low s2).trans t0
                have L1 : ∀ x : Low wr.heap.size wr, x.wd.cell? ⟨bb, off + 1, none⟩ = some (.int .i64 ya) := fun x => (cell_lasts x.low s2).trans t1
                have L2 : ∀ x : Low wr.heap.size wr, x.wd.cell? ⟨bb, off + 2, none⟩ = some (.int .i64 yb) := fun x => (cell_lasts x.low s2).trans t2
                have L3 : ∀ x : Low wr.heap.size wr, x.wd.cell? ⟨bb, off + 3, none⟩ = some (.int .i64 yv) := fun x => (cell_lasts x.low s2).trans t3
                refine wp_region_low wr.heap.size (by kernel_rfl) (by kernel_rfl) ?_
                repeat (go_big_quiet_step ((first | (go_at_call 46; exact low_of (factFine_c _ _ ps _ _ _ _ (HP.out _ (hbw.trans ((Low.low _).mono hbw.size))))) | (go_at_call 53; exact low_of (place_c _ _ _ _ _ (by first | exact HSJ.out | exact HSI.out))))))
                refine wpQuiet_nil ?_
                rintro _ ⟨⟨w1, hk⟩, rfl⟩
                clear L0 L1 L2 L3
                go_wp2_with fail
                go_roundw
                case rel => exact ⟨0 + 1, by omega, by go_num, H3.out, hbw.trans (hk.mono hbw.size)⟩
                case measure => simp [intOf]; omega
            · obtain ⟨i, rfl⟩ : ∃ i, j = i + 1 := ⟨j - 1, by omega⟩
              have hil : i < f.length := by omega
              obtain ⟨bb', off', cap', hv', hbl', hcells'⟩ := fact_cells HF.out hil
              obtain ⟨⟨rfl, rfl⟩, hcc⟩ : (bb = bb' ∧ off = off') ∧ _ := by simpa using hv'
              clear hcc
              obtain ⟨u0, u1, u2, u3⟩ := factAt.lasts w wr bb _ _ hbw hbl hcells'
              have HGA : Hid (goodAt ps f (i + 1) = (factFine ps f[i + 1] && decide (place f[i] < place f[i + 1]))) := by show _ = _; rw [goodAt, HNJ.out, Nat.add_sub_cancel, nth_eq hil]; simp
              have HFI : Hid (factFine ps f[i] = true) := by
                have := List.all_eq_true.1 hgo i (List.mem_range.2 (by omega))
                simp only [goodAt, nth_eq hil, Bool.and_eq_true] at this
                exact this.1
              have HSI : Hid (Small f[i]) := fine_small (by omega) HFI.out
              have HSJ : Hid (factFine ps f[i + 1] = true → Small f[i + 1]) := fine_small (by omega)
              have hil' : (i : Int) < (f.length : Int) := by omega
              clear HNJ HF hgo hcells' hv' HFI
              generalize f[i + 1] = y at *
              generalize f[i] = z at *
              obtain ⟨yp, ya, yb, yv⟩ := y
              obtain ⟨zp, za, zb, zv⟩ := z
              cases hff : factFine ps ⟨yp, ya, yb, yv⟩
              · have H3 : Hid (factsErr ps f = 1) := H2.out (HGA.out.trans (by rw [hff]; rfl))
                clear H H2 HE HGA HSJ
                go_wp2_with fail
                have L0 : ∀ x : Low wr.heap.size wr, x.wd.cell? ⟨bb, off + (i + 1) * 4, none⟩ = some (.int .i64 yp) := fun x => (cell_lasts x.low s2).trans t0
                have L1 : ∀ x : Low wr.heap.size wr, x.wd.cell? ⟨bb, off + (i + 1) * 4 + 1, none⟩ = some (.int .i64 ya) := fun x => (cell_lasts x.low s2).trans t1
                have L2 : ∀ x : Low wr.heap.size wr, x.wd.cell? ⟨bb, off + (i + 1) * 4 + 2, none⟩ = some (.int .i64 yb) := fun x => (cell_lasts x.low s2).trans t2
                have L3 : ∀ x : Low wr.heap.size wr, x.wd.cell? ⟨bb, off + (i + 1) * 4 + 3, none⟩ = some (.int .i64 yv) := fun x => (cell_lasts x.low s2).trans t3
                have M0 : ∀ x : Low wr.heap.size wr, x.wd.cell? ⟨bb, off + i * 4, none⟩ = some (.int .i64 zp) := fun x => (cell_lasts x.low s2).trans u0
                have M1 : ∀ x : Low wr.heap.size wr, x.wd.cell? ⟨bb, off + i * 4 + 1, none⟩ = some (.int .i64 za) := fun x => (cell_lasts x.low s2).trans u1
                have M2 : ∀ x : Low wr.heap.size wr, x.wd.cell? ⟨bb, off + i * 4 + 2, none⟩ = some (.int .i64 zb) := fun x => (cell_lasts x.low s2).trans u2
                have M3 : ∀ x : Low wr.heap.size wr, x.wd.cell? ⟨bb, off + i * 4 + 3, none⟩ = some (.int .i64 zv) := fun x => (cell_lasts x.low s2).trans u3
                refine wp_region_low wr.heap.size (by kernel_rfl) (by kernel_rfl) ?_
                repeat (go_big_quiet_step ((first | (go_at_call 46; exact low_of (factFine_c _ _ ps _ _ _ _ (HP.out _ (hbw.trans ((Low.low _).mono hbw.size))))) | (go_at_call 53; exact low_of (place_c _ _ _ _ _ (by first | exact HSJ.out | exact HSI.out))))))
                refine wpQuiet_nil ?_
                rintro _ ⟨⟨w1, hk⟩, rfl⟩
                clear L0 L1 L2 L3 M0 M1 M2 M3
                go_wp2_with fail
                go_ret
                exact ⟨ret_int H3.out.symm, hbw.trans (hk.mono hbw.size)⟩
              · have HSJ := hideS (HSJ.out hff)
                by_cases hpl : place ⟨yp, ya, yb, yv⟩ ≤ place ⟨zp, za, zb, zv⟩
                · have H3 : Hid (factsErr ps f = 1) := H2.out (HGA.out.trans (by rw [hff]; simp; omega))
                  have hpl' : decide (place ⟨yp, ya, yb, yv⟩ ≤ place ⟨zp, za, zb, zv⟩) = true := by simpa using hpl
                  clear H H2 HE HGA
                  go_wp2_with fail
                  have L0 : ∀ x : Low wr.heap.size wr, x.wd.cell? ⟨bb, off + (i + 1) * 4, none⟩ = some (.int .i64 yp) := fun x => (cell_lasts x.low s2).trans t0
                  have L1 : ∀ x : Low wr.heap.size wr, x.wd.cell? ⟨bb, off + (i + 1) * 4 + 1, none⟩ = some (.int .i64 ya) := fun x => (cell_lasts x.low s2).trans t1
                  have L2 : ∀ x : Low wr.heap.size wr, x.wd.cell? ⟨bb, off + (i + 1) * 4 + 2, none⟩ = some (.int .i64 yb) := fun x => (cell_lasts x.low s2).trans t2
                  have L3 : ∀ x : Low wr.heap.size wr, x.wd.cell? ⟨bb, off + (i + 1) * 4 + 3, none⟩ = some (.int .i64 yv) := fun x => (cell_lasts x.low s2).trans t3
                  have M0 : ∀ x : Low wr.heap.size wr, x.wd.cell? ⟨bb, off + i * 4, none⟩ = some (.int .i64 zp) := fun x => (cell_lasts x.low s2).trans u0
                  have M1 : ∀ x : Low wr.heap.size wr, x.wd.cell? ⟨bb, off + i * 4 + 1, none⟩ = some (.int .i64 za) := fun x => (cell_lasts x.low s2).trans u1
                  have M2 : ∀ x : Low wr.heap.size wr, x.wd.cell? ⟨bb, off + i * 4 + 2, none⟩ = some (.int .i64 zb) := fun x => (cell_lasts x.low s2).trans u2
                  have M3 : ∀ x : Low wr.heap.size wr, x.wd.cell? ⟨bb, off + i * 4 + 3, none⟩ = some (.int .i64 zv) := fun x => (cell_lasts x.low s2).trans u3
                  refine wp_region_low wr.heap.size (by kernel_rfl) (by kernel_rfl) ?_
                  repeat (go_big_quiet_step ((first | (go_at_call 46; exact low_of (factFine_c _ _ ps _ _ _ _ (HP.out _ (hbw.trans ((Low.low _).mono hbw.size))))) | (go_at_call 53; exact low_of (place_c _ _ _ _ _ (by first | exact HSJ.out | exact HSI.out))))))
                  refine wpQuiet_nil ?_
                  rintro _ ⟨⟨w1, hk⟩, rfl⟩
                  clear L0 L1 L2 L3 M0 M1 M2 M3
                  go_wp2_with fail
                  go_ret
                  exact ⟨ret_int H3.out.symm, hbw.trans (hk.mono hbw.size)⟩
                · have H3 : Hid (goodTo ps f (i + 1 + 1) = true) := H.out.trans (HGA.out.trans (by rw [hff]; simp; omega))
                  have hpl' : decide (place ⟨yp, ya, yb, yv⟩ ≤ place ⟨zp, za, zb, zv⟩) = false := by simpa using hpl
                  clear H H2 HE HGA
                  go_wp2_with fail
                  have L0 : ∀ x : Low wr.heap.size wr, x.wd.cell? ⟨bb, off + (i + 1) * 4, none⟩ = some (.int .i64 yp) := fun x => (cell_lasts x.low s2).trans t0
                  have L1 : ∀ x : Low wr.heap.size wr, x.wd.cell? ⟨bb, off + (i + 1) * 4 + 1, none⟩ = some (.int .i64 ya) := fun x => (cell_lasts x.low s2).trans t1
                  have L2 : ∀ x : Low wr.heap.size wr, x.wd.cell? ⟨bb, off + (i + 1) * 4 + 2, none⟩ = some (.int .i64 yb) := fun x => (cell_lasts x.low s2).trans t2
                  have L3 : ∀ x : Low wr.heap.size wr, x.wd.cell? ⟨bb, off + (i + 1) * 4 + 3, none⟩ = some (.int .i64 yv) := fun x => (cell_lasts x.low s2).trans t3
                  have M0 : ∀ x : Low wr.heap.size wr, x.wd.cell? ⟨bb, off + i * 4, none⟩ = some (.int .i64 zp) := fun x => (cell_lasts x.low s2).trans u0
                  have M1 : ∀ x : Low wr.heap.size wr, x.wd.cell? ⟨bb, off + i * 4 + 1, none⟩ = some (.int .i64 za) := fun x => (cell_lasts x.low s2).trans u1
                  have M2 : ∀ x : Low wr.heap.size wr, x.wd.cell? ⟨bb, off + i * 4 + 2, none⟩ = some (.int .i64 zb) := fun x => (cell_lasts x.low s2).trans u2
                  have M3 : ∀ x : Low wr.heap.size wr, x.wd.cell? ⟨bb, off + i * 4 + 3, none⟩ = some (.int .i64 zv) := fun x => (cell_lasts x.low s2).trans u3
                  refine wp_region_low wr.heap.size (by kernel_rfl) (by kernel_rfl) ?_
                  repeat (go_big_quiet_step ((first | (go_at_call 46; exact low_of (factFine_c _ _ ps _ _ _ _ (HP.out _ (hbw.trans ((Low.low _).mono hbw.size))))) | (go_at_call 53; exact low_of (place_c _ _ _ _ _ (by first | exact HSJ.out | exact HSI.out))))))
                  refine wpQuiet_nil ?_
                  rintro _ ⟨⟨w1, hk⟩, rfl⟩
                  clear L0 L1 L2 L3 M0 M1 M2 M3
                  go_wp2_with fail
                  go_roundw
                  case rel => exact ⟨i + 1 + 1, by omega, by go_num, H3.out, hbw.trans (hk.mono hbw.size)⟩
                  case measure => simp [intOf]; omega
          · have HG : Hid (factsErr ps f = 0) := by show _ = _; rw [HE.out, if_pos (by obtain rfl : j = f.length := (by omega); exact hgo)]
            clear hgo HE HF
            go_wp2_with fail
            go_ret
            exact ⟨ret_int HG.out.symm, hbw⟩
end Go.Proofs.Ytabhmlkpbdfjcab.Base
