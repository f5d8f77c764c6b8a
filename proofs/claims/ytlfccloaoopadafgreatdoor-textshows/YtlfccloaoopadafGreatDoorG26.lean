/-
  Package base: Check, and what is asked ahead of the other calls.
-/
import Derived.Test.YtlfccloaoopadafGreatDoorG14
import Derived.Test.YtlfccloaoopadafGreatDoorG2
import Derived.Deep.RegionHeld3
import Derived.Test.YtlfccloaoopadafGreatDoorG9
import Derived.Test.YtlfccloaoopadafGreatDoorG6
namespace Go.Proofs.YtlfccloaoopadafGreatDoor.Base
open Go.ChangeShapes Go.WideShapes Go.ChangeAt Go.RowKit
open Lat (within within_c)
open Rule (factFine factFine_c isPred kindOf arityOf isPred_iff)

theorem err_zero (k : Int) : Lat.err k 0 = if within k 0 3 then 0 else 4 := by
  have hm : ¬ ((0 : Int) < 0 ∨ Lat.most k < 0) := by
    unfold Lat.most
    split <;> omega
  unfold Lat.err
  by_cases h : 0 ≤ k ∧ k ≤ 3
  · rw [if_neg (by omega), if_neg hm, if_pos (by simpa [within] using h)]
  · rw [if_pos (by omega), if_neg (by simpa [within] using h)]

set_option maxHeartbeats 1000000 in
theorem notPred_c (q : Prd) (w : World) : Calls Tryz.prog 68 #[predV q] w fun e w' => e = .returned (.bool (!predOk q)) ∧ Below w.heap.size w w' := by
  obtain ⟨qn, qa, qk⟩ := q
  simp only [predV, predOk]
  cases g1 : within qk 0 3
  · have he : Lat.err qk 0 = 4 := by rw [err_zero, g1]; rfl
    go_enter Tryz.func68, Tryz.ntmps68
    go_wp2_with (go_at_call 69; refine (Lat.check_c _ _ _).mono ?_; rintro e w' ⟨rfl, rfl⟩)
    go_ret
    exact ⟨rfl, below_alloc _ _⟩
  · have he : Lat.err qk 0 = 0 := by rw [err_zero, g1]; rfl
    by_cases h1 : qa < 0
    · have e : within qa 0 2 = false := by simp [within]; omega
      rw [e]
      go_enter Tryz.func68, Tryz.ntmps68
      go_wp2_with (go_at_call 69; refine (Lat.check_c _ _ _).mono ?_; rintro e w' ⟨rfl, rfl⟩)
      go_ret
      exact ⟨rfl, below_alloc _ _⟩
    · by_cases h2 : 2 < qa
      · have e : within qa 0 2 = false := by simp [within]; omega
        rw [e]
        go_enter Tryz.func68, Tryz.ntmps68
        go_wp2_with (go_at_call 69; refine (Lat.check_c _ _ _).mono ?_; rintro e w' ⟨rfl, rfl⟩)
        go_ret
        exact ⟨rfl, below_alloc _ _⟩
      · have e : within qa 0 2 = true := by simp [within]; omega
        rw [e]
        go_enter Tryz.func68, Tryz.ntmps68
        go_wp2_with (go_at_call 69; refine (Lat.check_c _ _ _).mono ?_; rintro e w' ⟨rfl, rfl⟩)
        go_ret
        exact ⟨by simp; omega, below_alloc _ _⟩
theorem enters_notPred : ∀ args w, (callFunc 68 args).run Tryz.prog w = .ok (.enter 68 args) w := enters_of Tryz.func68 (by kernel_rfl) rfl
theorem any_notPred (ps : List Prd) : ps.any (fun q => !predOk q) = !predsOk ps := by
  rw [predsOk, List.not_all_eq_any_not]

set_option maxRecDepth 100000 in
set_option maxHeartbeats 8000000 in
theorem check_c (w : World) (pv fv : Value) (ps : List Prd) (f : List Fct) (hp : predsAt w pv ps) (hf : factsAt w fv f) :
    Calls Tryz.prog 41 #[pv, fv] w fun e w' => e = .returned (.int .i64 (factsErr ps f)) ∧ Below w.heap.size w w' := by
  have HP : Hid (∀ (w1 : World), Below w.heap.size w w1 → predsAt w1 pv ps) := fun w1 hb1 => predsAt.lasts hb1 hp
  have HF : Hid (factsAt w fv f) := hf
  obtain ⟨pa, pc, rfl, hpm, hpx⟩ := hp
  obtain ⟨fa, fc, rfl, hfm, hfx⟩ := hf
  clear hpx hfx
  by_cases h5 : 5 < ps.length
  · have e : factsErr ps f = 2 := by rw [factsErr, if_pos h5]
    rw [e]
    have h5' : (5 : Int) < (ps.length : Int) := by omega
    go_enter Tryz.func41, Tryz.ntmps41
    go_wp2_with fail
    go_ret
    exact ⟨rfl, Below.refl _ _⟩
  · have h5' : ¬ (5 : Int) < (ps.length : Int) := by omega
    have HC : Hid (∀ r, ps.any (fun q => !predOk q) = r → Calls Tryz.prog 70 #[.slice pa ps.length pc, .func (.func 68) #[] #[]] w fun e w' => e = .returned (.bool r) ∧ Below w.heap.size w w') := fun r hr => hr ▸ containsPred_c w _ ps _ #[] enters_notPred _ (HP.out w (Below.refl _ _)) (fun w1 q hb _ => notPred_c q w1)
    cases hpk : predsOk ps
    · have e : factsErr ps f = 2 := by rw [factsErr, if_neg h5, if_pos hpk]
      rw [e]
      have hr := HC.out true (by rw [any_notPred, hpk]; rfl)
      clear hpk e
      go_enter Tryz.func41, Tryz.ntmps41
      go_wp2_with (go_at_call 70; refine hr.mono ?_; rintro e w1 ⟨rfl, hb1⟩)
      go_ret
      exact ⟨rfl, hb1⟩
    · have HE : Hid (factsErr ps f = if goodTo ps f f.length then 0 else 1) := by show _ = _; rw [factsErr, if_neg h5, if_neg (by rw [hpk]; simp)]
      have hr := HC.out false (by rw [any_notPred, hpk]; rfl)
      clear hpk
      go_enter Tryz.func41, Tryz.ntmps41
      go_wp2_with (go_at_call 70; refine hr.mono ?_; rintro e w1 ⟨rfl, hb1⟩)
      go_loopw [18] (fun i wr => ∃ j : Nat, j ≤ f.length ∧ i = .int .i64 j ∧ goodTo ps f j = true ∧ Below w.heap.size w wr) (fun i _ => f.length - (intOf i).toNat)
      case atStart => exact ⟨0, Nat.zero_le _, rfl, rfl, hb1⟩
      case round =>
        obtain ⟨j, hj, rfl, hgo, hbw⟩ := hrel
        clear hr HC hb1
        by_cases hlt : j < f.length
        · have H : Hid (goodTo ps f (j + 1) = goodAt ps f j) := by show _ = _; rw [goodTo_succ, hgo, Bool.true_and]
          have H2 : Hid (goodAt ps f j = false → factsErr ps f = 1) := fun h => by rw [HE.out, if_neg (by rw [goodTo_not hlt h]; simp)]
          obtain ⟨bb, off, cap, hv, hbl, hcells⟩ := fact_cells HF.out hlt
          obtain ⟨rfl, rfl⟩ : fa = some ⟨bb, off, none⟩ ∧ fc = cap := by simpa using hv
          have s2 : bb < wr.heap.size := Nat.lt_of_lt_of_le hbl hbw.size
          obtain ⟨t0, t1, t2, t3⟩ := factAt.lasts w wr bb _ _ hbw hbl hcells
          have hjl : (j : Int) < (f.length : Int) := by omega
          have hj0 : (0 : Int) ≤ (j : Int) := by omega
          have HNJ : Hid (nth f j = f[j]) := nth_eq hlt
          clear hcells hv
          rcases Nat.eq_zero_or_pos j with rfl | hjp
          · have HGA : Hid (goodAt ps f 0 = factFine ps f[0]) := by show _ = _; rw [goodAt, HNJ.out]; simp
            simp only [Nat.zero_mul, Nat.add_zero] at t0 t1 t2 t3
            clear HNJ HF hgo
            generalize f[0] = y at *
            obtain ⟨yp, ya, yb, yv⟩ := y
            cases hff : factFine ps ⟨yp, ya, yb, yv⟩
            · have H3 : Hid (factsErr ps f = 1) := H2.out (HGA.out.trans hff)
              clear H H2 HE HGA
              go_wp2_with fail
              refine wp_called (fun w' => Below w.heap.size w w' ∧ Below wr.heap.size wr w' ∧ wr.heap.size < w'.heap.size ∧ w'.cell? ⟨wr.heap.size, 0, none⟩ = some (.int .i64 yp) ∧ w'.cell? ⟨wr.heap.size, 1, none⟩ = some (.int .i64 ya) ∧ w'.cell? ⟨wr.heap.size, 2, none⟩ = some (.int .i64 yb) ∧ w'.cell? ⟨wr.heap.size, 3, none⟩ = some (.int .i64 yv)) ⟨hbw.trans ((below_alloc _ _).mono hbw.size), below_alloc _ _, by simp, by simp [go_sem], by simp [go_sem], by simp [go_sem], by simp [go_sem]⟩ ?_
              rintro W0 ⟨hb0, hbr, sx, x0, x1, x2, x3⟩
              have s3 : bb < W0.heap.size := Nat.lt_of_lt_of_le s2 hbr.size
              have Lx0 : ∀ x : Low W0.heap.size W0, x.wd.cell? ⟨wr.heap.size, 0, none⟩ = some (.int .i64 yp) := fun x => (cell_lasts x.low sx).trans x0
              have Lx1 : ∀ x : Low W0.heap.size W0, x.wd.cell? ⟨wr.heap.size, 1, none⟩ = some (.int .i64 ya) := fun x => (cell_lasts x.low sx).trans x1
              have Lx2 : ∀ x : Low W0.heap.size W0, x.wd.cell? ⟨wr.heap.size, 2, none⟩ = some (.int .i64 yb) := fun x => (cell_lasts x.low sx).trans x2
              have Lx3 : ∀ x : Low W0.heap.size W0, x.wd.cell? ⟨wr.heap.size, 3, none⟩ = some (.int .i64 yv) := fun x => (cell_lasts x.low sx).trans x3
              refine wp_region_low W0.heap.size (by kernel_rfl) (by kernel_rfl) ?_
              repeat (go_big_quiet_step ((first | (go_at_call 71; exact low_of (isRight_c _ _ ps _ _ _ _ (HP.out _ (hb0.trans ((Low.low _).mono hb0.size))))) | (go_at_call 72; exact low_of (order_c _ _ _ _ _ _ _ _ _)))))
              refine wpQuiet_nil ?_
              rintro _ ⟨⟨w2, hk⟩, rfl⟩
              clear Lx0 Lx1 Lx2 Lx3
              go_wp2_with fail
              go_ret
              exact ⟨ret_int H3.out.symm, hb0.trans (hk.mono hb0.size)⟩
            · have H3 : Hid (goodTo ps f (0 + 1) = true) := H.out.trans (HGA.out.trans hff)
              clear H H2 HE HGA
              go_wp2_with fail
              refine wp_called (fun w' => Below w.heap.size w w' ∧ Below wr.heap.size wr w' ∧ wr.heap.size < w'.heap.size ∧ w'.cell? ⟨wr.heap.size, 0, none⟩ = some (.int .i64 yp) ∧ w'.cell? ⟨wr.heap.size, 1, none⟩ = some (.int .i64 ya) ∧ w'.cell? ⟨wr.heap.size, 2, none⟩ = some (.int .i64 yb) ∧ w'.cell? ⟨wr.heap.size, 3, none⟩ = some (.int .i64 yv)) ⟨hbw.trans ((below_alloc _ _).mono hbw.size), below_alloc _ _, by simp, by simp [go_sem], by simp [go_sem], by simp [go_sem], by simp [go_sem]⟩ ?_
              rintro W0 ⟨hb0, hbr, sx, x0, x1, x2, x3⟩
              have s3 : bb < W0.heap.size := Nat.lt_of_lt_of_le s2 hbr.size
              have Lx0 : ∀ x : Low W0.heap.size W0, x.wd.cell? ⟨wr.heap.size, 0, none⟩ = some (.int .i64 yp) := fun x => (cell_lasts x.low sx).trans x0
              have Lx1 : ∀ x : Low W0.heap.size W0, x.wd.cell? ⟨wr.heap.size, 1, none⟩ = some (.int .i64 ya) := fun x => (cell_lasts x.low sx).trans x1
              have Lx2 : ∀ x : Low W0.heap.size W0, x.wd.cell? ⟨wr.heap.size, 2, none⟩ = some (.int .i64 yb) := fun x => (cell_lasts x.low sx).trans x2
              have Lx3 : ∀ x : Low W0.heap.size W0, x.wd.cell? ⟨wr.heap.size, 3, none⟩ = some (.int .i64 yv) := fun x => (cell_lasts x.low sx).trans x3
              refine wp_region_low W0.heap.size (by kernel_rfl) (by kernel_rfl) ?_
              repeat (go_big_quiet_step ((first | (go_at_call 71; exact low_of (isRight_c _ _ ps _ _ _ _ (HP.out _ (hb0.trans ((Low.low _).mono hb0.size))))) | (go_at_call 72; exact low_of (order_c _ _ _ _ _ _ _ _ _)))))
              refine wpQuiet_nil ?_
              rintro _ ⟨⟨w2, hk⟩, rfl⟩
              clear Lx0 Lx1 Lx2 Lx3
              go_wp2_with fail
              go_roundw
              case rel => exact ⟨0 + 1, by omega, by go_num, H3.out, hb0.trans (hk.mono hb0.size)⟩
              case measure => simp [intOf]; omega
          · obtain ⟨i, rfl⟩ : ∃ i, j = i + 1 := ⟨j - 1, by omega⟩
            have hil : i < f.length := by omega
            obtain ⟨bb', off', cap', hv', hbl', hcells'⟩ := fact_cells HF.out hil
            obtain ⟨⟨rfl, rfl⟩, hcc⟩ : (bb = bb' ∧ off = off') ∧ _ := by simpa using hv'
            clear hcc
            obtain ⟨u0, u1, u2, u3⟩ := factAt.lasts w wr bb _ _ hbw hbl hcells'
            have HGA : Hid (goodAt ps f (i + 1) = (factFine ps f[i + 1] && decide (place f[i] < place f[i + 1]))) := by show _ = _; rw [goodAt, HNJ.out, Nat.add_sub_cancel, nth_eq hil]; simp
            have HFI : Hid (factFine ps f[i] = true) := by
              have := List.all_eq_true.1 hgo i (List.mem_range.2 (by omega))
              simp only [goodAt, nth_eq hil, Bool.and_eq_true] at this
              exact this.1
            have HSI : Hid (Small f[i]) := fine_small (by omega) HFI.out
            have HSJ : Hid (factFine ps f[i + 1] = true → Small f[i + 1]) := fine_small (by omega)
            have hil' : (i : Int) < (f.length : Int) := by omega
            clear HNJ HF hgo hcells' hv' HFI
            generalize f[i + 1] = y at *
            generalize f[i] = z at *
            obtain ⟨yp, ya, yb, yv⟩ := y
            obtain ⟨zp, za, zb, zv⟩ := z
            cases hff : factFine ps ⟨yp, ya, yb, yv⟩
            · have H3 : Hid (factsErr ps f = 1) := H2.out (HGA.out.trans (by rw [hff]; rfl))
              clear H H2 HE HGA HSJ HSI
              go_wp2_with fail
              refine wp_called (fun w' => Below w.heap.size w w' ∧ Below wr.heap.size wr w' ∧ wr.heap.size < w'.heap.size ∧ w'.cell? ⟨wr.heap.size, 0, none⟩ = some (.int .i64 yp) ∧ w'.cell? ⟨wr.heap.size, 1, none⟩ = some (.int .i64 ya) ∧ w'.cell? ⟨wr.heap.size, 2, none⟩ = some (.int .i64 yb) ∧ w'.cell? ⟨wr.heap.size, 3, none⟩ = some (.int .i64 yv) ∧ w'.cell? ⟨bb, off + i * 4, none⟩ = some (.int .i64 zp) ∧ w'.cell? ⟨bb, off + i * 4 + 1, none⟩ = some (.int .i64 za) ∧ w'.cell? ⟨bb, off + i * 4 + 2, none⟩ = some (.int .i64 zb) ∧ w'.cell? ⟨bb, off + i * 4 + 3, none⟩ = some (.int .i64 zv)) ⟨hbw.trans ((below_alloc _ _).mono hbw.size), below_alloc _ _, by simp, by simp [go_sem], by simp [go_sem], by simp [go_sem], by simp [go_sem], by rw [cell_lasts (below_alloc _ _) s2]; exact u0, by rw [cell_lasts (below_alloc _ _) s2]; exact u1, by rw [cell_lasts (below_alloc _ _) s2]; exact u2, by rw [cell_lasts (below_alloc _ _) s2]; exact u3⟩ ?_
              rintro W0 ⟨hb0, hbr, sx, x0, x1, x2, x3, z0, z1, z2, z3⟩
              have s3 : bb < W0.heap.size := Nat.lt_of_lt_of_le s2 hbr.size
              have Lx0 : ∀ x : Low W0.heap.size W0, x.wd.cell? ⟨wr.heap.size, 0, none⟩ = some (.int .i64 yp) := fun x => (cell_lasts x.low sx).trans x0
              have Lx1 : ∀ x : Low W0.heap.size W0, x.wd.cell? ⟨wr.heap.size, 1, none⟩ = some (.int .i64 ya) := fun x => (cell_lasts x.low sx).trans x1
              have Lx2 : ∀ x : Low W0.heap.size W0, x.wd.cell? ⟨wr.heap.size, 2, none⟩ = some (.int .i64 yb) := fun x => (cell_lasts x.low sx).trans x2
              have Lx3 : ∀ x : Low W0.heap.size W0, x.wd.cell? ⟨wr.heap.size, 3, none⟩ = some (.int .i64 yv) := fun x => (cell_lasts x.low sx).trans x3
              have Lz0 : ∀ x : Low W0.heap.size W0, x.wd.cell? ⟨bb, off + i * 4, none⟩ = some (.int .i64 zp) := fun x => (cell_lasts x.low s3).trans z0
              have Lz1 : ∀ x : Low W0.heap.size W0, x.wd.cell? ⟨bb, off + i * 4 + 1, none⟩ = some (.int .i64 za) := fun x => (cell_lasts x.low s3).trans z1
              have Lz2 : ∀ x : Low W0.heap.size W0, x.wd.cell? ⟨bb, off + i * 4 + 2, none⟩ = some (.int .i64 zb) := fun x => (cell_lasts x.low s3).trans z2
              have Lz3 : ∀ x : Low W0.heap.size W0, x.wd.cell? ⟨bb, off + i * 4 + 3, none⟩ = some (.int .i64 zv) := fun x => (cell_lasts x.low s3).trans z3
              refine wp_region_low W0.heap.size (by kernel_rfl) (by kernel_rfl) ?_
              repeat (go_big_quiet_step ((first | (go_at_call 71; exact low_of (isRight_c _ _ ps _ _ _ _ (HP.out _ (hb0.trans ((Low.low _).mono hb0.size))))) | (go_at_call 72; exact low_of (order_c _ _ _ _ _ _ _ _ _)))))
              refine wpQuiet_nil ?_
              rintro _ ⟨⟨w2, hk⟩, rfl⟩
              clear Lx0 Lx1 Lx2 Lx3 Lz0 Lz1 Lz2 Lz3
              go_wp2_with fail
              go_ret
              exact ⟨ret_int H3.out.symm, hb0.trans (hk.mono hb0.size)⟩
            · have HSJ := hideS (HSJ.out hff)
              by_cases hpl : place ⟨zp, za, zb, zv⟩ < place ⟨yp, ya, yb, yv⟩
              · have H3 : Hid (goodTo ps f (i + 1 + 1) = true) := H.out.trans (HGA.out.trans (by rw [hff]; simpa using hpl))
                have hpl' : decide (0 ≤ cmpF ⟨zp, za, zb, zv⟩ ⟨yp, ya, yb, yv⟩) = false := by have := ((cmpF_spec HSI.out HSJ.out).1).2 hpl; simpa using this
                clear H H2 HE HGA hpl HSI HSJ
                go_wp2_with fail
                refine wp_called (fun w' => Below w.heap.size w w' ∧ Below wr.heap.size wr w' ∧ wr.heap.size < w'.heap.size ∧ w'.cell? ⟨wr.heap.size, 0, none⟩ = some (.int .i64 yp) ∧ w'.cell? ⟨wr.heap.size, 1, none⟩ = some (.int .i64 ya) ∧ w'.cell? ⟨wr.heap.size, 2, none⟩ = some (.int .i64 yb) ∧ w'.cell? ⟨wr.heap.size, 3, none⟩ = some (.int .i64 yv) ∧ w'.cell? ⟨bb, off + i * 4, none⟩ = some (.int .i64 zp) ∧ w'.cell? ⟨bb, off + i * 4 + 1, none⟩ = some (.int .i64 za) ∧ w'.cell? ⟨bb, off + i * 4 + 2, none⟩ = some (.int .i64 zb) ∧ w'.cell? ⟨bb, off + i * 4 + 3, none⟩ = some (.int .i64 zv)) ⟨hbw.trans ((below_alloc _ _).mono hbw.size), below_alloc _ _, by simp, by simp [go_sem], by simp [go_sem], by simp [go_sem], by simp [go_sem], by rw [cell_lasts (below_alloc _ _) s2]; exact u0, by rw [cell_lasts (below_alloc _ _) s2]; exact u1, by rw [cell_lasts (below_alloc _ _) s2]; exact u2, by rw [cell_lasts (below_alloc _ _) s2]; exact u3⟩ ?_
                rintro W0 ⟨hb0, hbr, sx, x0, x1, x2, x3, z0, z1, z2, z3⟩
                have s3 : bb < W0.heap.size := Nat.lt_of_lt_of_le s2 hbr.size
                have Lx0 : ∀ x : Low W0.heap.size W0, x.wd.cell? ⟨wr.heap.size, 0, none⟩ = some (.int .i64 yp) := fun x => (cell_lasts x.low sx).trans x0
                have Lx1 : ∀ x : Low W0.heap.size W0, x.wd.cell? ⟨wr.heap.size, 1, none⟩ = some (.int .i64 ya) := fun x => (cell_lasts x.low sx).trans x1
                have Lx2 : ∀ x : Low W0.heap.size W0, x.wd.cell? ⟨wr.heap.size, 2, none⟩ = some (.int .i64 yb) := fun x => (cell_lasts x.low sx).trans x2
                have Lx3 : ∀ x : Low W0.heap.size W0, x.wd.cell? ⟨wr.heap.size, 3, none⟩ = some (.int .i64 yv) := fun x => (cell_lasts x.low sx).trans x3
                have Lz0 : ∀ x : Low W0.heap.size W0, x.wd.cell? ⟨bb, off + i * 4, none⟩ = some (.int .i64 zp) := fun x => (cell_lasts x.low s3).trans z0
                have Lz1 : ∀ x : Low W0.heap.size W0, x.wd.cell? ⟨bb, off + i * 4 + 1, none⟩ = some (.int .i64 za) := fun x => (cell_lasts x.low s3).trans z1
                have Lz2 : ∀ x : Low W0.heap.size W0, x.wd.cell? ⟨bb, off + i * 4 + 2, none⟩ = some (.int .i64 zb) := fun x => (cell_lasts x.low s3).trans z2
                have Lz3 : ∀ x : Low W0.heap.size W0, x.wd.cell? ⟨bb, off + i * 4 + 3, none⟩ = some (.int .i64 zv) := fun x => (cell_lasts x.low s3).trans z3
                refine wp_region_low W0.heap.size (by kernel_rfl) (by kernel_rfl) ?_
                repeat (go_big_quiet_step ((first | (go_at_call 71; exact low_of (isRight_c _ _ ps _ _ _ _ (HP.out _ (hb0.trans ((Low.low _).mono hb0.size))))) | (go_at_call 72; exact low_of (order_c _ _ _ _ _ _ _ _ _)))))
                refine wpQuiet_nil ?_
                rintro _ ⟨⟨w2, hk⟩, rfl⟩
                clear Lx0 Lx1 Lx2 Lx3 Lz0 Lz1 Lz2 Lz3
                go_wp2_with fail
                go_roundw
                case rel => exact ⟨i + 1 + 1, by omega, by go_num, H3.out, hb0.trans (hk.mono hb0.size)⟩
                case measure => simp [intOf]; omega
              · have H3 : Hid (factsErr ps f = 1) := H2.out (HGA.out.trans (by rw [hff]; simpa using hpl))
                have hpl' : decide (0 ≤ cmpF ⟨zp, za, zb, zv⟩ ⟨yp, ya, yb, yv⟩) = true := by
                  have := (cmpF_spec HSI.out HSJ.out).1
                  simp only [decide_eq_true_eq]
                  omega
                clear H H2 HE HGA hpl HSI HSJ
                go_wp2_with fail
                refine wp_called (fun w' => Below w.heap.size w w' ∧ Below wr.heap.size wr w' ∧ wr.heap.size < w'.heap.size ∧ w'.cell? ⟨wr.heap.size, 0, none⟩ = some (.int .i64 yp) ∧ w'.cell? ⟨wr.heap.size, 1, none⟩ = some (.int .i64 ya) ∧ w'.cell? ⟨wr.heap.size, 2, none⟩ = some (.int .i64 yb) ∧ w'.cell? ⟨wr.heap.size, 3, none⟩ = some (.int .i64 yv) ∧ w'.cell? ⟨bb, off + i * 4, none⟩ = some (.int .i64 zp) ∧ w'.cell? ⟨bb, off + i * 4 + 1, none⟩ = some (.int .i64 za) ∧ w'.cell? ⟨bb, off + i * 4 + 2, none⟩ = some (.int .i64 zb) ∧ w'.cell? ⟨bb, off + i * 4 + 3, none⟩ = some (.int .i64 zv)) ⟨hbw.trans ((below_alloc _ _).mono hbw.size), below_alloc _ _, by simp, by simp [go_sem], by simp [go_sem], by simp [go_sem], by simp [go_sem], by rw [cell_lasts (below_alloc _ _) s2]; exact u0, by rw [cell_lasts (below_alloc _ _) s2]; exact u1, by rw [cell_lasts (below_alloc _ _) s2]; exact u2, by rw [cell_lasts (below_alloc _ _) s2]; exact u3⟩ ?_
                rintro W0 ⟨hb0, hbr, sx, x0, x1, x2, x3, z0, z1, z2, z3⟩
                have s3 : bb < W0.heap.size := Nat.lt_of_lt_of_le s2 hbr.size
                have Lx0 : ∀ x : Low W0.heap.size W0, x.wd.cell? ⟨wr.heap.size, 0, none⟩ = some (.int .i64 yp) := fun x => (cell_lasts x.low sx).trans x0
                have Lx1 : ∀ x : Low W0.heap.size W0, x.wd.cell? ⟨wr.heap.size, 1, none⟩ = some (.int .i64 ya) := fun x => (cell_lasts x.low sx).trans x1
                have Lx2 : ∀ x : Low W0.heap.size W0, x.wd.cell? ⟨wr.heap.size, 2, none⟩ = some (.int .i64 yb) := fun x => (cell_lasts x.low sx).trans x2
                have Lx3 : ∀ x : Low W0.heap.size W0, x.wd.cell? ⟨wr.heap.size, 3, none⟩ = some (.int .i64 yv) := fun x => (cell_lasts x.low sx).trans x3
                have Lz0 : ∀ x : Low W0.heap.size W0, x.wd.cell? ⟨bb, off + i * 4, none⟩ = some (.int .i64 zp) := fun x => (cell_lasts x.low s3).trans z0
                have Lz1 : ∀ x : Low W0.heap.size W0, x.wd.cell? ⟨bb, off + i * 4 + 1, none⟩ = some (.int .i64 za) := fun x => (cell_lasts x.low s3).trans z1
                have Lz2 : ∀ x : Low W0.heap.size W0, x.wd.cell? ⟨bb, off + i * 4 + 2, none⟩ = some (.int .i64 zb) := fun x => (cell_lasts x.low s3).trans z2
                have Lz3 : ∀ x : Low W0.heap.size W0, x.wd.cell? ⟨bb, off + i * 4 + 3, none⟩ = some (.int .i64 zv) := fun x => (cell_lasts x.low s3).trans z3
                refine wp_region_low W0.heap.size (by kernel_rfl) (by kernel_rfl) ?_
                repeat (go_big_quiet_step ((first | (go_at_call 71; exact low_of (isRight_c _ _ ps _ _ _ _ (HP.out _ (hb0.trans ((Low.low _).mono hb0.size))))) | (go_at_call 72; exact low_of (order_c _ _ _ _ _ _ _ _ _)))))
                refine wpQuiet_nil ?_
                rintro _ ⟨⟨w2, hk⟩, rfl⟩
                clear Lx0 Lx1 Lx2 Lx3 Lz0 Lz1 Lz2 Lz3
                go_wp2_with fail
                go_ret
                exact ⟨ret_int H3.out.symm, hb0.trans (hk.mono hb0.size)⟩
        · have HG : Hid (factsErr ps f = 0) := by show _ = _; rw [HE.out, if_pos (by obtain rfl : j = f.length := (by omega); exact hgo)]
          clear hgo HE HF
          go_wp2_with fail
          go_ret
          exact ⟨ret_int HG.out.symm, hbw⟩

/-- what is told ahead of Find and Add -/
def withErr (ps : List Prd) (f : List Fct) (x : Fct) : Int := if factsErr ps f ≠ 0 then factsErr ps f else if factFine ps x then 0 else 1

set_option maxRecDepth 100000 in
set_option maxHeartbeats 4000000 in
theorem checkWith_c (w : World) (pv fv : Value) (ps : List Prd) (f : List Fct) (p a b v : Int) (hp : predsAt w pv ps) (hf : factsAt w fv f) :
    Calls Tryz.prog 115 #[pv, fv, .agg #[.int .i64 p, .int .i64 a, .int .i64 b, .int .i64 v]] w fun e w' => e = .returned (.int .i64 (withErr ps f ⟨p, a, b, v⟩)) ∧ Below w.heap.size w w' := by
  have HP : Hid (∀ (w1 : World), Below w.heap.size w w1 → predsAt w1 pv ps) := fun w1 hb1 => predsAt.lasts hb1 hp
  have HF : Hid (∀ (w1 : World), Below w.heap.size w w1 → factsAt w1 fv f) := fun w1 hb1 => factsAt.lasts hb1 hf
  clear hp hf
  by_cases h0 : factsErr ps f = 0
  · cases hff : factFine ps ⟨p, a, b, v⟩
    · have e : withErr ps f ⟨p, a, b, v⟩ = 1 := by simp [withErr, h0, hff]
      rw [e]
      clear e
      go_enter Tryz.func115, Tryz.ntmps115
      go_wp2_with (first
        | (go_at_call 41; refine (check_c _ _ _ ps f (HP.out _ (below_alloc _ _)) (HF.out _ (below_alloc _ _))).mono ?_; rintro e w1 ⟨rfl, hb1⟩; obtain ⟨c0, c1, c2, c3⟩ := four_last hb1; have HB : Hid (Below w.heap.size w w1) := (below_alloc _ _).trans (hb1.mono (by simp)); clear hb1)
        | (go_at_call 71; refine (isRight_c _ _ ps _ _ _ _ (HP.out _ HB.out)).mono ?_; rintro e w2 ⟨rfl, hb2⟩))
      go_ret
      exact ⟨rfl, HB.out.trans (hb2.mono HB.out.size)⟩
    · have e : withErr ps f ⟨p, a, b, v⟩ = 0 := by simp [withErr, h0, hff]
      rw [e]
      clear e
      go_enter Tryz.func115, Tryz.ntmps115
      go_wp2_with (first
        | (go_at_call 41; refine (check_c _ _ _ ps f (HP.out _ (below_alloc _ _)) (HF.out _ (below_alloc _ _))).mono ?_; rintro e w1 ⟨rfl, hb1⟩; obtain ⟨c0, c1, c2, c3⟩ := four_last hb1; have HB : Hid (Below w.heap.size w w1) := (below_alloc _ _).trans (hb1.mono (by simp)); clear hb1)
        | (go_at_call 71; refine (isRight_c _ _ ps _ _ _ _ (HP.out _ HB.out)).mono ?_; rintro e w2 ⟨rfl, hb2⟩))
      go_ret
      exact ⟨rfl, HB.out.trans (hb2.mono HB.out.size)⟩
  · have e : withErr ps f ⟨p, a, b, v⟩ = factsErr ps f := by simp [withErr, h0]
    rw [e]
    clear e
    have h0' : (factsErr ps f == 0) = false := by simpa using h0
    go_enter Tryz.func115, Tryz.ntmps115
    go_wp2_with (go_at_call 41; refine (check_c _ _ _ ps f (HP.out _ (below_alloc _ _)) (HF.out _ (below_alloc _ _))).mono ?_; rintro e w1 ⟨rfl, hb1⟩; have HB : Hid (Below w.heap.size w w1) := (below_alloc _ _).trans (hb1.mono (by simp)); clear hb1)
    go_ret
    exact ⟨rfl, HB.out⟩
end Go.Proofs.YtlfccloaoopadafGreatDoor.Base

/-
  The library's slices.BinarySearchFunc over facts in their order.
-/
namespace Go.Proofs.YtlfccloaoopadafGreatDoor.Base
open Go.ChangeShapes Go.WideShapes Go.ChangeAt Go.RowKit
open Lat (within within_c)
open Rule (factFine factFine_c isPred kindOf arityOf isPred_iff)

/-- how many facts stand ahead of a place -/
def pos (f : List Fct) (pl : Int) : Nat := f.countP fun y => decide (place y < pl)
theorem pos_le (f : List Fct) (pl : Int) : pos f pl ≤ f.length := List.countP_le_length
theorem pos_cons (y : Fct) (f : List Fct) (pl : Int) : pos (y :: f) pl = if place y < pl then pos f pl + 1 else pos f pl := by
  unfold pos
  rw [List.countP_cons]
  by_cases h : place y < pl <;> simp [h]
theorem pos_zero {f : List Fct} {pl : Int} (h : ∀ y ∈ f, pl ≤ place y) : pos f pl = 0 := by
  unfold pos
  rw [List.countP_eq_zero]
  intro y hy
  have := h y hy
  simp
  omega
theorem pos_iff {f : List Fct} {pl : Int} (hs : Sorted f) : ∀ {k : Nat} (hk : k < f.length), place f[k] < pl ↔ k < pos f pl := by
  induction f with
  | nil => intro k hk; simp at hk
  | cons y f ih =>
    intro k hk
    obtain ⟨h1, h2⟩ := List.pairwise_cons.1 hs
    rw [pos_cons]
    cases k with
    | zero =>
      by_cases h : place y < pl
      · simp [h]
      · rw [if_neg h, pos_zero (fun z hz => by have := h1 z hz; omega)]
        simpa using h
    | succ k =>
      have hk' : k < f.length := by simpa using hk
      rw [List.getElem_cons_succ, ih h2 hk']
      by_cases h : place y < pl
      · rw [if_pos h]; omega
      · rw [if_neg h, pos_zero (fun z hz => by have := h1 z hz; omega)]
        omega
theorem get_pos {f : List Fct} {pl : Int} (hs : Sorted f) : get f pl = if h : pos f pl < f.length then (if place f[pos f pl] = pl then some f[pos f pl].val else none) else none := by
  induction f with
  | nil => rfl
  | cons y f ih =>
    obtain ⟨h1, h2⟩ := List.pairwise_cons.1 hs
    rw [get_cons]
    by_cases h : place y < pl
    · have e : pos (y :: f) pl = pos f pl + 1 := by rw [pos_cons, if_pos h]
      rw [if_neg (by omega), ih h2]
      simp only [e, List.length_cons, Nat.add_lt_add_iff_right, List.getElem_cons_succ]
    · have e : pos (y :: f) pl = 0 := by
        rw [pos_cons, if_neg h]
        exact pos_zero (fun z hz => by have := h1 z hz; omega)
      simp only [e, List.length_cons, Nat.zero_lt_succ, List.getElem_cons_zero, dif_pos]
      by_cases g : place y = pl
      · rw [if_pos g, if_pos g]
      · rw [if_neg g, if_neg g]
        exact get_lt (fun z hz => by have := h1 z hz; omega)
theorem get_some_pos {f : List Fct} {pl v : Int} (hs : Sorted f) (h : get f pl = some v) : ∃ hp : pos f pl < f.length, place f[pos f pl] = pl ∧ f[pos f pl].val = v := by
  rw [get_pos hs] at h
  split at h
  · rename_i hp
    split at h
    · rename_i he
      exact ⟨hp, he, Option.some.inj h⟩
    · cases h
  · cases h
theorem get_none_pos {f : List Fct} {pl : Int} (hs : Sorted f) (h : get f pl = none) (hp : pos f pl < f.length) : place f[pos f pl] ≠ pl := by
  rw [get_pos hs, dif_pos hp] at h
  split at h
  · cases h
  · assumption

set_option maxRecDepth 100000 in
set_option maxHeartbeats 8000000 in
theorem search_c (w : World) (fv : Value) (f : List Fct) (p a b v : Int) (hf : factsAt w fv f) (hs : ∀ y ∈ f, Small y) (hx : Small ⟨p, a, b, v⟩) (hso : Sorted f) :
    Calls Tryz.prog 116 #[fv, .agg #[.int .i64 p, .int .i64 a, .int .i64 b, .int .i64 v], .func (.func 72) #[] #[]] w
      fun e w' => e = .returned (.tuple #[.int .i64 (pos f (place ⟨p, a, b, v⟩)), .bool (get f (place ⟨p, a, b, v⟩)).isSome]) ∧ Below w.heap.size w w' := by
  have HF : Hid (factsAt w fv f) := hf
  have HS : Hid (∀ y ∈ f, Small y) := hs
  have HX : Hid (Small ⟨p, a, b, v⟩) := hx
  have HSO : Hid (Sorted f) := hso
  obtain ⟨fa, fc, rfl, hfm, hfx⟩ := hf
  have hpl : pos f (place ⟨p, a, b, v⟩) ≤ f.length := pos_le _ _
  clear hfx hs hx hso
  go_enter Tryz.func116, Tryz.ntmps116
  go_wp2_with fail
  go_loopw [9, 10] (fun i j wr => ∃ lo hi : Nat, i = .int .i64 lo ∧ j = .int .i64 hi ∧ lo ≤ pos f (place ⟨p, a, b, v⟩) ∧ pos f (place ⟨p, a, b, v⟩) ≤ hi ∧ hi ≤ f.length ∧ Below (w.heap.size + 1) (w.alloc (.cells #[.int .i64 p, .int .i64 a, .int .i64 b, .int .i64 v] 82)) wr) (fun i j _ => (intOf j).toNat - (intOf i).toNat)
  case atStart => exact ⟨0, f.length, rfl, rfl, Nat.zero_le _, hpl, Nat.le_refl _, by have := Below.refl (w.alloc (.cells #[.int .i64 p, .int .i64 a, .int .i64 b, .int .i64 v] 82)).heap.size (w.alloc (.cells #[.int .i64 p, .int .i64 a, .int .i64 b, .int .i64 v] 82)); simpa using this⟩
  case round =>
    obtain ⟨lo, hi, rfl, rfl, h1, h2, h3, hbr⟩ := hrel
    have hbw : Below w.heap.size w wr := (below_alloc _ _).trans (hbr.mono (by simp))
    have c0 : wr.cell? ⟨w.heap.size, 0, none⟩ = some (.int .i64 p) := by rw [hbr.cell (by simp)]; simp [go_sem]
    have c1 : wr.cell? ⟨w.heap.size, 1, none⟩ = some (.int .i64 a) := by rw [hbr.cell (by simp)]; simp [go_sem]
    have c2 : wr.cell? ⟨w.heap.size, 2, none⟩ = some (.int .i64 b) := by rw [hbr.cell (by simp)]; simp [go_sem]
    have c3 : wr.cell? ⟨w.heap.size, 3, none⟩ = some (.int .i64 v) := by rw [hbr.cell (by simp)]; simp [go_sem]
    have s1 : w.heap.size < wr.heap.size := by have := hbr.size; simp at this; omega
    by_cases hlt : lo < hi
    · obtain ⟨mid, hmid, m1, m2⟩ : ∃ mid : Nat, ((lo : Int) + (hi : Int)) / 2 = (mid : Int) ∧ lo ≤ mid ∧ mid < hi := ⟨(lo + hi) / 2, by omega, by omega, by omega⟩
      have hml : mid < f.length := by omega
      obtain ⟨bb, off, cap, hv, hbl, hcells⟩ := fact_cells HF.out hml
      obtain ⟨rfl, rfl⟩ : fa = some ⟨bb, off, none⟩ ∧ fc = cap := by simpa using hv
      have s2 : bb < wr.heap.size := Nat.lt_of_lt_of_le hbl hbw.size
      obtain ⟨t0, t1, t2, t3⟩ := factAt.lasts w wr bb _ _ hbw hbl hcells
      have HSY : Hid (Small f[mid]) := HS.out _ (List.getElem_mem hml)
      have HI : Hid (place f[mid] < place ⟨p, a, b, v⟩ ↔ mid < pos f (place ⟨p, a, b, v⟩)) := pos_iff HSO.out hml
      have hjl : (mid : Int) < (f.length : Int) := by omega
      have hj0 : (0 : Int) ≤ (mid : Int) := by omega
      clear hcells hv HS HSO HF
      generalize f[mid] = y at *
      obtain ⟨yp, ya, yb, yv⟩ := y
      by_cases hc : place ⟨yp, ya, yb, yv⟩ < place ⟨p, a, b, v⟩
      · have hc' : decide (cmpF ⟨yp, ya, yb, yv⟩ ⟨p, a, b, v⟩ < 0) = true := by simpa using ((cmpF_spec HSY.out HX.out).1).2 hc
        have hmp : mid + 1 ≤ pos f (place ⟨p, a, b, v⟩) := HI.out.1 hc
        clear hc HSY HI
        go_wp2_with fail
        have Lc0 : ∀ x : Low wr.heap.size wr, x.wd.cell? ⟨w.heap.size, 0, none⟩ = some (.int .i64 p) := fun x => (cell_lasts x.low s1).trans c0
        have Lc1 : ∀ x : Low wr.heap.size wr, x.wd.cell? ⟨w.heap.size, 1, none⟩ = some (.int .i64 a) := fun x => (cell_lasts x.low s1).trans c1
        have Lc2 : ∀ x : Low wr.heap.size wr, x.wd.cell? ⟨w.heap.size, 2, none⟩ = some (.int .i64 b) := fun x => (cell_lasts x.low s1).trans c2
        have Lc3 : ∀ x : Low wr.heap.size wr, x.wd.cell? ⟨w.heap.size, 3, none⟩ = some (.int .i64 v) := fun x => (cell_lasts x.low s1).trans c3
        have Lt0 : ∀ x : Low wr.heap.size wr, x.wd.cell? ⟨bb, off + mid * 4, none⟩ = some (.int .i64 yp) := fun x => (cell_lasts x.low s2).trans t0
        have Lt1 : ∀ x : Low wr.heap.size wr, x.wd.cell? ⟨bb, off + mid * 4 + 1, none⟩ = some (.int .i64 ya) := fun x => (cell_lasts x.low s2).trans t1
        have Lt2 : ∀ x : Low wr.heap.size wr, x.wd.cell? ⟨bb, off + mid * 4 + 2, none⟩ = some (.int .i64 yb) := fun x => (cell_lasts x.low s2).trans t2
        have Lt3 : ∀ x : Low wr.heap.size wr, x.wd.cell? ⟨bb, off + mid * 4 + 3, none⟩ = some (.int .i64 yv) := fun x => (cell_lasts x.low s2).trans t3
        refine wp_region_low wr.heap.size (by kernel_rfl) (by kernel_rfl) ?_
        repeat (go_big_quiet_step (((go_at_call 72; exact low_of (order_c _ _ _ _ _ _ _ _ _)))))
        refine wpQuiet_nil ?_
        rintro _ ⟨⟨w2, hk⟩, rfl⟩
        clear Lc0 Lc1 Lc2 Lc3 Lt0 Lt1 Lt2 Lt3
        go_wp2_with fail
        go_roundw
        case rel => exact ⟨mid + 1, hi, by go_num, rfl, hmp, h2, h3, hbr.trans (hk.mono (by have := hbr.size; simp at this; omega))⟩
        case measure => simp [intOf]; omega
      · have hc' : decide (cmpF ⟨yp, ya, yb, yv⟩ ⟨p, a, b, v⟩ < 0) = false := by
          have := (cmpF_spec HSY.out HX.out).1
          simp only [decide_eq_false_iff_not]
          omega
        have hmp : pos f (place ⟨p, a, b, v⟩) ≤ mid := by
          have := HI.out
          omega
        clear hc HSY HI
        go_wp2_with fail
        have Lc0 : ∀ x : Low wr.heap.size wr, x.wd.cell? ⟨w.heap.size, 0, none⟩ = some (.int .i64 p) := fun x => (cell_lasts x.low s1).trans c0
        have Lc1 : ∀ x : Low wr.heap.size wr, x.wd.cell? ⟨w.heap.size, 1, none⟩ = some (.int .i64 a) := fun x => (cell_lasts x.low s1).trans c1
        have Lc2 : ∀ x : Low wr.heap.size wr, x.wd.cell? ⟨w.heap.size, 2, none⟩ = some (.int .i64 b) := fun x => (cell_lasts x.low s1).trans c2
        have Lc3 : ∀ x : Low wr.heap.size wr, x.wd.cell? ⟨w.heap.size, 3, none⟩ = some (.int .i64 v) := fun x => (cell_lasts x.low s1).trans c3
        have Lt0 : ∀ x : Low wr.heap.size wr, x.wd.cell? ⟨bb, off + mid * 4, none⟩ = some (.int .i64 yp) := fun x => (cell_lasts x.low s2).trans t0
        have Lt1 : ∀ x : Low wr.heap.size wr, x.wd.cell? ⟨bb, off + mid * 4 + 1, none⟩ = some (.int .i64 ya) := fun x => (cell_lasts x.low s2).trans t1
        have Lt2 : ∀ x : Low wr.heap.size wr, x.wd.cell? ⟨bb, off + mid * 4 + 2, none⟩ = some (.int .i64 yb) := fun x => (cell_lasts x.low s2).trans t2
        have Lt3 : ∀ x : Low wr.heap.size wr, x.wd.cell? ⟨bb, off + mid * 4 + 3, none⟩ = some (.int .i64 yv) := fun x => (cell_lasts x.low s2).trans t3
        refine wp_region_low wr.heap.size (by kernel_rfl) (by kernel_rfl) ?_
        repeat (go_big_quiet_step (((go_at_call 72; exact low_of (order_c _ _ _ _ _ _ _ _ _)))))
        refine wpQuiet_nil ?_
        rintro _ ⟨⟨w2, hk⟩, rfl⟩
        clear Lc0 Lc1 Lc2 Lc3 Lt0 Lt1 Lt2 Lt3
        go_wp2_with fail
        go_roundw
        case rel => exact ⟨lo, mid, rfl, rfl, h1, hmp, by omega, hbr.trans (hk.mono (by have := hbr.size; simp at this; omega))⟩
        case measure => simp [intOf]; omega
    · have hlo : pos f (place ⟨p, a, b, v⟩) = lo := by omega
      have hlen : lo ≤ f.length := by omega
      have HLO : Hid (pos f (place ⟨p, a, b, v⟩) = lo) := hlo
      clear h1 h2 hlo hpl
      by_cases hin : lo < f.length
      · have hjl : (lo : Int) < (f.length : Int) := by omega
        have hj0 : (0 : Int) ≤ (lo : Int) := by omega
        obtain ⟨bb, off, cap, hv, hbl, hcells⟩ := fact_cells HF.out hin
        obtain ⟨rfl, rfl⟩ : fa = some ⟨bb, off, none⟩ ∧ fc = cap := by simpa using hv
        have s2 : bb < wr.heap.size := Nat.lt_of_lt_of_le hbl hbw.size
        obtain ⟨t0, t1, t2, t3⟩ := factAt.lasts w wr bb _ _ hbw hbl hcells
        have HSY : Hid (Small f[lo]) := HS.out _ (List.getElem_mem hin)
        have HG : Hid (get f (place ⟨p, a, b, v⟩) = if place f[lo] = place ⟨p, a, b, v⟩ then some f[lo].val else none) := by
          show _ = _
          rw [get_pos HSO.out]
          simp only [HLO.out, dif_pos hin]
        clear hcells hv HS HSO HF
        generalize f[lo] = y at *
        obtain ⟨yp, ya, yb, yv⟩ := y
        by_cases hc : place ⟨yp, ya, yb, yv⟩ = place ⟨p, a, b, v⟩
        · have hc' : (cmpF ⟨yp, ya, yb, yv⟩ ⟨p, a, b, v⟩ == 0) = true := by simpa using ((cmpF_spec HSY.out HX.out).2).2 hc
          have HG' : Hid ((get f (place ⟨p, a, b, v⟩)).isSome = true) := by show _ = _; rw [HG.out, if_pos hc]; rfl
          clear hc HSY HG
          go_wp2_with fail
          have Lc0 : ∀ x : Low wr.heap.size wr, x.wd.cell? ⟨w.heap.size, 0, none⟩ = some (.int .i64 p) := fun x => (cell_lasts x.low s1).trans c0
          have Lc1 : ∀ x : Low wr.heap.size wr, x.wd.cell? ⟨w.heap.size, 1, none⟩ = some (.int .i64 a) := fun x => (cell_lasts x.low s1).trans c1
          have Lc2 : ∀ x : Low wr.heap.size wr, x.wd.cell? ⟨w.heap.size, 2, none⟩ = some (.int .i64 b) := fun x => (cell_lasts x.low s1).trans c2
          have Lc3 : ∀ x : Low wr.heap.size wr, x.wd.cell? ⟨w.heap.size, 3, none⟩ = some (.int .i64 v) := fun x => (cell_lasts x.low s1).trans c3
          have Lt0 : ∀ x : Low wr.heap.size wr, x.wd.cell? ⟨bb, off + lo * 4, none⟩ = some (.int .i64 yp) := fun x => (cell_lasts x.low s2).trans t0
          have Lt1 : ∀ x : Low wr.heap.size wr, x.wd.cell? ⟨bb, off + lo * 4 + 1, none⟩ = some (.int .i64 ya) := fun x => (cell_lasts x.low s2).trans t1
          have Lt2 : ∀ x : Low wr.heap.size wr, x.wd.cell? ⟨bb, off + lo * 4 + 2, none⟩ = some (.int .i64 yb) := fun x => (cell_lasts x.low s2).trans t2
          have Lt3 : ∀ x : Low wr.heap.size wr, x.wd.cell? ⟨bb, off + lo * 4 + 3, none⟩ = some (.int .i64 yv) := fun x => (cell_lasts x.low s2).trans t3
          refine wp_region_low wr.heap.size (by kernel_rfl) (by kernel_rfl) ?_
          repeat (go_big_quiet_step (((go_at_call 72; exact low_of (order_c _ _ _ _ _ _ _ _ _)))))
          refine wpQuiet_nil ?_
          rintro _ ⟨⟨w2, hk⟩, rfl⟩
          clear Lc0 Lc1 Lc2 Lc3 Lt0 Lt1 Lt2 Lt3
          go_wp2_with fail
          go_ret2
          exact ⟨by rw [HG'.out, HLO.out]; rfl, hbw.trans (hk.mono hbw.size)⟩
        · have hc' : (cmpF ⟨yp, ya, yb, yv⟩ ⟨p, a, b, v⟩ == 0) = false := by
            have := (cmpF_spec HSY.out HX.out).2
            simp only [beq_eq_false_iff_ne, ne_eq]
            omega
          have HG' : Hid ((get f (place ⟨p, a, b, v⟩)).isSome = false) := by show _ = _; rw [HG.out, if_neg hc]; rfl
          clear hc HSY HG
          go_wp2_with fail
          have Lc0 : ∀ x : Low wr.heap.size wr, x.wd.cell? ⟨w.heap.size, 0, none⟩ = some (.int .i64 p) := fun x => (cell_lasts x.low s1).trans c0
          have Lc1 : ∀ x : Low wr.heap.size wr, x.wd.cell? ⟨w.heap.size, 1, none⟩ = some (.int .i64 a) := fun x => (cell_lasts x.low s1).trans c1
          have Lc2 : ∀ x : Low wr.heap.size wr, x.wd.cell? ⟨w.heap.size, 2, none⟩ = some (.int .i64 b) := fun x => (cell_lasts x.low s1).trans c2
          have Lc3 : ∀ x : Low wr.heap.size wr, x.wd.cell? ⟨w.heap.size, 3, none⟩ = some (.int .i64 v) := fun x => (cell_lasts x.low s1).trans c3
          have Lt0 : ∀ x : Low wr.heap.size wr, x.wd.cell? ⟨bb, off + lo * 4, none⟩ = some (.int .i64 yp) := fun x => (cell_lasts x.low s2).trans t0
          have Lt1 : ∀ x : Low wr.heap.size wr, x.wd.cell? ⟨bb, off + lo * 4 + 1, none⟩ = some (.int .i64 ya) := fun x => (cell_lasts x.low s2).trans t1
          have Lt2 : ∀ x : Low wr.heap.size wr, x.wd.cell? ⟨bb, off + lo * 4 + 2, none⟩ = some (.int .i64 yb) := fun x => (cell_lasts x.low s2).trans t2
          have Lt3 : ∀ x : Low wr.heap.size wr, x.wd.cell? ⟨bb, off + lo * 4 + 3, none⟩ = some (.int .i64 yv) := fun x => (cell_lasts x.low s2).trans t3
          refine wp_region_low wr.heap.size (by kernel_rfl) (by kernel_rfl) ?_
          repeat (go_big_quiet_step (((go_at_call 72; exact low_of (order_c _ _ _ _ _ _ _ _ _)))))
          refine wpQuiet_nil ?_
          rintro _ ⟨⟨w2, hk⟩, rfl⟩
          clear Lc0 Lc1 Lc2 Lc3 Lt0 Lt1 Lt2 Lt3
          go_wp2_with fail
          go_ret2
          exact ⟨by rw [HG'.out, HLO.out]; rfl, hbw.trans (hk.mono hbw.size)⟩
      · have HG' : Hid ((get f (place ⟨p, a, b, v⟩)).isSome = false) := by
          show _ = _
          rw [get_pos HSO.out, dif_neg (by rw [HLO.out]; exact hin)]
          rfl
        have hjl : ¬ (lo : Int) < (f.length : Int) := by omega
        clear HS HSO HF
        go_wp2_with fail
        have Lc0 : ∀ x : Low wr.heap.size wr, x.wd.cell? ⟨w.heap.size, 0, none⟩ = some (.int .i64 p) := fun x => (cell_lasts x.low s1).trans c0
        have Lc1 : ∀ x : Low wr.heap.size wr, x.wd.cell? ⟨w.heap.size, 1, none⟩ = some (.int .i64 a) := fun x => (cell_lasts x.low s1).trans c1
        have Lc2 : ∀ x : Low wr.heap.size wr, x.wd.cell? ⟨w.heap.size, 2, none⟩ = some (.int .i64 b) := fun x => (cell_lasts x.low s1).trans c2
        have Lc3 : ∀ x : Low wr.heap.size wr, x.wd.cell? ⟨w.heap.size, 3, none⟩ = some (.int .i64 v) := fun x => (cell_lasts x.low s1).trans c3
        refine wp_region_low wr.heap.size (by kernel_rfl) (by kernel_rfl) ?_
        repeat (go_big_quiet_step (((go_at_call 72; exact low_of (order_c _ _ _ _ _ _ _ _ _)))))
        refine wpQuiet_nil ?_
        rintro _ ⟨⟨w2, hk⟩, rfl⟩
        clear Lc0 Lc1 Lc2 Lc3
        go_wp2_with fail
        go_ret2
        exact ⟨by rw [HG'.out, HLO.out]; rfl, hbw.trans (hk.mono hbw.size)⟩
end Go.Proofs.YtlfccloaoopadafGreatDoor.Base

/-
  Package base: Find and Under.
-/
namespace Go.Proofs.YtlfccloaoopadafGreatDoor.Base
open Go.ChangeShapes Go.WideShapes Go.ChangeAt Go.RowKit
open Lat (within within_c join)
open Rule (factFine factFine_c isPred kindOf arityOf isPred_iff)

theorem withErr_zero {ps : List Prd} {f : List Fct} {x : Fct} (h : withErr ps f x = 0) : factsErr ps f = 0 ∧ factFine ps x = true := by
  unfold withErr at h
  split at h
  · contradiction
  · rename_i h0
    split at h
    · exact ⟨by omega, by assumption⟩
    · omega
theorem findOf_err {ps : List Prd} {f : List Fct} {x : Fct} (h : withErr ps f x ≠ 0) : findOf ps f x = (0, false, withErr ps f x) := by
  unfold withErr findOf at *
  by_cases h0 : factsErr ps f = 0
  · cases hf : factFine ps x
    · simp [h0]
    · simp [h0, hf] at h
  · simp [h0]

set_option maxRecDepth 100000 in
set_option maxHeartbeats 4000000 in
theorem Find_c (w : World) (pv fv : Value) (ps : List Prd) (f : List Fct) (p a b v : Int) (hp : predsAt w pv ps) (hf : factsAt w fv f) :
    Calls Tryz.prog 194 #[pv, fv, .agg #[.int .i64 p, .int .i64 a, .int .i64 b, .int .i64 v]] w fun e w' => e = .returned (.tuple #[.int .i64 (findOf ps f ⟨p, a, b, v⟩).1, .bool (findOf ps f ⟨p, a, b, v⟩).2.1, .int .i64 (findOf ps f ⟨p, a, b, v⟩).2.2]) ∧ Below w.heap.size w w' := by
  have HP : Hid (∀ (w1 : World), Below w.heap.size w w1 → predsAt w1 pv ps) := fun w1 hb1 => predsAt.lasts hb1 hp
  have HF : Hid (∀ (w1 : World), Below w.heap.size w w1 → factsAt w1 fv f) := fun w1 hb1 => factsAt.lasts hb1 hf
  obtain ⟨fa, fc, rfl, hfm, hfx⟩ := hf
  clear hp hfx
  by_cases h0 : withErr ps f ⟨p, a, b, v⟩ = 0
  · obtain ⟨h1, h2⟩ := withErr_zero h0
    have HS : Hid (∀ y ∈ f, Small y) := facts_small h1
    have HX : Hid (Small ⟨p, a, b, v⟩) := fine_small (factsErr_zero h1).1 h2
    have HSO : Hid (Sorted f) := (right_of h1).sorted
    have e : findOf ps f ⟨p, a, b, v⟩ = (findTo f (place ⟨p, a, b, v⟩), (get f (place ⟨p, a, b, v⟩)).isSome, 0) := by simp [findOf, h1, h2]
    rw [e]
    clear e h1 h2
    cases hg : get f (place ⟨p, a, b, v⟩) with
    | none =>
      have e : findTo f (place ⟨p, a, b, v⟩) = 0 := by rw [findTo, hg]; rfl
      rw [e]
      clear e
      go_enter Tryz.func194, Tryz.ntmps194
      go_wp2_with (first
        | (go_at_call 115; refine (checkWith_c _ _ _ ps f _ _ _ _ (HP.out _ (below_alloc _ _)) (HF.out _ (below_alloc _ _))).mono ?_; rintro e w1 ⟨rfl, hb1⟩; obtain ⟨c0, c1, c2, c3⟩ := four_last hb1; have HB : Hid (Below w.heap.size w w1) := (below_alloc _ _).trans (hb1.mono (by simp)); clear hb1)
        | (go_at_call 116; refine (search_c _ _ f _ _ _ _ (HF.out _ HB.out) HS.out HX.out HSO.out).mono ?_; rintro e w2 ⟨rfl, hb2⟩; rw [hg]))
      go_ret3
      exact ⟨rfl, HB.out.trans (hb2.mono HB.out.size)⟩
    | some u =>
      have e : findTo f (place ⟨p, a, b, v⟩) = u := by rw [findTo, hg]; rfl
      rw [e]
      clear e
      obtain ⟨hpos, _, hu⟩ := get_some_pos HSO.out hg
      obtain ⟨bb, off, cap, hv, hbl, hcells⟩ := fact_cells (HF.out w (Below.refl _ _)) hpos
      obtain ⟨rfl, rfl⟩ : fa = some ⟨bb, off, none⟩ ∧ fc = cap := by simpa using hv
      obtain ⟨_, _, _, t3⟩ := hcells
      rw [hu] at t3
      have hp0 : (0 : Int) ≤ (pos f (place ⟨p, a, b, v⟩) : Int) := by omega
      have hp1 : (pos f (place ⟨p, a, b, v⟩) : Int) < (f.length : Int) := by omega
      have HQ : Hid (∀ w', Calls Tryz.prog 116 #[.slice (some ⟨bb, off, none⟩) f.length fc, .agg #[.int .i64 p, .int .i64 a, .int .i64 b, .int .i64 v], .func (.func 72) #[] #[]] w' (fun e w1 => e = .returned (.tuple #[.int .i64 (pos f (place ⟨p, a, b, v⟩)), .bool true]) ∧ Below w'.heap.size w' w1) ∨ ¬ Below w.heap.size w w') := fun w' => by
        by_cases hb : Below w.heap.size w w'
        · left
          have := search_c w' _ f p a b v (HF.out _ hb) HS.out HX.out HSO.out
          rw [hg] at this
          exact this
        · exact .inr hb
      clear hv HS HX HSO hg hu
      generalize pos f (place ⟨p, a, b, v⟩) = k at *
      go_enter Tryz.func194, Tryz.ntmps194
      go_wp2_with (first
        | (go_at_call 115; refine (checkWith_c _ _ _ ps f _ _ _ _ (HP.out _ (below_alloc _ _)) (HF.out _ (below_alloc _ _))).mono ?_; rintro e w1 ⟨rfl, hb1⟩; obtain ⟨c0, c1, c2, c3⟩ := four_last hb1; have HB : Hid (Below w.heap.size w w1) := (below_alloc _ _).trans (hb1.mono (by simp)); clear hb1)
        | (go_at_call 116; refine ((HQ.out _).resolve_right (fun h => h HB.out)).mono ?_; rintro e w2 ⟨rfl, hb2⟩; replace t3 := (cell_lasts (HB.out.trans (hb2.mono HB.out.size)) hbl).trans t3))
      go_ret3
      exact ⟨rfl, HB.out.trans (hb2.mono HB.out.size)⟩
  · rw [findOf_err h0]
    have h0' : (withErr ps f ⟨p, a, b, v⟩ == 0) = false := by simpa using h0
    go_enter Tryz.func194, Tryz.ntmps194
    go_wp2_with (go_at_call 115; refine (checkWith_c _ _ _ ps f _ _ _ _ (HP.out _ (below_alloc _ _)) (HF.out _ (below_alloc _ _))).mono ?_; rintro e w1 ⟨rfl, hb1⟩; have HB : Hid (Below w.heap.size w w1) := (below_alloc _ _).trans (hb1.mono (by simp)); clear hb1)
    go_ret3
    exact ⟨rfl, HB.out⟩

theorem leq_is {k a b : Int} (ha : Lat.err k a = 0) (hb : Lat.err k b = 0) : Lat.leq k a b = (join k a b == b) := by
  have h2 : Lat.err2 k a b = 0 := by rw [Lat.err2, if_pos ha, hb]
  unfold Lat.leq Lat.joinOf
  simp [h2]
theorem cell_lt {w : World} {b o : Nat} {v : Value} (h : w.cell? ⟨b, o, none⟩ = some v) : b < w.heap.size := by
  refine Classical.byContradiction fun hn => ?_
  have : w.heap[b]? = none := by simp; omega
  simp [World.cell?, this] at h
theorem asks2 {α : Type} {V : α → Value} {g : Nat} {a b : Value} {p : α → Bool} {xs : List α} {w : World} (h : ∀ (w1 : World) (q : α), Below w.heap.size w w1 → q ∈ xs → Calls Tryz.prog g #[V q, a, b] w1 fun e w' => e = .returned (.bool (p q)) ∧ Below w1.heap.size w1 w') : Asks V g #[a, b] p xs w := by
  intro w1 q hb hq
  have e : #[V q] ++ #[a, b] = #[V q, a, b] := rfl
  rw [e]
  exact h w1 q hb hq
end Go.Proofs.YtlfccloaoopadafGreatDoor.Base

/-
  What the document's own use of a rule answers: FireError, holds, HoldsOf.
-/
namespace Go.Proofs.YtlfccloaoopadafGreatDoor.Fire
open Go.ChangeShapes Go.WideShapes Go.ChangeAt Go.RowKit
open Lat (within within_c lift)
open Rule (Vars groundErr argAt groundTo kindOf isPred atomErr ruleErr)
open Base (place get findTo factsErr checkFacts_c Small fine_small)
open Prog (progErr checkProg_c small slice_cells boxL boxO)

theorem fire_prog {ps : List Prd} {rs : List Rul} {f : List Fct} {n : Int} (h : progErr ps rs ≠ 0) : fireErr ps rs f n = progErr ps rs := by rw [fireErr, if_pos h]
theorem fire_facts {ps : List Prd} {rs : List Rul} {f : List Fct} {n : Int} (h : progErr ps rs = 0) (h2 : factsErr ps f ≠ 0) : fireErr ps rs f n = factsErr ps f := by rw [fireErr, if_neg (by rw [h]; simp), if_pos h2]
theorem fire_none {ps : List Prd} {rs : List Rul} {f : List Fct} {n : Int} (h : progErr ps rs = 0) (h2 : factsErr ps f = 0) : fireErr ps rs f n = if within n 0 ((rs.length : Int) - 1) then 0 else 7 := by
  rw [fireErr, if_neg (by rw [h]; simp), if_neg (by rw [h2]; simp)]
  by_cases e : 0 ≤ n ∧ n < (rs.length : Int)
  · rw [if_pos e, if_pos (within_iff.2 (by omega))]
  · rw [if_neg e, if_neg (fun q => e (by have := within_iff.1 q; omega))]

end Go.Proofs.YtlfccloaoopadafGreatDoor.Fire

/-
  What the document's own 'holds' answers, of right ones.
-/
namespace Go.Proofs.YtlfccloaoopadafGreatDoor.Fire
open Go.ChangeShapes Go.WideShapes Go.ChangeAt Go.RowKit
open Lat (within within_c lift)
open Rule (Vars groundErr argAt groundTo kindOf isPred atomErr ruleErr)
open Base (place get findTo factsErr checkFacts_c Small fine_small facts_small factsErr_zero predsOk)
open Prog (progErr checkProg_c small slice_cells boxL boxO)

theorem litOk_not {f : List Fct} {v : Vars} {ls : List Ltr} {k : Nat} (h : k < ls.length) (hb : there f v ls[k] = ls[k].neg) : bodyOk f v ls = false :=
  all_not h (by unfold litOk; rw [hb]; simp)
theorem kind_small {ps : List Prd} (h : predsOk ps = true) {p : Int} (hp : isPred ps p = true) : kindOf ps p = 0 ∨ kindOf ps p = 1 ∨ kindOf ps p = 2 ∨ kindOf ps p = 3 := by
  have := within_iff.1 (pred_ok h hp).1
  omega

end Go.Proofs.YtlfccloaoopadafGreatDoor.Fire

/-
  What the document's own 'HoldsOf' answers.
-/
namespace Go.Proofs.YtlfccloaoopadafGreatDoor.Fire
open Go.ChangeShapes Go.WideShapes Go.ChangeAt Go.RowKit
open Rule (Vars ruleErr)
open Base (factsErr)
open Prog (progErr small)

theorem wp_put {P : Program} {c : Code} {Q : Exit → Act → World → Prop} {a : Act} {W : World} (F : World → Prop) (hF : F W) (h : ∀ W0, F W0 → Code.wp P c Q a W0) : Code.wp P c Q a W := h W hF
/-- E1 -/
def holdsOk (ps : List Prd) (rs : List Rul) (f : List Fct) (n : Int) (v : Vars) : Bool := if holdsErr ps rs f n v ≠ 0 then false else bodyOk f v ((rs[n.toNat]?.map Rul.body).getD [])
def holdsFact (ps : List Prd) (rs : List Rul) (f : List Fct) (n : Int) (v : Vars) : Fct := if holdsErr ps rs f n v ≠ 0 then ⟨0, 0, 0, 0⟩ else (rs[n.toNat]?.map fun r => holdsF ps f r v).getD ⟨0, 0, 0, 0⟩
theorem fire_zero {ps : List Prd} {rs : List Rul} {f : List Fct} {n : Int} (h : fireErr ps rs f n = 0) : progErr ps rs = 0 ∧ factsErr ps f = 0 ∧ 0 ≤ n ∧ n < (rs.length : Int) := by
  rw [fireErr] at h
  split at h
  · contradiction
  · rename_i h1
    split at h
    · contradiction
    · rename_i h2
      split at h
      · rename_i h3
        exact ⟨Classical.not_not.1 h1, Classical.not_not.1 h2, h3⟩
      · cases h
theorem rules_right {ps : List Prd} {rs : List Rul} (h : progErr ps rs = 0) : ∀ r ∈ rs, ruleErr ps r = 0 := by
  have h1 := (Prog.prog_zero h).1
  rw [Prog.partsErr] at h1
  split at h1
  · contradiction
  · split at h1
    · contradiction
    · split at h1
      · contradiction
      · split at h1
        · contradiction
        · split at h1
          · contradiction
          · exact Prog.rules_all h1

end Go.Proofs.YtlfccloaoopadafGreatDoor.Fire

/-
  Steps in memory.
-/
namespace Go.Proofs.YtlfccloaoopadafGreatDoor.Fire
open Go.ChangeShapes Go.WideShapes Go.ChangeAt Go.RowKit

/-- a step: the rule's number, and what its variables stand for -/
structure Stp where
  rule : Int
  x : Int
  y : Int
  z : Int
deriving instance DecidableEq for Stp
def stepAt (w : World) (b o : Nat) (s : Stp) : Prop :=
  w.cell? ⟨b, o, none⟩ = some (.int .i64 s.rule) ∧ w.cell? ⟨b, o + 1, none⟩ = some (.int .i64 s.x) ∧ w.cell? ⟨b, o + 2, none⟩ = some (.int .i64 s.y) ∧ w.cell? ⟨b, o + 3, none⟩ = some (.int .i64 s.z)
abbrev stepsAt : World → Value → List Stp → Prop := sliceAt 4 stepAt
theorem stepAt.lasts : Lasts stepAt := fun _ _ _ _ _ hb hlt ⟨h1, h2, h3, h4⟩ => ⟨(cell_lasts hb hlt).trans h1, (cell_lasts hb hlt).trans h2, (cell_lasts hb hlt).trans h3, (cell_lasts hb hlt).trans h4⟩
theorem stepsAt.lasts {w w' : World} {v : Value} {xs : List Stp} (hb : Below w.heap.size w w') (h : stepsAt w v xs) : stepsAt w' v xs := sliceAt.lasts stepAt.lasts hb h
theorem step_cells {w : World} {v : Value} {f : List Stp} (h : stepsAt w v f) {j : Nat} (hj : j < f.length) : ∃ b off cap, v = .slice (some ⟨b, off, none⟩) f.length cap ∧ b < w.heap.size ∧ stepAt w b (off + j * 4) f[j] := Prog.slice_cells h hj

end Go.Proofs.YtlfccloaoopadafGreatDoor.Fire

/-
  What the document's own 'stand' answers: which variables stand in a rule.
-/
namespace Go.Proofs.YtlfccloaoopadafGreatDoor.Fire
open Go.ChangeShapes Go.WideShapes Go.ChangeAt Go.RowKit
open Rule (stands stands_c asked)
open Prog (boolV bools_at bools_set slice_cells rowAt_new below_alloc')
open Strata (bat bat_set)

end Go.Proofs.YtlfccloaoopadafGreatDoor.Fire

/-
  What the document's own 'RoundError' answers.
-/
namespace Go.Proofs.YtlfccloaoopadafGreatDoor.Fire
open Go.ChangeShapes Go.WideShapes Go.ChangeAt Go.RowKit
open Base (factsErr checkFacts_c)
open Prog (progErr checkProg_c small boxL)

def roundErr (ps : List Prd) (rs : List Rul) (f : List Fct) : Int := if progErr ps rs ≠ 0 then progErr ps rs else factsErr ps f

set_option maxRecDepth 100000 in
set_option maxHeartbeats 1000000 in
theorem roundError_c (w : World) (pv rv fv : Value) (ps : List Prd) (rs : List Rul) (f : List Fct) (hp : predsAt w pv ps) (hr : rulesAt w rv rs) (hf : factsAt w fv f) (hn : small ps) :
    Calls Tryz.prog 14 #[.agg #[pv, rv], fv] w fun e w' => e = .returned (.int .i64 (roundErr ps rs f)) ∧ Below w.heap.size w w' := by
  have HP : Hid (∀ x, Below w.heap.size w x → predsAt x pv ps) := fun x hx => predsAt.lasts hx hp
  have HR : Hid (∀ x, Below w.heap.size w x → rulesAt x rv rs) := fun x hx => rulesAt.lasts hx hr
  have HF : Hid (∀ x, Below w.heap.size w x → factsAt x fv f) := fun x hx => factsAt.lasts hx hf
  obtain ⟨pa, pc, rfl, hpm, hpx⟩ := hp
  obtain ⟨ra, rc, rfl, hrm, hrx⟩ := hr
  obtain ⟨fa, fc, rfl, hfm, hfx⟩ := hf
  clear hpx hrx hfx
  by_cases hpe : progErr ps rs = 0
  · rw [roundErr, if_neg (by simp [hpe])]
    go_enter Tryz.func14, Tryz.ntmps14
    go_wp2_with fail
    refine (checkProg_c _ _ _ ps rs (HP.out _ (below_alloc _ _)) (HR.out _ (below_alloc _ _)) hn).mono ?_
    rw [hpe]
    rintro e w1 ⟨rfl, hb1⟩
    have B1 := boxL hb1
    obtain ⟨c0, c1, _⟩ := id B1
    have k1 : Below w.heap.size w w1 := below_trans (below_alloc _ _) hb1
    clear hb1
    go_wp2_with fail
    refine (checkFacts_c _ _ _ ps f (HP.out _ k1) (HF.out _ k1)).mono ?_
    rintro e w2 ⟨rfl, hb2⟩
    go_wp2_with fail
    go_ret
    exact ⟨rfl, k1.trans (hb2.mono k1.size)⟩
  · rw [roundErr, if_pos hpe]
    go_enter Tryz.func14, Tryz.ntmps14
    go_wp2_with fail
    refine (checkProg_c _ _ _ ps rs (HP.out _ (below_alloc _ _)) (HR.out _ (below_alloc _ _)) hn).mono ?_
    rintro e w1 ⟨rfl, hb1⟩
    go_wp2_with fail
    go_ret
    exact ⟨rfl, below_trans (below_alloc _ _) hb1⟩
end Go.Proofs.YtlfccloaoopadafGreatDoor.Fire
