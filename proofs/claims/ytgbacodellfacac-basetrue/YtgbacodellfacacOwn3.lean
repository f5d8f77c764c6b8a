/-
  Package base: Check, and what is asked ahead of the other calls.
-/
import Derived.Test.YtgbacodellfacacOwn2
import Derived.Test.YtgbacodellfacacIdx
namespace Go.Proofs.Ytgbacodellfacac.Base
open Go.ChangeShapes Go.WideShapes Go.ChangeAt Go.RowKit
open Lat (within)
open Rule (factFine isPred kindOf arityOf isPred_iff)

theorem err_zero (k : Int) : Lat.err k 0 = if within k 0 3 then 0 else 4 := by
  have hm : ¬ ((0 : Int) < 0 ∨ Lat.most k < 0) := by
    unfold Lat.most
    split <;> omega
  unfold Lat.err
  by_cases h : 0 ≤ k ∧ k ≤ 3
  · rw [if_neg (by omega), if_neg hm, if_pos (by simpa [within] using h)]
  · rw [if_pos (by omega), if_neg (by simpa [within] using h)]

set_option maxHeartbeats 1000000 in
theorem notPred_c (q : Prd) (w : World) : Calls Try.prog 32 #[predV q] w fun e w' => e = .returned (.bool (!predOk q)) ∧ Below w.heap.size w w' := by
  obtain ⟨qn, qa, qk⟩ := q
  simp only [predV, predOk]
  cases g1 : within qk 0 3
  · have he : Lat.err qk 0 = 4 := by rw [err_zero, g1]; rfl
    go_enter Try.func32, Try.ntmps32
    go_wp2_with (go_at_call 33; refine (Lat.check_c _ _ _).mono ?_; rintro e w' ⟨rfl, rfl⟩)
    go_ret
    exact ⟨rfl, below_alloc _ _⟩
  · have he : Lat.err qk 0 = 0 := by rw [err_zero, g1]; rfl
    by_cases h1 : qa < 0
    · have e : within qa 0 2 = false := by simp [within]; omega
      rw [e]
      go_enter Try.func32, Try.ntmps32
      go_wp2_with (go_at_call 33; refine (Lat.check_c _ _ _).mono ?_; rintro e w' ⟨rfl, rfl⟩)
      go_ret
      exact ⟨rfl, below_alloc _ _⟩
    · by_cases h2 : 2 < qa
      · have e : within qa 0 2 = false := by simp [within]; omega
        rw [e]
        go_enter Try.func32, Try.ntmps32
        go_wp2_with (go_at_call 33; refine (Lat.check_c _ _ _).mono ?_; rintro e w' ⟨rfl, rfl⟩)
        go_ret
        exact ⟨rfl, below_alloc _ _⟩
      · have e : within qa 0 2 = true := by simp [within]; omega
        rw [e]
        go_enter Try.func32, Try.ntmps32
        go_wp2_with (go_at_call 33; refine (Lat.check_c _ _ _).mono ?_; rintro e w' ⟨rfl, rfl⟩)
        go_ret
        exact ⟨by simp; omega, below_alloc _ _⟩
theorem enters_notPred : ∀ args w, (callFunc 32 args).run Try.prog w = .ok (.enter 32 args) w := enters_of Try.func32 (by kernel_rfl) rfl
theorem any_notPred (ps : List Prd) : ps.any (fun q => !predOk q) = !predsOk ps := by
  rw [predsOk, List.not_all_eq_any_not]

set_option maxRecDepth 100000 in
set_option maxHeartbeats 8000000 in
theorem check_c (w : World) (pv fv : Value) (ps : List Prd) (f : List Fct) (hp : predsAt w pv ps) (hf : factsAt w fv f) :
    Calls Try.prog 17 #[pv, fv] w fun e w' => e = .returned (.int .i64 (factsErr ps f)) ∧ Below w.heap.size w w' := by
  have HP : Hid (∀ (w1 : World), Below w.heap.size w w1 → predsAt w1 pv ps) := fun w1 hb1 => predsAt.lasts hb1 hp
  have HF : Hid (factsAt w fv f) := hf
  obtain ⟨pa, pc, rfl, hpm, hpx⟩ := hp
  obtain ⟨fa, fc, rfl, hfm, hfx⟩ := hf
  clear hpx hfx
  by_cases h5 : 5 < ps.length
  · have e : factsErr ps f = 2 := by rw [factsErr, if_pos h5]
    rw [e]
    have h5' : (5 : Int) < (ps.length : Int) := by omega
    go_enter Try.func17, Try.ntmps17
    go_wp2_with fail
    go_ret
    exact ⟨rfl, Below.refl _ _⟩
  · have h5' : ¬ (5 : Int) < (ps.length : Int) := by omega
    have HC : Hid (∀ r, ps.any (fun q => !predOk q) = r → Calls Try.prog 34 #[.slice pa ps.length pc, .func (.func 32) #[] #[]] w fun e w' => e = .returned (.bool r) ∧ Below w.heap.size w w') := fun r hr => hr ▸ containsPred_c w _ ps _ #[] enters_notPred _ (HP.out w (Below.refl _ _)) (fun w1 q hb _ => notPred_c q w1)
    cases hpk : predsOk ps
    · have e : factsErr ps f = 2 := by rw [factsErr, if_neg h5, if_pos hpk]
      rw [e]
      have hr := HC.out true (by rw [any_notPred, hpk]; rfl)
      clear hpk e
      go_enter Try.func17, Try.ntmps17
      go_wp2_with (go_at_call 34; refine hr.mono ?_; rintro e w1 ⟨rfl, hb1⟩)
      go_ret
      exact ⟨rfl, hb1⟩
    · have HE : Hid (factsErr ps f = if goodTo ps f f.length then 0 else 1) := by show _ = _; rw [factsErr, if_neg h5, if_neg (by rw [hpk]; simp)]
      have hr := HC.out false (by rw [any_notPred, hpk]; rfl)
      clear hpk
      go_enter Try.func17, Try.ntmps17
      go_wp2_with (go_at_call 34; refine hr.mono ?_; rintro e w1 ⟨rfl, hb1⟩)
      go_loopw [18] (fun i wr => ∃ j : Nat, j ≤ f.length ∧ i = .int .i64 j ∧ goodTo ps f j = true ∧ Below w.heap.size w wr) (fun i _ => f.length - (intOf i).toNat)
      case atStart => exact ⟨0, Nat.zero_le _, rfl, rfl, hb1⟩
      case round =>
        obtain ⟨j, hj, rfl, hgo, hbw⟩ := hrel
        clear hr HC hb1
        by_cases hlt : j < f.length
        · have H : Hid (goodTo ps f (j + 1) = goodAt ps f j) := by show _ = _; rw [goodTo_succ, hgo, Bool.true_and]
          have H2 : Hid (goodAt ps f j = false → factsErr ps f = 1) := fun h => by rw [HE.out, if_neg (by rw [goodTo_not hlt h]; simp)]
          obtain ⟨bb, off, cap, hv, hbl, hcells⟩ := fact_cells HF.out hlt
          obtain ⟨rfl, rfl⟩ : fa = some ⟨bb, off, none⟩ ∧ fc = cap := by simpa using hv
          have s2 : bb < wr.heap.size := Nat.lt_of_lt_of_le hbl hbw.size
          obtain ⟨t0, t1, t2, t3⟩ := factAt.lasts w wr bb _ _ hbw hbl hcells
          have hjl : (j : Int) < (f.length : Int) := by omega
          have hj0 : (0 : Int) ≤ (j : Int) := by omega
          have HNJ : Hid (nth f j = f[j]) := nth_eq hlt
          clear hcells hv
          rcases Nat.eq_zero_or_pos j with rfl | hjp
          · have HGA : Hid (goodAt ps f 0 = factFine ps f[0]) := by show _ = _; rw [goodAt, HNJ.out]; simp
            simp only [Nat.zero_mul, Nat.add_zero] at t0 t1 t2 t3
            clear HNJ HF hgo
            generalize f[0] = y at *
            obtain ⟨yp, ya, yb, yv⟩ := y
            cases hff : factFine ps ⟨yp, ya, yb, yv⟩
            · have H3 : Hid (factsErr ps f = 1) := H2.out (HGA.out.trans hff)
              clear H H2 HE HGA
              go_wp2_with fail
              refine wp_called (fun w' => Below w.heap.size w w' ∧ Below wr.heap.size wr w' ∧ wr.heap.size < w'.heap.size ∧ w'.cell? ⟨wr.heap.size, 0, none⟩ = some (.int .i64 yp) ∧ w'.cell? ⟨wr.heap.size, 1, none⟩ = some (.int .i64 ya) ∧ w'.cell? ⟨wr.heap.size, 2, none⟩ = some (.int .i64 yb) ∧ w'.cell? ⟨wr.heap.size, 3, none⟩ = some (.int .i64 yv)) ⟨hbw.trans ((below_alloc _ _).mono hbw.size), below_alloc _ _, by simp, by simp [go_sem], by simp [go_sem], by simp [go_sem], by simp [go_sem]⟩ ?_
              rintro W0 ⟨hb0, hbr, sx, x0, x1, x2, x3⟩
              have s3 : bb < W0.heap.size := Nat.lt_of_lt_of_le s2 hbr.size
              have Lx0 : ∀ x : Low W0.heap.size W0, x.wd.cell? ⟨wr.heap.size, 0, none⟩ = some (.int .i64 yp) := fun x => (cell_lasts x.low sx).trans x0
              have Lx1 : ∀ x : Low W0.heap.size W0, x.wd.cell? ⟨wr.heap.size, 1, none⟩ = some (.int .i64 ya) := fun x => (cell_lasts x.low sx).trans x1
              have Lx2 : ∀ x : Low W0.heap.size W0, x.wd.cell? ⟨wr.heap.size, 2, none⟩ = some (.int .i64 yb) := fun x => (cell_lasts x.low sx).trans x2
              have Lx3 : ∀ x : Low W0.heap.size W0, x.wd.cell? ⟨wr.heap.size, 3, none⟩ = some (.int .i64 yv) := fun x => (cell_lasts x.low sx).trans x3
              refine wp_region_low W0.heap.size (by kernel_rfl) (by kernel_rfl) ?_
              repeat (go_big_quiet_step ((first | (go_at_call 21; exact low_of (isRight_c _ _ ps _ _ _ _ (HP.out _ (hb0.trans ((Low.low _).mono hb0.size))))) | (go_at_call 10; exact low_of (order_c _ _ _ _ _ _ _ _ _)))))
              refine wpQuiet_nil ?_
              rintro _ ⟨⟨w2, hk⟩, rfl⟩
              clear Lx0 Lx1 Lx2 Lx3
              go_wp2_with fail
              go_ret
              exact ⟨ret_int H3.out.symm, hb0.trans (hk.mono hb0.size)⟩
            · have H3 : Hid (goodTo ps f (0 + 1) = true) := H.out.trans (HGA.out.trans hff)
              clear H H2 HE HGA
              go_wp2_with fail
              refine wp_called (fun w' => Below w.heap.size w w' ∧ Below wr.heap.size wr w' ∧ wr.heap.size < w'.heap.size ∧ w'.cell? ⟨wr.heap.size, 0, none⟩ = some (.int .i64 yp) ∧ w'.cell? ⟨wr.heap.size, 1, none⟩ = some (.int .i64 ya) ∧ w'.cell? ⟨wr.heap.size, 2, none⟩ = some (.int .i64 yb) ∧ w'.cell? ⟨wr.heap.size, 3, none⟩ = some (.int .i64 yv)) ⟨hbw.trans ((below_alloc _ _).mono hbw.size), below_alloc _ _, by simp, by simp [go_sem], by simp [go_sem], by simp [go_sem], by simp [go_sem]⟩ ?_
              rintro W0 ⟨hb0, hbr, sx, x0, x1, x2, x3⟩
              have s3 : bb < W0.heap.size := Nat.lt_of_lt_of_le s2 hbr.size
              have Lx0 : ∀ x : Low W0.heap.size W0, x.wd.cell? ⟨wr.heap.size, 0, none⟩ = some (.int .i64 yp) := fun x => (cell_lasts x.low sx).trans x0
              have Lx1 : ∀ x : Low W0.heap.size W0, x.wd.cell? ⟨wr.heap.size, 1, none⟩ = some (.int .i64 ya) := fun x => (cell_lasts x.low sx).trans x1
              have Lx2 : ∀ x : Low W0.heap.size W0, x.wd.cell? ⟨wr.heap.size, 2, none⟩ = some (.int .i64 yb) := fun x => (cell_lasts x.low sx).trans x2
              have Lx3 : ∀ x : Low W0.heap.size W0, x.wd.cell? ⟨wr.heap.size, 3, none⟩ = some (.int .i64 yv) := fun x => (cell_lasts x.low sx).trans x3
              refine wp_region_low W0.heap.size (by kernel_rfl) (by kernel_rfl) ?_
              repeat (go_big_quiet_step ((first | (go_at_call 21; exact low_of (isRight_c _ _ ps _ _ _ _ (HP.out _ (hb0.trans ((Low.low _).mono hb0.size))))) | (go_at_call 10; exact low_of (order_c _ _ _ _ _ _ _ _ _)))))
              refine wpQuiet_nil ?_
              rintro _ ⟨⟨w2, hk⟩, rfl⟩
              clear Lx0 Lx1 Lx2 Lx3
              go_wp2_with fail
              go_roundw
              case rel => exact ⟨0 + 1, by omega, by go_num, H3.out, hb0.trans (hk.mono hb0.size)⟩
              case measure => simp [intOf]; omega
          · obtain ⟨i, rfl⟩ : ∃ i, j = i + 1 := ⟨j - 1, by omega⟩
            have hil : i < f.length := by omega
            obtain ⟨bb', off', cap', hv', hbl', hcells'⟩ := fact_cells HF.out hil
            obtain ⟨⟨rfl, rfl⟩, hcc⟩ : (bb = bb' ∧ off = off') ∧ _ := by simpa using hv'
            clear hcc
            obtain ⟨u0, u1, u2, u3⟩ := factAt.lasts w wr bb _ _ hbw hbl hcells'
            have HGA : Hid (goodAt ps f (i + 1) = (factFine ps f[i + 1] && decide (place f[i] < place f[i + 1]))) := by show _ = _; rw [goodAt, HNJ.out, Nat.add_sub_cancel, nth_eq hil]; simp
            have HFI : Hid (factFine ps f[i] = true) := by
              have := List.all_eq_true.1 hgo i (List.mem_range.2 (by omega))
              simp only [goodAt, nth_eq hil, Bool.and_eq_true] at this
              exact this.1
            have HSI : Hid (Small f[i]) := fine_small (by omega) HFI.out
            have HSJ : Hid (factFine ps f[i + 1] = true → Small f[i + 1]) := fine_small (by omega)
            have hil' : (i : Int) < (f.length : Int) := by omega
            clear HNJ HF hgo hcells' hv' HFI
            generalize f[i + 1] = y at *
            generalize f[i] = z at *
            obtain ⟨yp, ya, yb, yv⟩ := y
            obtain ⟨zp, za, zb, zv⟩ := z
            cases hff : factFine ps ⟨yp, ya, yb, yv⟩
            · have H3 : Hid (factsErr ps f = 1) := H2.out (HGA.out.trans (by rw [hff]; rfl))
              clear H H2 HE HGA HSJ HSI
              go_wp2_with fail
              refine wp_called (fun w' => Below w.heap.size w w' ∧ Below wr.heap.size wr w' ∧ wr.heap.size < w'.heap.size ∧ w'.cell? ⟨wr.heap.size, 0, none⟩ = some (.int .i64 yp) ∧ w'.cell? ⟨wr.heap.size, 1, none⟩ = some (.int .i64 ya) ∧ w'.cell? ⟨wr.heap.size, 2, none⟩ = some (.int .i64 yb) ∧ w'.cell? ⟨wr.heap.size, 3, none⟩ = some (.int .i64 yv) ∧ w'.cell? ⟨bb, off + i * 4, none⟩ = some (.int .i64 zp) ∧ w'.cell? ⟨bb, off + i * 4 + 1, none⟩ = some (.int .i64 za) ∧ w'.cell? ⟨bb, off + i * 4 + 2, none⟩ = some (.int .i64 zb) ∧ w'.cell? ⟨bb, off + i * 4 + 3, none⟩ = some (.int .i64 zv)) ⟨hbw.trans ((below_alloc _ _).mono hbw.size), below_alloc _ _, by simp, by simp [go_sem], by simp [go_sem], by simp [go_sem], by simp [go_sem], by rw [cell_lasts (below_alloc _ _) s2]; exact u0, by rw [cell_lasts (below_alloc _ _) s2]; exact u1, by rw [cell_lasts (below_alloc _ _) s2]; exact u2, by rw [cell_lasts (below_alloc _ _) s2]; exact u3⟩ ?_
              rintro W0 ⟨hb0, hbr, sx, x0, x1, x2, x3, z0, z1, z2, z3⟩
              have s3 : bb < W0.heap.size := Nat.lt_of_lt_of_le s2 hbr.size
              have Lx0 : ∀ x : Low W0.heap.size W0, x.wd.cell? ⟨wr.heap.size, 0, none⟩ = some (.int .i64 yp) := fun x => (cell_lasts x.low sx).trans x0
              have Lx1 : ∀ x : Low W0.heap.size W0, x.wd.cell? ⟨wr.heap.size, 1, none⟩ = some (.int .i64 ya) := fun x => (cell_lasts x.low sx).trans x1
              have Lx2 : ∀ x : Low W0.heap.size W0, x.wd.cell? ⟨wr.heap.size, 2, none⟩ = some (.int .i64 yb) := fun x => (cell_lasts x.low sx).trans x2
              have Lx3 : ∀ x : Low W0.heap.size W0, x.wd.cell? ⟨wr.heap.size, 3, none⟩ = some (.int .i64 yv) := fun x => (cell_lasts x.low sx).trans x3
              have Lz0 : ∀ x : Low W0.heap.size W0, x.wd.cell? ⟨bb, off + i * 4, none⟩ = some (.int .i64 zp) := fun x => (cell_lasts x.low s3).trans z0
              have Lz1 : ∀ x : Low W0.heap.size W0, x.wd.cell? ⟨bb, off + i * 4 + 1, none⟩ = some (.int .i64 za) := fun x => (cell_lasts x.low s3).trans z1
              have Lz2 : ∀ x : Low W0.heap.size W0, x.wd.cell? ⟨bb, off + i * 4 + 2, none⟩ = some (.int .i64 zb) := fun x => (cell_lasts x.low s3).trans z2
              have Lz3 : ∀ x : Low W0.heap.size W0, x.wd.cell? ⟨bb, off + i * 4 + 3, none⟩ = some (.int .i64 zv) := fun x => (cell_lasts x.low s3).trans z3
              refine wp_region_low W0.heap.size (by kernel_rfl) (by kernel_rfl) ?_
              repeat (go_big_quiet_step ((first | (go_at_call 21; exact low_of (isRight_c _ _ ps _ _ _ _ (HP.out _ (hb0.trans ((Low.low _).mono hb0.size))))) | (go_at_call 10; exact low_of (order_c _ _ _ _ _ _ _ _ _)))))
              refine wpQuiet_nil ?_
              rintro _ ⟨⟨w2, hk⟩, rfl⟩
              clear Lx0 Lx1 Lx2 Lx3 Lz0 Lz1 Lz2 Lz3
              go_wp2_with fail
              go_ret
              exact ⟨ret_int H3.out.symm, hb0.trans (hk.mono hb0.size)⟩
            · have HSJ := hideS (HSJ.out hff)
              by_cases hpl : place ⟨zp, za, zb, zv⟩ < place ⟨yp, ya, yb, yv⟩
              · have H3 : Hid (goodTo ps f (i + 1 + 1) = true) := H.out.trans (HGA.out.trans (by rw [hff]; simpa using hpl))
                have hpl' : decide (0 ≤ cmpF ⟨zp, za, zb, zv⟩ ⟨yp, ya, yb, yv⟩) = false := by have := ((cmpF_spec HSI.out HSJ.out).1).2 hpl; simpa using this
                clear H H2 HE HGA hpl HSI HSJ
                go_wp2_with fail
                refine wp_called (fun w' => Below w.heap.size w w' ∧ Below wr.heap.size wr w' ∧ wr.heap.size < w'.heap.size ∧ w'.cell? ⟨wr.heap.size, 0, none⟩ = some (.int .i64 yp) ∧ w'.cell? ⟨wr.heap.size, 1, none⟩ = some (.int .i64 ya) ∧ w'.cell? ⟨wr.heap.size, 2, none⟩ = some (.int .i64 yb) ∧ w'.cell? ⟨wr.heap.size, 3, none⟩ = some (.int .i64 yv) ∧ w'.cell? ⟨bb, off + i * 4, none⟩ = some (.int .i64 zp) ∧ w'.cell? ⟨bb, off + i * 4 + 1, none⟩ = some (.int .i64 za) ∧ w'.cell? ⟨bb, off + i * 4 + 2, none⟩ = some (.int .i64 zb) ∧ w'.cell? ⟨bb, off + i * 4 + 3, none⟩ = some (.int .i64 zv)) ⟨hbw.trans ((below_alloc _ _).mono hbw.size), below_alloc _ _, by simp, by simp [go_sem], by simp [go_sem], by simp [go_sem], by simp [go_sem], by rw [cell_lasts (below_alloc _ _) s2]; exact u0, by rw [cell_lasts (below_alloc _ _) s2]; exact u1, by rw [cell_lasts (below_alloc _ _) s2]; exact u2, by rw [cell_lasts (below_alloc _ _) s2]; exact u3⟩ ?_
                rintro W0 ⟨hb0, hbr, sx, x0, x1, x2, x3, z0, z1, z2, z3⟩
                have s3 : bb < W0.heap.size := Nat.lt_of_lt_of_le s2 hbr.size
                have Lx0 : ∀ x : Low W0.heap.size W0, x.wd.cell? ⟨wr.heap.size, 0, none⟩ = some (.int .i64 yp) := fun x => (cell_lasts x.low sx).trans x0
                have Lx1 : ∀ x : Low W0.heap.size W0, x.wd.cell? ⟨wr.heap.size, 1, none⟩ = some (.int .i64 ya) := fun x => (cell_lasts x.low sx).trans x1
                have Lx2 : ∀ x : Low W0.heap.size W0, x.wd.cell? ⟨wr.heap.size, 2, none⟩ = some (.int .i64 yb) := fun x => (cell_lasts x.low sx).trans x2
                have Lx3 : ∀ x : Low W0.heap.size W0, x.wd.cell? ⟨wr.heap.size, 3, none⟩ = some (.int .i64 yv) := fun x => (cell_lasts x.low sx).trans x3
                have Lz0 : ∀ x : Low W0.heap.size W0, x.wd.cell? ⟨bb, off + i * 4, none⟩ = some (.int .i64 zp) := fun x => (cell_lasts x.low s3).trans z0
                have Lz1 : ∀ x : Low W0.heap.size W0, x.wd.cell? ⟨bb, off + i * 4 + 1, none⟩ = some (.int .i64 za) := fun x => (cell_lasts x.low s3).trans z1
                have Lz2 : ∀ x : Low W0.heap.size W0, x.wd.cell? ⟨bb, off + i * 4 + 2, none⟩ = some (.int .i64 zb) := fun x => (cell_lasts x.low s3).trans z2
                have Lz3 : ∀ x : Low W0.heap.size W0, x.wd.cell? ⟨bb, off + i * 4 + 3, none⟩ = some (.int .i64 zv) := fun x => (cell_lasts x.low s3).trans z3
                refine wp_region_low W0.heap.size (by kernel_rfl) (by kernel_rfl) ?_
                repeat (go_big_quiet_step ((first | (go_at_call 21; exact low_of (isRight_c _ _ ps _ _ _ _ (HP.out _ (hb0.trans ((Low.low _).mono hb0.size))))) | (go_at_call 10; exact low_of (order_c _ _ _ _ _ _ _ _ _)))))
                refine wpQuiet_nil ?_
                rintro _ ⟨⟨w2, hk⟩, rfl⟩
                clear Lx0 Lx1 Lx2 Lx3 Lz0 Lz1 Lz2 Lz3
                go_wp2_with fail
                go_roundw
                case rel => exact ⟨i + 1 + 1, by omega, by go_num, H3.out, hb0.trans (hk.mono hb0.size)⟩
                case measure => simp [intOf]; omega
              · have H3 : Hid (factsErr ps f = 1) := H2.out (HGA.out.trans (by rw [hff]; simpa using hpl))
                have hpl' : decide (0 ≤ cmpF ⟨zp, za, zb, zv⟩ ⟨yp, ya, yb, yv⟩) = true := by
                  have := (cmpF_spec HSI.out HSJ.out).1
                  simp only [decide_eq_true_eq]
                  omega
                clear H H2 HE HGA hpl HSI HSJ
                go_wp2_with fail
                refine wp_called (fun w' => Below w.heap.size w w' ∧ Below wr.heap.size wr w' ∧ wr.heap.size < w'.heap.size ∧ w'.cell? ⟨wr.heap.size, 0, none⟩ = some (.int .i64 yp) ∧ w'.cell? ⟨wr.heap.size, 1, none⟩ = some (.int .i64 ya) ∧ w'.cell? ⟨wr.heap.size, 2, none⟩ = some (.int .i64 yb) ∧ w'.cell? ⟨wr.heap.size, 3, none⟩ = some (.int .i64 yv) ∧ w'.cell? ⟨bb, off + i * 4, none⟩ = some (.int .i64 zp) ∧ w'.cell? ⟨bb, off + i * 4 + 1, none⟩ = some (.int .i64 za) ∧ w'.cell? ⟨bb, off + i * 4 + 2, none⟩ = some (.int .i64 zb) ∧ w'.cell? ⟨bb, off + i * 4 + 3, none⟩ = some (.int .i64 zv)) ⟨hbw.trans ((below_alloc _ _).mono hbw.size), below_alloc _ _, by simp, by simp [go_sem], by simp [go_sem], by simp [go_sem], by simp [go_sem], by rw [cell_lasts (below_alloc _ _) s2]; exact u0, by rw [cell_lasts (below_alloc _ _) s2]; exact u1, by rw [cell_lasts (below_alloc _ _) s2]; exact u2, by rw [cell_lasts (below_alloc _ _) s2]; exact u3⟩ ?_
                rintro W0 ⟨hb0, hbr, sx, x0, x1, x2, x3, z0, z1, z2, z3⟩
                have s3 : bb < W0.heap.size := Nat.lt_of_lt_of_le s2 hbr.size
                have Lx0 : ∀ x : Low W0.heap.size W0, x.wd.cell? ⟨wr.heap.size, 0, none⟩ = some (.int .i64 yp) := fun x => (cell_lasts x.low sx).trans x0
                have Lx1 : ∀ x : Low W0.heap.size W0, x.wd.cell? ⟨wr.heap.size, 1, none⟩ = some (.int .i64 ya) := fun x => (cell_lasts x.low sx).trans x1
                have Lx2 : ∀ x : Low W0.heap.size W0, x.wd.cell? ⟨wr.heap.size, 2, none⟩ = some (.int .i64 yb) := fun x => (cell_lasts x.low sx).trans x2
                have Lx3 : ∀ x : Low W0.heap.size W0, x.wd.cell? ⟨wr.heap.size, 3, none⟩ = some (.int .i64 yv) := fun x => (cell_lasts x.low sx).trans x3
                have Lz0 : ∀ x : Low W0.heap.size W0, x.wd.cell? ⟨bb, off + i * 4, none⟩ = some (.int .i64 zp) := fun x => (cell_lasts x.low s3).trans z0
                have Lz1 : ∀ x : Low W0.heap.size W0, x.wd.cell? ⟨bb, off + i * 4 + 1, none⟩ = some (.int .i64 za) := fun x => (cell_lasts x.low s3).trans z1
                have Lz2 : ∀ x : Low W0.heap.size W0, x.wd.cell? ⟨bb, off + i * 4 + 2, none⟩ = some (.int .i64 zb) := fun x => (cell_lasts x.low s3).trans z2
                have Lz3 : ∀ x : Low W0.heap.size W0, x.wd.cell? ⟨bb, off + i * 4 + 3, none⟩ = some (.int .i64 zv) := fun x => (cell_lasts x.low s3).trans z3
                refine wp_region_low W0.heap.size (by kernel_rfl) (by kernel_rfl) ?_
                repeat (go_big_quiet_step ((first | (go_at_call 21; exact low_of (isRight_c _ _ ps _ _ _ _ (HP.out _ (hb0.trans ((Low.low _).mono hb0.size))))) | (go_at_call 10; exact low_of (order_c _ _ _ _ _ _ _ _ _)))))
                refine wpQuiet_nil ?_
                rintro _ ⟨⟨w2, hk⟩, rfl⟩
                clear Lx0 Lx1 Lx2 Lx3 Lz0 Lz1 Lz2 Lz3
                go_wp2_with fail
                go_ret
                exact ⟨ret_int H3.out.symm, hb0.trans (hk.mono hb0.size)⟩
        · have HG : Hid (factsErr ps f = 0) := by show _ = _; rw [HE.out, if_pos (by obtain rfl : j = f.length := (by omega); exact hgo)]
          clear hgo HE HF
          go_wp2_with fail
          go_ret
          exact ⟨ret_int HG.out.symm, hbw⟩

/-- what is told ahead of Find and Add -/
def withErr (ps : List Prd) (f : List Fct) (x : Fct) : Int := if factsErr ps f ≠ 0 then factsErr ps f else if factFine ps x then 0 else 1

set_option maxRecDepth 100000 in
set_option maxHeartbeats 4000000 in
theorem checkWith_c (w : World) (pv fv : Value) (ps : List Prd) (f : List Fct) (p a b v : Int) (hp : predsAt w pv ps) (hf : factsAt w fv f) :
    Calls Try.prog 8 #[pv, fv, .agg #[.int .i64 p, .int .i64 a, .int .i64 b, .int .i64 v]] w fun e w' => e = .returned (.int .i64 (withErr ps f ⟨p, a, b, v⟩)) ∧ Below w.heap.size w w' := by
  have HP : Hid (∀ (w1 : World), Below w.heap.size w w1 → predsAt w1 pv ps) := fun w1 hb1 => predsAt.lasts hb1 hp
  have HF : Hid (∀ (w1 : World), Below w.heap.size w w1 → factsAt w1 fv f) := fun w1 hb1 => factsAt.lasts hb1 hf
  clear hp hf
  by_cases h0 : factsErr ps f = 0
  · cases hff : factFine ps ⟨p, a, b, v⟩
    · have e : withErr ps f ⟨p, a, b, v⟩ = 1 := by simp [withErr, h0, hff]
      rw [e]
      clear e
      go_enter Try.func8, Try.ntmps8
      go_wp2_with (first
        | (go_at_call 17; refine (check_c _ _ _ ps f (HP.out _ (below_alloc _ _)) (HF.out _ (below_alloc _ _))).mono ?_; rintro e w1 ⟨rfl, hb1⟩; obtain ⟨c0, c1, c2, c3⟩ := four_last hb1; have HB : Hid (Below w.heap.size w w1) := (below_alloc _ _).trans (hb1.mono (by simp)); clear hb1)
        | (go_at_call 21; refine (isRight_c _ _ ps _ _ _ _ (HP.out _ HB.out)).mono ?_; rintro e w2 ⟨rfl, hb2⟩))
      go_ret
      exact ⟨rfl, HB.out.trans (hb2.mono HB.out.size)⟩
    · have e : withErr ps f ⟨p, a, b, v⟩ = 0 := by simp [withErr, h0, hff]
      rw [e]
      clear e
      go_enter Try.func8, Try.ntmps8
      go_wp2_with (first
        | (go_at_call 17; refine (check_c _ _ _ ps f (HP.out _ (below_alloc _ _)) (HF.out _ (below_alloc _ _))).mono ?_; rintro e w1 ⟨rfl, hb1⟩; obtain ⟨c0, c1, c2, c3⟩ := four_last hb1; have HB : Hid (Below w.heap.size w w1) := (below_alloc _ _).trans (hb1.mono (by simp)); clear hb1)
        | (go_at_call 21; refine (isRight_c _ _ ps _ _ _ _ (HP.out _ HB.out)).mono ?_; rintro e w2 ⟨rfl, hb2⟩))
      go_ret
      exact ⟨rfl, HB.out.trans (hb2.mono HB.out.size)⟩
  · have e : withErr ps f ⟨p, a, b, v⟩ = factsErr ps f := by simp [withErr, h0]
    rw [e]
    clear e
    have h0' : (factsErr ps f == 0) = false := by simpa using h0
    go_enter Try.func8, Try.ntmps8
    go_wp2_with (go_at_call 17; refine (check_c _ _ _ ps f (HP.out _ (below_alloc _ _)) (HF.out _ (below_alloc _ _))).mono ?_; rintro e w1 ⟨rfl, hb1⟩; have HB : Hid (Below w.heap.size w w1) := (below_alloc _ _).trans (hb1.mono (by simp)); clear hb1)
    go_ret
    exact ⟨rfl, HB.out⟩
end Go.Proofs.Ytgbacodellfacac.Base
