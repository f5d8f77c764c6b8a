/-
  What the document's own 'under', 'UnderOf' and 'SameFacts' answer.
-/
import Derived.Test.YtabhmlkpbdfjcabBaseRef3
namespace Go.Proofs.Ytabhmlkpbdfjcab.Base
open Go.ChangeShapes Go.WideShapes Go.ChangeAt Go.RowKit
open Lat (within within_c join)
open Rule (factFine factFine_c isPred kindOf arityOf isPred_iff)

theorem kind_four {ps : List Prd} (h : predsOk ps = true) {k : Nat} (hk : k < ps.length) : ps[k].kind = 0 ∨ ps[k].kind = 1 ∨ ps[k].kind = 2 ∨ ps[k].kind = 3 := by
  have := List.all_eq_true.1 h ps[k] (List.getElem_mem hk)
  simp only [predOk, within, Bool.and_eq_true, decide_eq_true_eq] at this
  omega
theorem kindOf_at {ps : List Prd} {k : Nat} (hk : k < ps.length) : kindOf ps (k : Int) = ps[k].kind := by simp [kindOf, hk]

set_option maxRecDepth 100000 in
set_option maxHeartbeats 4000000 in
theorem under_c (w : World) (pv fv gv : Value) (ps : List Prd) (f g : List Fct) (hp : predsAt w pv ps) (hf : factsAt w fv f) (hg : factsAt w gv g) (ef : factsErr ps f = 0) (eg : factsErr ps g = 0) :
    Calls Try.prog 61 #[pv, fv, gv] w fun e w' => e = .returned (.bool (under (kindOf ps) f g)) ∧ Below w.heap.size w w' := by
  have HG : Hid (∀ (w1 : World), Below w.heap.size w w1 → factsAt w1 gv g) := fun w1 hb1 => factsAt.lasts hb1 hg
  have HF : Hid (factsAt w fv f) := hf
  have HS : Hid (∀ y ∈ f, factFine ps y = true) := facts_fine ef
  have HSG : Hid (∀ y ∈ g, Small y) := facts_small eg
  have H5 : Hid (ps.length ≤ 5) := (factsErr_zero ef).1
  have HK : Hid (predsOk ps = true) := (factsErr_zero ef).2.1
  obtain ⟨pa, pc, rfl, hpm, hpx⟩ := hp
  obtain ⟨fa, fc, rfl, hfm, _⟩ := hf
  have HPX : Hid (ps = [] ∨ ∃ b off, pa = some ⟨b, off, none⟩ ∧ b < w.heap.size ∧ ∀ i x, ps[i]? = some x → predAt w b (off + i * 3) x) := hpx
  clear hpx hg ef eg
  go_enter Try.func61, Try.ntmps61
  go_wp2_with fail
  clear hpm
  go_loopw [7] (fun i wr => ∃ j : Nat, j ≤ f.length ∧ i = .int .i64 j ∧ (f.take j).all (underOne (kindOf ps) g) = true ∧ Below w.heap.size w wr) (fun i _ => f.length - (intOf i).toNat)
  case atStart => exact ⟨0, Nat.zero_le _, rfl, rfl, Below.refl _ _⟩
  case round =>
    obtain ⟨j, hj, rfl, hall, hbw⟩ := hrel
    by_cases hlt : j < f.length
    · have HT : Hid ((f.take (j + 1)).all (underOne (kindOf ps) g) = underOne (kindOf ps) g f[j]) := by show _ = _; rw [all_take hlt, hall, Bool.true_and]
      have HN : Hid (underOne (kindOf ps) g f[j] = false → under (kindOf ps) f g = false) := fun h => all_not hlt h
      have HFJ : Hid (factFine ps f[j] = true) := HS.out _ (List.getElem_mem hlt)
      have HSJ : Hid (Small f[j]) := fine_small H5.out HFJ.out
      obtain ⟨pk, hpk, hpe⟩ : ∃ k : Nat, k < ps.length ∧ f[j].pred = (k : Int) := isPred_iff.1 (by have := HFJ.out; simp only [factFine, Bool.and_eq_true] at this; exact this.1)
      obtain ⟨pb, po, rfl, hbl', hx⟩ := HPX.out.resolve_left (by rintro rfl; simp at hpk)
      obtain ⟨k0, k1, k2⟩ := hx pk ps[pk] (by simp [hpk])
      replace k2 := (cell_lasts (hbw) hbl').trans k2
      have s4 : pb < wr.heap.size := Nat.lt_of_lt_of_le hbl' hbw.size
      have HQ : Hid (ps[pk].kind = 0 ∨ ps[pk].kind = 1 ∨ ps[pk].kind = 2 ∨ ps[pk].kind = 3) := kind_four HK.out hpk
      have HKO : Hid (kindOf ps (pk : Int) = ps[pk].kind) := kindOf_at hpk
      obtain ⟨bb, off, cap, hv, hbl, hcells⟩ := fact_cells HF.out hlt
      obtain ⟨rfl, rfl⟩ : fa = some ⟨bb, off, none⟩ ∧ fc = cap := by simpa using hv
      obtain ⟨t0, t1, t2, t3⟩ := factAt.lasts w wr bb _ _ hbw hbl hcells
      have s2 : bb < wr.heap.size := Nat.lt_of_lt_of_le hbl hbw.size
      have hjl : (j : Int) < (f.length : Int) := by omega
      have hj0 : (0 : Int) ≤ (j : Int) := by omega
      have hpl : (pk : Int) < (ps.length : Int) := by omega
      have hp0 : (0 : Int) ≤ (pk : Int) := by omega
      clear hcells hv hall HF HS HFJ hx k0 k1 HPX
      generalize f[j] = y at *
      obtain ⟨yp, ya, yb, yv⟩ := y
      obtain rfl : yp = (pk : Int) := hpe
      generalize ps[pk].kind = qk at *
      cases hgt : get g (place ⟨(pk : Int), ya, yb, yv⟩) with
      | none =>
          have H3 : Hid (under (kindOf ps) f g = false) := HN.out (by simp only [underOne, hgt])
          have hft : findTo g (place ⟨(pk : Int), ya, yb, yv⟩) = 0 := by rw [findTo, hgt]; rfl
          clear HN HT HKO
          go_wp2_with (go_at_call 47; refine (find_c _ _ g _ _ _ _ (HG.out _ hbw) HSG.out HSJ.out).mono ?_; rintro e w1 ⟨rfl, hb3⟩; have s3 : bb < w1.heap.size := Nat.lt_of_lt_of_le s2 hb3.size; have s5 : pb < w1.heap.size := Nat.lt_of_lt_of_le s4 hb3.size)
          have L0 : ∀ x : Low w1.heap.size w1, x.wd.cell? ⟨bb, off + j * 4, none⟩ = some (.int .i64 pk) := fun x => (cell_lasts x.low s3).trans ((cell_lasts hb3 s2).trans t0)
          have L1 : ∀ x : Low w1.heap.size w1, x.wd.cell? ⟨bb, off + j * 4 + 1, none⟩ = some (.int .i64 ya) := fun x => (cell_lasts x.low s3).trans ((cell_lasts hb3 s2).trans t1)
          have L2 : ∀ x : Low w1.heap.size w1, x.wd.cell? ⟨bb, off + j * 4 + 2, none⟩ = some (.int .i64 yb) := fun x => (cell_lasts x.low s3).trans ((cell_lasts hb3 s2).trans t2)
          have L3 : ∀ x : Low w1.heap.size w1, x.wd.cell? ⟨bb, off + j * 4 + 3, none⟩ = some (.int .i64 yv) := fun x => (cell_lasts x.low s3).trans ((cell_lasts hb3 s2).trans t3)
          have L4 : ∀ x : Low w1.heap.size w1, x.wd.cell? ⟨pb, po + pk * 3 + 2, none⟩ = some (.int .i64 qk) := fun x => (cell_lasts x.low s5).trans ((cell_lasts hb3 s4).trans k2)
          refine wp_region_low w1.heap.size (by kernel_rfl) (by kernel_rfl) ?_
          repeat (go_big_quiet_step ((go_at_call 81; exact low_same (Lat.joinR_c _ _ _ _ HQ.out))))
          refine wpQuiet_nil ?_
          rintro _ ⟨⟨w2, hk⟩, rfl⟩
          clear L0 L1 L2 L3 L4
          go_wp2_with fail
          go_ret
          exact ⟨by rw [H3.out]; rfl, hbw.trans ((hb3.trans (hk.mono hb3.size)).mono hbw.size)⟩
      | some u =>
        have hft : findTo g (place ⟨(pk : Int), ya, yb, yv⟩) = u := by rw [findTo, hgt]; rfl
        by_cases hju : join qk yv u = u
        · have H3 : Hid ((f.take (j + 1)).all (underOne (kindOf ps) g) = true) := HT.out.trans (by simp only [underOne, hgt, HKO.out, hju]; simp)
          clear HN HT HKO
          go_wp2_with (go_at_call 47; refine (find_c _ _ g _ _ _ _ (HG.out _ hbw) HSG.out HSJ.out).mono ?_; rintro e w1 ⟨rfl, hb3⟩; have s3 : bb < w1.heap.size := Nat.lt_of_lt_of_le s2 hb3.size; have s5 : pb < w1.heap.size := Nat.lt_of_lt_of_le s4 hb3.size)
          have L0 : ∀ x : Low w1.heap.size w1, x.wd.cell? ⟨bb, off + j * 4, none⟩ = some (.int .i64 pk) := fun x => (cell_lasts x.low s3).trans ((cell_lasts hb3 s2).trans t0)
          have L1 : ∀ x : Low w1.heap.size w1, x.wd.cell? ⟨bb, off + j * 4 + 1, none⟩ = some (.int .i64 ya) := fun x => (cell_lasts x.low s3).trans ((cell_lasts hb3 s2).trans t1)
          have L2 : ∀ x : Low w1.heap.size w1, x.wd.cell? ⟨bb, off + j * 4 + 2, none⟩ = some (.int .i64 yb) := fun x => (cell_lasts x.low s3).trans ((cell_lasts hb3 s2).trans t2)
          have L3 : ∀ x : Low w1.heap.size w1, x.wd.cell? ⟨bb, off + j * 4 + 3, none⟩ = some (.int .i64 yv) := fun x => (cell_lasts x.low s3).trans ((cell_lasts hb3 s2).trans t3)
          have L4 : ∀ x : Low w1.heap.size w1, x.wd.cell? ⟨pb, po + pk * 3 + 2, none⟩ = some (.int .i64 qk) := fun x => (cell_lasts x.low s5).trans ((cell_lasts hb3 s4).trans k2)
          refine wp_region_low w1.heap.size (by kernel_rfl) (by kernel_rfl) ?_
          repeat (go_big_quiet_step ((go_at_call 81; exact low_same (Lat.joinR_c _ _ _ _ HQ.out))))
          refine wpQuiet_nil ?_
          rintro _ ⟨⟨w2, hk⟩, rfl⟩
          clear L0 L1 L2 L3 L4
          go_wp2_with fail
          go_roundw
          case rel => exact ⟨j + 1, by omega, by go_num, H3.out, hbw.trans ((hb3.trans (hk.mono hb3.size)).mono hbw.size)⟩
          case measure => simp [intOf]; omega
        · have H3 : Hid (under (kindOf ps) f g = false) := HN.out (by simp only [underOne, hgt, HKO.out]; simpa using hju)
          have hju' : (join qk yv u == u) = false := by simpa using hju
          clear HN HT HKO
          go_wp2_with (go_at_call 47; refine (find_c _ _ g _ _ _ _ (HG.out _ hbw) HSG.out HSJ.out).mono ?_; rintro e w1 ⟨rfl, hb3⟩; have s3 : bb < w1.heap.size := Nat.lt_of_lt_of_le s2 hb3.size; have s5 : pb < w1.heap.size := Nat.lt_of_lt_of_le s4 hb3.size)
          have L0 : ∀ x : Low w1.heap.size w1, x.wd.cell? ⟨bb, off + j * 4, none⟩ = some (.int .i64 pk) := fun x => (cell_lasts x.low s3).trans ((cell_lasts hb3 s2).trans t0)
          have L1 : ∀ x : Low w1.heap.size w1, x.wd.cell? ⟨bb, off + j * 4 + 1, none⟩ = some (.int .i64 ya) := fun x => (cell_lasts x.low s3).trans ((cell_lasts hb3 s2).trans t1)
          have L2 : ∀ x : Low w1.heap.size w1, x.wd.cell? ⟨bb, off + j * 4 + 2, none⟩ = some (.int .i64 yb) := fun x => (cell_lasts x.low s3).trans ((cell_lasts hb3 s2).trans t2)
          have L3 : ∀ x : Low w1.heap.size w1, x.wd.cell? ⟨bb, off + j * 4 + 3, none⟩ = some (.int .i64 yv) := fun x => (cell_lasts x.low s3).trans ((cell_lasts hb3 s2).trans t3)
          have L4 : ∀ x : Low w1.heap.size w1, x.wd.cell? ⟨pb, po + pk * 3 + 2, none⟩ = some (.int .i64 qk) := fun x => (cell_lasts x.low s5).trans ((cell_lasts hb3 s4).trans k2)
          refine wp_region_low w1.heap.size (by kernel_rfl) (by kernel_rfl) ?_
          repeat (go_big_quiet_step ((go_at_call 81; exact low_same (Lat.joinR_c _ _ _ _ HQ.out))))
          refine wpQuiet_nil ?_
          rintro _ ⟨⟨w2, hk⟩, rfl⟩
          clear L0 L1 L2 L3 L4
          go_wp2_with fail
          go_ret
          exact ⟨by rw [H3.out]; rfl, hbw.trans ((hb3.trans (hk.mono hb3.size)).mono hbw.size)⟩
    · have HE : Hid (under (kindOf ps) f g = true) := all_take_end hlt hall
      clear hall HF HS
      go_wp2_with fail
      go_ret
      exact ⟨by rw [HE.out]; rfl, hbw⟩

/-- D2 -/
def underOf (ps : List Prd) (f g : List Fct) : Bool × Int := if factsErr ps f ≠ 0 then (false, factsErr ps f) else if factsErr ps g ≠ 0 then (false, factsErr ps g) else (under (kindOf ps) f g, 0)

set_option maxRecDepth 100000 in
set_option maxHeartbeats 4000000 in
theorem underOf_c (w : World) (pv fv gv : Value) (ps : List Prd) (f g : List Fct) (hp : predsAt w pv ps) (hf : factsAt w fv f) (hg : factsAt w gv g) :
    Calls Try.prog 29 #[pv, fv, gv] w fun e w' => e = .returned (.tuple #[.bool (underOf ps f g).1, .int .i64 (underOf ps f g).2]) ∧ Below w.heap.size w w' := by
  have HP : Hid (∀ (w1 : World), Below w.heap.size w w1 → predsAt w1 pv ps) := fun w1 hb1 => predsAt.lasts hb1 hp
  have HF : Hid (∀ (w1 : World), Below w.heap.size w w1 → factsAt w1 fv f) := fun w1 hb1 => factsAt.lasts hb1 hf
  have HG : Hid (∀ (w1 : World), Below w.heap.size w w1 → factsAt w1 gv g) := fun w1 hb1 => factsAt.lasts hb1 hg
  clear hp hf hg
  by_cases h0 : factsErr ps f = 0
  · by_cases h1 : factsErr ps g = 0
    · have e : underOf ps f g = (under (kindOf ps) f g, 0) := by simp [underOf, h0, h1]
      rw [e]
      clear e
      have H0 : Hid (factsErr ps f = 0) := h0
      have H1 : Hid (factsErr ps g = 0) := h1
      go_enter Try.func29, Try.ntmps29
      go_wp2_with (first
        | (go_at_call_of 25 fv; refine (checkFacts_c _ _ _ ps f (HP.out _ (Below.refl _ _)) (HF.out _ (Below.refl _ _))).mono ?_; rintro e w1 ⟨rfl, hb1⟩; have HB : Hid (Below w.heap.size w w1) := hb1; clear hb1)
        | (go_at_call_of 25 gv; refine (checkFacts_c _ _ _ ps g (HP.out _ HB.out) (HG.out _ HB.out)).mono ?_; rintro e w2 ⟨rfl, hb2⟩; have HB2 : Hid (Below w.heap.size w w2) := HB.out.trans (hb2.mono HB.out.size); clear hb2)
        | (go_at_call 61; refine (under_c _ _ _ _ ps f g (HP.out _ HB2.out) (HF.out _ HB2.out) (HG.out _ HB2.out) H0.out H1.out).mono ?_; rintro e w3 ⟨rfl, hb3⟩))
      go_ret2
      exact ⟨rfl, HB2.out.trans (hb3.mono HB2.out.size)⟩
    · have e : underOf ps f g = (false, factsErr ps g) := by simp [underOf, h0, h1]
      rw [e]
      clear e
      have h1' : (factsErr ps g == 0) = false := by simpa using h1
      go_enter Try.func29, Try.ntmps29
      go_wp2_with (first
        | (go_at_call_of 25 fv; refine (checkFacts_c _ _ _ ps f (HP.out _ (Below.refl _ _)) (HF.out _ (Below.refl _ _))).mono ?_; rintro e w1 ⟨rfl, hb1⟩; have HB : Hid (Below w.heap.size w w1) := hb1; clear hb1)
        | (go_at_call_of 25 gv; refine (checkFacts_c _ _ _ ps g (HP.out _ HB.out) (HG.out _ HB.out)).mono ?_; rintro e w2 ⟨rfl, hb2⟩; have HB2 : Hid (Below w.heap.size w w2) := HB.out.trans (hb2.mono HB.out.size); clear hb2))
      go_ret2
      exact ⟨rfl, HB2.out⟩
  · have e : underOf ps f g = (false, factsErr ps f) := by simp [underOf, h0]
    rw [e]
    clear e
    have h0' : (factsErr ps f == 0) = false := by simpa using h0
    go_enter Try.func29, Try.ntmps29
    go_wp2_with (go_at_call 25; refine (checkFacts_c _ _ _ ps f (HP.out _ (Below.refl _ _)) (HF.out _ (Below.refl _ _))).mono ?_; rintro e w1 ⟨rfl, hb1⟩)
    go_ret2
    exact ⟨rfl, hb1⟩
end Go.Proofs.Ytabhmlkpbdfjcab.Base
