/-
  What the document's own use of a rule answers: FireError, holds, HoldsOf.
-/
import Derived.Deep.RegionHeld3
import Derived.Test.YtlfccloaoopadagGreatG22
import Derived.Test.YtlfccloaoopadagGreatG9
import Derived.Test.YtlfccloaoopadagGreatG4
import Derived.Test.YtlfccloaoopadagGreatG8
namespace Go.Proofs.YtlfccloaoopadagGreat.Fire
open Go.ChangeShapes Go.WideShapes Go.ChangeAt Go.RowKit
open Lat (within within_c lift liftR_c)
open Rule (Vars groundErr argAt groundTo kindOf isPred atomErr ruleErr groundR_c)
open Base (place get findTo factsErr find_c checkFacts_c Small fine_small)
open Prog (progErr checkProg_c small slice_cells boxL boxO)

theorem fire_prog {ps : List Prd} {rs : List Rul} {f : List Fct} {n : Int} (h : progErr ps rs ≠ 0) : fireErr ps rs f n = progErr ps rs := by rw [fireErr, if_pos h]
theorem fire_facts {ps : List Prd} {rs : List Rul} {f : List Fct} {n : Int} (h : progErr ps rs = 0) (h2 : factsErr ps f ≠ 0) : fireErr ps rs f n = factsErr ps f := by rw [fireErr, if_neg (by rw [h]; simp), if_pos h2]
theorem fire_none {ps : List Prd} {rs : List Rul} {f : List Fct} {n : Int} (h : progErr ps rs = 0) (h2 : factsErr ps f = 0) : fireErr ps rs f n = if within n 0 ((rs.length : Int) - 1) then 0 else 7 := by
  rw [fireErr, if_neg (by rw [h]; simp), if_neg (by rw [h2]; simp)]
  by_cases e : 0 ≤ n ∧ n < (rs.length : Int)
  · rw [if_pos e, if_pos (within_iff.2 (by omega))]
  · rw [if_neg e, if_neg (fun q => e (by have := within_iff.1 q; omega))]

end Go.Proofs.YtlfccloaoopadagGreat.Fire

/-
  What the document's own 'holds' answers, of right ones.
-/
namespace Go.Proofs.YtlfccloaoopadagGreat.Fire
open Go.ChangeShapes Go.WideShapes Go.ChangeAt Go.RowKit
open Lat (within within_c lift liftR_c)
open Rule (Vars groundErr argAt groundTo kindOf isPred atomErr ruleErr groundR_c)
open Base (place get findTo factsErr find_c checkFacts_c Small fine_small facts_small factsErr_zero predsOk)
open Prog (progErr checkProg_c small slice_cells boxL boxO)

theorem litOk_not {f : List Fct} {v : Vars} {ls : List Ltr} {k : Nat} (h : k < ls.length) (hb : there f v ls[k] = ls[k].neg) : bodyOk f v ls = false :=
  all_not h (by unfold litOk; rw [hb]; simp)
theorem kind_small {ps : List Prd} (h : predsOk ps = true) {p : Int} (hp : isPred ps p = true) : kindOf ps p = 0 ∨ kindOf ps p = 1 ∨ kindOf ps p = 2 ∨ kindOf ps p = 3 := by
  have := within_iff.1 (pred_ok h hp).1
  omega

set_option maxRecDepth 100000 in
set_option maxHeartbeats 1500000 in
theorem holds_c (w : World) (pv rv fv : Value) (ps : List Prd) (rs : List Rul) (f : List Fct) (n : Nat) (v : Vars) (hp : predsAt w pv ps) (hr : rulesAt w rv rs) (hf : factsAt w fv f) (hpe : ∀ r ∈ rs, ruleErr ps r = 0) (hfe : factsErr ps f = 0) (hn : n < rs.length) (hv : consts v = true) :
    Calls Tryz.prog 51 #[.agg #[pv, rv], fv, .int .i64 (n : Int), .agg #[.int .i64 v.x, .int .i64 v.y, .int .i64 v.z]] w fun e w' => e = .returned (.tuple #[.bool (bodyOk f v rs[n].body), .agg #[.int .i64 (holdsF ps f rs[n] v).pred, .int .i64 (holdsF ps f rs[n] v).a, .int .i64 (holdsF ps f rs[n] v).b, .int .i64 (holdsF ps f rs[n] v).val]]) ∧ Below w.heap.size w w' := by
  have HP : Hid (∀ x, Below w.heap.size w x → predsAt x pv ps) := fun x hx => predsAt.lasts hx hp
  have HR : Hid (rulesAt w rv rs) := hr
  have HF : Hid (∀ x, Below w.heap.size w x → factsAt x fv f) := fun x hx => factsAt.lasts hx hf
  obtain ⟨z5, zp, _⟩ := factsErr_zero hfe
  have HPO : Hid (predsOk ps = true) := zp
  have HRU := rule_parts (hpe _ (List.getElem_mem hn))
  have HFE : Hid (factsErr ps f = 0) := hfe
  have HSM : Hid (∀ y ∈ f, Small y) := facts_small hfe
  have HV : Hid (consts v = true) := hv
  obtain ⟨pa, pc, rfl, hpm, hpx⟩ := hp
  obtain ⟨rb, ro, rc, hrv, hrb, hcells⟩ := slice_cells HR.out hn
  obtain rfl := hrv
  obtain ⟨fa, fc, rfl, hfm, hfx⟩ := hf
  clear hpx hfx hpe hfe hr zp
  obtain ⟨t0, ⟨hv', t1, t1'⟩, t2, t3, bv, t4, t5⟩ := hcells
  have HLIT : Hid (litsAt w bv rs[n].body) := t5
  have HHT : Hid (∀ x, Below w.heap.size w x → termsAt x hv' rs[n].head.args) := fun x hx => termsAt.lasts hx t1'
  obtain ⟨ba, bc, rfl, hblen, _⟩ := t5
  obtain ⟨ha, hc, rfl, _⟩ := t1'
  have hn0 : (0 : Int) ≤ (n : Int) := by omega
  have hn1 : (n : Int) < (rs.length : Int) := by omega
  generalize hre : rs[n] = r at *
  obtain ⟨p1, p2, p3, p4, p5, p6, p7⟩ := HRU
  have HAT : Hid (∀ l ∈ r.body, atomErr ps l.atom = 0) := p2
  have HHG : Hid (groundErr v r.head.args = 0) := (atom_ground p1 HPO.out HV.out).1
  have hpr := Prog.pred_there p1
  obtain ⟨eh, heh⟩ : ∃ eh : Nat, r.head.pred = (eh : Int) := ⟨_, hpr.2⟩
  have hehn : eh < ps.length := by have := hpr.1; rw [heh] at this; simpa using this
  have HKD : Hid (kindOf ps r.head.pred = 0 ∨ kindOf ps r.head.pred = 1 ∨ kindOf ps r.head.pred = 2 ∨ kindOf ps r.head.pred = 3) := kind_small HPO.out (Rule.isPred_iff.2 ⟨eh, hehn, heh⟩)
  clear p1 p2 hpr
  have cell3 : ∀ (o : Nat) (u v z : Obj), (((w.alloc u).alloc v).alloc z).cell? ⟨rb, o, none⟩ = w.cell? ⟨rb, o, none⟩ := fun o u v z => cell_lasts ((((Below.refl _ _).alloc (Nat.le_refl _) _).alloc (by simp) _).alloc (by simp; omega) _) hrb
  rw [heh] at t0
  have HEH : Hid (r.head.pred = (eh : Int)) := heh
  clear heh
  go_enter Tryz.func51, Tryz.ntmps51
  go_wp2_with fail
  obtain ⟨W1, hW1⟩ : ∃ W1, ((((w.alloc (.cells #[.slice pa ps.length pc, .slice (some ⟨rb, ro, none⟩) rs.length rc] 25)).alloc (.cells #[.int .i64 v.x, .int .i64 v.y, .int .i64 v.z] 97)).alloc (.cells #[.int .i64 0, .int .i64 0, .int .i64 0, .int .i64 0] 44)).alloc (.cells #[.int .i64 (eh : Int), .slice ha r.head.args.length hc, .int .i64 r.src, .int .i64 r.n, .slice ba r.body.length bc] 58)) = W1 := ⟨_, rfl⟩
  have b1 : Below w.heap.size w W1 := by rw [← hW1]; exact ((((Below.refl _ _).alloc (Nat.le_refl _) _).alloc (by simp) _).alloc (by simp; omega) _).alloc (by simp; omega) _
  have s1 : W1.heap.size = w.heap.size + 4 := by rw [← hW1]; simp
  have q0 : W1.cell? ⟨w.heap.size, 0, none⟩ = some (.slice pa ps.length pc) := by rw [← hW1]; simp [go_sem]
  have q1 : W1.cell? ⟨w.heap.size + 1, 0, none⟩ = some (.int .i64 v.x) := by rw [← hW1]; simp [go_sem]
  have q2 : W1.cell? ⟨w.heap.size + 1, 1, none⟩ = some (.int .i64 v.y) := by rw [← hW1]; simp [go_sem]
  have q3 : W1.cell? ⟨w.heap.size + 1, 2, none⟩ = some (.int .i64 v.z) := by rw [← hW1]; simp [go_sem]
  have q4 : W1.cell? ⟨w.heap.size + 3, 1 + 1, none⟩ = some (.int .i64 r.src) := by rw [← hW1]; simp [go_sem]
  have q5 : W1.cell? ⟨w.heap.size + 3, 3, none⟩ = some (.int .i64 r.n) := by rw [← hW1]; simp [go_sem]
  have q6 : W1.cell? ⟨w.heap.size + 3, 4, none⟩ = some (.slice ba r.body.length bc) := by rw [← hW1]; simp [go_sem]
  have q7 : ∀ o, o < 4 → W1.cell? ⟨w.heap.size + 2, o, none⟩ = some (.int .i64 0) ∧ W1.frozen? ⟨w.heap.size + 2, o, none⟩ = false := by
    intro o ho
    rw [← hW1]
    obtain rfl | rfl | rfl | rfl : o = 0 ∨ o = 1 ∨ o = 2 ∨ o = 3 := by omega
    all_goals simp [go_sem]
  rw [hW1]
  clear hW1 cell3 t0 t1 t2 t3 t4
  obtain ⟨BR, hBR⟩ : ∃ BR, w.heap.size + 1 + 1 + 1 = BR := ⟨_, rfl⟩
  obtain ⟨BF, hBF⟩ : ∃ BF, w.heap.size + 1 + 1 = BF := ⟨_, rfl⟩
  obtain ⟨BV, hBV⟩ : ∃ BV, w.heap.size + 1 = BV := ⟨_, rfl⟩
  rw [show w.heap.size + 3 = BR from hBR] at q4 q5 q6
  rw [show w.heap.size + 2 = BF from hBF] at q7
  rw [hBV] at q1 q2 q3
  have nBR : BR = w.heap.size + 3 := hBR.symm
  have nBF : BF = w.heap.size + 2 := hBF.symm
  have nBV : BV = w.heap.size + 1 := hBV.symm
  have HG := groundR_c W1 (.slice ha r.head.args.length hc) (eh : Int) r.head.args v (HHT.out _ b1) HHG.out
  refine HG.mono ?_
  rintro e w2 ⟨rfl, hb2⟩
  have OLD : Hid (∀ x, Below w2.heap.size w2 x → ∀ b o, b < w.heap.size + 4 → x.cell? ⟨b, o, none⟩ = W1.cell? ⟨b, o, none⟩) := fun x hx b o hb => (cell_lasts hx (by have := hb2.size; omega)).trans (cell_lasts hb2 (by omega))
  have OLF : Hid (∀ x, Below w2.heap.size w2 x → ∀ b o, b < w.heap.size + 4 → x.frozen? ⟨b, o, none⟩ = W1.frozen? ⟨b, o, none⟩) := fun x hx b o hb => (hx.frozen (p := ⟨b, o, none⟩) (show b < w2.heap.size by have := hb2.size; omega)).trans (hb2.frozen (p := ⟨b, o, none⟩) (show b < W1.heap.size by omega))
  have bw2 : Below w.heap.size w w2 := b1.trans (hb2.mono b1.size)
  have s2 : w.heap.size + 4 ≤ w2.heap.size := by have := hb2.size; omega
  have iBR : BR < w.heap.size + 4 := by omega
  have jBF : w.heap.size ≤ BF := by omega
  have jBR : w.heap.size ≤ BR := by omega
  have iBF : BF < w.heap.size + 4 := by omega
  have iBV : BV < w.heap.size + 4 := by omega
  have g5 : ∀ o, (w2.alloc o).cell? ⟨BR, 3, none⟩ = some (.int .i64 r.n) := fun o => (OLD.out _ (below_alloc _ _) BR 3 (by omega)).trans q5
  rw [hBR, hBF, hBV]
  clear HG HHT HHG hBR hBF hBV nBR nBF nBV hb2
  go_wp2_with fail
  clear g5
  go_loopw [12] (fun i wr => ∃ k : Nat, k ≤ r.body.length ∧ i = .int .i64 k ∧ Below w2.heap.size w2 wr ∧ w2.heap.size < wr.heap.size ∧ Hid (bodyOk f v (r.body.take k) = true) ∧
    wr.cell? ⟨w2.heap.size, 0, none⟩ = some (.int .i64 (eh : Int)) ∧ wr.cell? ⟨w2.heap.size, 1, none⟩ = some (.int .i64 (argAt v r.head.args 0)) ∧ wr.cell? ⟨w2.heap.size, 2, none⟩ = some (.int .i64 (argAt v r.head.args 1)) ∧ wr.cell? ⟨w2.heap.size, 3, none⟩ = some (.int .i64 (valTo ps f r v k)) ∧ wr.frozen? ⟨w2.heap.size, 3, none⟩ = false) (fun i _ => r.body.length - (intOf i).toNat)
  case atStart => exact ⟨0, Nat.zero_le _, rfl, below_alloc _ _, by simp, rfl, by simp [go_sem], by simp [go_sem], by simp [go_sem], by simp [go_sem, valTo_zero], by simp [go_sem]⟩
  case round =>
    obtain ⟨k, hk, rfl, hbr, hsz, hok, x0, x1, x2, x3, x3f⟩ := hrel
    have d0 := (OLD.out _ hbr w.heap.size 0 (by omega)).trans q0
    have d1 := (OLD.out _ hbr BV 0 (by omega)).trans q1
    have d2 := (OLD.out _ hbr BV 1 (by omega)).trans q2
    have d3 := (OLD.out _ hbr BV 2 (by omega)).trans q3
    have d4 := (OLD.out _ hbr BR (1 + 1) (by omega)).trans q4
    have d5 := (OLD.out _ hbr BR 3 (by omega)).trans q5
    have d6 := (OLD.out _ hbr BR 4 (by omega)).trans q6
    have bwr : Below w.heap.size w wr := bw2.trans (hbr.mono bw2.size)
    by_cases hkl : k < r.body.length
    · obtain ⟨lb, lo, lc', hv, hlb, hcells⟩ := slice_cells HLIT.out hkl
      obtain ⟨rfl, rfl⟩ : ba = some ⟨lb, lo, none⟩ ∧ bc = lc' := by simpa using hv
      obtain ⟨l0, l1, av, l2, l3⟩ := hcells
      have HAV : Hid (∀ x, Below w.heap.size w x → termsAt x av r.body[k].atom.args) := fun x hx => termsAt.lasts hx l3
      obtain ⟨aa, ac, rfl, _⟩ := l3
      obtain ⟨hgr, hfine⟩ := atom_ground (v := v) (HAT.out _ (List.getElem_mem hkl)) HPO.out HV.out
      have HGR : Hid (groundErr v r.body[k].atom.args = 0) := hgr
      have HSL : Hid (Small ⟨r.body[k].atom.pred, argAt v r.body[k].atom.args 0, argAt v r.body[k].atom.args 1, 0⟩) := fine_small z5 hfine
      have HTH : Hid (there f v r.body[k] = (get f (place ⟨r.body[k].atom.pred, argAt v r.body[k].atom.args 0, argAt v r.body[k].atom.args 1, 0⟩)).isSome) := rfl
      have HVT := valTo_at (ps := ps) (f := f) (v := v) hkl
      have HVT' : Hid (valTo ps f r v (k + 1) = if (k : Int) = r.src then lift (kindOf ps r.head.pred) (findTo f (place ⟨r.body[k].atom.pred, argAt v r.body[k].atom.args 0, argAt v r.body[k].atom.args 1, 0⟩)) r.n else valTo ps f r v k) := HVT
      have HNO : Hid (there f v r.body[k] = r.body[k].neg → bodyOk f v r.body = false) := litOk_not hkl
      have HYES : Hid (there f v r.body[k] ≠ r.body[k].neg → bodyOk f v (r.body.take (k + 1)) = true) := fun h => by
        rw [bodyOk, all_take hkl]
        rw [show (r.body.take k).all (litOk f v) = true from hok.out]
        unfold litOk
        simpa using h
      clear hv hgr hfine HVT hok
      have e0 := (cell_lasts bwr hlb).trans l0
      have e1 := (cell_lasts bwr hlb).trans l1
      have e2 := (cell_lasts bwr hlb).trans l2
      have hlb' : lb < wr.heap.size := Nat.lt_of_lt_of_le hlb bwr.size
      have hkl0 : (0 : Int) ≤ (k : Int) := by omega
      have hkl1 : (k : Int) < (r.body.length : Int) := by omega
      have hf15 := find_range HFE.out (place ⟨r.body[k].atom.pred, argAt v r.body[k].atom.args 0, argAt v r.body[k].atom.args 1, 0⟩)
      clear l0 l1 l2
      generalize r.body[k] = lt at *
      go_wp2_with fail
      have L0 : ∀ x : Low wr.heap.size wr, x.wd.cell? ⟨BR, 4, none⟩ = some (.slice (some ⟨lb, lo, none⟩) r.body.length bc) := fun x => (cell_lasts x.low (by omega)).trans d6
      have L1 : ∀ x : Low wr.heap.size wr, x.wd.cell? ⟨lb, lo + k * 3 + 1, none⟩ = some (.int .i64 lt.atom.pred) := fun x => (cell_lasts x.low hlb').trans e1
      have L2 : ∀ x : Low wr.heap.size wr, x.wd.cell? ⟨lb, lo + k * 3 + 2, none⟩ = some (.slice aa lt.atom.args.length ac) := fun x => (cell_lasts x.low hlb').trans e2
      have L3 : ∀ x : Low wr.heap.size wr, x.wd.cell? ⟨BV, 0, none⟩ = some (.int .i64 v.x) := fun x => (cell_lasts x.low (by omega)).trans d1
      have L4 : ∀ x : Low wr.heap.size wr, x.wd.cell? ⟨BV, 1, none⟩ = some (.int .i64 v.y) := fun x => (cell_lasts x.low (by omega)).trans d2
      have L5 : ∀ x : Low wr.heap.size wr, x.wd.cell? ⟨BV, 2, none⟩ = some (.int .i64 v.z) := fun x => (cell_lasts x.low (by omega)).trans d3
      refine wp_region_low wr.heap.size (by kernel_rfl) (by kernel_rfl) ?_
      repeat (go_big_quiet_step (first
        | (go_at_call 88; exact low_of (groundR_c _ _ _ lt.atom.args v (HAV.out _ (bwr.trans ((Low.low _).mono bwr.size))) HGR.out))
        | (go_at_call 89; exact low_of (find_c _ _ f _ _ _ _ (HF.out _ (bwr.trans ((Low.low _).mono bwr.size))) HSM.out HSL.out))))
      refine wpQuiet_nil ?_
      rintro w3 ⟨⟨_, hb3⟩, rfl⟩
      clear L0 L1 L2 L3 L4 L5
      rw [← HTH.out]
      have y0 := (cell_lasts hb3 hsz).trans x0
      have y1 := (cell_lasts hb3 hsz).trans x1
      have y2 := (cell_lasts hb3 hsz).trans x2
      have y3 := (cell_lasts hb3 hsz).trans x3
      have y3f := (hb3.frozen (p := ⟨w2.heap.size, 3, none⟩) hsz).trans x3f
      have hsz3 : w2.heap.size < w3.heap.size := Nat.lt_of_lt_of_le hsz hb3.size
      have hb23 : Below w2.heap.size w2 w3 := hbr.trans (hb3.mono hbr.size)
      have bw3 : Below w.heap.size w w3 := bw2.trans (hb23.mono bw2.size)
      have i0 := (OLD.out _ hb23 w.heap.size 0 (by omega)).trans q0
      have i4 := (OLD.out _ hb23 BR (1 + 1) (by omega)).trans q4
      have i5 := (OLD.out _ hb23 BR 3 (by omega)).trans q5
      have i6 := (OLD.out _ hb23 BR 4 (by omega)).trans q6
      have j0 := (cell_lasts hb3 hlb').trans e0
      obtain ⟨pb, po, pc', hpv, hpb, hpc⟩ := slice_cells (HP.out _ bw3) hehn
      obtain ⟨rfl, rfl⟩ : pa = some ⟨pb, po, none⟩ ∧ pc = pc' := by simpa using hpv
      have pk : w3.cell? ⟨pb, po + eh * 3 + 2, none⟩ = some (.int .i64 (kindOf ps r.head.pred)) := by
        rw [hpc.2.2, HEH.out, kindOf, Int.toNat_natCast, List.getElem?_eq_getElem hehn]
        rfl
      have hpbw : pb < w.heap.size := by
        obtain ⟨pb', po', pc'', hpv', hpb', _⟩ := slice_cells (HP.out _ (Below.refl _ _)) hehn
        obtain ⟨⟨rfl, _⟩, _⟩ : (pb = pb' ∧ po = po') ∧ pc = pc'' := by simpa using hpv'
        exact hpb'
      have he1 : (eh : Int) < (ps.length : Int) := by omega
      clear hpv hpc
      have r0 := (OLD.out _ hb23 BF 0 (by omega)).trans (q7 0 (by omega)).1
      have r1 := (OLD.out _ hb23 BF 1 (by omega)).trans (q7 1 (by omega)).1
      have r2 := (OLD.out _ hb23 BF 2 (by omega)).trans (q7 2 (by omega)).1
      have r3 := (OLD.out _ hb23 BF 3 (by omega)).trans (q7 3 (by omega)).1
      have f0 := (OLF.out _ hb23 BF 0 (by omega)).trans (q7 0 (by omega)).2
      have f1 := (OLF.out _ hb23 BF 1 (by omega)).trans (q7 1 (by omega)).2
      have f2 := (OLF.out _ hb23 BF 2 (by omega)).trans (q7 2 (by omega)).2
      have f3 := (OLF.out _ hb23 BF 3 (by omega)).trans (q7 3 (by omega)).2
      clear x0 x1 x2 x3 x3f d0 d1 d2 d3 d4 d5 d6 e0 e1 e2 HTH hb3
      generalize findTo f (place ⟨lt.atom.pred, argAt v lt.atom.args 0, argAt v lt.atom.args 1, 0⟩) = fv' at *
      generalize there f v lt = th at *
      generalize lt.neg = ng at *
      cases th
      · cases ng
        · have H : Hid (bodyOk f v r.body = false) := HNO.out rfl
          clear HNO HYES
          go_wp2_with fail
          have HH : Hid (holdsF ps f r v = ⟨0, 0, 0, 0⟩) := by show _ = _; rw [holdsF, H.out]; rfl
          refine bodyPost_ret (v := .tuple #[.bool false, .agg #[.int .i64 0, .int .i64 0, .int .i64 0, .int .i64 0]]) (by simp [results, Tryz.results51, go_sem, r0, r1, r2, r3]) rfl ⟨by rw [H.out, HH.out], ?_⟩
          exact (((bw3.setCell (p := ⟨BF, 0, none⟩) jBF _).setCell (p := ⟨BF, 1, none⟩) jBF _).setCell (p := ⟨BF, 2, none⟩) jBF _).setCell (p := ⟨BF, 3, none⟩) jBF _
        · have H : Hid (bodyOk f v (r.body.take (k + 1)) = true) := HYES.out (by simp)
          clear HNO HYES
          by_cases hks : (k : Int) = r.src
          · have hks' : ((k : Int) == r.src) = true := beq_iff_eq.2 hks
            have HVL : Hid (valTo ps f r v (k + 1) = lift (kindOf ps r.head.pred) fv' r.n) := by show _ = _; rw [HVT'.out, if_pos hks]
            clear hks HVT'
            have HLIFT : Hid (∀ x, Calls Tryz.prog 90 #[.int .i64 (kindOf ps r.head.pred), .int .i64 fv', .int .i64 r.n] x fun e w' => e = .returned (.int .i64 (valTo ps f r v (k + 1))) ∧ w' = x) := fun x => by rw [HVL.out]; exact liftR_c _ _ _ x HKD.out hf15.1 hf15.2 p5 p6
            have KEEP : Hid ((fun w' => w'.cell? ⟨w.heap.size, 0, none⟩ = some (.slice (some ⟨pb, po, none⟩) ps.length pc) ∧ w'.cell? ⟨w2.heap.size, 0, none⟩ = some (.int .i64 (eh : Int)) ∧ w'.cell? ⟨pb, po + eh * 3 + 2, none⟩ = some (.int .i64 (kindOf ps r.head.pred)) ∧ w'.cell? ⟨BR, 3, none⟩ = some (.int .i64 r.n)) w3.drew) := ⟨i0, y0, pk, i5⟩
            have KEEP2 : Hid (∀ u, (fun w' => w'.cell? ⟨w.heap.size, 0, none⟩ = some (.slice (some ⟨pb, po, none⟩) ps.length pc) ∧ w'.cell? ⟨w2.heap.size, 0, none⟩ = some (.int .i64 (eh : Int)) ∧ w'.cell? ⟨pb, po + eh * 3 + 2, none⟩ = some (.int .i64 (kindOf ps r.head.pred)) ∧ w'.cell? ⟨BR, 3, none⟩ = some (.int .i64 r.n)) (w3.drew.setCell ⟨w2.heap.size, 3, none⟩ u)) := fun u => ⟨(cell_block (by omega)).trans i0, (cell_off (by omega)).trans y0, (cell_block (by omega)).trans pk, (cell_block (by omega)).trans i5⟩
            go_wp2_with fail
            go_region_held3 (fun w' => w'.cell? ⟨w.heap.size, 0, none⟩ = some (.slice (some ⟨pb, po, none⟩) ps.length pc) ∧ w'.cell? ⟨w2.heap.size, 0, none⟩ = some (.int .i64 (eh : Int)) ∧ w'.cell? ⟨pb, po + eh * 3 + 2, none⟩ = some (.int .i64 (kindOf ps r.head.pred)) ∧ w'.cell? ⟨BR, 3, none⟩ = some (.int .i64 r.n))
              (first | exact KEEP.out | exact KEEP2.out _)
              (first | (go_at_call 90; refine (HLIFT.out _).mono ?_; rintro e w4 ⟨rfl, rfl⟩))
            go_wp2_with fail
            exact ⟨⟨k + 1, by omega, by go_num, (hb23.setCell (p := ⟨w2.heap.size, 3, none⟩) (Nat.le_refl _) _).drew, by show w2.heap.size < (w3.setCell _ _).heap.size; rw [size_set]; exact hsz3, H.out, (cell_off (by omega)).trans y0, (cell_off (by omega)).trans y1, (cell_off (by omega)).trans y2, cell_set y3, frozen_set.trans y3f⟩, by simp [intOf]; omega⟩
          · have hks' : ((k : Int) == r.src) = false := beq_eq_false_iff_ne.2 hks
            have HVL : Hid (valTo ps f r v (k + 1) = valTo ps f r v k) := by show _ = _; rw [HVT'.out, if_neg hks]
            clear hks HVT'
            go_wp2_with fail
            exact ⟨⟨k + 1, by omega, by go_num, hb23, hsz3, H.out, y0, y1, y2, by rw [HVL.out]; exact y3, y3f⟩, by simp [intOf]; omega⟩
      · cases ng
        · have H : Hid (bodyOk f v (r.body.take (k + 1)) = true) := HYES.out (by simp)
          clear HNO HYES
          by_cases hks : (k : Int) = r.src
          · have hks' : ((k : Int) == r.src) = true := beq_iff_eq.2 hks
            have HVL : Hid (valTo ps f r v (k + 1) = lift (kindOf ps r.head.pred) fv' r.n) := by show _ = _; rw [HVT'.out, if_pos hks]
            clear hks HVT'
            have HLIFT : Hid (∀ x, Calls Tryz.prog 90 #[.int .i64 (kindOf ps r.head.pred), .int .i64 fv', .int .i64 r.n] x fun e w' => e = .returned (.int .i64 (valTo ps f r v (k + 1))) ∧ w' = x) := fun x => by rw [HVL.out]; exact liftR_c _ _ _ x HKD.out hf15.1 hf15.2 p5 p6
            have KEEP : Hid ((fun w' => w'.cell? ⟨w.heap.size, 0, none⟩ = some (.slice (some ⟨pb, po, none⟩) ps.length pc) ∧ w'.cell? ⟨w2.heap.size, 0, none⟩ = some (.int .i64 (eh : Int)) ∧ w'.cell? ⟨pb, po + eh * 3 + 2, none⟩ = some (.int .i64 (kindOf ps r.head.pred)) ∧ w'.cell? ⟨BR, 3, none⟩ = some (.int .i64 r.n)) w3.drew) := ⟨i0, y0, pk, i5⟩
            have KEEP2 : Hid (∀ u, (fun w' => w'.cell? ⟨w.heap.size, 0, none⟩ = some (.slice (some ⟨pb, po, none⟩) ps.length pc) ∧ w'.cell? ⟨w2.heap.size, 0, none⟩ = some (.int .i64 (eh : Int)) ∧ w'.cell? ⟨pb, po + eh * 3 + 2, none⟩ = some (.int .i64 (kindOf ps r.head.pred)) ∧ w'.cell? ⟨BR, 3, none⟩ = some (.int .i64 r.n)) (w3.drew.setCell ⟨w2.heap.size, 3, none⟩ u)) := fun u => ⟨(cell_block (by omega)).trans i0, (cell_off (by omega)).trans y0, (cell_block (by omega)).trans pk, (cell_block (by omega)).trans i5⟩
            go_wp2_with fail
            go_region_held3 (fun w' => w'.cell? ⟨w.heap.size, 0, none⟩ = some (.slice (some ⟨pb, po, none⟩) ps.length pc) ∧ w'.cell? ⟨w2.heap.size, 0, none⟩ = some (.int .i64 (eh : Int)) ∧ w'.cell? ⟨pb, po + eh * 3 + 2, none⟩ = some (.int .i64 (kindOf ps r.head.pred)) ∧ w'.cell? ⟨BR, 3, none⟩ = some (.int .i64 r.n))
              (first | exact KEEP.out | exact KEEP2.out _)
              (first | (go_at_call 90; refine (HLIFT.out _).mono ?_; rintro e w4 ⟨rfl, rfl⟩))
            go_wp2_with fail
            exact ⟨⟨k + 1, by omega, by go_num, (hb23.setCell (p := ⟨w2.heap.size, 3, none⟩) (Nat.le_refl _) _).drew, by show w2.heap.size < (w3.setCell _ _).heap.size; rw [size_set]; exact hsz3, H.out, (cell_off (by omega)).trans y0, (cell_off (by omega)).trans y1, (cell_off (by omega)).trans y2, cell_set y3, frozen_set.trans y3f⟩, by simp [intOf]; omega⟩
          · have hks' : ((k : Int) == r.src) = false := beq_eq_false_iff_ne.2 hks
            have HVL : Hid (valTo ps f r v (k + 1) = valTo ps f r v k) := by show _ = _; rw [HVT'.out, if_neg hks]
            clear hks HVT'
            go_wp2_with fail
            exact ⟨⟨k + 1, by omega, by go_num, hb23, hsz3, H.out, y0, y1, y2, by rw [HVL.out]; exact y3, y3f⟩, by simp [intOf]; omega⟩
        · have H : Hid (bodyOk f v r.body = false) := HNO.out rfl
          clear HNO HYES
          go_wp2_with fail
          have HH : Hid (holdsF ps f r v = ⟨0, 0, 0, 0⟩) := by show _ = _; rw [holdsF, H.out]; rfl
          refine bodyPost_ret (v := .tuple #[.bool false, .agg #[.int .i64 0, .int .i64 0, .int .i64 0, .int .i64 0]]) (by simp [results, Tryz.results51, go_sem, r0, r1, r2, r3]) rfl ⟨by rw [H.out, HH.out], ?_⟩
          exact (((bw3.setCell (p := ⟨BF, 0, none⟩) jBF _).setCell (p := ⟨BF, 1, none⟩) jBF _).setCell (p := ⟨BF, 2, none⟩) jBF _).setCell (p := ⟨BF, 3, none⟩) jBF _
    · obtain rfl : k = r.body.length := by omega
      have H : Hid (bodyOk f v r.body = true) := by have := hok.out; rwa [List.take_length] at this
      have r0 := (OLD.out _ hbr BF 0 (by omega)).trans (q7 0 (by omega)).1
      have r1 := (OLD.out _ hbr BF 1 (by omega)).trans (q7 1 (by omega)).1
      have r2 := (OLD.out _ hbr BF 2 (by omega)).trans (q7 2 (by omega)).1
      have r3 := (OLD.out _ hbr BF 3 (by omega)).trans (q7 3 (by omega)).1
      have f0 := (OLF.out _ hbr BF 0 (by omega)).trans (q7 0 (by omega)).2
      have f1 := (OLF.out _ hbr BF 1 (by omega)).trans (q7 1 (by omega)).2
      have f2 := (OLF.out _ hbr BF 2 (by omega)).trans (q7 2 (by omega)).2
      have f3 := (OLF.out _ hbr BF 3 (by omega)).trans (q7 3 (by omega)).2
      go_wp2_with fail
      go_region
      all_goals
        go_wp2_with fail
        have HH : Hid (holdsF ps f r v = ⟨(eh : Int), argAt v r.head.args 0, argAt v r.head.args 1, valTo ps f r v r.body.length⟩) := by show _ = _; rw [holdsF, H.out, if_pos rfl, headF, HEH.out]
        refine bodyPost_ret (v := .tuple #[.bool true, .agg #[.int .i64 (eh : Int), .int .i64 (argAt v r.head.args 0), .int .i64 (argAt v r.head.args 1), .int .i64 (valTo ps f r v r.body.length)]]) (by simp [results, Tryz.results51, go_sem, r0, r1, r2, r3]) rfl ⟨by rw [H.out, HH.out], ?_⟩
        exact ((((bwr.setCell (p := ⟨BF, 0, none⟩) jBF _).setCell (p := ⟨BF, 1, none⟩) jBF _).setCell (p := ⟨BF, 2, none⟩) jBF _).setCell (p := ⟨BF, 3, none⟩) jBF _).drew
end Go.Proofs.YtlfccloaoopadagGreat.Fire

/-
  What the document's own 'HoldsOf' answers.
-/
namespace Go.Proofs.YtlfccloaoopadagGreat.Fire
open Go.ChangeShapes Go.WideShapes Go.ChangeAt Go.RowKit
open Rule (Vars ruleErr)
open Base (factsErr)
open Prog (progErr small)

theorem wp_put {P : Program} {c : Code} {Q : Exit → Act → World → Prop} {a : Act} {W : World} (F : World → Prop) (hF : F W) (h : ∀ W0, F W0 → Code.wp P c Q a W0) : Code.wp P c Q a W := h W hF
/-- E1 -/
def holdsOk (ps : List Prd) (rs : List Rul) (f : List Fct) (n : Int) (v : Vars) : Bool := if holdsErr ps rs f n v ≠ 0 then false else bodyOk f v ((rs[n.toNat]?.map Rul.body).getD [])
def holdsFact (ps : List Prd) (rs : List Rul) (f : List Fct) (n : Int) (v : Vars) : Fct := if holdsErr ps rs f n v ≠ 0 then ⟨0, 0, 0, 0⟩ else (rs[n.toNat]?.map fun r => holdsF ps f r v).getD ⟨0, 0, 0, 0⟩
theorem fire_zero {ps : List Prd} {rs : List Rul} {f : List Fct} {n : Int} (h : fireErr ps rs f n = 0) : progErr ps rs = 0 ∧ factsErr ps f = 0 ∧ 0 ≤ n ∧ n < (rs.length : Int) := by
  rw [fireErr] at h
  split at h
  · contradiction
  · rename_i h1
    split at h
    · contradiction
    · rename_i h2
      split at h
      · rename_i h3
        exact ⟨Classical.not_not.1 h1, Classical.not_not.1 h2, h3⟩
      · cases h
theorem rules_right {ps : List Prd} {rs : List Rul} (h : progErr ps rs = 0) : ∀ r ∈ rs, ruleErr ps r = 0 := by
  have h1 := (Prog.prog_zero h).1
  rw [Prog.partsErr] at h1
  split at h1
  · contradiction
  · split at h1
    · contradiction
    · split at h1
      · contradiction
      · split at h1
        · contradiction
        · split at h1
          · contradiction
          · exact Prog.rules_all h1

end Go.Proofs.YtlfccloaoopadagGreat.Fire

/-
  Steps in memory.
-/
namespace Go.Proofs.YtlfccloaoopadagGreat.Fire
open Go.ChangeShapes Go.WideShapes Go.ChangeAt Go.RowKit

/-- a step: the rule's number, and what its variables stand for -/
structure Stp where
  rule : Int
  x : Int
  y : Int
  z : Int
deriving instance DecidableEq for Stp
def stepAt (w : World) (b o : Nat) (s : Stp) : Prop :=
  w.cell? ⟨b, o, none⟩ = some (.int .i64 s.rule) ∧ w.cell? ⟨b, o + 1, none⟩ = some (.int .i64 s.x) ∧ w.cell? ⟨b, o + 2, none⟩ = some (.int .i64 s.y) ∧ w.cell? ⟨b, o + 3, none⟩ = some (.int .i64 s.z)
abbrev stepsAt : World → Value → List Stp → Prop := sliceAt 4 stepAt
theorem stepAt.lasts : Lasts stepAt := fun _ _ _ _ _ hb hlt ⟨h1, h2, h3, h4⟩ => ⟨(cell_lasts hb hlt).trans h1, (cell_lasts hb hlt).trans h2, (cell_lasts hb hlt).trans h3, (cell_lasts hb hlt).trans h4⟩
theorem stepsAt.lasts {w w' : World} {v : Value} {xs : List Stp} (hb : Below w.heap.size w w') (h : stepsAt w v xs) : stepsAt w' v xs := sliceAt.lasts stepAt.lasts hb h
theorem step_cells {w : World} {v : Value} {f : List Stp} (h : stepsAt w v f) {j : Nat} (hj : j < f.length) : ∃ b off cap, v = .slice (some ⟨b, off, none⟩) f.length cap ∧ b < w.heap.size ∧ stepAt w b (off + j * 4) f[j] := Prog.slice_cells h hj

end Go.Proofs.YtlfccloaoopadagGreat.Fire

/-
  What the document's own 'stand' answers: which variables stand in a rule.
-/
namespace Go.Proofs.YtlfccloaoopadagGreat.Fire
open Go.ChangeShapes Go.WideShapes Go.ChangeAt Go.RowKit
open Rule (stands stands_c asked)
open Prog (boolV bools_at bools_set slice_cells rowAt_new below_alloc')
open Strata (bat bat_set)

set_option maxRecDepth 100000 in
set_option maxHeartbeats 1000000 in
theorem stand_c (w : World) (r : Rul) (ha : Option Addr) (hc : Nat) (bv : Value) (hh : termsAt w (.slice ha r.head.args.length hc) r.head.args) (hb : litsAt w bv r.body) :
    Calls Tryz.prog 87 #[.agg #[.int .i64 r.head.pred, .slice ha r.head.args.length hc, .int .i64 r.src, .int .i64 r.n, bv]] w fun e w' => e = .returned (.agg #[.bool (asked r 0), .bool (asked r 1), .bool (asked r 2)]) ∧ Below w.heap.size w w' := by
  have HHT : Hid (∀ x, Below w.heap.size w x → termsAt x (.slice ha r.head.args.length hc) r.head.args) := fun x hx => termsAt.lasts hx hh
  have HLIT : Hid (litsAt w bv r.body) := hb
  obtain ⟨ba, bc, rfl, hblen, _⟩ := hb
  clear hh
  go_enter Tryz.func87, Tryz.ntmps87
  go_wp2_with fail
  obtain ⟨W1, hW1⟩ : ∃ W1, ((w.alloc (.cells #[.int .i64 r.head.pred, .slice ha r.head.args.length hc, .int .i64 r.src, .int .i64 r.n, .slice ba r.body.length bc] 58)).alloc (.cells #[.bool false, .bool false, .bool false] 140)).alloc (.cells #[.bool false, .bool false, .bool false] 140) = W1 := ⟨_, rfl⟩
  have b1 : Below w.heap.size w W1 := by rw [← hW1]; exact (((Below.refl _ _).alloc (Nat.le_refl _) _).alloc (by simp) _).alloc (by simp; omega) _
  have s1 : W1.heap.size = w.heap.size + 3 := by rw [← hW1]; simp
  have q0 : W1.cell? ⟨w.heap.size, 0, none⟩ = some (.int .i64 r.head.pred) := by rw [← hW1]; simp [go_sem]
  have q1 : W1.cell? ⟨w.heap.size, 1, none⟩ = some (.slice ha r.head.args.length hc) := by rw [← hW1]; simp [go_sem]
  have q4 : W1.cell? ⟨w.heap.size, 4, none⟩ = some (.slice ba r.body.length bc) := by rw [← hW1]; simp [go_sem]
  have hres : Prog.rowAt W1 (w.heap.size + 1) ([false, false, false].map boolV) := by
    rw [← hW1]
    have := rowAt_new (w := w.alloc (.cells #[.int .i64 r.head.pred, .slice ha r.head.args.length hc, .int .i64 r.src, .int .i64 r.n, .slice ba r.body.length bc] 58)) (vs := [false, false, false].map boolV) (t := 140)
    simp only [World.size_alloc] at this
    exact this.below (n := w.heap.size + 2) (below_alloc' _ _ (by simp)) (by omega)
  have hrow : Prog.rowAt W1 (w.heap.size + 1 + 1) ([false, false, false].map boolV) := by
    rw [← hW1]
    have := rowAt_new (w := (w.alloc (.cells #[.int .i64 r.head.pred, .slice ha r.head.args.length hc, .int .i64 r.src, .int .i64 r.n, .slice ba r.body.length bc] 58)).alloc (.cells #[.bool false, .bool false, .bool false] 140)) (vs := [false, false, false].map boolV) (t := 140)
    simp only [World.size_alloc] at this
    exact this
  rw [hW1]
  clear hW1
  have HQ : Hid (∀ x, Below (w.heap.size + 2) W1 x → x.cell? ⟨w.heap.size, 0, none⟩ = some (.int .i64 r.head.pred) ∧ x.cell? ⟨w.heap.size, 1, none⟩ = some (.slice ha r.head.args.length hc) ∧ x.cell? ⟨w.heap.size, 4, none⟩ = some (.slice ba r.body.length bc) ∧ Below w.heap.size w x ∧ Prog.rowAt x (w.heap.size + 1) ([false, false, false].map boolV)) := fun x hx =>
    ⟨by rw [hx.cell (p := ⟨w.heap.size, 0, none⟩) (by simp)]; exact q0, by rw [hx.cell (p := ⟨w.heap.size, 1, none⟩) (by simp)]; exact q1, by rw [hx.cell (p := ⟨w.heap.size, 4, none⟩) (by simp)]; exact q4, b1.trans (hx.mono (by omega)), hres.below hx (by omega)⟩
  clear q0 q1 q4 hres b1
  go_loopw [4] (fun i wr => ∃ (v : Nat) (l : List Bool), v ≤ 3 ∧ i = .int .i64 v ∧ l.length = 3 ∧ Hid (∀ j : Nat, j < v → bat l j = asked r j) ∧ Prog.rowAt wr (w.heap.size + 1 + 1) (l.map boolV) ∧ w.heap.size + 1 + 1 < wr.heap.size ∧ Below (w.heap.size + 2) W1 wr) (fun i _ => 3 - (intOf i).toNat)
  case atStart => exact ⟨0, [false, false, false], by omega, rfl, rfl, fun j hj => absurd hj (by omega), hrow, by omega, Below.refl _ _⟩
  case round =>
    clear hrow
    obtain ⟨v, l, hv, rfl, hl, hall, hrow, hsz, hbr⟩ := hrel
    obtain ⟨y0, y1, y4, hbw, hres⟩ := HQ.out _ hbr
    by_cases hlt : v < 3
    · have hv0 : (0 : Int) ≤ (v : Int) := by omega
      have hv1 : (v : Int) < 3 := by omega
      have HR0 : Hid (Prog.rowAt wr (w.heap.size + 1 + 1) (l.map boolV)) := hrow
      clear hrow hres
      go_wp2_with fail
      refine (stands_c _ _ _ _ r.head.args (HHT.out _ hbw)).mono ?_
      rintro e w2 ⟨rfl, hb2⟩
      have hrow : Prog.rowAt w2 (w.heap.size + 1 + 1) (l.map boolV) := HR0.out.below hb2 hsz
      have hbr2 : Below (w.heap.size + 2) W1 w2 := hbr.trans (hb2.mono (by omega))
      have hsz2 : w.heap.size + 1 + 1 < w2.heap.size := by have := hb2.size; omega
      obtain ⟨f2, f3⟩ := Prog.bools_at hrow (k := v) (by omega)
      clear y0 y1 y4 HR0 hb2 hbw
      obtain ⟨y0, y1, y4, hbw, hres⟩ := HQ.out _ hbr2
      clear hres hbr hsz
      go_wp2_with fail
      go_loopw [5] (fun i wr => ∃ (k : Nat) (m : List Bool), k ≤ r.body.length ∧ i = .int .i64 k ∧ m.length = 3 ∧ Hid (∀ j : Nat, j < v → bat m j = asked r j) ∧ Hid (bat m v = (stands r.head.args (v : Int) || (r.body.take k).any fun l => stands l.atom.args (v : Int))) ∧ Prog.rowAt wr (w.heap.size + 1 + 1) (m.map boolV) ∧ w.heap.size + 1 + 1 < wr.heap.size ∧ Below (w.heap.size + 2) W1 wr) (fun i _ => r.body.length - (intOf i).toNat)
      case atStart =>
        refine ⟨0, l.set v (stands r.head.args (v : Int)), Nat.zero_le _, rfl, by rw [List.length_set]; exact hl, fun j hj => ?_, ?_, bools_set hrow (by omega) _, by rw [size_set]; exact hsz2, hbr2.setCell (p := ⟨w.heap.size + 1 + 1, v, none⟩) (by simp) _⟩
        · rw [bat_set (by omega), if_neg (by omega)]; exact hall.out j hj
        · show _ = _
          rw [bat_set (by omega), if_pos rfl, List.take_zero, List.any_nil, Bool.or_false]
      case round =>
        clear y0 y1 y4 hbw hrow hbr2 hsz2 f2 f3 hall hl
        obtain ⟨k, m, hk, rfl, hml, hall, hhere, hrow, hsz, hbr⟩ := hrel
        obtain ⟨y0, y1, y4, hbw, hres⟩ := HQ.out _ hbr
        obtain ⟨f2, f3⟩ := Prog.bools_at hrow (k := v) (by omega)
        clear hres
        by_cases hkl : k < r.body.length
        · obtain ⟨lb, lo, lc', hvv, hlb, hcells⟩ := slice_cells HLIT.out hkl
          obtain ⟨rfl, rfl⟩ : ba = some ⟨lb, lo, none⟩ ∧ bc = lc' := by simpa using hvv
          obtain ⟨ht1, ht2, ta, tc, ht3, ht4⟩ := (litAt.lasts w wr lb _ _ hbw hlb hcells).open
          have HT : Hid (termsAt wr (.slice ta r.body[k].atom.args.length tc) r.body[k].atom.args) := ht4
          have HS : Hid ((stands r.head.args (v : Int) || (r.body.take (k + 1)).any fun l => stands l.atom.args (v : Int)) = (bat m v || stands r.body[k].atom.args (v : Int))) := by
            show _ = _
            rw [hhere.out, any_take hkl, Bool.or_assoc]
          clear hvv hcells ht4 hhere y0 y1
          have hk0 : (0 : Int) ≤ (k : Int) := by omega
          have hk1 : (k : Int) < (r.body.length : Int) := by omega
          generalize r.body[k] = x at *
          cases hbm : bat m v
          · rw [hbm] at f2
            have HR0 : Hid (Prog.rowAt wr (w.heap.size + 1 + 1) (m.map boolV)) := hrow
            clear hrow
            go_wp2_with fail
            refine (stands_c _ _ _ _ x.atom.args HT.out).mono ?_
            rintro e w3 ⟨rfl, hb3⟩
            have hrow : Prog.rowAt w3 (w.heap.size + 1 + 1) (m.map boolV) := HR0.out.below hb3 hsz
            have hbr3 : Below (w.heap.size + 2) W1 w3 := hbr.trans (hb3.mono (by omega))
            have hsz3 : w.heap.size + 1 + 1 < w3.heap.size := by have := hb3.size; omega
            clear f2 f3
            obtain ⟨f2, f3⟩ := Prog.bools_at hrow (k := v) (by omega)
            clear HR0 hb3
            go_wp2_with fail
            refine ⟨⟨k + 1, m.set v (stands x.atom.args (v : Int)), by omega, by go_num, by rw [List.length_set]; exact hml, fun j hj => ?_, ?_, bools_set hrow (by omega) _, by rw [size_set]; exact hsz3, hbr3.setCell (p := ⟨w.heap.size + 1 + 1, v, none⟩) (by simp) _⟩, by simp [intOf]; omega⟩
            · rw [bat_set (by omega), if_neg (by omega)]; exact hall.out j hj
            · show _ = _
              rw [bat_set (by omega), if_pos rfl, HS.out, hbm, Bool.false_or]
          · rw [hbm] at f2
            go_wp2_with fail
            refine ⟨⟨k + 1, m.set v true, by omega, by go_num, by rw [List.length_set]; exact hml, fun j hj => ?_, ?_, bools_set hrow (by omega) _, by rw [size_set]; exact hsz, hbr.setCell (p := ⟨w.heap.size + 1 + 1, v, none⟩) (by simp) _⟩, by simp [intOf]; omega⟩
            · rw [bat_set (by omega), if_neg (by omega)]; exact hall.out j hj
            · show _ = _
              rw [bat_set (by omega), if_pos rfl, HS.out, hbm, Bool.true_or]
        · have hk1 : ¬ (k : Int) < (r.body.length : Int) := by omega
          have HN : Hid (∀ j : Nat, j < v + 1 → bat m j = asked r j) := fun j hj => by
            by_cases e : j = v
            · rw [e, hhere.out, List.take_of_length_le (by omega)]; rfl
            · exact hall.out j (by omega)
          clear hall hhere
          go_wp2_with fail
          exact ⟨⟨v + 1, m, by omega, by go_num, hml, HN.out, hrow, hsz, hbr⟩, by simp [intOf]; omega⟩
    · obtain rfl : v = 3 := by omega
      have HA : Hid (bat l 0 = asked r 0 ∧ bat l 1 = asked r 1 ∧ bat l 2 = asked r 2) := ⟨hall.out 0 (by omega), hall.out 1 (by omega), hall.out 2 (by omega)⟩
      clear hall
      obtain ⟨f0, -⟩ := Prog.bools_at hrow (k := 0) (by omega)
      obtain ⟨f1, -⟩ := Prog.bools_at hrow (k := 1) (by omega)
      obtain ⟨f2, -⟩ := Prog.bools_at hrow (k := 2) (by omega)
      obtain ⟨g0, h0⟩ := Prog.bools_at hres (k := 0) (by simp)
      obtain ⟨g1, h1⟩ := Prog.bools_at hres (k := 1) (by simp)
      obtain ⟨g2, h2⟩ := Prog.bools_at hres (k := 2) (by simp)
      rw [HA.out.1] at f0
      rw [HA.out.2.1] at f1
      rw [HA.out.2.2] at f2
      clear HA
      go_wp2_with fail
      have hbs : Below w.heap.size w (((wr.setCell ⟨w.heap.size + 1, 0, none⟩ (.bool (asked r 0))).setCell ⟨w.heap.size + 1, 1, none⟩ (.bool (asked r 1))).setCell ⟨w.heap.size + 1, 2, none⟩ (.bool (asked r 2))) := ((hbw.setCell (p := ⟨w.heap.size + 1, 0, none⟩) (by simp) _).setCell (p := ⟨w.heap.size + 1, 1, none⟩) (by simp) _).setCell (p := ⟨w.heap.size + 1, 2, none⟩) (by simp) _
      have hrw := bools_set (bools_set (bools_set hres (k := 0) (by simp) (asked r 0)) (k := 1) (by simp) (asked r 1)) (k := 2) (by simp) (asked r 2)
      generalize ((wr.setCell ⟨w.heap.size + 1, 0, none⟩ (.bool (asked r 0))).setCell ⟨w.heap.size + 1, 1, none⟩ (.bool (asked r 1))).setCell ⟨w.heap.size + 1, 2, none⟩ (.bool (asked r 2)) = W at *
      obtain ⟨k0, -⟩ := Prog.bools_at hrw (k := 0) (by simp)
      obtain ⟨k1, -⟩ := Prog.bools_at hrw (k := 1) (by simp)
      obtain ⟨k2, -⟩ := Prog.bools_at hrw (k := 2) (by simp)
      simp only [List.set_cons_zero, List.set_cons_succ, bat, List.getD_cons_zero, List.getD_cons_succ] at k0 k1 k2
      refine bodyPost_ret (v := .agg #[.bool (asked r 0), .bool (asked r 1), .bool (asked r 2)]) (by simp [results, Tryz.results87, go_sem, k0, k1, k2]) rfl ⟨rfl, hbs⟩
end Go.Proofs.YtlfccloaoopadagGreat.Fire

/-
  What the document's own 'RoundError' answers.
-/
namespace Go.Proofs.YtlfccloaoopadagGreat.Fire
open Go.ChangeShapes Go.WideShapes Go.ChangeAt Go.RowKit
open Base (factsErr checkFacts_c)
open Prog (progErr checkProg_c small boxL)

def roundErr (ps : List Prd) (rs : List Rul) (f : List Fct) : Int := if progErr ps rs ≠ 0 then progErr ps rs else factsErr ps f

set_option maxRecDepth 100000 in
set_option maxHeartbeats 1000000 in
theorem roundError_c (w : World) (pv rv fv : Value) (ps : List Prd) (rs : List Rul) (f : List Fct) (hp : predsAt w pv ps) (hr : rulesAt w rv rs) (hf : factsAt w fv f) (hn : small ps) :
    Calls Tryz.prog 14 #[.agg #[pv, rv], fv] w fun e w' => e = .returned (.int .i64 (roundErr ps rs f)) ∧ Below w.heap.size w w' := by
  have HP : Hid (∀ x, Below w.heap.size w x → predsAt x pv ps) := fun x hx => predsAt.lasts hx hp
  have HR : Hid (∀ x, Below w.heap.size w x → rulesAt x rv rs) := fun x hx => rulesAt.lasts hx hr
  have HF : Hid (∀ x, Below w.heap.size w x → factsAt x fv f) := fun x hx => factsAt.lasts hx hf
  obtain ⟨pa, pc, rfl, hpm, hpx⟩ := hp
  obtain ⟨ra, rc, rfl, hrm, hrx⟩ := hr
  obtain ⟨fa, fc, rfl, hfm, hfx⟩ := hf
  clear hpx hrx hfx
  by_cases hpe : progErr ps rs = 0
  · rw [roundErr, if_neg (by simp [hpe])]
    go_enter Tryz.func14, Tryz.ntmps14
    go_wp2_with fail
    refine (checkProg_c _ _ _ ps rs (HP.out _ (below_alloc _ _)) (HR.out _ (below_alloc _ _)) hn).mono ?_
    rw [hpe]
    rintro e w1 ⟨rfl, hb1⟩
    have B1 := boxL hb1
    obtain ⟨c0, c1, _⟩ := id B1
    have k1 : Below w.heap.size w w1 := below_trans (below_alloc _ _) hb1
    clear hb1
    go_wp2_with fail
    refine (checkFacts_c _ _ _ ps f (HP.out _ k1) (HF.out _ k1)).mono ?_
    rintro e w2 ⟨rfl, hb2⟩
    go_wp2_with fail
    go_ret
    exact ⟨rfl, k1.trans (hb2.mono k1.size)⟩
  · rw [roundErr, if_pos hpe]
    go_enter Tryz.func14, Tryz.ntmps14
    go_wp2_with fail
    refine (checkProg_c _ _ _ ps rs (HP.out _ (below_alloc _ _)) (HR.out _ (below_alloc _ _)) hn).mono ?_
    rintro e w1 ⟨rfl, hb1⟩
    go_wp2_with fail
    go_ret
    exact ⟨rfl, below_trans (below_alloc _ _) hb1⟩
end Go.Proofs.YtlfccloaoopadagGreat.Fire

/-
  What the document's own 'SameSteps' answers.
-/
namespace Go.Proofs.YtlfccloaoopadagGreat.Fire
open Go.ChangeShapes Go.WideShapes Go.ChangeAt Go.RowKit

def stepV (s : Stp) : Value := .agg #[.int .i64 s.rule, .int .i64 s.x, .int .i64 s.y, .int .i64 s.z]

theorem vars_equal (a b c a' b' c' : Int) (w : World) : (Op.equalIn 9999 97 (.agg #[.int .i64 a, .int .i64 b, .int .i64 c]) (.agg #[.int .i64 a', .int .i64 b', .int .i64 c'])).run Tryz.prog w = .ok (a == a' && b == b' && c == c') w := by
  have u3 := Tryz.underlying3
  have a3 := Tryz.isAgg3
  have z3 := Tryz.sizeOf3
  rw [show (9999 : Nat) = 9998 + 1 from rfl, Op.equalIn]
  simp only [Sem.run_bind, run_underlying Tryz.underlying97, Result.andThen_ok]
  simp only [Std.Legacy.Range.forIn_eq_forIn_range', Std.Legacy.Range.size, Nat.sub_zero, Nat.add_sub_cancel, Nat.div_one, List.range'_succ, List.range'_zero, List.forIn_cons, List.forIn_nil]
  go_simp
  by_cases h1 : a = a' <;> by_cases h2 : b = b' <;> by_cases h3 : c = c' <;> simp [h1, h2, h3]
set_option maxRecDepth 100000 in
theorem step_equal (a b : Stp) (w : World) : (Op.equalIn 10000 99 (stepV a) (stepV b)).run Tryz.prog w = .ok (decide (a = b)) w := by
  have u3 := Tryz.underlying3
  have a3 := Tryz.isAgg3
  have z3 := Tryz.sizeOf3
  have hS : Tryz.prog.underlying 99 = some (.struct (Tryz.prog.fieldsOf 99)) := by kernel_rfl
  have hp : Tryz.prog.stoodInHeld 99 = false := by kernel_rfl
  rw [show (10000 : Nat) = 9999 + 1 from rfl, stepV, stepV, run_equalIn_agg w 9999 99 _ _ hS hp]
  simp only [Program.fieldsOf, Tryz.underlying99]
  go_simp
  rw [vars_equal]
  obtain ⟨r, x, y, z⟩ := a
  obtain ⟨r', x', y', z'⟩ := b
  by_cases h1 : r = r' <;> by_cases h2 : x = x' <;> by_cases h3 : y = y' <;> by_cases h4 : z = z' <;> simp [h1, h2, h3, h4]
theorem step_neq (a b : Stp) (w : World) : (binOp .neq 99 (.agg #[.int .i64 a.rule, .int .i64 a.x, .int .i64 a.y, .int .i64 a.z]) (.agg #[.int .i64 b.rule, .int .i64 b.x, .int .i64 b.y, .int .i64 b.z])).run Tryz.prog w = .ok (.bool (!decide (a = b))) w := by
  have := step_equal a b w
  rw [stepV, stepV] at this
  simp [binOp, Op.equal, Op.maxDepth, this]
theorem take_sames {f g : List Stp} {j : Nat} (h1 : j < f.length) (h2 : j < g.length) : f.take (j + 1) = g.take (j + 1) ↔ f.take j = g.take j ∧ f[j] = g[j] := by
  rw [List.take_succ_eq_append_getElem h1, List.take_succ_eq_append_getElem h2]
  constructor
  · intro h
    have := List.append_inj' h rfl
    exact ⟨this.1, by simpa using this.2⟩
  · rintro ⟨h, h'⟩
    rw [h, h']

end Go.Proofs.YtlfccloaoopadagGreat.Fire

/-
  Package base: Check, and what is asked ahead of the other calls.
-/
namespace Go.Proofs.YtlfccloaoopadagGreat.Base
open Go.ChangeShapes Go.WideShapes Go.ChangeAt Go.RowKit
open Lat (within within_c)
open Rule (factFine factFine_c isPred kindOf arityOf isPred_iff)

theorem err_zero (k : Int) : Lat.err k 0 = if within k 0 3 then 0 else 4 := by
  have hm : ¬ ((0 : Int) < 0 ∨ Lat.most k < 0) := by
    unfold Lat.most
    split <;> omega
  unfold Lat.err
  by_cases h : 0 ≤ k ∧ k ≤ 3
  · rw [if_neg (by omega), if_neg hm, if_pos (by simpa [within] using h)]
  · rw [if_pos (by omega), if_neg (by simpa [within] using h)]

set_option maxHeartbeats 1000000 in
theorem notPred_c (q : Prd) (w : World) : Calls Tryz.prog 66 #[predV q] w fun e w' => e = .returned (.bool (!predOk q)) ∧ Below w.heap.size w w' := by
  obtain ⟨qn, qa, qk⟩ := q
  simp only [predV, predOk]
  cases g1 : within qk 0 3
  · have he : Lat.err qk 0 = 4 := by rw [err_zero, g1]; rfl
    go_enter Tryz.func66, Tryz.ntmps66
    go_wp2_with (go_at_call 67; refine (Lat.check_c _ _ _).mono ?_; rintro e w' ⟨rfl, rfl⟩)
    go_ret
    exact ⟨rfl, below_alloc _ _⟩
  · have he : Lat.err qk 0 = 0 := by rw [err_zero, g1]; rfl
    by_cases h1 : qa < 0
    · have e : within qa 0 2 = false := by simp [within]; omega
      rw [e]
      go_enter Tryz.func66, Tryz.ntmps66
      go_wp2_with (go_at_call 67; refine (Lat.check_c _ _ _).mono ?_; rintro e w' ⟨rfl, rfl⟩)
      go_ret
      exact ⟨rfl, below_alloc _ _⟩
    · by_cases h2 : 2 < qa
      · have e : within qa 0 2 = false := by simp [within]; omega
        rw [e]
        go_enter Tryz.func66, Tryz.ntmps66
        go_wp2_with (go_at_call 67; refine (Lat.check_c _ _ _).mono ?_; rintro e w' ⟨rfl, rfl⟩)
        go_ret
        exact ⟨rfl, below_alloc _ _⟩
      · have e : within qa 0 2 = true := by simp [within]; omega
        rw [e]
        go_enter Tryz.func66, Tryz.ntmps66
        go_wp2_with (go_at_call 67; refine (Lat.check_c _ _ _).mono ?_; rintro e w' ⟨rfl, rfl⟩)
        go_ret
        exact ⟨by simp; omega, below_alloc _ _⟩
theorem enters_notPred : ∀ args w, (callFunc 66 args).run Tryz.prog w = .ok (.enter 66 args) w := enters_of Tryz.func66 (by kernel_rfl) rfl
theorem any_notPred (ps : List Prd) : ps.any (fun q => !predOk q) = !predsOk ps := by
  rw [predsOk, List.not_all_eq_any_not]

set_option maxRecDepth 100000 in
set_option maxHeartbeats 8000000 in
theorem check_c (w : World) (pv fv : Value) (ps : List Prd) (f : List Fct) (hp : predsAt w pv ps) (hf : factsAt w fv f) :
    Calls Tryz.prog 29 #[pv, fv] w fun e w' => e = .returned (.int .i64 (factsErr ps f)) ∧ Below w.heap.size w w' := by
  have HP : Hid (∀ (w1 : World), Below w.heap.size w w1 → predsAt w1 pv ps) := fun w1 hb1 => predsAt.lasts hb1 hp
  have HF : Hid (factsAt w fv f) := hf
  obtain ⟨pa, pc, rfl, hpm, hpx⟩ := hp
  obtain ⟨fa, fc, rfl, hfm, hfx⟩ := hf
  clear hpx hfx
  by_cases h5 : 5 < ps.length
  · have e : factsErr ps f = 2 := by rw [factsErr, if_pos h5]
    rw [e]
    have h5' : (5 : Int) < (ps.length : Int) := by omega
    go_enter Tryz.func29, Tryz.ntmps29
    go_wp2_with fail
    go_ret
    exact ⟨rfl, Below.refl _ _⟩
  · have h5' : ¬ (5 : Int) < (ps.length : Int) := by omega
    have HC : Hid (∀ r, ps.any (fun q => !predOk q) = r → Calls Tryz.prog 68 #[.slice pa ps.length pc, .func (.func 66) #[] #[]] w fun e w' => e = .returned (.bool r) ∧ Below w.heap.size w w') := fun r hr => hr ▸ containsPred_c w _ ps _ #[] enters_notPred _ (HP.out w (Below.refl _ _)) (fun w1 q hb _ => notPred_c q w1)
    cases hpk : predsOk ps
    · have e : factsErr ps f = 2 := by rw [factsErr, if_neg h5, if_pos hpk]
      rw [e]
      have hr := HC.out true (by rw [any_notPred, hpk]; rfl)
      clear hpk e
      go_enter Tryz.func29, Tryz.ntmps29
      go_wp2_with (go_at_call 68; refine hr.mono ?_; rintro e w1 ⟨rfl, hb1⟩)
      go_ret
      exact ⟨rfl, hb1⟩
    · have HE : Hid (factsErr ps f = if goodTo ps f f.length then 0 else 1) := by show _ = _; rw [factsErr, if_neg h5, if_neg (by rw [hpk]; simp)]
      have hr := HC.out false (by rw [any_notPred, hpk]; rfl)
      clear hpk
      go_enter Tryz.func29, Tryz.ntmps29
      go_wp2_with (go_at_call 68; refine hr.mono ?_; rintro e w1 ⟨rfl, hb1⟩)
      go_loopw [18] (fun i wr => ∃ j : Nat, j ≤ f.length ∧ i = .int .i64 j ∧ goodTo ps f j = true ∧ Below w.heap.size w wr) (fun i _ => f.length - (intOf i).toNat)
      case atStart => exact ⟨0, Nat.zero_le _, rfl, rfl, hb1⟩
      case round =>
        obtain ⟨j, hj, rfl, hgo, hbw⟩ := hrel
        clear hr HC hb1
        by_cases hlt : j < f.length
        · have H : Hid (goodTo ps f (j + 1) = goodAt ps f j) := by show _ = _; rw [goodTo_succ, hgo, Bool.true_and]
          have H2 : Hid (goodAt ps f j = false → factsErr ps f = 1) := fun h => by rw [HE.out, if_neg (by rw [goodTo_not hlt h]; simp)]
          obtain ⟨bb, off, cap, hv, hbl, hcells⟩ := fact_cells HF.out hlt
          obtain ⟨rfl, rfl⟩ : fa = some ⟨bb, off, none⟩ ∧ fc = cap := by simpa using hv
          have s2 : bb < wr.heap.size := Nat.lt_of_lt_of_le hbl hbw.size
          obtain ⟨t0, t1, t2, t3⟩ := factAt.lasts w wr bb _ _ hbw hbl hcells
          have hjl : (j : Int) < (f.length : Int) := by omega
          have hj0 : (0 : Int) ≤ (j : Int) := by omega
          have HNJ : Hid (nth f j = f[j]) := nth_eq hlt
          clear hcells hv
          rcases Nat.eq_zero_or_pos j with rfl | hjp
          · have HGA : Hid (goodAt ps f 0 = factFine ps f[0]) := by show _ = _; rw [goodAt, HNJ.out]; simp
            simp only [Nat.zero_mul, Nat.add_zero] at t0 t1 t2 t3
            clear HNJ HF hgo
            generalize f[0] = y at *
            obtain ⟨yp, ya, yb, yv⟩ := y
            cases hff : factFine ps ⟨yp, ya, yb, yv⟩
            · have H3 : Hid (factsErr ps f = 1) := H2.out (HGA.out.trans hff)
              clear H H2 HE HGA
              go_wp2_with fail
              refine wp_called (fun w' => Below w.heap.size w w' ∧ Below wr.heap.size wr w' ∧ wr.heap.size < w'.heap.size ∧ w'.cell? ⟨wr.heap.size, 0, none⟩ = some (.int .i64 yp) ∧ w'.cell? ⟨wr.heap.size, 1, none⟩ = some (.int .i64 ya) ∧ w'.cell? ⟨wr.heap.size, 2, none⟩ = some (.int .i64 yb) ∧ w'.cell? ⟨wr.heap.size, 3, none⟩ = some (.int .i64 yv)) ⟨hbw.trans ((below_alloc _ _).mono hbw.size), below_alloc _ _, by simp, by simp [go_sem], by simp [go_sem], by simp [go_sem], by simp [go_sem]⟩ ?_
              rintro W0 ⟨hb0, hbr, sx, x0, x1, x2, x3⟩
              have s3 : bb < W0.heap.size := Nat.lt_of_lt_of_le s2 hbr.size
              have Lx0 : ∀ x : Low W0.heap.size W0, x.wd.cell? ⟨wr.heap.size, 0, none⟩ = some (.int .i64 yp) := fun x => (cell_lasts x.low sx).trans x0
              have Lx1 : ∀ x : Low W0.heap.size W0, x.wd.cell? ⟨wr.heap.size, 1, none⟩ = some (.int .i64 ya) := fun x => (cell_lasts x.low sx).trans x1
              have Lx2 : ∀ x : Low W0.heap.size W0, x.wd.cell? ⟨wr.heap.size, 2, none⟩ = some (.int .i64 yb) := fun x => (cell_lasts x.low sx).trans x2
              have Lx3 : ∀ x : Low W0.heap.size W0, x.wd.cell? ⟨wr.heap.size, 3, none⟩ = some (.int .i64 yv) := fun x => (cell_lasts x.low sx).trans x3
              refine wp_region_low W0.heap.size (by kernel_rfl) (by kernel_rfl) ?_
              repeat (go_big_quiet_step ((first | (go_at_call 69; exact low_of (isRight_c _ _ ps _ _ _ _ (HP.out _ (hb0.trans ((Low.low _).mono hb0.size))))) | (go_at_call 32; exact low_of (order_c _ _ _ _ _ _ _ _ _)))))
              refine wpQuiet_nil ?_
              rintro _ ⟨⟨w2, hk⟩, rfl⟩
              clear Lx0 Lx1 Lx2 Lx3
              go_wp2_with fail
              go_ret
              exact ⟨ret_int H3.out.symm, hb0.trans (hk.mono hb0.size)⟩
            · have H3 : Hid (goodTo ps f (0 + 1) = true) := H.out.trans (HGA.out.trans hff)
              clear H H2 HE HGA
              go_wp2_with fail
              refine wp_called (fun w' => Below w.heap.size w w' ∧ Below wr.heap.size wr w' ∧ wr.heap.size < w'.heap.size ∧ w'.cell? ⟨wr.heap.size, 0, none⟩ = some (.int .i64 yp) ∧ w'.cell? ⟨wr.heap.size, 1, none⟩ = some (.int .i64 ya) ∧ w'.cell? ⟨wr.heap.size, 2, none⟩ = some (.int .i64 yb) ∧ w'.cell? ⟨wr.heap.size, 3, none⟩ = some (.int .i64 yv)) ⟨hbw.trans ((below_alloc _ _).mono hbw.size), below_alloc _ _, by simp, by simp [go_sem], by simp [go_sem], by simp [go_sem], by simp [go_sem]⟩ ?_
              rintro W0 ⟨hb0, hbr, sx, x0, x1, x2, x3⟩
              have s3 : bb < W0.heap.size := Nat.lt_of_lt_of_le s2 hbr.size
              have Lx0 : ∀ x : Low W0.heap.size W0, x.wd.cell? ⟨wr.heap.size, 0, none⟩ = some (.int .i64 yp) := fun x => (cell_lasts x.low sx).trans x0
              have Lx1 : ∀ x : Low W0.heap.size W0, x.wd.cell? ⟨wr.heap.size, 1, none⟩ = some (.int .i64 ya) := fun x => (cell_lasts x.low sx).trans x1
              have Lx2 : ∀ x : Low W0.heap.size W0, x.wd.cell? ⟨wr.heap.size, 2, none⟩ = some (.int .i64 yb) := fun x => (cell_lasts x.low sx).trans x2
              have Lx3 : ∀ x : Low W0.heap.size W0, x.wd.cell? ⟨wr.heap.size, 3, none⟩ = some (.int .i64 yv) := fun x => (cell_lasts x.low sx).trans x3
              refine wp_region_low W0.heap.size (by kernel_rfl) (by kernel_rfl) ?_
              repeat (go_big_quiet_step ((first | (go_at_call 69; exact low_of (isRight_c _ _ ps _ _ _ _ (HP.out _ (hb0.trans ((Low.low _).mono hb0.size))))) | (go_at_call 32; exact low_of (order_c _ _ _ _ _ _ _ _ _)))))
              refine wpQuiet_nil ?_
              rintro _ ⟨⟨w2, hk⟩, rfl⟩
              clear Lx0 Lx1 Lx2 Lx3
              go_wp2_with fail
              go_roundw
              case rel => exact ⟨0 + 1, by omega, by go_num, H3.out, hb0.trans (hk.mono hb0.size)⟩
              case measure => simp [intOf]; omega
          · obtain ⟨i, rfl⟩ : ∃ i, j = i + 1 := ⟨j - 1, by omega⟩
            have hil : i < f.length := by omega
            obtain ⟨bb', off', cap', hv', hbl', hcells'⟩ := fact_cells HF.out hil
            obtain ⟨⟨rfl, rfl⟩, hcc⟩ : (bb = bb' ∧ off = off') ∧ _ := by simpa using hv'
            clear hcc
            obtain ⟨u0, u1, u2, u3⟩ := factAt.lasts w wr bb _ _ hbw hbl hcells'
            have HGA : Hid (goodAt ps f (i + 1) = (factFine ps f[i + 1] && decide (place f[i] < place f[i + 1]))) := by show _ = _; rw [goodAt, HNJ.out, Nat.add_sub_cancel, nth_eq hil]; simp
            have HFI : Hid (factFine ps f[i] = true) := by
              have := List.all_eq_true.1 hgo i (List.mem_range.2 (by omega))
              simp only [goodAt, nth_eq hil, Bool.and_eq_true] at this
              exact this.1
            have HSI : Hid (Small f[i]) := fine_small (by omega) HFI.out
            have HSJ : Hid (factFine ps f[i + 1] = true → Small f[i + 1]) := fine_small (by omega)
            have hil' : (i : Int) < (f.length : Int) := by omega
            clear HNJ HF hgo hcells' hv' HFI
            generalize f[i + 1] = y at *
            generalize f[i] = z at *
            obtain ⟨yp, ya, yb, yv⟩ := y
            obtain ⟨zp, za, zb, zv⟩ := z
            cases hff : factFine ps ⟨yp, ya, yb, yv⟩
            · have H3 : Hid (factsErr ps f = 1) := H2.out (HGA.out.trans (by rw [hff]; rfl))
              clear H H2 HE HGA HSJ HSI
              go_wp2_with fail
              refine wp_called (fun w' => Below w.heap.size w w' ∧ Below wr.heap.size wr w' ∧ wr.heap.size < w'.heap.size ∧ w'.cell? ⟨wr.heap.size, 0, none⟩ = some (.int .i64 yp) ∧ w'.cell? ⟨wr.heap.size, 1, none⟩ = some (.int .i64 ya) ∧ w'.cell? ⟨wr.heap.size, 2, none⟩ = some (.int .i64 yb) ∧ w'.cell? ⟨wr.heap.size, 3, none⟩ = some (.int .i64 yv) ∧ w'.cell? ⟨bb, off + i * 4, none⟩ = some (.int .i64 zp) ∧ w'.cell? ⟨bb, off + i * 4 + 1, none⟩ = some (.int .i64 za) ∧ w'.cell? ⟨bb, off + i * 4 + 2, none⟩ = some (.int .i64 zb) ∧ w'.cell? ⟨bb, off + i * 4 + 3, none⟩ = some (.int .i64 zv)) ⟨hbw.trans ((below_alloc _ _).mono hbw.size), below_alloc _ _, by simp, by simp [go_sem], by simp [go_sem], by simp [go_sem], by simp [go_sem], by rw [cell_lasts (below_alloc _ _) s2]; exact u0, by rw [cell_lasts (below_alloc _ _) s2]; exact u1, by rw [cell_lasts (below_alloc _ _) s2]; exact u2, by rw [cell_lasts (below_alloc _ _) s2]; exact u3⟩ ?_
              rintro W0 ⟨hb0, hbr, sx, x0, x1, x2, x3, z0, z1, z2, z3⟩
              have s3 : bb < W0.heap.size := Nat.lt_of_lt_of_le s2 hbr.size
              have Lx0 : ∀ x : Low W0.heap.size W0, x.wd.cell? ⟨wr.heap.size, 0, none⟩ = some (.int .i64 yp) := fun x => (cell_lasts x.low sx).trans x0
              have Lx1 : ∀ x : Low W0.heap.size W0, x.wd.cell? ⟨wr.heap.size, 1, none⟩ = some (.int .i64 ya) := fun x => (cell_lasts x.low sx).trans x1
              have Lx2 : ∀ x : Low W0.heap.size W0, x.wd.cell? ⟨wr.heap.size, 2, none⟩ = some (.int .i64 yb) := fun x => (cell_lasts x.low sx).trans x2
              have Lx3 : ∀ x : Low W0.heap.size W0, x.wd.cell? ⟨wr.heap.size, 3, none⟩ = some (.int .i64 yv) := fun x => (cell_lasts x.low sx).trans x3
              have Lz0 : ∀ x : Low W0.heap.size W0, x.wd.cell? ⟨bb, off + i * 4, none⟩ = some (.int .i64 zp) := fun x => (cell_lasts x.low s3).trans z0
              have Lz1 : ∀ x : Low W0.heap.size W0, x.wd.cell? ⟨bb, off + i * 4 + 1, none⟩ = some (.int .i64 za) := fun x => (cell_lasts x.low s3).trans z1
              have Lz2 : ∀ x : Low W0.heap.size W0, x.wd.cell? ⟨bb, off + i * 4 + 2, none⟩ = some (.int .i64 zb) := fun x => (cell_lasts x.low s3).trans z2
              have Lz3 : ∀ x : Low W0.heap.size W0, x.wd.cell? ⟨bb, off + i * 4 + 3, none⟩ = some (.int .i64 zv) := fun x => (cell_lasts x.low s3).trans z3
              refine wp_region_low W0.heap.size (by kernel_rfl) (by kernel_rfl) ?_
              repeat (go_big_quiet_step ((first | (go_at_call 69; exact low_of (isRight_c _ _ ps _ _ _ _ (HP.out _ (hb0.trans ((Low.low _).mono hb0.size))))) | (go_at_call 32; exact low_of (order_c _ _ _ _ _ _ _ _ _)))))
              refine wpQuiet_nil ?_
              rintro _ ⟨⟨w2, hk⟩, rfl⟩
              clear Lx0 Lx1 Lx2 Lx3 Lz0 Lz1 Lz2 Lz3
              go_wp2_with fail
              go_ret
              exact ⟨ret_int H3.out.symm, hb0.trans (hk.mono hb0.size)⟩
            · have HSJ := hideS (HSJ.out hff)
              by_cases hpl : place ⟨zp, za, zb, zv⟩ < place ⟨yp, ya, yb, yv⟩
              · have H3 : Hid (goodTo ps f (i + 1 + 1) = true) := H.out.trans (HGA.out.trans (by rw [hff]; simpa using hpl))
                have hpl' : decide (0 ≤ cmpF ⟨zp, za, zb, zv⟩ ⟨yp, ya, yb, yv⟩) = false := by have := ((cmpF_spec HSI.out HSJ.out).1).2 hpl; simpa using this
                clear H H2 HE HGA hpl HSI HSJ
                go_wp2_with fail
                refine wp_called (fun w' => Below w.heap.size w w' ∧ Below wr.heap.size wr w' ∧ wr.heap.size < w'.heap.size ∧ w'.cell? ⟨wr.heap.size, 0, none⟩ = some (.int .i64 yp) ∧ w'.cell? ⟨wr.heap.size, 1, none⟩ = some (.int .i64 ya) ∧ w'.cell? ⟨wr.heap.size, 2, none⟩ = some (.int .i64 yb) ∧ w'.cell? ⟨wr.heap.size, 3, none⟩ = some (.int .i64 yv) ∧ w'.cell? ⟨bb, off + i * 4, none⟩ = some (.int .i64 zp) ∧ w'.cell? ⟨bb, off + i * 4 + 1, none⟩ = some (.int .i64 za) ∧ w'.cell? ⟨bb, off + i * 4 + 2, none⟩ = some (.int .i64 zb) ∧ w'.cell? ⟨bb, off + i * 4 + 3, none⟩ = some (.int .i64 zv)) ⟨hbw.trans ((below_alloc _ _).mono hbw.size), below_alloc _ _, by simp, by simp [go_sem], by simp [go_sem], by simp [go_sem], by simp [go_sem], by rw [cell_lasts (below_alloc _ _) s2]; exact u0, by rw [cell_lasts (below_alloc _ _) s2]; exact u1, by rw [cell_lasts (below_alloc _ _) s2]; exact u2, by rw [cell_lasts (below_alloc _ _) s2]; exact u3⟩ ?_
                rintro W0 ⟨hb0, hbr, sx, x0, x1, x2, x3, z0, z1, z2, z3⟩
                have s3 : bb < W0.heap.size := Nat.lt_of_lt_of_le s2 hbr.size
                have Lx0 : ∀ x : Low W0.heap.size W0, x.wd.cell? ⟨wr.heap.size, 0, none⟩ = some (.int .i64 yp) := fun x => (cell_lasts x.low sx).trans x0
                have Lx1 : ∀ x : Low W0.heap.size W0, x.wd.cell? ⟨wr.heap.size, 1, none⟩ = some (.int .i64 ya) := fun x => (cell_lasts x.low sx).trans x1
                have Lx2 : ∀ x : Low W0.heap.size W0, x.wd.cell? ⟨wr.heap.size, 2, none⟩ = some (.int .i64 yb) := fun x => (cell_lasts x.low sx).trans x2
                have Lx3 : ∀ x : Low W0.heap.size W0, x.wd.cell? ⟨wr.heap.size, 3, none⟩ = some (.int .i64 yv) := fun x => (cell_lasts x.low sx).trans x3
                have Lz0 : ∀ x : Low W0.heap.size W0, x.wd.cell? ⟨bb, off + i * 4, none⟩ = some (.int .i64 zp) := fun x => (cell_lasts x.low s3).trans z0
                have Lz1 : ∀ x : Low W0.heap.size W0, x.wd.cell? ⟨bb, off + i * 4 + 1, none⟩ = some (.int .i64 za) := fun x => (cell_lasts x.low s3).trans z1
                have Lz2 : ∀ x : Low W0.heap.size W0, x.wd.cell? ⟨bb, off + i * 4 + 2, none⟩ = some (.int .i64 zb) := fun x => (cell_lasts x.low s3).trans z2
                have Lz3 : ∀ x : Low W0.heap.size W0, x.wd.cell? ⟨bb, off + i * 4 + 3, none⟩ = some (.int .i64 zv) := fun x => (cell_lasts x.low s3).trans z3
                refine wp_region_low W0.heap.size (by kernel_rfl) (by kernel_rfl) ?_
                repeat (go_big_quiet_step ((first | (go_at_call 69; exact low_of (isRight_c _ _ ps _ _ _ _ (HP.out _ (hb0.trans ((Low.low _).mono hb0.size))))) | (go_at_call 32; exact low_of (order_c _ _ _ _ _ _ _ _ _)))))
                refine wpQuiet_nil ?_
                rintro _ ⟨⟨w2, hk⟩, rfl⟩
                clear Lx0 Lx1 Lx2 Lx3 Lz0 Lz1 Lz2 Lz3
                go_wp2_with fail
                go_roundw
                case rel => exact ⟨i + 1 + 1, by omega, by go_num, H3.out, hb0.trans (hk.mono hb0.size)⟩
                case measure => simp [intOf]; omega
              · have H3 : Hid (factsErr ps f = 1) := H2.out (HGA.out.trans (by rw [hff]; simpa using hpl))
                have hpl' : decide (0 ≤ cmpF ⟨zp, za, zb, zv⟩ ⟨yp, ya, yb, yv⟩) = true := by
                  have := (cmpF_spec HSI.out HSJ.out).1
                  simp only [decide_eq_true_eq]
                  omega
                clear H H2 HE HGA hpl HSI HSJ
                go_wp2_with fail
                refine wp_called (fun w' => Below w.heap.size w w' ∧ Below wr.heap.size wr w' ∧ wr.heap.size < w'.heap.size ∧ w'.cell? ⟨wr.heap.size, 0, none⟩ = some (.int .i64 yp) ∧ w'.cell? ⟨wr.heap.size, 1, none⟩ = some (.int .i64 ya) ∧ w'.cell? ⟨wr.heap.size, 2, none⟩ = some (.int .i64 yb) ∧ w'.cell? ⟨wr.heap.size, 3, none⟩ = some (.int .i64 yv) ∧ w'.cell? ⟨bb, off + i * 4, none⟩ = some (.int .i64 zp) ∧ w'.cell? ⟨bb, off + i * 4 + 1, none⟩ = some (.int .i64 za) ∧ w'.cell? ⟨bb, off + i * 4 + 2, none⟩ = some (.int .i64 zb) ∧ w'.cell? ⟨bb, off + i * 4 + 3, none⟩ = some (.int .i64 zv)) ⟨hbw.trans ((below_alloc _ _).mono hbw.size), below_alloc _ _, by simp, by simp [go_sem], by simp [go_sem], by simp [go_sem], by simp [go_sem], by rw [cell_lasts (below_alloc _ _) s2]; exact u0, by rw [cell_lasts (below_alloc _ _) s2]; exact u1, by rw [cell_lasts (below_alloc _ _) s2]; exact u2, by rw [cell_lasts (below_alloc _ _) s2]; exact u3⟩ ?_
                rintro W0 ⟨hb0, hbr, sx, x0, x1, x2, x3, z0, z1, z2, z3⟩
                have s3 : bb < W0.heap.size := Nat.lt_of_lt_of_le s2 hbr.size
                have Lx0 : ∀ x : Low W0.heap.size W0, x.wd.cell? ⟨wr.heap.size, 0, none⟩ = some (.int .i64 yp) := fun x => (cell_lasts x.low sx).trans x0
                have Lx1 : ∀ x : Low W0.heap.size W0, x.wd.cell? ⟨wr.heap.size, 1, none⟩ = some (.int .i64 ya) := fun x => (cell_lasts x.low sx).trans x1
                have Lx2 : ∀ x : Low W0.heap.size W0, x.wd.cell? ⟨wr.heap.size, 2, none⟩ = some (.int .i64 yb) := fun x => (cell_lasts x.low sx).trans x2
                have Lx3 : ∀ x : Low W0.heap.size W0, x.wd.cell? ⟨wr.heap.size, 3, none⟩ = some (.int .i64 yv) := fun x => (cell_lasts x.low sx).trans x3
                have Lz0 : ∀ x : Low W0.heap.size W0, x.wd.cell? ⟨bb, off + i * 4, none⟩ = some (.int .i64 zp) := fun x => (cell_lasts x.low s3).trans z0
                have Lz1 : ∀ x : Low W0.heap.size W0, x.wd.cell? ⟨bb, off + i * 4 + 1, none⟩ = some (.int .i64 za) := fun x => (cell_lasts x.low s3).trans z1
                have Lz2 : ∀ x : Low W0.heap.size W0, x.wd.cell? ⟨bb, off + i * 4 + 2, none⟩ = some (.int .i64 zb) := fun x => (cell_lasts x.low s3).trans z2
                have Lz3 : ∀ x : Low W0.heap.size W0, x.wd.cell? ⟨bb, off + i * 4 + 3, none⟩ = some (.int .i64 zv) := fun x => (cell_lasts x.low s3).trans z3
                refine wp_region_low W0.heap.size (by kernel_rfl) (by kernel_rfl) ?_
                repeat (go_big_quiet_step ((first | (go_at_call 69; exact low_of (isRight_c _ _ ps _ _ _ _ (HP.out _ (hb0.trans ((Low.low _).mono hb0.size))))) | (go_at_call 32; exact low_of (order_c _ _ _ _ _ _ _ _ _)))))
                refine wpQuiet_nil ?_
                rintro _ ⟨⟨w2, hk⟩, rfl⟩
                clear Lx0 Lx1 Lx2 Lx3 Lz0 Lz1 Lz2 Lz3
                go_wp2_with fail
                go_ret
                exact ⟨ret_int H3.out.symm, hb0.trans (hk.mono hb0.size)⟩
        · have HG : Hid (factsErr ps f = 0) := by show _ = _; rw [HE.out, if_pos (by obtain rfl : j = f.length := (by omega); exact hgo)]
          clear hgo HE HF
          go_wp2_with fail
          go_ret
          exact ⟨ret_int HG.out.symm, hbw⟩

/-- what is told ahead of Find and Add -/
def withErr (ps : List Prd) (f : List Fct) (x : Fct) : Int := if factsErr ps f ≠ 0 then factsErr ps f else if factFine ps x then 0 else 1

set_option maxRecDepth 100000 in
set_option maxHeartbeats 4000000 in
theorem checkWith_c (w : World) (pv fv : Value) (ps : List Prd) (f : List Fct) (p a b v : Int) (hp : predsAt w pv ps) (hf : factsAt w fv f) :
    Calls Tryz.prog 46 #[pv, fv, .agg #[.int .i64 p, .int .i64 a, .int .i64 b, .int .i64 v]] w fun e w' => e = .returned (.int .i64 (withErr ps f ⟨p, a, b, v⟩)) ∧ Below w.heap.size w w' := by
  have HP : Hid (∀ (w1 : World), Below w.heap.size w w1 → predsAt w1 pv ps) := fun w1 hb1 => predsAt.lasts hb1 hp
  have HF : Hid (∀ (w1 : World), Below w.heap.size w w1 → factsAt w1 fv f) := fun w1 hb1 => factsAt.lasts hb1 hf
  clear hp hf
  by_cases h0 : factsErr ps f = 0
  · cases hff : factFine ps ⟨p, a, b, v⟩
    · have e : withErr ps f ⟨p, a, b, v⟩ = 1 := by simp [withErr, h0, hff]
      rw [e]
      clear e
      go_enter Tryz.func46, Tryz.ntmps46
      go_wp2_with (first
        | (go_at_call 29; refine (check_c _ _ _ ps f (HP.out _ (below_alloc _ _)) (HF.out _ (below_alloc _ _))).mono ?_; rintro e w1 ⟨rfl, hb1⟩; obtain ⟨c0, c1, c2, c3⟩ := four_last hb1; have HB : Hid (Below w.heap.size w w1) := (below_alloc _ _).trans (hb1.mono (by simp)); clear hb1)
        | (go_at_call 69; refine (isRight_c _ _ ps _ _ _ _ (HP.out _ HB.out)).mono ?_; rintro e w2 ⟨rfl, hb2⟩))
      go_ret
      exact ⟨rfl, HB.out.trans (hb2.mono HB.out.size)⟩
    · have e : withErr ps f ⟨p, a, b, v⟩ = 0 := by simp [withErr, h0, hff]
      rw [e]
      clear e
      go_enter Tryz.func46, Tryz.ntmps46
      go_wp2_with (first
        | (go_at_call 29; refine (check_c _ _ _ ps f (HP.out _ (below_alloc _ _)) (HF.out _ (below_alloc _ _))).mono ?_; rintro e w1 ⟨rfl, hb1⟩; obtain ⟨c0, c1, c2, c3⟩ := four_last hb1; have HB : Hid (Below w.heap.size w w1) := (below_alloc _ _).trans (hb1.mono (by simp)); clear hb1)
        | (go_at_call 69; refine (isRight_c _ _ ps _ _ _ _ (HP.out _ HB.out)).mono ?_; rintro e w2 ⟨rfl, hb2⟩))
      go_ret
      exact ⟨rfl, HB.out.trans (hb2.mono HB.out.size)⟩
  · have e : withErr ps f ⟨p, a, b, v⟩ = factsErr ps f := by simp [withErr, h0]
    rw [e]
    clear e
    have h0' : (factsErr ps f == 0) = false := by simpa using h0
    go_enter Tryz.func46, Tryz.ntmps46
    go_wp2_with (go_at_call 29; refine (check_c _ _ _ ps f (HP.out _ (below_alloc _ _)) (HF.out _ (below_alloc _ _))).mono ?_; rintro e w1 ⟨rfl, hb1⟩; have HB : Hid (Below w.heap.size w w1) := (below_alloc _ _).trans (hb1.mono (by simp)); clear hb1)
    go_ret
    exact ⟨rfl, HB.out⟩
end Go.Proofs.YtlfccloaoopadagGreat.Base

/-
  The library's slices.BinarySearchFunc over facts in their order.
-/
namespace Go.Proofs.YtlfccloaoopadagGreat.Base
open Go.ChangeShapes Go.WideShapes Go.ChangeAt Go.RowKit
open Lat (within within_c)
open Rule (factFine factFine_c isPred kindOf arityOf isPred_iff)

/-- how many facts stand ahead of a place -/
def pos (f : List Fct) (pl : Int) : Nat := f.countP fun y => decide (place y < pl)
theorem pos_le (f : List Fct) (pl : Int) : pos f pl ≤ f.length := List.countP_le_length
theorem pos_cons (y : Fct) (f : List Fct) (pl : Int) : pos (y :: f) pl = if place y < pl then pos f pl + 1 else pos f pl := by
  unfold pos
  rw [List.countP_cons]
  by_cases h : place y < pl <;> simp [h]
theorem pos_zero {f : List Fct} {pl : Int} (h : ∀ y ∈ f, pl ≤ place y) : pos f pl = 0 := by
  unfold pos
  rw [List.countP_eq_zero]
  intro y hy
  have := h y hy
  simp
  omega
theorem pos_iff {f : List Fct} {pl : Int} (hs : Sorted f) : ∀ {k : Nat} (hk : k < f.length), place f[k] < pl ↔ k < pos f pl := by
  induction f with
  | nil => intro k hk; simp at hk
  | cons y f ih =>
    intro k hk
    obtain ⟨h1, h2⟩ := List.pairwise_cons.1 hs
    rw [pos_cons]
    cases k with
    | zero =>
      by_cases h : place y < pl
      · simp [h]
      · rw [if_neg h, pos_zero (fun z hz => by have := h1 z hz; omega)]
        simpa using h
    | succ k =>
      have hk' : k < f.length := by simpa using hk
      rw [List.getElem_cons_succ, ih h2 hk']
      by_cases h : place y < pl
      · rw [if_pos h]; omega
      · rw [if_neg h, pos_zero (fun z hz => by have := h1 z hz; omega)]
        omega
theorem get_pos {f : List Fct} {pl : Int} (hs : Sorted f) : get f pl = if h : pos f pl < f.length then (if place f[pos f pl] = pl then some f[pos f pl].val else none) else none := by
  induction f with
  | nil => rfl
  | cons y f ih =>
    obtain ⟨h1, h2⟩ := List.pairwise_cons.1 hs
    rw [get_cons]
    by_cases h : place y < pl
    · have e : pos (y :: f) pl = pos f pl + 1 := by rw [pos_cons, if_pos h]
      rw [if_neg (by omega), ih h2]
      simp only [e, List.length_cons, Nat.add_lt_add_iff_right, List.getElem_cons_succ]
    · have e : pos (y :: f) pl = 0 := by
        rw [pos_cons, if_neg h]
        exact pos_zero (fun z hz => by have := h1 z hz; omega)
      simp only [e, List.length_cons, Nat.zero_lt_succ, List.getElem_cons_zero, dif_pos]
      by_cases g : place y = pl
      · rw [if_pos g, if_pos g]
      · rw [if_neg g, if_neg g]
        exact get_lt (fun z hz => by have := h1 z hz; omega)
theorem get_some_pos {f : List Fct} {pl v : Int} (hs : Sorted f) (h : get f pl = some v) : ∃ hp : pos f pl < f.length, place f[pos f pl] = pl ∧ f[pos f pl].val = v := by
  rw [get_pos hs] at h
  split at h
  · rename_i hp
    split at h
    · rename_i he
      exact ⟨hp, he, Option.some.inj h⟩
    · cases h
  · cases h
theorem get_none_pos {f : List Fct} {pl : Int} (hs : Sorted f) (h : get f pl = none) (hp : pos f pl < f.length) : place f[pos f pl] ≠ pl := by
  rw [get_pos hs, dif_pos hp] at h
  split at h
  · cases h
  · assumption

set_option maxRecDepth 100000 in
set_option maxHeartbeats 8000000 in
theorem search_c (w : World) (fv : Value) (f : List Fct) (p a b v : Int) (hf : factsAt w fv f) (hs : ∀ y ∈ f, Small y) (hx : Small ⟨p, a, b, v⟩) (hso : Sorted f) :
    Calls Tryz.prog 31 #[fv, .agg #[.int .i64 p, .int .i64 a, .int .i64 b, .int .i64 v], .func (.func 32) #[] #[]] w
      fun e w' => e = .returned (.tuple #[.int .i64 (pos f (place ⟨p, a, b, v⟩)), .bool (get f (place ⟨p, a, b, v⟩)).isSome]) ∧ Below w.heap.size w w' := by
  have HF : Hid (factsAt w fv f) := hf
  have HS : Hid (∀ y ∈ f, Small y) := hs
  have HX : Hid (Small ⟨p, a, b, v⟩) := hx
  have HSO : Hid (Sorted f) := hso
  obtain ⟨fa, fc, rfl, hfm, hfx⟩ := hf
  have hpl : pos f (place ⟨p, a, b, v⟩) ≤ f.length := pos_le _ _
  clear hfx hs hx hso
  go_enter Tryz.func31, Tryz.ntmps31
  go_wp2_with fail
  go_loopw [9, 10] (fun i j wr => ∃ lo hi : Nat, i = .int .i64 lo ∧ j = .int .i64 hi ∧ lo ≤ pos f (place ⟨p, a, b, v⟩) ∧ pos f (place ⟨p, a, b, v⟩) ≤ hi ∧ hi ≤ f.length ∧ Below (w.heap.size + 1) (w.alloc (.cells #[.int .i64 p, .int .i64 a, .int .i64 b, .int .i64 v] 44)) wr) (fun i j _ => (intOf j).toNat - (intOf i).toNat)
  case atStart => exact ⟨0, f.length, rfl, rfl, Nat.zero_le _, hpl, Nat.le_refl _, by have := Below.refl (w.alloc (.cells #[.int .i64 p, .int .i64 a, .int .i64 b, .int .i64 v] 44)).heap.size (w.alloc (.cells #[.int .i64 p, .int .i64 a, .int .i64 b, .int .i64 v] 44)); simpa using this⟩
  case round =>
    obtain ⟨lo, hi, rfl, rfl, h1, h2, h3, hbr⟩ := hrel
    have hbw : Below w.heap.size w wr := (below_alloc _ _).trans (hbr.mono (by simp))
    have c0 : wr.cell? ⟨w.heap.size, 0, none⟩ = some (.int .i64 p) := by rw [hbr.cell (by simp)]; simp [go_sem]
    have c1 : wr.cell? ⟨w.heap.size, 1, none⟩ = some (.int .i64 a) := by rw [hbr.cell (by simp)]; simp [go_sem]
    have c2 : wr.cell? ⟨w.heap.size, 2, none⟩ = some (.int .i64 b) := by rw [hbr.cell (by simp)]; simp [go_sem]
    have c3 : wr.cell? ⟨w.heap.size, 3, none⟩ = some (.int .i64 v) := by rw [hbr.cell (by simp)]; simp [go_sem]
    have s1 : w.heap.size < wr.heap.size := by have := hbr.size; simp at this; omega
    by_cases hlt : lo < hi
    · obtain ⟨mid, hmid, m1, m2⟩ : ∃ mid : Nat, ((lo : Int) + (hi : Int)) / 2 = (mid : Int) ∧ lo ≤ mid ∧ mid < hi := ⟨(lo + hi) / 2, by omega, by omega, by omega⟩
      have hml : mid < f.length := by omega
      obtain ⟨bb, off, cap, hv, hbl, hcells⟩ := fact_cells HF.out hml
      obtain ⟨rfl, rfl⟩ : fa = some ⟨bb, off, none⟩ ∧ fc = cap := by simpa using hv
      have s2 : bb < wr.heap.size := Nat.lt_of_lt_of_le hbl hbw.size
      obtain ⟨t0, t1, t2, t3⟩ := factAt.lasts w wr bb _ _ hbw hbl hcells
      have HSY : Hid (Small f[mid]) := HS.out _ (List.getElem_mem hml)
      have HI : Hid (place f[mid] < place ⟨p, a, b, v⟩ ↔ mid < pos f (place ⟨p, a, b, v⟩)) := pos_iff HSO.out hml
      have hjl : (mid : Int) < (f.length : Int) := by omega
      have hj0 : (0 : Int) ≤ (mid : Int) := by omega
      clear hcells hv HS HSO HF
      generalize f[mid] = y at *
      obtain ⟨yp, ya, yb, yv⟩ := y
      by_cases hc : place ⟨yp, ya, yb, yv⟩ < place ⟨p, a, b, v⟩
      · have hc' : decide (cmpF ⟨yp, ya, yb, yv⟩ ⟨p, a, b, v⟩ < 0) = true := by simpa using ((cmpF_spec HSY.out HX.out).1).2 hc
        have hmp : mid + 1 ≤ pos f (place ⟨p, a, b, v⟩) := HI.out.1 hc
        clear hc HSY HI
        go_wp2_with fail
        have Lc0 : ∀ x : Low wr.heap.size wr, x.wd.cell? ⟨w.heap.size, 0, none⟩ = some (.int .i64 p) := fun x => (cell_lasts x.low s1).trans c0
        have Lc1 : ∀ x : Low wr.heap.size wr, x.wd.cell? ⟨w.heap.size, 1, none⟩ = some (.int .i64 a) := fun x => (cell_lasts x.low s1).trans c1
        have Lc2 : ∀ x : Low wr.heap.size wr, x.wd.cell? ⟨w.heap.size, 2, none⟩ = some (.int .i64 b) := fun x => (cell_lasts x.low s1).trans c2
        have Lc3 : ∀ x : Low wr.heap.size wr, x.wd.cell? ⟨w.heap.size, 3, none⟩ = some (.int .i64 v) := fun x => (cell_lasts x.low s1).trans c3
        have Lt0 : ∀ x : Low wr.heap.size wr, x.wd.cell? ⟨bb, off + mid * 4, none⟩ = some (.int .i64 yp) := fun x => (cell_lasts x.low s2).trans t0
        have Lt1 : ∀ x : Low wr.heap.size wr, x.wd.cell? ⟨bb, off + mid * 4 + 1, none⟩ = some (.int .i64 ya) := fun x => (cell_lasts x.low s2).trans t1
        have Lt2 : ∀ x : Low wr.heap.size wr, x.wd.cell? ⟨bb, off + mid * 4 + 2, none⟩ = some (.int .i64 yb) := fun x => (cell_lasts x.low s2).trans t2
        have Lt3 : ∀ x : Low wr.heap.size wr, x.wd.cell? ⟨bb, off + mid * 4 + 3, none⟩ = some (.int .i64 yv) := fun x => (cell_lasts x.low s2).trans t3
        refine wp_region_low wr.heap.size (by kernel_rfl) (by kernel_rfl) ?_
        repeat (go_big_quiet_step (((go_at_call 32; exact low_of (order_c _ _ _ _ _ _ _ _ _)))))
        refine wpQuiet_nil ?_
        rintro _ ⟨⟨w2, hk⟩, rfl⟩
        clear Lc0 Lc1 Lc2 Lc3 Lt0 Lt1 Lt2 Lt3
        go_wp2_with fail
        go_roundw
        case rel => exact ⟨mid + 1, hi, by go_num, rfl, hmp, h2, h3, hbr.trans (hk.mono (by have := hbr.size; simp at this; omega))⟩
        case measure => simp [intOf]; omega
      · have hc' : decide (cmpF ⟨yp, ya, yb, yv⟩ ⟨p, a, b, v⟩ < 0) = false := by
          have := (cmpF_spec HSY.out HX.out).1
          simp only [decide_eq_false_iff_not]
          omega
        have hmp : pos f (place ⟨p, a, b, v⟩) ≤ mid := by
          have := HI.out
          omega
        clear hc HSY HI
        go_wp2_with fail
        have Lc0 : ∀ x : Low wr.heap.size wr, x.wd.cell? ⟨w.heap.size, 0, none⟩ = some (.int .i64 p) := fun x => (cell_lasts x.low s1).trans c0
        have Lc1 : ∀ x : Low wr.heap.size wr, x.wd.cell? ⟨w.heap.size, 1, none⟩ = some (.int .i64 a) := fun x => (cell_lasts x.low s1).trans c1
        have Lc2 : ∀ x : Low wr.heap.size wr, x.wd.cell? ⟨w.heap.size, 2, none⟩ = some (.int .i64 b) := fun x => (cell_lasts x.low s1).trans c2
        have Lc3 : ∀ x : Low wr.heap.size wr, x.wd.cell? ⟨w.heap.size, 3, none⟩ = some (.int .i64 v) := fun x => (cell_lasts x.low s1).trans c3
        have Lt0 : ∀ x : Low wr.heap.size wr, x.wd.cell? ⟨bb, off + mid * 4, none⟩ = some (.int .i64 yp) := fun x => (cell_lasts x.low s2).trans t0
        have Lt1 : ∀ x : Low wr.heap.size wr, x.wd.cell? ⟨bb, off + mid * 4 + 1, none⟩ = some (.int .i64 ya) := fun x => (cell_lasts x.low s2).trans t1
        have Lt2 : ∀ x : Low wr.heap.size wr, x.wd.cell? ⟨bb, off + mid * 4 + 2, none⟩ = some (.int .i64 yb) := fun x => (cell_lasts x.low s2).trans t2
        have Lt3 : ∀ x : Low wr.heap.size wr, x.wd.cell? ⟨bb, off + mid * 4 + 3, none⟩ = some (.int .i64 yv) := fun x => (cell_lasts x.low s2).trans t3
        refine wp_region_low wr.heap.size (by kernel_rfl) (by kernel_rfl) ?_
        repeat (go_big_quiet_step (((go_at_call 32; exact low_of (order_c _ _ _ _ _ _ _ _ _)))))
        refine wpQuiet_nil ?_
        rintro _ ⟨⟨w2, hk⟩, rfl⟩
        clear Lc0 Lc1 Lc2 Lc3 Lt0 Lt1 Lt2 Lt3
        go_wp2_with fail
        go_roundw
        case rel => exact ⟨lo, mid, rfl, rfl, h1, hmp, by omega, hbr.trans (hk.mono (by have := hbr.size; simp at this; omega))⟩
        case measure => simp [intOf]; omega
    · have hlo : pos f (place ⟨p, a, b, v⟩) = lo := by omega
      have hlen : lo ≤ f.length := by omega
      have HLO : Hid (pos f (place ⟨p, a, b, v⟩) = lo) := hlo
      clear h1 h2 hlo hpl
      by_cases hin : lo < f.length
      · have hjl : (lo : Int) < (f.length : Int) := by omega
        have hj0 : (0 : Int) ≤ (lo : Int) := by omega
        obtain ⟨bb, off, cap, hv, hbl, hcells⟩ := fact_cells HF.out hin
        obtain ⟨rfl, rfl⟩ : fa = some ⟨bb, off, none⟩ ∧ fc = cap := by simpa using hv
        have s2 : bb < wr.heap.size := Nat.lt_of_lt_of_le hbl hbw.size
        obtain ⟨t0, t1, t2, t3⟩ := factAt.lasts w wr bb _ _ hbw hbl hcells
        have HSY : Hid (Small f[lo]) := HS.out _ (List.getElem_mem hin)
        have HG : Hid (get f (place ⟨p, a, b, v⟩) = if place f[lo] = place ⟨p, a, b, v⟩ then some f[lo].val else none) := by
          show _ = _
          rw [get_pos HSO.out]
          simp only [HLO.out, dif_pos hin]
        clear hcells hv HS HSO HF
        generalize f[lo] = y at *
        obtain ⟨yp, ya, yb, yv⟩ := y
        by_cases hc : place ⟨yp, ya, yb, yv⟩ = place ⟨p, a, b, v⟩
        · have hc' : (cmpF ⟨yp, ya, yb, yv⟩ ⟨p, a, b, v⟩ == 0) = true := by simpa using ((cmpF_spec HSY.out HX.out).2).2 hc
          have HG' : Hid ((get f (place ⟨p, a, b, v⟩)).isSome = true) := by show _ = _; rw [HG.out, if_pos hc]; rfl
          clear hc HSY HG
          go_wp2_with fail
          have Lc0 : ∀ x : Low wr.heap.size wr, x.wd.cell? ⟨w.heap.size, 0, none⟩ = some (.int .i64 p) := fun x => (cell_lasts x.low s1).trans c0
          have Lc1 : ∀ x : Low wr.heap.size wr, x.wd.cell? ⟨w.heap.size, 1, none⟩ = some (.int .i64 a) := fun x => (cell_lasts x.low s1).trans c1
          have Lc2 : ∀ x : Low wr.heap.size wr, x.wd.cell? ⟨w.heap.size, 2, none⟩ = some (.int .i64 b) := fun x => (cell_lasts x.low s1).trans c2
          have Lc3 : ∀ x : Low wr.heap.size wr, x.wd.cell? ⟨w.heap.size, 3, none⟩ = some (.int .i64 v) := fun x => (cell_lasts x.low s1).trans c3
          have Lt0 : ∀ x : Low wr.heap.size wr, x.wd.cell? ⟨bb, off + lo * 4, none⟩ = some (.int .i64 yp) := fun x => (cell_lasts x.low s2).trans t0
          have Lt1 : ∀ x : Low wr.heap.size wr, x.wd.cell? ⟨bb, off + lo * 4 + 1, none⟩ = some (.int .i64 ya) := fun x => (cell_lasts x.low s2).trans t1
          have Lt2 : ∀ x : Low wr.heap.size wr, x.wd.cell? ⟨bb, off + lo * 4 + 2, none⟩ = some (.int .i64 yb) := fun x => (cell_lasts x.low s2).trans t2
          have Lt3 : ∀ x : Low wr.heap.size wr, x.wd.cell? ⟨bb, off + lo * 4 + 3, none⟩ = some (.int .i64 yv) := fun x => (cell_lasts x.low s2).trans t3
          refine wp_region_low wr.heap.size (by kernel_rfl) (by kernel_rfl) ?_
          repeat (go_big_quiet_step (((go_at_call 32; exact low_of (order_c _ _ _ _ _ _ _ _ _)))))
          refine wpQuiet_nil ?_
          rintro _ ⟨⟨w2, hk⟩, rfl⟩
          clear Lc0 Lc1 Lc2 Lc3 Lt0 Lt1 Lt2 Lt3
          go_wp2_with fail
          go_ret2
          exact ⟨by rw [HG'.out, HLO.out]; rfl, hbw.trans (hk.mono hbw.size)⟩
        · have hc' : (cmpF ⟨yp, ya, yb, yv⟩ ⟨p, a, b, v⟩ == 0) = false := by
            have := (cmpF_spec HSY.out HX.out).2
            simp only [beq_eq_false_iff_ne, ne_eq]
            omega
          have HG' : Hid ((get f (place ⟨p, a, b, v⟩)).isSome = false) := by show _ = _; rw [HG.out, if_neg hc]; rfl
          clear hc HSY HG
          go_wp2_with fail
          have Lc0 : ∀ x : Low wr.heap.size wr, x.wd.cell? ⟨w.heap.size, 0, none⟩ = some (.int .i64 p) := fun x => (cell_lasts x.low s1).trans c0
          have Lc1 : ∀ x : Low wr.heap.size wr, x.wd.cell? ⟨w.heap.size, 1, none⟩ = some (.int .i64 a) := fun x => (cell_lasts x.low s1).trans c1
          have Lc2 : ∀ x : Low wr.heap.size wr, x.wd.cell? ⟨w.heap.size, 2, none⟩ = some (.int .i64 b) := fun x => (cell_lasts x.low s1).trans c2
          have Lc3 : ∀ x : Low wr.heap.size wr, x.wd.cell? ⟨w.heap.size, 3, none⟩ = some (.int .i64 v) := fun x => (cell_lasts x.low s1).trans c3
          have Lt0 : ∀ x : Low wr.heap.size wr, x.wd.cell? ⟨bb, off + lo * 4, none⟩ = some (.int .i64 yp) := fun x => (cell_lasts x.low s2).trans t0
          have Lt1 : ∀ x : Low wr.heap.size wr, x.wd.cell? ⟨bb, off + lo * 4 + 1, none⟩ = some (.int .i64 ya) := fun x => (cell_lasts x.low s2).trans t1
          have Lt2 : ∀ x : Low wr.heap.size wr, x.wd.cell? ⟨bb, off + lo * 4 + 2, none⟩ = some (.int .i64 yb) := fun x => (cell_lasts x.low s2).trans t2
          have Lt3 : ∀ x : Low wr.heap.size wr, x.wd.cell? ⟨bb, off + lo * 4 + 3, none⟩ = some (.int .i64 yv) := fun x => (cell_lasts x.low s2).trans t3
          refine wp_region_low wr.heap.size (by kernel_rfl) (by kernel_rfl) ?_
          repeat (go_big_quiet_step (((go_at_call 32; exact low_of (order_c _ _ _ _ _ _ _ _ _)))))
          refine wpQuiet_nil ?_
          rintro _ ⟨⟨w2, hk⟩, rfl⟩
          clear Lc0 Lc1 Lc2 Lc3 Lt0 Lt1 Lt2 Lt3
          go_wp2_with fail
          go_ret2
          exact ⟨by rw [HG'.out, HLO.out]; rfl, hbw.trans (hk.mono hbw.size)⟩
      · have HG' : Hid ((get f (place ⟨p, a, b, v⟩)).isSome = false) := by
          show _ = _
          rw [get_pos HSO.out, dif_neg (by rw [HLO.out]; exact hin)]
          rfl
        have hjl : ¬ (lo : Int) < (f.length : Int) := by omega
        clear HS HSO HF
        go_wp2_with fail
        have Lc0 : ∀ x : Low wr.heap.size wr, x.wd.cell? ⟨w.heap.size, 0, none⟩ = some (.int .i64 p) := fun x => (cell_lasts x.low s1).trans c0
        have Lc1 : ∀ x : Low wr.heap.size wr, x.wd.cell? ⟨w.heap.size, 1, none⟩ = some (.int .i64 a) := fun x => (cell_lasts x.low s1).trans c1
        have Lc2 : ∀ x : Low wr.heap.size wr, x.wd.cell? ⟨w.heap.size, 2, none⟩ = some (.int .i64 b) := fun x => (cell_lasts x.low s1).trans c2
        have Lc3 : ∀ x : Low wr.heap.size wr, x.wd.cell? ⟨w.heap.size, 3, none⟩ = some (.int .i64 v) := fun x => (cell_lasts x.low s1).trans c3
        refine wp_region_low wr.heap.size (by kernel_rfl) (by kernel_rfl) ?_
        repeat (go_big_quiet_step (((go_at_call 32; exact low_of (order_c _ _ _ _ _ _ _ _ _)))))
        refine wpQuiet_nil ?_
        rintro _ ⟨⟨w2, hk⟩, rfl⟩
        clear Lc0 Lc1 Lc2 Lc3
        go_wp2_with fail
        go_ret2
        exact ⟨by rw [HG'.out, HLO.out]; rfl, hbw.trans (hk.mono hbw.size)⟩
end Go.Proofs.YtlfccloaoopadagGreat.Base

/-
  Package base: Find and Under.
-/
namespace Go.Proofs.YtlfccloaoopadagGreat.Base
open Go.ChangeShapes Go.WideShapes Go.ChangeAt Go.RowKit
open Lat (within within_c join)
open Rule (factFine factFine_c isPred kindOf arityOf isPred_iff)

theorem withErr_zero {ps : List Prd} {f : List Fct} {x : Fct} (h : withErr ps f x = 0) : factsErr ps f = 0 ∧ factFine ps x = true := by
  unfold withErr at h
  split at h
  · contradiction
  · rename_i h0
    split at h
    · exact ⟨by omega, by assumption⟩
    · omega
theorem findOf_err {ps : List Prd} {f : List Fct} {x : Fct} (h : withErr ps f x ≠ 0) : findOf ps f x = (0, false, withErr ps f x) := by
  unfold withErr findOf at *
  by_cases h0 : factsErr ps f = 0
  · cases hf : factFine ps x
    · simp [h0]
    · simp [h0, hf] at h
  · simp [h0]

set_option maxRecDepth 100000 in
set_option maxHeartbeats 4000000 in
theorem Find_c (w : World) (pv fv : Value) (ps : List Prd) (f : List Fct) (p a b v : Int) (hp : predsAt w pv ps) (hf : factsAt w fv f) :
    Calls Tryz.prog 154 #[pv, fv, .agg #[.int .i64 p, .int .i64 a, .int .i64 b, .int .i64 v]] w fun e w' => e = .returned (.tuple #[.int .i64 (findOf ps f ⟨p, a, b, v⟩).1, .bool (findOf ps f ⟨p, a, b, v⟩).2.1, .int .i64 (findOf ps f ⟨p, a, b, v⟩).2.2]) ∧ Below w.heap.size w w' := by
  have HP : Hid (∀ (w1 : World), Below w.heap.size w w1 → predsAt w1 pv ps) := fun w1 hb1 => predsAt.lasts hb1 hp
  have HF : Hid (∀ (w1 : World), Below w.heap.size w w1 → factsAt w1 fv f) := fun w1 hb1 => factsAt.lasts hb1 hf
  obtain ⟨fa, fc, rfl, hfm, hfx⟩ := hf
  clear hp hfx
  by_cases h0 : withErr ps f ⟨p, a, b, v⟩ = 0
  · obtain ⟨h1, h2⟩ := withErr_zero h0
    have HS : Hid (∀ y ∈ f, Small y) := facts_small h1
    have HX : Hid (Small ⟨p, a, b, v⟩) := fine_small (factsErr_zero h1).1 h2
    have HSO : Hid (Sorted f) := (right_of h1).sorted
    have e : findOf ps f ⟨p, a, b, v⟩ = (findTo f (place ⟨p, a, b, v⟩), (get f (place ⟨p, a, b, v⟩)).isSome, 0) := by simp [findOf, h1, h2]
    rw [e]
    clear e h1 h2
    cases hg : get f (place ⟨p, a, b, v⟩) with
    | none =>
      have e : findTo f (place ⟨p, a, b, v⟩) = 0 := by rw [findTo, hg]; rfl
      rw [e]
      clear e
      go_enter Tryz.func154, Tryz.ntmps154
      go_wp2_with (first
        | (go_at_call 46; refine (checkWith_c _ _ _ ps f _ _ _ _ (HP.out _ (below_alloc _ _)) (HF.out _ (below_alloc _ _))).mono ?_; rintro e w1 ⟨rfl, hb1⟩; obtain ⟨c0, c1, c2, c3⟩ := four_last hb1; have HB : Hid (Below w.heap.size w w1) := (below_alloc _ _).trans (hb1.mono (by simp)); clear hb1)
        | (go_at_call 31; refine (search_c _ _ f _ _ _ _ (HF.out _ HB.out) HS.out HX.out HSO.out).mono ?_; rintro e w2 ⟨rfl, hb2⟩; rw [hg]))
      go_ret3
      exact ⟨rfl, HB.out.trans (hb2.mono HB.out.size)⟩
    | some u =>
      have e : findTo f (place ⟨p, a, b, v⟩) = u := by rw [findTo, hg]; rfl
      rw [e]
      clear e
      obtain ⟨hpos, _, hu⟩ := get_some_pos HSO.out hg
      obtain ⟨bb, off, cap, hv, hbl, hcells⟩ := fact_cells (HF.out w (Below.refl _ _)) hpos
      obtain ⟨rfl, rfl⟩ : fa = some ⟨bb, off, none⟩ ∧ fc = cap := by simpa using hv
      obtain ⟨_, _, _, t3⟩ := hcells
      rw [hu] at t3
      have hp0 : (0 : Int) ≤ (pos f (place ⟨p, a, b, v⟩) : Int) := by omega
      have hp1 : (pos f (place ⟨p, a, b, v⟩) : Int) < (f.length : Int) := by omega
      have HQ : Hid (∀ w', Calls Tryz.prog 31 #[.slice (some ⟨bb, off, none⟩) f.length fc, .agg #[.int .i64 p, .int .i64 a, .int .i64 b, .int .i64 v], .func (.func 32) #[] #[]] w' (fun e w1 => e = .returned (.tuple #[.int .i64 (pos f (place ⟨p, a, b, v⟩)), .bool true]) ∧ Below w'.heap.size w' w1) ∨ ¬ Below w.heap.size w w') := fun w' => by
        by_cases hb : Below w.heap.size w w'
        · left
          have := search_c w' _ f p a b v (HF.out _ hb) HS.out HX.out HSO.out
          rw [hg] at this
          exact this
        · exact .inr hb
      clear hv HS HX HSO hg hu
      generalize pos f (place ⟨p, a, b, v⟩) = k at *
      go_enter Tryz.func154, Tryz.ntmps154
      go_wp2_with (first
        | (go_at_call 46; refine (checkWith_c _ _ _ ps f _ _ _ _ (HP.out _ (below_alloc _ _)) (HF.out _ (below_alloc _ _))).mono ?_; rintro e w1 ⟨rfl, hb1⟩; obtain ⟨c0, c1, c2, c3⟩ := four_last hb1; have HB : Hid (Below w.heap.size w w1) := (below_alloc _ _).trans (hb1.mono (by simp)); clear hb1)
        | (go_at_call 31; refine ((HQ.out _).resolve_right (fun h => h HB.out)).mono ?_; rintro e w2 ⟨rfl, hb2⟩; replace t3 := (cell_lasts (HB.out.trans (hb2.mono HB.out.size)) hbl).trans t3))
      go_ret3
      exact ⟨rfl, HB.out.trans (hb2.mono HB.out.size)⟩
  · rw [findOf_err h0]
    have h0' : (withErr ps f ⟨p, a, b, v⟩ == 0) = false := by simpa using h0
    go_enter Tryz.func154, Tryz.ntmps154
    go_wp2_with (go_at_call 46; refine (checkWith_c _ _ _ ps f _ _ _ _ (HP.out _ (below_alloc _ _)) (HF.out _ (below_alloc _ _))).mono ?_; rintro e w1 ⟨rfl, hb1⟩; have HB : Hid (Below w.heap.size w w1) := (below_alloc _ _).trans (hb1.mono (by simp)); clear hb1)
    go_ret3
    exact ⟨rfl, HB.out⟩

theorem leq_is {k a b : Int} (ha : Lat.err k a = 0) (hb : Lat.err k b = 0) : Lat.leq k a b = (join k a b == b) := by
  have h2 : Lat.err2 k a b = 0 := by rw [Lat.err2, if_pos ha, hb]
  unfold Lat.leq Lat.joinOf
  simp [h2]
theorem cell_lt {w : World} {b o : Nat} {v : Value} (h : w.cell? ⟨b, o, none⟩ = some v) : b < w.heap.size := by
  refine Classical.byContradiction fun hn => ?_
  have : w.heap[b]? = none := by simp; omega
  simp [World.cell?, this] at h
theorem asks2 {α : Type} {V : α → Value} {g : Nat} {a b : Value} {p : α → Bool} {xs : List α} {w : World} (h : ∀ (w1 : World) (q : α), Below w.heap.size w w1 → q ∈ xs → Calls Tryz.prog g #[V q, a, b] w1 fun e w' => e = .returned (.bool (p q)) ∧ Below w1.heap.size w1 w') : Asks V g #[a, b] p xs w := by
  intro w1 q hb hq
  have e : #[V q] ++ #[a, b] = #[V q, a, b] := rfl
  rw [e]
  exact h w1 q hb hq
theorem enters_more : ∀ args w, (callFunc 30 args).run Tryz.prog w = .ok (.enter 30 args) w := enters_of Tryz.func30 (by kernel_rfl) rfl

set_option maxRecDepth 100000 in
set_option maxHeartbeats 4000000 in
theorem tellsMore_c (w : World) (B C : Nat) (pv gv : Value) (ps : List Prd) (g : List Fct) (x : Fct) (hB : w.cell? ⟨B, 0, none⟩ = some gv) (hC : w.cell? ⟨C, 0, none⟩ = some pv) (hp : predsAt w pv ps) (hg : factsAt w gv g) (eg : factsErr ps g = 0) (hx : factFine ps x = true) :
    Calls Tryz.prog 30 #[factV x, .pointer (some ⟨B, 0, none⟩), .pointer (some ⟨C, 0, none⟩)] w fun e w' => e = .returned (.bool (!underOne (kindOf ps) g x)) ∧ Below w.heap.size w w' := by
  have bB : B < w.heap.size := cell_lt hB
  have bC : C < w.heap.size := cell_lt hC
  have HG : Hid (∀ (w1 : World), Below w.heap.size w w1 → factsAt w1 gv g) := fun w1 hb1 => factsAt.lasts hb1 hg
  have HS : Hid (∀ y ∈ g, Small y) := facts_small eg
  have HX : Hid (Small x) := fine_small (factsErr_zero eg).1 hx
  have HSO : Hid (Sorted g) := (right_of eg).sorted
  obtain ⟨pa, pc, rfl, hpm, hpx⟩ := hp
  obtain ⟨ga, gc, rfl, hgm, hgx⟩ := hg
  obtain ⟨pk, hpk, hpe⟩ : ∃ k : Nat, k < ps.length ∧ x.pred = (k : Int) := isPred_iff.1 (by have := hx; simp only [factFine, Bool.and_eq_true] at this; exact this.1)
  obtain ⟨pb, po, rfl, hbp, hxx⟩ := hpx.resolve_left (by rintro rfl; simp at hpk)
  obtain ⟨_, _, k2⟩ := hxx pk ps[pk] (by simp [hpk])
  have HKO : Hid (kindOf ps (pk : Int) = ps[pk].kind) := kindOf_at hpk
  have HXV : Hid (Lat.err (kindOf ps x.pred) x.val = 0) := (fine_of hx).v
  have hpl : (pk : Int) < (ps.length : Int) := by omega
  have hp0 : (0 : Int) ≤ (pk : Int) := by omega
  obtain ⟨p, a, b, v⟩ := x
  obtain rfl : p = (pk : Int) := hpe
  simp only [factV]
  cases hgt : get g (place ⟨(pk : Int), a, b, v⟩) with
  | none =>
    have e : underOne (kindOf ps) g ⟨(pk : Int), a, b, v⟩ = false := by simp only [underOne, hgt]
    rw [e]
    clear e hpx hxx hgx k2 HKO HXV eg hx
    go_enter Tryz.func30, Tryz.ntmps30
    go_wp2_with (go_at_call 31; refine (search_c _ _ g _ _ _ _ (HG.out _ (below_alloc _ _)) HS.out HX.out HSO.out).mono ?_; rintro e w2 ⟨rfl, hb2⟩; rw [hgt])
    go_ret
    exact ⟨rfl, (below_alloc _ _).trans (hb2.mono (by simp))⟩
  | some u =>
    obtain ⟨hpos, hpp, hu⟩ := get_some_pos HSO.out hgt
    obtain ⟨bb, off, cap, hv, hbl, hcells⟩ := fact_cells (HG.out w (Below.refl _ _)) hpos
    obtain ⟨rfl, rfl⟩ : ga = some ⟨bb, off, none⟩ ∧ gc = cap := by simpa using hv
    obtain ⟨_, _, _, t3⟩ := hcells
    rw [hu] at t3
    have HUV : Hid (Lat.err (kindOf ps (pk : Int)) u = 0) := by
      have h1 := get_err (right_of eg) hgt
      rw [← pred_of (fine_of hx)] at h1
      exact h1
    have e : underOne (kindOf ps) g ⟨(pk : Int), a, b, v⟩ = Lat.leq ps[pk].kind v u := by
      simp only [underOne, hgt]
      rw [leq_is (by rw [← HKO.out]; exact HXV.out) (by rw [← HKO.out]; exact HUV.out), HKO.out]
    rw [e]
    have hq0 : (0 : Int) ≤ (pos g (place ⟨(pk : Int), a, b, v⟩) : Int) := by omega
    have hq1 : (pos g (place ⟨(pk : Int), a, b, v⟩) : Int) < (g.length : Int) := by omega
    have HQ : Hid (∀ w', Below w.heap.size w w' → Calls Tryz.prog 31 #[.slice (some ⟨bb, off, none⟩) g.length gc, .agg #[.int .i64 (pk : Int), .int .i64 a, .int .i64 b, .int .i64 v], .func (.func 32) #[] #[]] w' (fun e w1 => e = .returned (.tuple #[.int .i64 (pos g (place ⟨(pk : Int), a, b, v⟩)), .bool true]) ∧ Below w'.heap.size w' w1)) := fun w' hb => by
      have := search_c w' _ g (pk : Int) a b v (HG.out _ hb) HS.out HX.out HSO.out
      rw [hgt] at this
      exact this
    clear e hv hpx hxx hgx HKO HXV HUV eg hx hgt hu hpp HSO HS HG HX
    generalize ps[pk].kind = qk at *
    generalize pos g (place ⟨(pk : Int), a, b, v⟩) = k at *
    go_enter Tryz.func30, Tryz.ntmps30
    go_wp2_with (go_at_call 31; refine (HQ.out _ (below_alloc _ _)).mono ?_; rintro e w1 ⟨rfl, hb1⟩; obtain ⟨c0, c1, c2, c3⟩ := four_last hb1; have hs1 : w.heap.size < w1.heap.size := Nat.lt_of_lt_of_le (by simp) hb1.size; have HB : Hid (Below w.heap.size w w1) := (below_alloc _ _).trans (hb1.mono (by simp)); clear hb1)
    have sB : B < w1.heap.size := by omega
    have sC : C < w1.heap.size := by omega
    have sb : bb < w1.heap.size := by omega
    have sp : pb < w1.heap.size := by omega
    have L0 : ∀ x : Low w1.heap.size w1, x.wd.cell? ⟨w.heap.size, 0, none⟩ = some (.int .i64 pk) := fun x => (cell_lasts x.low hs1).trans c0
    have L3 : ∀ x : Low w1.heap.size w1, x.wd.cell? ⟨w.heap.size, 3, none⟩ = some (.int .i64 v) := fun x => (cell_lasts x.low hs1).trans c3
    have LB : ∀ x : Low w1.heap.size w1, x.wd.cell? ⟨B, 0, none⟩ = some (.slice (some ⟨bb, off, none⟩) g.length gc) := fun x => (cell_lasts x.low sB).trans ((cell_lasts HB.out bB).trans hB)
    have LC : ∀ x : Low w1.heap.size w1, x.wd.cell? ⟨C, 0, none⟩ = some (.slice (some ⟨pb, po, none⟩) ps.length pc) := fun x => (cell_lasts x.low sC).trans ((cell_lasts HB.out bC).trans hC)
    have LG : ∀ x : Low w1.heap.size w1, x.wd.cell? ⟨bb, off + k * 4 + 3, none⟩ = some (.int .i64 u) := fun x => (cell_lasts x.low sb).trans ((cell_lasts HB.out hbl).trans t3)
    have LP : ∀ x : Low w1.heap.size w1, x.wd.cell? ⟨pb, po + pk * 3 + 2, none⟩ = some (.int .i64 qk) := fun x => (cell_lasts x.low sp).trans ((cell_lasts HB.out hbp).trans k2)
    refine wp_region_low w1.heap.size (by kernel_rfl) (by kernel_rfl) ?_
    repeat (go_big_quiet_step ((go_at_call 33; exact low_of (Lat.Leq_c _ _ _ _))))
    refine wpQuiet_nil ?_
    rintro _ ⟨⟨w2, hk⟩, rfl⟩
    clear L0 L3 LB LC LG LP
    go_wp2_with fail
    go_ret
    exact ⟨rfl, HB.out.trans (hk.mono HB.out.size)⟩

set_option maxRecDepth 100000 in
set_option maxHeartbeats 4000000 in
theorem Under_c (w : World) (pv fv gv : Value) (ps : List Prd) (f g : List Fct) (hp : predsAt w pv ps) (hf : factsAt w fv f) (hg : factsAt w gv g) :
    Calls Tryz.prog 10 #[pv, fv, gv] w fun e w' => e = .returned (.tuple #[.bool (underOf ps f g).1, .int .i64 (underOf ps f g).2]) ∧ Below w.heap.size w w' := by
  have HP : Hid (∀ (w1 : World), Below w.heap.size w w1 → predsAt w1 pv ps) := fun w1 hb1 => predsAt.lasts hb1 hp
  have HF : Hid (∀ (w1 : World), Below w.heap.size w w1 → factsAt w1 fv f) := fun w1 hb1 => factsAt.lasts hb1 hf
  have HG : Hid (∀ (w1 : World), Below w.heap.size w w1 → factsAt w1 gv g) := fun w1 hb1 => factsAt.lasts hb1 hg
  obtain ⟨pa, pc, rfl, hpm, hpx⟩ := hp
  obtain ⟨fa, fc, rfl, hfm, hfx⟩ := hf
  obtain ⟨ga, gc, rfl, hgm, hgx⟩ := hg
  clear hpx hfx hgx
  have KB : Hid (∀ w1, Below ((w.alloc (.cells #[.slice pa ps.length pc] 22)).alloc (.cells #[.slice ga g.length gc] 30)).heap.size ((w.alloc (.cells #[.slice pa ps.length pc] 22)).alloc (.cells #[.slice ga g.length gc] 30)) w1 → Below w.heap.size w w1 ∧ w1.cell? ⟨w.heap.size, 0, none⟩ = some (.slice pa ps.length pc) ∧ w1.cell? ⟨w.heap.size + 1, 0, none⟩ = some (.slice ga g.length gc) ∧ w.heap.size + 1 < w1.heap.size) := fun w1 hb =>
    ⟨((below_alloc _ _).alloc (by simp) _).trans (hb.mono (by simp; omega)), by rw [hb.cell (by simp; omega)]; simp [go_sem], by rw [hb.cell (by simp)]; simp [go_sem], Nat.lt_of_lt_of_le (by simp) hb.size⟩
  by_cases h0 : factsErr ps f = 0
  · by_cases h1 : factsErr ps g = 0
    · have e : underOf ps f g = (under (kindOf ps) f g, 0) := by simp [underOf, h0, h1]
      rw [e]
      clear e
      have H0 : Hid (factsErr ps f = 0) := h0
      have H1 : Hid (factsErr ps g = 0) := h1
      have HU : Hid (f.any (fun x => !underOne (kindOf ps) g x) = !under (kindOf ps) f g) := by show _ = _; rw [under, List.not_all_eq_any_not]
      go_enter Tryz.func10, Tryz.ntmps10
      go_wp2_with (first
        | (go_at_call_of 29 (Value.slice fa f.length fc); have ha := KB.out _ (Below.refl _ _); refine (check_c _ _ _ ps f (HP.out _ ha.1) (HF.out _ ha.1)).mono ?_; rintro e w1 ⟨rfl, hb1⟩; obtain ⟨HB1, d0, d1, d2⟩ := KB.out _ hb1; have HB : Hid (Below w.heap.size w w1) := HB1; clear hb1 ha HB1)
        | (go_at_call_of 29 (Value.slice ga g.length gc); refine (check_c _ _ _ ps g (HP.out _ HB.out) (HG.out _ HB.out)).mono ?_; rintro e w2 ⟨rfl, hb2⟩; have HB2 : Hid (Below w.heap.size w w2) := HB.out.trans (hb2.mono HB.out.size); have d0' := (cell_lasts hb2 (by omega)).trans d0; have d1' := (cell_lasts hb2 (by omega)).trans d1; have d2' : w.heap.size + 1 < w2.heap.size := Nat.lt_of_lt_of_le d2 hb2.size; clear hb2))
      have HASK : Hid (Asks factV 30 #[.pointer (some ⟨w.heap.size + 1, 0, none⟩), .pointer (some ⟨w.heap.size, 0, none⟩)] (fun x => !underOne (kindOf ps) g x) f w2) := asks2 (fun w3 q hb hq => tellsMore_c w3 (w.heap.size + 1) w.heap.size _ _ ps g q ((cell_lasts hb d2').trans d1') ((cell_lasts hb (by omega)).trans d0') (HP.out _ (HB2.out.trans (hb.mono HB2.out.size))) (HG.out _ (HB2.out.trans (hb.mono HB2.out.size))) H1.out (facts_fine H0.out q hq))
      refine (containsFact_c w2 _ f _ _ enters_more (fun x => !underOne (kindOf ps) g x) (HF.out _ HB2.out) HASK.out).mono ?_
      rintro e w4 ⟨rfl, hb4⟩
      rw [HU.out]
      go_wp2_with fail
      go_ret2
      exact ⟨by simp, HB2.out.trans (hb4.mono HB2.out.size)⟩
    · have e : underOf ps f g = (false, factsErr ps g) := by simp [underOf, h0, h1]
      rw [e]
      clear e
      have h1' : (factsErr ps g == 0) = false := by simpa using h1
      go_enter Tryz.func10, Tryz.ntmps10
      go_wp2_with (first
        | (go_at_call_of 29 (Value.slice fa f.length fc); have ha := KB.out _ (Below.refl _ _); refine (check_c _ _ _ ps f (HP.out _ ha.1) (HF.out _ ha.1)).mono ?_; rintro e w1 ⟨rfl, hb1⟩; obtain ⟨HB1, d0, d1, d2⟩ := KB.out _ hb1; have HB : Hid (Below w.heap.size w w1) := HB1; clear hb1 ha HB1)
        | (go_at_call_of 29 (Value.slice ga g.length gc); refine (check_c _ _ _ ps g (HP.out _ HB.out) (HG.out _ HB.out)).mono ?_; rintro e w2 ⟨rfl, hb2⟩; have HB2 : Hid (Below w.heap.size w w2) := HB.out.trans (hb2.mono HB.out.size); clear hb2))
      go_ret2
      exact ⟨rfl, HB2.out⟩
  · have e : underOf ps f g = (false, factsErr ps f) := by simp [underOf, h0]
    rw [e]
    clear e
    have h0' : (factsErr ps f == 0) = false := by simpa using h0
    go_enter Tryz.func10, Tryz.ntmps10
    go_wp2_with (go_at_call_of 29 (Value.slice fa f.length fc); have ha := KB.out _ (Below.refl _ _); refine (check_c _ _ _ ps f (HP.out _ ha.1) (HF.out _ ha.1)).mono ?_; rintro e w1 ⟨rfl, hb1⟩; obtain ⟨HB1, d0, d1, d2⟩ := KB.out _ hb1; have HB : Hid (Below w.heap.size w w1) := HB1; clear hb1 ha HB1)
    go_ret2
    exact ⟨rfl, HB.out⟩
end Go.Proofs.YtlfccloaoopadagGreat.Base
