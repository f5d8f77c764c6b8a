/-
  What is proved: prog.Strata and prog.Needs answer just what the document's own reckoning answers, errors too, for every program and every number; no condition.
-/
import Derived.Test.YtgbacodellfacabProgBegun
import Derived.Test.YtgbacodellfacabOpen3
import Derived.Test.YtgbacodellfacabKit
namespace Go.Proofs.Ytgbacodellfacab.Prog
open Go.ChangeShapes Go.WideShapes Go.ChangeAt Go.RowKit
open Strata

theorem ints_nil (w : World) : intsAt w (.slice none 0 0) [] := ⟨none, 0, rfl, by simp, .inl rfl⟩
theorem bools_nil (w : World) : boolsAt w (.slice none 0 0) [] := ⟨none, 0, rfl, by simp, .inl rfl⟩
theorem box_last {w w1 : World} {a b : Value} {t : TypeId} (hb : Below (w.alloc (.cells #[a, b] t)).heap.size (w.alloc (.cells #[a, b] t)) w1) : w1.cell? ⟨w.heap.size, 0, none⟩ = some a ∧ w1.cell? ⟨w.heap.size, 1, none⟩ = some b ∧ w.heap.size < w1.heap.size :=
  ⟨by rw [hb.cell (p := ⟨w.heap.size, 0, none⟩) (by simp)]; simp [go_sem], by rw [hb.cell (p := ⟨w.heap.size, 1, none⟩) (by simp)]; simp [go_sem], by have := hb.size; simp at this; omega⟩
theorem box_on {w1 w2 : World} {B : Nat} {a b : Value} (hb : Below w1.heap.size w1 w2) (h : w1.cell? ⟨B, 0, none⟩ = some a ∧ w1.cell? ⟨B, 1, none⟩ = some b ∧ B < w1.heap.size) : w2.cell? ⟨B, 0, none⟩ = some a ∧ w2.cell? ⟨B, 1, none⟩ = some b ∧ B < w2.heap.size :=
  ⟨(cell_lasts hb h.2.2).trans h.1, (cell_lasts hb h.2.2).trans h.2.1, Nat.lt_of_lt_of_le h.2.2 hb.size⟩

set_option maxRecDepth 100000 in
set_option maxHeartbeats 4000000 in
theorem strata_walk (w : World) (pv rv : Value) (ps : List Prd) (rs : List Rul) (p : Int) (hp : predsAt w pv ps) (hr : rulesAt w rv rs) (hn : small ps) :
    Calls Try.prog 4 #[.agg #[pv, rv], .int .i64 p] w fun e w' => e = .returned (.bool true) ∧ Below w.heap.size w w' := by
  have HP : Hid (∀ x, Below w.heap.size w x → predsAt x pv ps) := fun x hx => predsAt.lasts hx hp
  have HR : Hid (∀ x, Below w.heap.size w x → rulesAt x rv rs) := fun x hx => rulesAt.lasts hx hr
  obtain ⟨pa, pc, rfl, hpm, hpx⟩ := hp
  obtain ⟨ra, rc, rfl, hrm, hrx⟩ := hr
  clear hpx hrx
  by_cases hpe : progErr ps rs = 0
  · obtain ⟨hz, L, hL⟩ := prog_zero hpe
    obtain ⟨z1, z2, z3⟩ := parts_zero hz
    have HZ : Hid (∀ r ∈ rs, Right ps r) := z3
    clear hz z3
    by_cases hpin : p < 0 ∨ (ps.length : Int) ≤ p
    · have hne : needsErr ps rs p = 7 := by rw [needsErr, if_neg (by rw [hpe]; simp), if_pos hpin]
      go_enter Try.func4, Try.ntmps4
      go_wp2_with fail
      refine (devStrata_c _ _ _ ps rs (HP.out _ (below_alloc _ _)) (HR.out _ (below_alloc _ _)) hn).mono ?_
      rintro e w1 ⟨⟨v1, rfl, _, hv1⟩, hb1⟩
      have HV1 : Hid (intsAt w1 v1 L) := hv1 L hL hpe
      have k1 : Below w.heap.size w w1 := below_trans (below_alloc _ _) hb1
      have B1 := box_last hb1
      obtain ⟨c0, c1, _⟩ := id B1
      rw [hpe]
      clear hb1 hv1
      go_wp2_with fail
      refine (devNeeds_c _ _ _ ps rs p (HP.out _ k1) (HR.out _ k1) hn).mono ?_
      rw [hne]
      rintro e w2 ⟨⟨v2, rfl, hv2, _⟩, hb2⟩
      obtain rfl := hv2 (by decide)
      have k2 : Below w.heap.size w w2 := k1.trans (hb2.mono k1.size)
      have B2 := box_on hb2 B1
      have HV2 : Hid (intsAt w2 v1 L) := intsAt.lasts hb2 HV1.out
      clear hv2 hb2 B1 c0 c1 HV1
      obtain ⟨c0, c1, _⟩ := id B2
      go_wp2_with fail
      refine (checkProg_c _ _ _ ps rs (HP.out _ k2) (HR.out _ k2) hn).mono ?_
      rw [hpe]
      rintro e w3 ⟨rfl, hb3⟩
      have k3 : Below w.heap.size w w3 := k2.trans (hb3.mono k2.size)
      have B3 := box_on hb3 B2
      have HV3 : Hid (intsAt w3 v1 L) := intsAt.lasts hb3 HV2.out
      clear hb3 B2 c0 c1 HV2
      obtain ⟨c0, c1, _⟩ := id B3
      go_wp2_with fail
      refine (strataOf_c _ _ _ ps rs (HP.out _ k3) (HR.out _ k3) z1 z2 HZ.out).mono ?_
      rintro e w4 ⟨⟨v4, rfl, hv4⟩, hb4⟩
      have HV4 : Hid (intsAt w4 v4 L) := hv4 L hL
      have HV4' : Hid (intsAt w4 v1 L) := intsAt.lasts hb4 HV3.out
      have k4 : Below w.heap.size w w4 := k3.trans (hb4.mono k3.size)
      have B4 := box_on hb4 B3
      clear hb4 B3 c0 c1 HV3 hv4
      obtain ⟨c0, c1, _⟩ := id B4
      have fin : ∀ w5, Below w4.heap.size w4 w5 → intsAt w5 v1 L ∧ intsAt w5 v4 L := fun w5 h => ⟨intsAt.lasts h HV4'.out, intsAt.lasts h HV4.out⟩
      have FIN : Hid _ := fin
      clear fin HV4 HV4'
      by_cases h0 : p < 0
      · go_wp2_with fail
        refine (progBegun_c _).mono ?_
        rintro e w5 ⟨rfl, hb5⟩
        go_wp2_with fail
        refine (sameInts_c _ _ _ L L (FIN.out _ hb5).1 (FIN.out _ hb5).2).mono ?_
        rintro e w6 ⟨rfl, hb6⟩
        go_wp2_with fail
        refine (sameBools_c _ _ _ [] [] (bools_nil _) (bools_nil _)).mono ?_
        rintro e w7 ⟨rfl, hb7⟩
        go_wp2_with fail
        go_ret
        exact ⟨rfl, k4.trans ((below_trans (below_trans hb5 hb6) hb7).mono k4.size)⟩
      · have h1 : (ps.length : Int) ≤ p := by omega
        go_wp2_with fail
        refine (progBegun_c _).mono ?_
        rintro e w5 ⟨rfl, hb5⟩
        go_wp2_with fail
        refine (sameInts_c _ _ _ L L (FIN.out _ hb5).1 (FIN.out _ hb5).2).mono ?_
        rintro e w6 ⟨rfl, hb6⟩
        go_wp2_with fail
        refine (sameBools_c _ _ _ [] [] (bools_nil _) (bools_nil _)).mono ?_
        rintro e w7 ⟨rfl, hb7⟩
        go_wp2_with fail
        go_ret
        exact ⟨rfl, k4.trans ((below_trans (below_trans hb5 hb6) hb7).mono k4.size)⟩
    · have hne : needsErr ps rs p = 0 := by rw [needsErr, if_neg (by rw [hpe]; simp), if_neg hpin]
      obtain ⟨k, rfl⟩ : ∃ k : Nat, p = (k : Int) := ⟨p.toNat, by omega⟩
      have hk1 : (k : Int) < (ps.length : Int) := by omega
      have hk0 : ¬ (k : Int) < 0 := by omega
      have hkl : k < ps.length := by omega
      clear hpin
      go_enter Try.func4, Try.ntmps4
      go_wp2_with fail
      refine (devStrata_c _ _ _ ps rs (HP.out _ (below_alloc _ _)) (HR.out _ (below_alloc _ _)) hn).mono ?_
      rintro e w1 ⟨⟨v1, rfl, _, hv1⟩, hb1⟩
      have HV1 : Hid (intsAt w1 v1 L) := hv1 L hL hpe
      have k1 : Below w.heap.size w w1 := below_trans (below_alloc _ _) hb1
      have B1 := box_last hb1
      obtain ⟨c0, c1, _⟩ := id B1
      rw [hpe]
      clear hb1 hv1
      go_wp2_with fail
      refine (devNeeds_c _ _ _ ps rs k (HP.out _ k1) (HR.out _ k1) hn).mono ?_
      rw [hne]
      rintro e w2 ⟨⟨v2, rfl, _, hv2⟩, hb2⟩
      have HB2 : Hid (boolsAt w2 v2 (needsL (edges rs) ps.length k)) := hv2 rfl
      have k2 : Below w.heap.size w w2 := k1.trans (hb2.mono k1.size)
      have B2 := box_on hb2 B1
      have HV2 : Hid (intsAt w2 v1 L) := intsAt.lasts hb2 HV1.out
      clear hv2 hb2 B1 c0 c1 HV1
      obtain ⟨c0, c1, _⟩ := id B2
      go_wp2_with fail
      refine (checkProg_c _ _ _ ps rs (HP.out _ k2) (HR.out _ k2) hn).mono ?_
      rw [hpe]
      rintro e w3 ⟨rfl, hb3⟩
      have k3 : Below w.heap.size w w3 := k2.trans (hb3.mono k2.size)
      have B3 := box_on hb3 B2
      have HV3 : Hid (intsAt w3 v1 L) := intsAt.lasts hb3 HV2.out
      have HB3 : Hid (boolsAt w3 v2 (needsL (edges rs) ps.length k)) := boolsAt.lasts hb3 HB2.out
      clear hb3 B2 c0 c1 HV2 HB2
      obtain ⟨c0, c1, _⟩ := id B3
      go_wp2_with fail
      refine (strataOf_c _ _ _ ps rs (HP.out _ k3) (HR.out _ k3) z1 z2 HZ.out).mono ?_
      rintro e w4 ⟨⟨v4, rfl, hv4⟩, hb4⟩
      have HV4 : Hid (intsAt w4 v4 L) := hv4 L hL
      have HV4' : Hid (intsAt w4 v1 L) := intsAt.lasts hb4 HV3.out
      have HB4 : Hid (boolsAt w4 v2 (needsL (edges rs) ps.length k)) := boolsAt.lasts hb4 HB3.out
      have k4 : Below w.heap.size w w4 := k3.trans (hb4.mono k3.size)
      have B4 := box_on hb4 B3
      clear hb4 B3 c0 c1 HV3 HB3 hv4
      obtain ⟨c0, c1, _⟩ := id B4
      go_wp2_with fail
      refine (needsOf_c _ _ _ ps rs k (HP.out _ k4) (HR.out _ k4) z1 z2 HZ.out hkl).mono ?_
      rintro e w5 ⟨⟨v5, rfl, hv5⟩, hb5⟩
      have FIN : Hid (∀ x, Below w5.heap.size w5 x → intsAt x v1 L ∧ intsAt x v4 L ∧ boolsAt x v2 (needsL (edges rs) ps.length k) ∧ boolsAt x v5 (needsL (edges rs) ps.length k)) := fun x h =>
        ⟨intsAt.lasts (below_trans hb5 h) HV4'.out, intsAt.lasts (below_trans hb5 h) HV4.out, boolsAt.lasts (below_trans hb5 h) HB4.out, boolsAt.lasts h hv5⟩
      have k5 : Below w.heap.size w w5 := k4.trans (hb5.mono k4.size)
      clear hv5 hb5 HV4 HV4' HB4 c0 c1 B4
      go_wp2_with fail
      refine (progBegun_c _).mono ?_
      rintro e w6 ⟨rfl, hb6⟩
      go_wp2_with fail
      refine (sameInts_c _ _ _ L L (FIN.out _ hb6).1 (FIN.out _ hb6).2.1).mono ?_
      rintro e w7 ⟨rfl, hb7⟩
      have hb67 := below_trans hb6 hb7
      go_wp2_with fail
      refine (sameBools_c _ _ _ _ _ (FIN.out _ hb67).2.2.1 (FIN.out _ hb67).2.2.2).mono ?_
      rintro e w8 ⟨rfl, hb8⟩
      go_wp2_with fail
      go_ret
      exact ⟨rfl, k5.trans ((below_trans hb67 hb8).mono k5.size)⟩
  · have hne : needsErr ps rs p = progErr ps rs := by rw [needsErr, if_pos hpe]
    have hpe' : progErr ps rs ≠ 0 := hpe
    go_enter Try.func4, Try.ntmps4
    go_wp2_with fail
    refine (devStrata_c _ _ _ ps rs (HP.out _ (below_alloc _ _)) (HR.out _ (below_alloc _ _)) hn).mono ?_
    rintro e w1 ⟨⟨v1, rfl, hv1, _⟩, hb1⟩
    obtain rfl := hv1 hpe
    have k1 : Below w.heap.size w w1 := below_trans (below_alloc _ _) hb1
    have B1 := box_last hb1
    obtain ⟨c0, c1, _⟩ := id B1
    clear hb1 hv1
    go_wp2_with fail
    refine (devNeeds_c _ _ _ ps rs p (HP.out _ k1) (HR.out _ k1) hn).mono ?_
    rw [hne]
    rintro e w2 ⟨⟨v2, rfl, hv2, _⟩, hb2⟩
    obtain rfl := hv2 hpe
    have k2 : Below w.heap.size w w2 := k1.trans (hb2.mono k1.size)
    have B2 := box_on hb2 B1
    clear hv2 hb2 B1 c0 c1
    obtain ⟨c0, c1, _⟩ := id B2
    go_wp2_with fail
    refine (checkProg_c _ _ _ ps rs (HP.out _ k2) (HR.out _ k2) hn).mono ?_
    rintro e w3 ⟨rfl, hb3⟩
    have k3 : Below w.heap.size w w3 := k2.trans (hb3.mono k2.size)
    clear hb3 c0 c1 B2
    go_wp2_with fail
    refine (progBegun_c _).mono ?_
    rintro e w5 ⟨rfl, hb5⟩
    go_wp2_with fail
    refine (sameInts_c _ _ _ [] [] (ints_nil _) (ints_nil _)).mono ?_
    rintro e w6 ⟨rfl, hb6⟩
    go_wp2_with fail
    refine (sameBools_c _ _ _ [] [] (bools_nil _) (bools_nil _)).mono ?_
    rintro e w7 ⟨rfl, hb7⟩
    go_wp2_with fail
    go_ret
    exact ⟨rfl, k3.trans ((below_trans (below_trans hb5 hb6) hb7).mono k3.size)⟩

set_option maxRecDepth 100000 in
theorem strata_lifted (os : Os) (started : os.Started) (H : Type) (enc : TypeId × Value → H) :
    ReturnsInHanded {} Try.checked os 4 .any (Rows.progStrataSpec.pre6 enc Try.prog Try.f4 Rows.progStrataRow.domain false) (Rows.progStrataSpec.post enc Try.prog Try.f4 false true false false) := by
  refine Kit.lifted_of (C := Try.checked) (t := 4) (by kernel_rfl) started (by kernel_rfl) Try.func4
    (ChangeSpec.witness6 (enc := enc) (C := Try.checked) false ⟨#[], #[.agg #[.slice none 0 0, .slice none 0 0], .int .i64 0], []⟩ 8 (by kernel_rfl) (by kernel_rfl) (by kernel_rfl) (by kernel_rfl))
    (by kernel_rfl) (by kernel_rfl) (by kernel_rfl) Try.underlying4 rfl ?_ ?_
  · intro ds hds
    rw [show Try.f4.params.toList.length = 2 by kernel_rfl] at hds
    match ds, hds with
    | [d0, d1], _ => rfl
  · intro W base args ds ps hval0 hA0 hsz0
    have hval : ∀ (j : Nat) t v, Try.f4.params[j]? = some t → args[j]? = some v → Value.okWide Try.prog W .any base t v := hval0
    have hA : DataW.TrodAll enc Try.prog W 0 (fun _ => true) true Try.f4.params.toList args.toList ds ps := hA0
    have hsz : (DataW.weightsEach Try.prog (Try.f4.params.toList ++ []) (ds ++ [])).all (· ≤ reachBytes) = true := hsz0
    rw [Try.params4] at hA hval hsz
    obtain ⟨v0, vs0, d0, ds0, p0, q0, hargs, rfl, rfl, h0, r0⟩ := trodAll_cons hA
    obtain ⟨v1, vs1, d1, ds1, p1, q1, rfl, rfl, rfl, h1, r1⟩ := trodAll_cons r0
    obtain ⟨rfl, rfl, rfl⟩ := trodAll_nil r1
    obtain rfl : args = #[v0, v1] := by cases args; simp_all
    have hL := Open.light_all hsz
    simp only [List.append_nil, DataW.weightsEach] at hL
    obtain ⟨n0, t0⟩ := Open.trod_one h0
    obtain ⟨n1, t1⟩ := Open.trod_one h1
    obtain ⟨pv, rv, ps, rs, e0, hp, hn, hr⟩ := Open.prog_of t0 (Open.light_left hL)
    obtain ⟨x1, e1, _, hs1⟩ := DataW.trod_int Try.underlying3 t1
    obtain rfl := Open.agg_of Try.underlying25 (hval 0 25 v0 rfl rfl) e0
    obtain rfl := Open.int_of Try.underlying3 (hval 1 3 v1 rfl rfl) e1
    exact strata_walk W pv rv ps rs x1 hp hr hn
end Go.Proofs.Ytgbacodellfacab.Prog
namespace Go.Proofs.Ytgbacodellfacab
/-- THE STATEMENT -/
theorem progStrata_proved : Rows.ProgStrataSaid :=
  OpenClaim.holds_of_wide 4 Try.f4 rfl rfl rfl rfl rfl rfl rfl ⟨rfl, rfl, rfl, rfl, rfl⟩ rfl rfl rfl rfl rfl (by kernel_rfl) Try.func4 (by kernel_rfl)
    (of_decide_eq_true (by kernel_rfl)) (by unfold Func.isWrapper; first | (rw [if_pos (by decide +kernel)]; kernel_rfl) | (rw [if_neg (by decide +kernel)]; exact ⟨rfl, rfl⟩))
    (fun os started H enc _ => Prog.strata_lifted os started H enc)
#print axioms progStrata_proved
end Go.Proofs.Ytgbacodellfacab
