/-
  RuleChecks answers true whatever it is handed: Atom and Check of package rule answer just what the document says.
-/
import Derived.Test.YtchmdijkmfilfaaKit
import Derived.Test.YtchmdijkmfilfaaRuleBegun
import Derived.Test.YtchmdijkmfilfaaOpen
namespace Go.Proofs.Ytchmdijkmfilfaa.Rule
open Go.ChangeShapes Go.WideShapes Go.ChangeAt Go.RowKit Go.Maps

set_option maxRecDepth 100000 in
set_option maxHeartbeats 4000000 in
theorem checks_walk (w : World) (pv sv hv bv : Value) (ps : List Prd) (p : Int) (ts : List Tm) (r : Rul) (hp : predsAt w pv ps) (ht : termsAt w sv ts) (hh : termsAt w hv r.head.args) (hb : litsAt w bv r.body) :
    Calls Try.prog 7 #[pv, .agg #[.int .i64 p, sv], .agg #[.int .i64 r.head.pred, hv, .int .i64 r.src, .int .i64 r.n, bv]] w fun e w' => e = .returned (.bool true) ∧ Below w.heap.size w w' := by
  have HP : Hid (∀ (w1 : World), Below w.heap.size w w1 → predsAt w1 pv ps) := fun w1 hb1 => predsAt.lasts hb1 hp
  have HT : Hid (∀ (w1 : World), Below w.heap.size w w1 → termsAt w1 sv ts) := fun w1 hb1 => termsAt.lasts hb1 ht
  have HH : Hid (∀ (w1 : World), Below w.heap.size w w1 → termsAt w1 hv r.head.args) := fun w1 hb1 => termsAt.lasts hb1 hh
  have HB : Hid (∀ (w1 : World), Below w.heap.size w w1 → litsAt w1 bv r.body) := fun w1 hb1 => litsAt.lasts hb1 hb
  obtain ⟨pa, pc, rfl, _⟩ := hp
  obtain ⟨ta, tc, rfl, _⟩ := ht
  obtain ⟨ha, hc, rfl, _⟩ := hh
  obtain ⟨ba, bc, rfl, _⟩ := hb
  go_enter Try.func7, Try.ntmps7
  go_wp2_with fail
  refine wp_name (fun W0 => Below w.heap.size w W0 ∧ w.heap.size < W0.heap.size ∧ w.heap.size + 1 < W0.heap.size ∧ W0.cell? ⟨w.heap.size, 0, none⟩ = some (.int .i64 p) ∧ W0.cell? ⟨w.heap.size, 1, none⟩ = some (.slice ta ts.length tc) ∧ W0.cell? ⟨w.heap.size + 1, 0, none⟩ = some (.int .i64 r.head.pred) ∧ W0.cell? ⟨w.heap.size + 1, 1, none⟩ = some (.slice ha r.head.args.length hc) ∧ W0.cell? ⟨w.heap.size + 1, 2, none⟩ = some (.int .i64 r.src) ∧ W0.cell? ⟨w.heap.size + 1, 3, none⟩ = some (.int .i64 r.n) ∧ W0.cell? ⟨w.heap.size + 1, 4, none⟩ = some (.slice ba r.body.length bc)) ⟨((Below.refl _ _).alloc (Nat.le_refl _) _).alloc (by simp) _, by simp; omega, by simp, by simp [go_sem], by simp [go_sem], by simp [go_sem], by simp [go_sem], by simp [go_sem], by simp [go_sem], by simp [go_sem]⟩ ?_
  rintro W0 ⟨kw0, s1, s2, d0, d1, d2, d3, d4, d5, d6⟩
  have KEEP : Hid (∀ w', Below W0.heap.size W0 w' → (fun w' => Below W0.heap.size W0 w' ∧ w'.cell? ⟨w.heap.size, 0, none⟩ = some (.int .i64 p) ∧ w'.cell? ⟨w.heap.size, 1, none⟩ = some (.slice ta ts.length tc) ∧ w'.cell? ⟨w.heap.size + 1, 0, none⟩ = some (.int .i64 r.head.pred) ∧ w'.cell? ⟨w.heap.size + 1, 1, none⟩ = some (.slice ha r.head.args.length hc) ∧ w'.cell? ⟨w.heap.size + 1, 2, none⟩ = some (.int .i64 r.src) ∧ w'.cell? ⟨w.heap.size + 1, 3, none⟩ = some (.int .i64 r.n) ∧ w'.cell? ⟨w.heap.size + 1, 4, none⟩ = some (.slice ba r.body.length bc)) w') := fun w' hq => ⟨hq, (cell_lasts hq s1).trans d0, (cell_lasts hq s1).trans d1, (cell_lasts hq s2).trans d2, (cell_lasts hq s2).trans d3, (cell_lasts hq s2).trans d4, (cell_lasts hq s2).trans d5, (cell_lasts hq s2).trans d6⟩
  go_region_held3 (fun w' => Below W0.heap.size W0 w' ∧ w'.cell? ⟨w.heap.size, 0, none⟩ = some (.int .i64 p) ∧ w'.cell? ⟨w.heap.size, 1, none⟩ = some (.slice ta ts.length tc) ∧ w'.cell? ⟨w.heap.size + 1, 0, none⟩ = some (.int .i64 r.head.pred) ∧ w'.cell? ⟨w.heap.size + 1, 1, none⟩ = some (.slice ha r.head.args.length hc) ∧ w'.cell? ⟨w.heap.size + 1, 2, none⟩ = some (.int .i64 r.src) ∧ w'.cell? ⟨w.heap.size + 1, 3, none⟩ = some (.int .i64 r.n) ∧ w'.cell? ⟨w.heap.size + 1, 4, none⟩ = some (.slice ba r.body.length bc))
    ((refine KEEP.out _ ?_; (first | exact Below.refl _ _ | exact (Below.refl _ _).drew | exact hk | exact hk.drew)))
    (first
      | (go_at_call 18; refine (ruleBegun_c _).mono ?_; rintro e w1 ⟨rfl, hb6⟩; have hk : Below W0.heap.size W0 w1 := Below.trans (by (first | exact Below.refl _ _ | exact (Below.refl _ _).drew | exact hk | exact hk.drew)) (hb6.mono (by first | exact Nat.le_refl _ | exact hk.size)); clear hb6)
      | (go_at_call 19; refine (atom_c _ _ _ ps p ts (HP.out _ (kw0.trans (Below.mono (by (first | exact Below.refl _ _ | exact (Below.refl _ _).drew | exact hk | exact hk.drew)) kw0.size))) (HT.out _ (kw0.trans (Below.mono (by (first | exact Below.refl _ _ | exact (Below.refl _ _).drew | exact hk | exact hk.drew)) kw0.size)))).mono ?_; rintro e w2 ⟨rfl, hb6⟩; have hk : Below W0.heap.size W0 w2 := Below.trans (by (first | exact Below.refl _ _ | exact (Below.refl _ _).drew | exact hk | exact hk.drew)) (hb6.mono (by first | exact Nat.le_refl _ | exact hk.size)); clear hb6)
      | (go_at_call 20; refine (checkAtom_c _ _ _ ps p ts (HP.out _ (kw0.trans (Below.mono (by (first | exact Below.refl _ _ | exact (Below.refl _ _).drew | exact hk | exact hk.drew)) kw0.size))) (HT.out _ (kw0.trans (Below.mono (by (first | exact Below.refl _ _ | exact (Below.refl _ _).drew | exact hk | exact hk.drew)) kw0.size)))).mono ?_; rintro e w3 ⟨rfl, hb6⟩; have hk : Below W0.heap.size W0 w3 := Below.trans (by (first | exact Below.refl _ _ | exact (Below.refl _ _).drew | exact hk | exact hk.drew)) (hb6.mono (by first | exact Nat.le_refl _ | exact hk.size)); clear hb6)
      | (go_at_call 21; refine (check_c _ _ ps r _ _ (HP.out _ (kw0.trans (Below.mono (by (first | exact Below.refl _ _ | exact (Below.refl _ _).drew | exact hk | exact hk.drew)) kw0.size))) (HH.out _ (kw0.trans (Below.mono (by (first | exact Below.refl _ _ | exact (Below.refl _ _).drew | exact hk | exact hk.drew)) kw0.size))) (HB.out _ (kw0.trans (Below.mono (by (first | exact Below.refl _ _ | exact (Below.refl _ _).drew | exact hk | exact hk.drew)) kw0.size)))).mono ?_; rintro e w4 ⟨rfl, hb6⟩; have hk : Below W0.heap.size W0 w4 := Below.trans (by (first | exact Below.refl _ _ | exact (Below.refl _ _).drew | exact hk | exact hk.drew)) (hb6.mono (by first | exact Nat.le_refl _ | exact hk.size)); clear hb6)
      | (go_at_call 22; refine (checkRule_c _ _ ps r _ _ (HP.out _ (kw0.trans (Below.mono (by (first | exact Below.refl _ _ | exact (Below.refl _ _).drew | exact hk | exact hk.drew)) kw0.size))) (HH.out _ (kw0.trans (Below.mono (by (first | exact Below.refl _ _ | exact (Below.refl _ _).drew | exact hk | exact hk.drew)) kw0.size))) (HB.out _ (kw0.trans (Below.mono (by (first | exact Below.refl _ _ | exact (Below.refl _ _).drew | exact hk | exact hk.drew)) kw0.size)))).mono ?_; rintro e w5 ⟨rfl, hb6⟩; have hk : Below W0.heap.size W0 w5 := Below.trans (by (first | exact Below.refl _ _ | exact (Below.refl _ _).drew | exact hk | exact hk.drew)) (hb6.mono (by first | exact Nat.le_refl _ | exact hk.size)); clear hb6))
  have hkz : Below w.heap.size w w5 := kw0.trans (hk.mono kw0.size)
  clear KEEP
  go_wp2_with fail
  go_ret
  exact ⟨rfl, hkz⟩

set_option maxRecDepth 100000 in
theorem checks_lifted (os : Os) (started : os.Started) (H : Type) (enc : TypeId × Value → H) :
    ReturnsInHanded {} Try.checked os 7 .any (Rows.ruleChecksSpec.pre6 enc Try.prog Try.f7 Rows.ruleChecksRow.domain false) (Rows.ruleChecksSpec.post enc Try.prog Try.f7 false true false false) := by
  refine Kit.lifted_of (C := Try.checked) (t := 4) (by kernel_rfl) started (by kernel_rfl) Try.func7
    (ChangeSpec.witness6 (enc := enc) (C := Try.checked) false ⟨#[], #[.slice none 0 0, .agg #[.int .i64 0, .slice none 0 0], .agg #[.int .i64 0, .slice none 0 0, .int .i64 0, .int .i64 0, .slice none 0 0]], []⟩ 8 (by kernel_rfl) (by kernel_rfl) (by kernel_rfl) (by kernel_rfl))
    (by kernel_rfl) (by kernel_rfl) (by kernel_rfl) Try.underlying4 rfl ?_ ?_
  · intro ds hds
    rw [show Try.f7.params.toList.length = 3 by kernel_rfl] at hds
    match ds, hds with
    | [d0, d1, d2], _ => rfl
  · intro W base args ds ps hval0 hA0 hsz0
    have hval : ∀ (j : Nat) t v, Try.f7.params[j]? = some t → args[j]? = some v → Value.okWide Try.prog W .any base t v := hval0
    have hA : DataW.TrodAll enc Try.prog W 0 (fun _ => true) true Try.f7.params.toList args.toList ds ps := hA0
    have hsz : (DataW.weightsEach Try.prog (Try.f7.params.toList ++ []) (ds ++ [])).all (· ≤ reachBytes) = true := hsz0
    rw [Try.params7] at hA hval hsz
    obtain ⟨v0, vs0, d0, ds0, p0, q0, hargs, rfl, rfl, h0, r0⟩ := trodAll_cons hA
    obtain ⟨v1, vs1, d1, ds1, p1, q1, rfl, rfl, rfl, h1, r1⟩ := trodAll_cons r0
    obtain ⟨v2, vs2, d2, ds2, p2, q2, rfl, rfl, rfl, h2, r2⟩ := trodAll_cons r1
    obtain ⟨rfl, rfl, rfl⟩ := trodAll_nil r2
    obtain rfl : args = #[v0, v1, v2] := by cases args; simp_all
    have hL := Open.light_all hsz
    simp only [List.append_nil, DataW.weightsEach] at hL
    obtain ⟨n0, t0⟩ := Open.trod_one h0
    obtain ⟨n1, t1⟩ := Open.trod_one h1
    obtain ⟨n2, t2⟩ := Open.trod_one h2
    obtain ⟨pv, ps, e0, hp⟩ := Open.preds_of t0 (Open.light_left hL)
    obtain ⟨a, sv, e1, ht⟩ := Open.atom_of t1 (Open.light_left (Open.light_right hL))
    obtain ⟨r, hv, bv, e2, hh, hb⟩ := Open.rule_of t2 (Open.light_right (Open.light_right hL))
    obtain rfl := Open.slice_of Try.underlying32 (hval 0 32 v0 rfl rfl) e0
    obtain rfl := Open.agg_of Try.underlying35 (hval 1 35 v1 rfl rfl) e1
    obtain rfl := Open.agg_of Try.underlying38 (hval 2 38 v2 rfl rfl) e2
    exact checks_walk W v0 sv hv bv ps a.pred a.args r hp ht hh hb

end Go.Proofs.Ytchmdijkmfilfaa.Rule
namespace Go.Proofs.Ytchmdijkmfilfaa
/-- THE STATEMENT -/
theorem ruleChecks_proved : Rows.RuleChecksSaid :=
  OpenClaim.holds_of_wide 7 Try.f7 rfl rfl rfl rfl rfl rfl rfl ⟨rfl, rfl, rfl, rfl, rfl⟩ rfl rfl rfl rfl rfl (by kernel_rfl) Try.func7 (by kernel_rfl)
    (of_decide_eq_true (by kernel_rfl)) (by unfold Func.isWrapper; first | (rw [if_pos (by decide +kernel)]; kernel_rfl) | (rw [if_neg (by decide +kernel)]; exact ⟨rfl, rfl⟩))
    (fun os started H enc _ => Rule.checks_lifted os started H enc)
#print axioms ruleChecks_proved
end Go.Proofs.Ytchmdijkmfilfaa
