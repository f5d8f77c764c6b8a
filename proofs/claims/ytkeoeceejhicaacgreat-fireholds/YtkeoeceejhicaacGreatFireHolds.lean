/-
  What is proved: fire.Holds answers just what the document's own 'HoldsOf' answers, errors too, for every program, every list of facts, every number and whatever the variables stand for; no condition.
-/
import Derived.Test.YtkeoeceejhicaacGreatG22
import Derived.Test.YtkeoeceejhicaacGreatG25
import Derived.Test.YtkeoeceejhicaacGreatG26
import Derived.Test.YtkeoeceejhicaacGreatG27
namespace Go.Proofs.YtkeoeceejhicaacGreat.Fire
open Go.ChangeShapes Go.WideShapes Go.ChangeAt Go.RowKit
open Rule (Vars)
open Prog (small)

set_option maxRecDepth 100000 in
set_option maxHeartbeats 4000000 in
theorem lawHolds_walk (w : World) (pv rv fv : Value) (ps : List Prd) (rs : List Rul) (f : List Fct) (n : Int) (v : Vars) (hp : predsAt w pv ps) (hr : rulesAt w rv rs) (hf : factsAt w fv f) (hn : small ps) :
    Calls Tryz.prog 3 #[.agg #[pv, rv], fv, .int .i64 n, .agg #[.int .i64 v.x, .int .i64 v.y, .int .i64 v.z]] w fun e w' => e = .returned (.bool true) ∧ Below w.heap.size w w' := by
  have HH : Hid (∀ x, Below w.heap.size w x → Calls Tryz.prog 8 #[.agg #[pv, rv], fv, .int .i64 n, .agg #[.int .i64 v.x, .int .i64 v.y, .int .i64 v.z]] x fun e w' => e = .returned (.tuple #[.bool (holdsOk ps rs f n v), .agg #[.int .i64 (holdsFact ps rs f n v).pred, .int .i64 (holdsFact ps rs f n v).a, .int .i64 (holdsFact ps rs f n v).b, .int .i64 (holdsFact ps rs f n v).val], .int .i64 (holdsErr ps rs f n v)]) ∧ Below x.heap.size x w') := fun x hx => devHolds_c x pv rv fv ps rs f n v (predsAt.lasts hx hp) (rulesAt.lasts hx hr) (factsAt.lasts hx hf) hn
  have HO : Hid (∀ x, Below w.heap.size w x → Calls Tryz.prog 9 #[.agg #[pv, rv], fv, .int .i64 n, .agg #[.int .i64 v.x, .int .i64 v.y, .int .i64 v.z]] x fun e w' => e = .returned (.tuple #[.bool (holdsOk ps rs f n v), .agg #[.int .i64 (holdsFact ps rs f n v).pred, .int .i64 (holdsFact ps rs f n v).a, .int .i64 (holdsFact ps rs f n v).b, .int .i64 (holdsFact ps rs f n v).val], .int .i64 (holdsErr ps rs f n v)]) ∧ Below x.heap.size x w') := fun x hx => holdsOf_c x pv rv fv ps rs f n v (predsAt.lasts hx hp) (rulesAt.lasts hx hr) (factsAt.lasts hx hf) hn
  obtain ⟨pa, pc, rfl, _⟩ := hp
  obtain ⟨ra, rc, rfl, _⟩ := hr
  obtain ⟨fa, fc, rfl, _⟩ := hf
  generalize holdsOk ps rs f n v = ok at *
  generalize holdsFact ps rs f n v = x at *
  generalize holdsErr ps rs f n v = er at *
  obtain ⟨W1, hW1⟩ : ∃ W1, (w.alloc (.cells #[.slice pa ps.length pc, .slice ra rs.length rc] 25)).alloc (.cells #[.int .i64 v.x, .int .i64 v.y, .int .i64 v.z] 27) = W1 := ⟨_, rfl⟩
  have b1 : Below w.heap.size w W1 := by rw [← hW1]; exact ((Below.refl _ _).alloc (Nat.le_refl _) _).alloc (by simp) _
  have s1 : W1.heap.size = w.heap.size + 1 + 1 := by rw [← hW1]; simp
  have KC : Hid (∀ x, Below W1.heap.size W1 x → x.cell? ⟨w.heap.size, 0, none⟩ = some (.slice pa ps.length pc) ∧ x.cell? ⟨w.heap.size, 1, none⟩ = some (.slice ra rs.length rc) ∧ x.cell? ⟨w.heap.size + 1, 0, none⟩ = some (.int .i64 v.x) ∧ x.cell? ⟨w.heap.size + 1, 1, none⟩ = some (.int .i64 v.y) ∧ x.cell? ⟨w.heap.size + 1, 2, none⟩ = some (.int .i64 v.z)) := fun x hx => by
    refine ⟨(cell_lasts hx (by omega)).trans ?_, (cell_lasts hx (by omega)).trans ?_, (cell_lasts hx (by omega)).trans ?_, (cell_lasts hx (by omega)).trans ?_, (cell_lasts hx (by omega)).trans ?_⟩
    all_goals rw [← hW1]; simp [go_sem]
  obtain ⟨c0, c1, c2, c3, c4⟩ := KC.out _ (Below.refl _ _)
  go_enter Tryz.func3, Tryz.ntmps3
  go_wp2_with fail
  refine (HH.out _ b1).mono ?_
  rintro e W2 ⟨rfl, hb2⟩
  clear hW1 c0 c1 c2 c3 c4
  obtain ⟨W3, hW3⟩ : ∃ W3, W2.alloc (.cells #[.int .i64 x.pred, .int .i64 x.a, .int .i64 x.b, .int .i64 x.val] 29) = W3 := ⟨_, rfl⟩
  have b13 : Below W1.heap.size W1 W3 := by rw [← hW3]; exact hb2.alloc hb2.size _
  have k3 : Below w.heap.size w W3 := b1.trans (b13.mono b1.size)
  have s3 : W3.heap.size = W2.heap.size + 1 := by rw [← hW3]; simp
  have KX : Hid (∀ y, Below W3.heap.size W3 y → y.cell? ⟨W2.heap.size, 0, none⟩ = some (.int .i64 x.pred) ∧ y.cell? ⟨W2.heap.size, 1, none⟩ = some (.int .i64 x.a) ∧ y.cell? ⟨W2.heap.size, 2, none⟩ = some (.int .i64 x.b) ∧ y.cell? ⟨W2.heap.size, 3, none⟩ = some (.int .i64 x.val)) := fun y hy => by
    refine ⟨(cell_lasts hy (by omega)).trans ?_, (cell_lasts hy (by omega)).trans ?_, (cell_lasts hy (by omega)).trans ?_, (cell_lasts hy (by omega)).trans ?_⟩
    all_goals rw [← hW3]; simp [go_sem]
  obtain ⟨c0, c1, c2, c3, c4⟩ := KC.out _ b13
  go_wp2_with fail
  refine (HO.out _ k3).mono ?_
  rintro e W4 ⟨rfl, hb4⟩
  clear hW3 c0 c1 c2 c3 c4 HH HO
  go_wp2_with fail
  obtain ⟨W5, hW5⟩ : ∃ W5, W4.alloc (.cells #[.int .i64 x.pred, .int .i64 x.a, .int .i64 x.b, .int .i64 x.val] 29) = W5 := ⟨_, rfl⟩
  have b35 : Below W3.heap.size W3 W5 := by rw [← hW5]; exact hb4.alloc hb4.size _
  have s5 : W5.heap.size = W4.heap.size + 1 := by rw [← hW5]; simp
  have KY : Hid (∀ y, Below W5.heap.size W5 y → y.cell? ⟨W4.heap.size, 0, none⟩ = some (.int .i64 x.pred) ∧ y.cell? ⟨W4.heap.size, 1, none⟩ = some (.int .i64 x.a) ∧ y.cell? ⟨W4.heap.size, 2, none⟩ = some (.int .i64 x.b) ∧ y.cell? ⟨W4.heap.size, 3, none⟩ = some (.int .i64 x.val)) := fun y hy => by
    refine ⟨(cell_lasts hy (by omega)).trans ?_, (cell_lasts hy (by omega)).trans ?_, (cell_lasts hy (by omega)).trans ?_, (cell_lasts hy (by omega)).trans ?_⟩
    all_goals rw [← hW5]; simp [go_sem]
  rw [hW5]
  clear hW5
  refine (fireBegun_c _).mono ?_
  rintro e W6 ⟨rfl, hb6⟩
  have k6 : Below w.heap.size w W6 := k3.trans ((b35.trans (hb6.mono b35.size)).mono k3.size)
  obtain ⟨x0, x1, x2, x3⟩ := KX.out _ (b35.trans (hb6.mono b35.size))
  obtain ⟨y0, y1, y2, y3⟩ := KY.out _ hb6
  clear KX KY hb6 hb4 hb2
  go_wp2_with fail
  go_ret
  refine ⟨?_, k6⟩
  simp

set_option maxRecDepth 100000 in
theorem lawHolds_lifted (os : Os) (started : os.Started) (H : Type) (enc : TypeId × Value → H) :
    ReturnsInHanded {} Tryz.checked os 3 .any (Rows.fireHoldsSpec.pre6 enc Tryz.prog Tryz.f3 Rows.fireHoldsRow.domain false) (Rows.fireHoldsSpec.post enc Tryz.prog Tryz.f3 false true false false) := by
  refine Kit.lifted_of (C := Tryz.checked) (t := 4) (by kernel_rfl) started (by kernel_rfl) Tryz.func3
    (ChangeSpec.witness6 (enc := enc) (C := Tryz.checked) false ⟨#[], #[.agg #[.slice none 0 0, .slice none 0 0], .slice none 0 0, .int .i64 0, .agg #[.int .i64 0, .int .i64 0, .int .i64 0]], []⟩ 8 (by kernel_rfl) (by kernel_rfl) (by kernel_rfl) (by kernel_rfl))
    (by kernel_rfl) (by kernel_rfl) (by kernel_rfl) Tryz.underlying4 rfl ?_ ?_
  · intro ds hds
    rw [show Tryz.f3.params.toList.length = 4 by kernel_rfl] at hds
    match ds, hds with
    | [d0, d1, d2, d3], _ => rfl
  · intro W base args ds ps hval0 hA0 hsz0
    have hval : ∀ (j : Nat) t v, Tryz.f3.params[j]? = some t → args[j]? = some v → Value.okWide Tryz.prog W .any base t v := hval0
    have hA : DataW.TrodAll enc Tryz.prog W 0 (fun _ => true) true Tryz.f3.params.toList args.toList ds ps := hA0
    have hsz : (DataW.weightsEach Tryz.prog (Tryz.f3.params.toList ++ []) (ds ++ [])).all (· ≤ reachBytes) = true := hsz0
    rw [Tryz.params3] at hA hval hsz
    obtain ⟨v0, vs0, d0, ds0, p0, q0, hargs, rfl, rfl, h0, r0⟩ := trodAll_cons hA
    obtain ⟨v1, vs1, d1, ds1, p1, q1, rfl, rfl, rfl, h1, r1⟩ := trodAll_cons r0
    obtain ⟨v2, vs2, d2, ds2, p2, q2, rfl, rfl, rfl, h2, r2⟩ := trodAll_cons r1
    obtain ⟨v3, vs3, d3, ds3, p3, q3, rfl, rfl, rfl, h3, r3⟩ := trodAll_cons r2
    obtain ⟨rfl, rfl, rfl⟩ := trodAll_nil r3
    obtain rfl : args = #[v0, v1, v2, v3] := by cases args; simp_all
    have hL := Open.light_all hsz
    simp only [List.append_nil, DataW.weightsEach] at hL
    obtain ⟨n0, t0⟩ := Open.trod_one h0
    obtain ⟨n1, t1⟩ := Open.trod_one h1
    obtain ⟨n2, t2⟩ := Open.trod_one h2
    obtain ⟨n3, t3⟩ := Open.trod_one h3
    obtain ⟨pv, rv, ps, rs, e0, hp, hn, hr⟩ := Open.prog_of t0 (Open.light_left hL)
    obtain rfl := Open.agg_of Tryz.underlying25 (hval 0 25 v0 rfl rfl) e0
    obtain ⟨fv1, f1, e1, hf1, _⟩ := Open.facts_of t1 (Open.light_left (Open.light_right hL))
    obtain rfl := Open.slice_of Tryz.underlying26 (hval 1 26 v1 rfl rfl) e1
    obtain ⟨x2, e2, _⟩ := DataW.trod_int Tryz.underlying3 t2
    obtain rfl := Open.int_of Tryz.underlying3 (hval 2 3 v2 rfl rfl) e2
    obtain ⟨x, y, z, e3⟩ := Open.vars_of t3
    obtain rfl := Open.arr_of Tryz.underlying27 (hval 3 27 v3 rfl rfl) e3
    exact lawHolds_walk W pv rv v1 ps rs f1 x2 ⟨x, y, z⟩ hp hr hf1 hn
end Go.Proofs.YtkeoeceejhicaacGreat.Fire
namespace Go.Proofs.YtkeoeceejhicaacGreat
/-- THE STATEMENT -/
theorem fireHolds_proved : Rows.FireHoldsSaid :=
  OpenClaim.holds_of_wide 3 Tryz.f3 rfl rfl rfl rfl rfl rfl rfl ⟨rfl, rfl, rfl, rfl, rfl⟩ rfl rfl rfl rfl rfl (by kernel_rfl) Tryz.func3 (by kernel_rfl)
    (of_decide_eq_true (by kernel_rfl)) (by unfold Func.isWrapper; first | (rw [if_pos (by decide +kernel)]; kernel_rfl) | (rw [if_neg (by decide +kernel)]; exact ⟨rfl, rfl⟩))
    (fun os started H enc _ => Fire.lawHolds_lifted os started H enc)
#print axioms fireHolds_proved
end Go.Proofs.YtkeoeceejhicaacGreat
