/-
  What is proved: for every program, facts and atom: Match of package ask answers just what the document's own answers, errors too; no condition.
-/
import Derived.Test.YtlfccloaoopadafGreatG26
import Derived.Test.YtlfccloaoopadafGreatG29
import Derived.Test.YtlfccloaoopadafGreatG30
import Derived.Test.YtlfccloaoopadafGreatG31
import Derived.Test.YtlfccloaoopadafGreatG5
namespace Go.Proofs.YtlfccloaoopadafGreat.Ask
open Go.ChangeShapes Go.WideShapes Go.ChangeAt Go.RowKit
open Prog (progErr small)

set_option maxRecDepth 100000 in
set_option maxHeartbeats 8000000 in
theorem lawMatches_walk (w : World) (pv rv fv av : Value) (ps : List Prd) (rs : List Rul) (f : List Fct) (a : Atm) (hp : predsAt w pv ps) (hr : rulesAt w rv rs) (hn : small ps) (hf : factsAt w fv f) (ht : termsAt w av a.args) :
    Calls Tryz.prog 3 #[.agg #[pv, rv], fv, .agg #[.int .i64 a.pred, av]] w fun e w' => e = .returned (.bool true) ∧ Below w.heap.size w w' := by
  have HDM : Hid (∀ x, Below w.heap.size w x → Calls Tryz.prog 6 #[.agg #[pv, rv], fv, .agg #[.int .i64 a.pred, av]] x fun e w' => ∃ u, e = .returned (.tuple #[u, .int .i64 (matchErr ps rs f a)]) ∧ factsAt w' u (matchF ps rs f a) ∧ Below x.heap.size x w') := fun x hx => devMatch_c x pv rv fv av ps rs f a (predsAt.lasts hx hp) (rulesAt.lasts hx hr) (factsAt.lasts hx hf) (termsAt.lasts hx ht) hn
  have HRM : Hid (∀ x, Below w.heap.size w x → Calls Tryz.prog 7 #[.agg #[pv, rv], fv, .agg #[.int .i64 a.pred, av]] x fun e w' => ∃ u, e = .returned (.tuple #[u, .int .i64 (matchErr ps rs f a)]) ∧ factsAt w' u (matchF ps rs f a) ∧ Below x.heap.size x w') := fun x hx => matchOf_c x pv rv fv av ps rs f a (predsAt.lasts hx hp) (rulesAt.lasts hx hr) (factsAt.lasts hx hf) (termsAt.lasts hx ht) hn
  obtain ⟨pa, pc, rfl, _⟩ := hp
  obtain ⟨ra, rc, rfl, _⟩ := hr
  obtain ⟨fa, fc, rfl, _⟩ := hf
  obtain ⟨aa, ac, rfl, _⟩ := ht
  generalize matchF ps rs f a = M at *
  generalize matchErr ps rs f a = E at *
  obtain ⟨W1, hW1⟩ : ∃ W1, (w.alloc (.cells #[.slice pa ps.length pc, .slice ra rs.length rc] 25)).alloc (.cells #[.int .i64 a.pred, .slice aa a.args.length ac] 29) = W1 := ⟨_, rfl⟩
  have b1 : Below w.heap.size w W1 := by rw [← hW1]; exact ((Below.refl _ _).alloc (Nat.le_refl _) _).alloc (by simp) _
  have s1 : W1.heap.size = w.heap.size + 1 + 1 := by rw [← hW1]; simp
  have q0 : W1.cell? ⟨w.heap.size, 0, none⟩ = some (.slice pa ps.length pc) := by rw [← hW1]; simp [go_sem]
  have q1 : W1.cell? ⟨w.heap.size, 1, none⟩ = some (.slice ra rs.length rc) := by rw [← hW1]; simp [go_sem]
  have q2 : W1.cell? ⟨w.heap.size + 1, 0, none⟩ = some (.int .i64 a.pred) := by rw [← hW1]; simp [go_sem]
  have q3 : W1.cell? ⟨w.heap.size + 1, 1, none⟩ = some (.slice aa a.args.length ac) := by rw [← hW1]; simp [go_sem]
  have HQ : Hid (∀ x, Below W1.heap.size W1 x → x.cell? ⟨w.heap.size, 0, none⟩ = some (.slice pa ps.length pc) ∧ x.cell? ⟨w.heap.size, 1, none⟩ = some (.slice ra rs.length rc) ∧ x.cell? ⟨w.heap.size + 1, 0, none⟩ = some (.int .i64 a.pred) ∧ x.cell? ⟨w.heap.size + 1, 1, none⟩ = some (.slice aa a.args.length ac)) := fun x hx => ⟨(cell_lasts hx (by omega)).trans q0, (cell_lasts hx (by omega)).trans q1, (cell_lasts hx (by omega)).trans q2, (cell_lasts hx (by omega)).trans q3⟩
  go_enter Tryz.func3, Tryz.ntmps3
  go_wp2_with fail
  refine (HDM.out _ b1).mono ?_
  rintro e W2 ⟨u2, rfl, hs2, hb2⟩
  have k2 : Below w.heap.size w W2 := b1.trans (hb2.mono b1.size)
  have HS2 : Hid (∀ x, Below W2.heap.size W2 x → factsAt x u2 M) := fun x hx => factsAt.lasts hx hs2
  obtain ⟨ua, uc, rfl, _⟩ := hs2
  clear hW1 q0 q1 q2 q3
  obtain ⟨c0, c1, c2, c3⟩ := HQ.out W2 hb2
  go_wp2_with fail
  refine (HRM.out _ k2).mono ?_
  rintro e W3 ⟨u3, rfl, hs3, hb3⟩
  have k3 : Below w.heap.size w W3 := k2.trans (hb3.mono k2.size)
  have HS3 : Hid (∀ x, Below W3.heap.size W3 x → factsAt x u3 M) := fun x hx => factsAt.lasts hx hs3
  obtain ⟨va, vc, rfl, _⟩ := hs3
  clear c0 c1 c2 c3
  go_wp2_with fail
  refine (askBegun_c _).mono ?_
  rintro e W4 ⟨rfl, hb4⟩
  have k4 : Below w.heap.size w W4 := k3.trans (hb4.mono k3.size)
  have q24 : Below W2.heap.size W2 W4 := hb3.trans (hb4.mono hb3.size)
  have HSF : Hid (Calls Tryz.prog 9 #[.slice ua M.length uc, .slice va M.length vc] W4 fun e w' => e = .returned (.bool true) ∧ Below W4.heap.size W4 w') := by
    have h := Base.sameFacts_c W4 _ _ M M (HS2.out W4 q24) (HS3.out W4 hb4)
    rw [decide_eq_true rfl] at h
    exact h
  go_wp2_with fail
  refine HSF.out.mono ?_
  rintro e W5 ⟨rfl, hb5⟩
  go_wp2_with fail
  go_ret
  exact ⟨rfl, k4.trans (hb5.mono k4.size)⟩

set_option maxRecDepth 100000 in
theorem lawMatches_lifted (os : Os) (started : os.Started) (H : Type) (enc : TypeId × Value → H) :
    ReturnsInHanded {} Tryz.checked os 3 .any (Rows.askMatchesSpec.pre6 enc Tryz.prog Tryz.f3 Rows.askMatchesRow.domain false) (Rows.askMatchesSpec.post enc Tryz.prog Tryz.f3 false true false false) := by
  refine Kit.lifted_of (C := Tryz.checked) (t := 4) (by kernel_rfl) started (by kernel_rfl) Tryz.func3
    (ChangeSpec.witness6 (enc := enc) (C := Tryz.checked) false ⟨#[], #[.agg #[.slice none 0 0, .slice none 0 0], .slice none 0 0, .agg #[.int .i64 0, .slice none 0 0]], []⟩ 8 (by kernel_rfl) (by kernel_rfl) (by kernel_rfl) (by kernel_rfl))
    (by kernel_rfl) (by kernel_rfl) (by kernel_rfl) Tryz.underlying4 rfl ?_ ?_
  · intro ds hds
    rw [show Tryz.f3.params.toList.length = 3 by kernel_rfl] at hds
    match ds, hds with
    | [d0, d1, d2], _ => rfl
  · intro W base args ds ps hval0 hA0 hsz0
    have hval : ∀ (j : Nat) t v, Tryz.f3.params[j]? = some t → args[j]? = some v → Value.okWide Tryz.prog W .any base t v := hval0
    have hA : DataW.TrodAll enc Tryz.prog W 0 (fun _ => true) true Tryz.f3.params.toList args.toList ds ps := hA0
    have hsz : (DataW.weightsEach Tryz.prog (Tryz.f3.params.toList ++ []) (ds ++ [])).all (· ≤ reachBytes) = true := hsz0
    rw [Tryz.params3] at hA hval hsz
    obtain ⟨v0, vs0, d0, ds0, p0, q0, hargs, rfl, rfl, h0, r0⟩ := trodAll_cons hA
    obtain ⟨v1, vs1, d1, ds1, p1, q1, rfl, rfl, rfl, h1, r1⟩ := trodAll_cons r0
    obtain ⟨v2, vs2, d2, ds2, p2, q2, rfl, rfl, rfl, h2, r2⟩ := trodAll_cons r1
    obtain ⟨rfl, rfl, rfl⟩ := trodAll_nil r2
    obtain rfl : args = #[v0, v1, v2] := by cases args; simp_all
    have hL := Open.light_all hsz
    simp only [List.append_nil, DataW.weightsEach] at hL
    obtain ⟨n0, t0⟩ := Open.trod_one h0
    obtain ⟨n1, t1⟩ := Open.trod_one h1
    obtain ⟨n2, t2⟩ := Open.trod_one h2
    obtain ⟨pv, rv, ps, rs, e0, hp, hn, hr⟩ := Open.prog_of t0 (Open.light_left hL)
    obtain rfl := Open.agg_of Tryz.underlying25 (hval 0 25 v0 rfl rfl) e0
    obtain ⟨fv1, f1, e1, hf1, _⟩ := Open.facts_of t1 (Open.light_left (Open.light_right hL))
    obtain rfl := Open.slice_of Tryz.underlying26 (hval 1 26 v1 rfl rfl) e1
    obtain ⟨at0, av, e2, hat⟩ := Open.atom_of t2 (Open.light_right (Open.light_right hL))
    obtain rfl := Open.agg_of Tryz.underlying29 (hval 2 29 v2 rfl rfl) e2
    exact lawMatches_walk W pv rv _ av ps rs f1 at0 hp hr hn hf1 hat
end Go.Proofs.YtlfccloaoopadafGreat.Ask
namespace Go.Proofs.YtlfccloaoopadafGreat
/-- THE STATEMENT -/
theorem askMatches_proved : Rows.AskMatchesSaid :=
  OpenClaim.holds_of_wide 3 Tryz.f3 rfl rfl rfl rfl rfl rfl rfl ⟨rfl, rfl, rfl, rfl, rfl⟩ rfl rfl rfl rfl rfl (by kernel_rfl) Tryz.func3 (by kernel_rfl)
    (of_decide_eq_true (by kernel_rfl)) (by unfold Func.isWrapper; first | (rw [if_pos (by decide +kernel)]; kernel_rfl) | (rw [if_neg (by decide +kernel)]; exact ⟨rfl, rfl⟩))
    (fun os started H enc _ => Ask.lawMatches_lifted os started H enc)
#print axioms askMatches_proved
end Go.Proofs.YtlfccloaoopadafGreat
