/-
  What is proved: prog.Check and prog.Name answer just what the document's own check of programs and of names answers, for every program and every string; no condition.
-/
import Derived.Test.YtgbacodellfacabProgBegun
import Derived.Test.YtgbacodellfacabOpen3
import Derived.Test.YtgbacodellfacabKit
namespace Go.Proofs.Ytgbacodellfacab.Prog
open Go.ChangeShapes Go.WideShapes Go.ChangeAt Go.RowKit

set_option maxRecDepth 100000 in
set_option maxHeartbeats 4000000 in
theorem checks_walk (w : World) (pv rv : Value) (ps : List Prd) (rs : List Rul) (s : ByteArray) (hp : predsAt w pv ps) (hr : rulesAt w rv rs) (hn : small ps) (hs : s.size ≤ 9223372036854775807) :
    Calls Try.prog 3 #[.agg #[pv, rv], .string s] w fun e w' => e = .returned (.bool true) ∧ Below w.heap.size w w' := by
  have HP : Hid (predsAt w pv ps) := hp
  have HR : Hid (rulesAt w rv rs) := hr
  obtain ⟨pa, pc, rfl, hpm, hpx⟩ := hp
  obtain ⟨ra, rc, rfl, hrm, hrx⟩ := hr
  clear hpx hrx
  go_enter Try.func3, Try.ntmps3
  go_wp2_with fail
  refine wp_name (fun W0 => Below w.heap.size w W0 ∧ w.heap.size < W0.heap.size ∧ W0.cell? ⟨w.heap.size, 0, none⟩ = some (.slice pa ps.length pc) ∧ W0.cell? ⟨w.heap.size, 1, none⟩ = some (.slice ra rs.length rc)) ⟨below_alloc _ _, by simp, by simp [go_sem], by simp [go_sem]⟩ ?_
  rintro W0 ⟨hk0, hs0, c0, c1⟩
  have L0 : ∀ x : Low W0.heap.size W0, x.wd.cell? ⟨w.heap.size, 0, none⟩ = some (.slice pa ps.length pc) := fun x => (cell_lasts x.low hs0).trans c0
  have L1 : ∀ x : Low W0.heap.size W0, x.wd.cell? ⟨w.heap.size, 1, none⟩ = some (.slice ra rs.length rc) := fun x => (cell_lasts x.low hs0).trans c1
  have HPL : Hid (∀ x : Low W0.heap.size W0, predsAt x.wd (.slice pa ps.length pc) ps) := fun x => predsAt.lasts (hk0.trans (x.low.mono hk0.size)) HP.out
  have HRL : Hid (∀ x : Low W0.heap.size W0, rulesAt x.wd (.slice ra rs.length rc) rs) := fun x => rulesAt.lasts (hk0.trans (x.low.mono hk0.size)) HR.out
  refine wp_region_low W0.heap.size (by kernel_rfl) (by kernel_rfl) ?_
  repeat (go_big_quiet_step (first
    | (go_at_call 9; exact low_of (progBegun_c _))
    | (go_at_call 10; exact low_of (devCheck_c _ _ _ ps rs (HPL.out _) (HRL.out _) hn))
    | (go_at_call 11; exact low_of (checkProg_c _ _ _ ps rs (HPL.out _) (HRL.out _) hn))
    | (go_at_call 12; exact low_of (name_c _ _ hs))
    | (go_at_call 13; exact low_of (isName_c _ _ hs))))
  refine wpQuiet_nil ?_
  rintro _ ⟨⟨w1, hk⟩, rfl⟩
  clear L0 L1
  go_wp2_with fail
  go_ret
  exact ⟨rfl, hk0.trans (hk.mono hk0.size)⟩

set_option maxRecDepth 100000 in
theorem checks_lifted (os : Os) (started : os.Started) (H : Type) (enc : TypeId × Value → H) :
    ReturnsInHanded {} Try.checked os 3 .any (Rows.progChecksSpec.pre6 enc Try.prog Try.f3 Rows.progChecksRow.domain false) (Rows.progChecksSpec.post enc Try.prog Try.f3 false true false false) := by
  refine Kit.lifted_of (C := Try.checked) (t := 4) (by kernel_rfl) started (by kernel_rfl) Try.func3
    (ChangeSpec.witness6 (enc := enc) (C := Try.checked) false ⟨#[], #[.agg #[.slice none 0 0, .slice none 0 0], .string ByteArray.empty], []⟩ 8 (by kernel_rfl) (by kernel_rfl) (by kernel_rfl) (by kernel_rfl))
    (by kernel_rfl) (by kernel_rfl) (by kernel_rfl) Try.underlying4 rfl ?_ ?_
  · intro ds hds
    rw [show Try.f3.params.toList.length = 2 by kernel_rfl] at hds
    match ds, hds with
    | [d0, d1], _ => rfl
  · intro W base args ds ps hval0 hA0 hsz0
    have hval : ∀ (j : Nat) t v, Try.f3.params[j]? = some t → args[j]? = some v → Value.okWide Try.prog W .any base t v := hval0
    have hA : DataW.TrodAll enc Try.prog W 0 (fun _ => true) true Try.f3.params.toList args.toList ds ps := hA0
    have hsz : (DataW.weightsEach Try.prog (Try.f3.params.toList ++ []) (ds ++ [])).all (· ≤ reachBytes) = true := hsz0
    rw [Try.params3] at hA hval hsz
    obtain ⟨v0, vs0, d0, ds0, p0, q0, hargs, rfl, rfl, h0, r0⟩ := trodAll_cons hA
    obtain ⟨v1, vs1, d1, ds1, p1, q1, rfl, rfl, rfl, h1, r1⟩ := trodAll_cons r0
    obtain ⟨rfl, rfl, rfl⟩ := trodAll_nil r1
    obtain rfl : args = #[v0, v1] := by cases args; simp_all
    have hL := Open.light_all hsz
    simp only [List.append_nil, DataW.weightsEach] at hL
    obtain ⟨n0, t0⟩ := Open.trod_one h0
    obtain ⟨n1, t1⟩ := Open.trod_one h1
    obtain ⟨pv, rv, ps, rs, e0, hp, hn, hr⟩ := Open.prog_of t0 (Open.light_left hL)
    obtain ⟨s, e1, _, hs⟩ := DataW.trod_string Try.underlying9 t1
    obtain rfl := Open.agg_of Try.underlying25 (hval 0 25 v0 rfl rfl) e0
    obtain rfl := Open.string_of Try.underlying9 (hval 1 9 v1 rfl rfl) e1
    exact checks_walk W pv rv ps rs s hp hr hn (by unfold maxLen at hs; exact hs)
end Go.Proofs.Ytgbacodellfacab.Prog
namespace Go.Proofs.Ytgbacodellfacab
/-- THE STATEMENT -/
theorem progChecks_proved : Rows.ProgChecksSaid :=
  OpenClaim.holds_of_wide 3 Try.f3 rfl rfl rfl rfl rfl rfl rfl ⟨rfl, rfl, rfl, rfl, rfl⟩ rfl rfl rfl rfl rfl (by kernel_rfl) Try.func3 (by kernel_rfl)
    (of_decide_eq_true (by kernel_rfl)) (by unfold Func.isWrapper; first | (rw [if_pos (by decide +kernel)]; kernel_rfl) | (rw [if_neg (by decide +kernel)]; exact ⟨rfl, rfl⟩))
    (fun os started H enc _ => Prog.checks_lifted os started H enc)
#print axioms progChecks_proved
end Go.Proofs.Ytgbacodellfacab
