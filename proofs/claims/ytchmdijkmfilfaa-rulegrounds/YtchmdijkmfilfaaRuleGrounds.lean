/-
  RuleGrounds answers true whatever it is handed: Ground of package rule answers just what the document says, errors too; and what it tells is a fact, if the atom is one.
-/
import Derived.Test.YtchmdijkmfilfaaKit
import Derived.Test.YtchmdijkmfilfaaRuleBegun
import Derived.Test.YtchmdijkmfilfaaFine
import Derived.Test.YtchmdijkmfilfaaOpen
namespace Go.Proofs.Ytchmdijkmfilfaa.Rule
open Go.ChangeShapes Go.WideShapes Go.ChangeAt Go.RowKit Go.Maps
open Lat (within within_c)

theorem arg_within {v : Vars} {ts : List Tm} (h : ts.all (groundOk v) = true) (i : Nat) : within (argAt v ts i) 0 4 = true := by
  unfold argAt
  cases hi : ts[i]? with
  | none => rfl
  | some t =>
    have := List.all_eq_true.1 h t (List.mem_of_getElem? hi)
    simp only [groundOk, Bool.and_eq_true] at this
    exact this.2
theorem arg_none {v : Vars} {ts : List Tm} {i : Nat} (h : ts.length ≤ i) : argAt v ts i = 0 := by
  unfold argAt
  rw [List.getElem?_eq_none h]
  rfl
theorem within_iff {n : Int} : within n 0 4 = true ↔ 0 ≤ n ∧ n ≤ 4 := by simp [within]
theorem atomErr_ok {ps : List Prd} {p : Int} {ts : List Tm} (h : atomErr ps ⟨p, ts⟩ = 0) : isPred ps p = true ∧ (ts.length : Int) = arityOf ps p := by
  unfold atomErr at h
  split at h
  · rename_i h1
    split at h
    · exact ⟨h1, by assumption⟩
    · cases h
  · cases h
theorem fine_ground {ps : List Prd} {p : Int} {ts : List Tm} {v : Vars} (hg : groundErr v ts = 0) (ha : atomErr ps ⟨p, ts⟩ = 0) (hk : kindOf ps p = 0) : factFine ps ⟨p, argAt v ts 0, argAt v ts 1, 0⟩ = true := by
  obtain ⟨h2, hall⟩ := groundErr_ok hg
  obtain ⟨h1, har⟩ := atomErr_ok ha
  have e1 : (decide (1 ≤ arityOf ps p) || argAt v ts 0 == 0) = true := by
    by_cases h : 1 ≤ ts.length
    · simp; left; omega
    · rw [arg_none (i := 0) (by omega)]; simp
  have e2 : (decide (2 ≤ arityOf ps p) || argAt v ts 1 == 0) = true := by
    by_cases h : 2 ≤ ts.length
    · simp; left; omega
    · rw [arg_none (i := 1) (by omega)]; simp
  simp only [factFine, h1, arg_within hall, hk, e1, e2, Bool.true_and]
  rfl

set_option maxRecDepth 100000 in
set_option maxHeartbeats 4000000 in
theorem grounds_walk (w : World) (pv sv : Value) (ps : List Prd) (p : Int) (ts : List Tm) (v : Vars) (hp : predsAt w pv ps) (ht : termsAt w sv ts) :
    Calls Try.prog 8 #[pv, .agg #[.int .i64 p, sv], .agg #[.int .i64 v.x, .int .i64 v.y, .int .i64 v.z]] w fun e w' => e = .returned (.bool true) ∧ Below w.heap.size w w' := by
  have HP : Hid (∀ (w1 : World), Below w.heap.size w w1 → predsAt w1 pv ps) := fun w1 hb1 => predsAt.lasts hb1 hp
  have HT : Hid (∀ (w1 : World), Below w.heap.size w w1 → termsAt w1 sv ts) := fun w1 hb1 => termsAt.lasts hb1 ht
  obtain ⟨pa, pc, rfl, hpm, hpx⟩ := hp
  obtain ⟨ta, tc, rfl, _⟩ := ht
  have HPX : Hid (ps = [] ∨ ∃ b off, pa = some ⟨b, off, none⟩ ∧ b < w.heap.size ∧ ∀ i x, ps[i]? = some x → predAt w b (off + i * 3) x) := hpx
  clear hpx
  go_enter Try.func8, Try.ntmps8
  go_wp2_with fail
  refine (ground_c _ _ p ts v (HT.out _ (by exact ((Below.refl _ _).alloc (Nat.le_refl _) _).alloc (by simp) _))).mono ?_
  rintro e w1 ⟨rfl, hb1⟩
  have k1 : Below w.heap.size w w1 := Below.trans (((Below.refl _ _).alloc (Nat.le_refl _) _).alloc (by simp) _) (hb1.mono (by simp; omega))
  have a0 : w1.cell? ⟨w.heap.size, 0, none⟩ = some (.int .i64 p) := by rw [hb1.cell (p := ⟨w.heap.size, 0, none⟩) (by simp; omega)]; simp [go_sem]
  have a1 : w1.cell? ⟨w.heap.size, 1, none⟩ = some (.slice ta ts.length tc) := by rw [hb1.cell (p := ⟨w.heap.size, 1, none⟩) (by simp; omega)]; simp [go_sem]
  have v0 : w1.cell? ⟨w.heap.size + 1, 0, none⟩ = some (.int .i64 v.x) := by rw [hb1.cell (p := ⟨w.heap.size + 1, 0, none⟩) (by simp)]; simp [go_sem]
  have v1 : w1.cell? ⟨w.heap.size + 1, 1, none⟩ = some (.int .i64 v.y) := by rw [hb1.cell (p := ⟨w.heap.size + 1, 1, none⟩) (by simp)]; simp [go_sem]
  have v2 : w1.cell? ⟨w.heap.size + 1, 2, none⟩ = some (.int .i64 v.z) := by rw [hb1.cell (p := ⟨w.heap.size + 1, 2, none⟩) (by simp)]; simp [go_sem]
  have z1 : w.heap.size + 1 < w1.heap.size := by have := hb1.size; simp at this; omega
  have z0 : w.heap.size < w1.heap.size := by omega
  clear hb1
  go_wp2_with fail
  refine (groundOf_c _ _ p ts v (HT.out _ (k1.alloc k1.size _))).mono ?_
  rintro e w2 ⟨rfl, hb2⟩
  have k2 : Below w.heap.size w w2 := (k1.alloc k1.size _).trans (hb2.mono (by have := k1.size; simp; omega))
  have kw : Below w1.heap.size w1 w2 := below_trans (below_alloc _ _) hb2
  have x0 : w2.cell? ⟨w1.heap.size, 0, none⟩ = some (.int .i64 (groundOf v p ts).pred) := by rw [hb2.cell (p := ⟨w1.heap.size, 0, none⟩) (by simp)]; simp [go_sem]
  have x1 : w2.cell? ⟨w1.heap.size, 1, none⟩ = some (.int .i64 (groundOf v p ts).a) := by rw [hb2.cell (p := ⟨w1.heap.size, 1, none⟩) (by simp)]; simp [go_sem]
  have x2 : w2.cell? ⟨w1.heap.size, 2, none⟩ = some (.int .i64 (groundOf v p ts).b) := by rw [hb2.cell (p := ⟨w1.heap.size, 2, none⟩) (by simp)]; simp [go_sem]
  have x3 : w2.cell? ⟨w1.heap.size, 3, none⟩ = some (.int .i64 (groundOf v p ts).val) := by rw [hb2.cell (p := ⟨w1.heap.size, 3, none⟩) (by simp)]; simp [go_sem]
  have b0 := (cell_lasts kw z0).trans a0
  have b1 := (cell_lasts kw z0).trans a1
  have z2 : w1.heap.size < w2.heap.size := by have := hb2.size; simp at this; omega
  have z3 : w.heap.size < w2.heap.size := by omega
  clear a0 a1 v0 v1 v2 hb2 kw
  by_cases hg : groundErr v ts = 0
  · go_wp2_with fail
    refine (kinds_c _ _ ps (HP.out _ (k2.alloc k2.size _))).mono ?_
    rintro e w3 ⟨rfl, hw3⟩
    have k3 : Below w.heap.size w w3 := by rw [hw3]; exact k2.alloc k2.size _
    have kx : Below w2.heap.size w2 w3 := by rw [hw3]; exact below_alloc _ _
    have c0 := (cell_lasts kx z3).trans b0
    have c1 := (cell_lasts kx z3).trans b1
    have y0 := (cell_lasts kx z2).trans x0
    have y1 := (cell_lasts kx z2).trans x1
    have y2 := (cell_lasts kx z2).trans x2
    have y3 := (cell_lasts kx z2).trans x3
    have z4 : w.heap.size < w3.heap.size := by have := kx.size; omega
    have z5 : w1.heap.size < w3.heap.size := by have := kx.size; omega
    clear hw3 kx b0 b1 x0 x1 x2 x3
    cases hki : kindsOk ps
    · go_wp2_with fail
      refine (ruleBegun_c _).mono ?_
      rintro e w4 ⟨rfl, hb4⟩
      go_wp2_with fail
      go_ret
      exact ⟨rfl, k3.trans (hb4.mono k3.size)⟩
    · go_wp2_with fail
      refine (checkAtom_c _ _ _ ps p ts (HP.out _ k3) (HT.out _ k3)).mono ?_
      rintro e w4 ⟨rfl, hb4⟩
      have k4 : Below w.heap.size w w4 := k3.trans (hb4.mono k3.size)
      have d0 := (cell_lasts hb4 z4).trans c0
      have u0 := (cell_lasts hb4 z5).trans y0
      have u1 := (cell_lasts hb4 z5).trans y1
      have u2 := (cell_lasts hb4 z5).trans y2
      have u3 := (cell_lasts hb4 z5).trans y3
      have z6 : w1.heap.size < w4.heap.size := by have := hb4.size; omega
      clear c0 c1 y0 y1 y2 y3 hb4
      by_cases hat : atomErr ps ⟨p, ts⟩ = 0
      · obtain ⟨m, hm, hpm'⟩ := isPred_iff.1 (atomErr_ok hat).1
        obtain ⟨b, off, rfl, hbl, hpx⟩ := HPX.out.resolve_left (by rintro rfl; simp at hm)
        obtain ⟨_, _, hc2⟩ := predAt.lasts w w4 b _ _ k4 hbl (hpx m ps[m] (by simp [hm]))
        have hkd : kindOf ps p = ps[m].kind := by rw [hpm']; simp [kindOf, hm]
        have HG : Hid (groundOf v p ts = ⟨p, argAt v ts 0, argAt v ts 1, 0⟩) := by show _ = _; rw [groundOf, if_pos hg]; rfl
        rw [HG.out] at u0 u1 u2 u3
        have hall := (groundErr_ok hg).2
        obtain ⟨w0, w0'⟩ := within_iff.1 (arg_within hall 0)
        obtain ⟨w1', w1''⟩ := within_iff.1 (arg_within hall 1)
        have HF : Hid (kindOf ps p = 0 → factFine ps ⟨p, argAt v ts 0, argAt v ts 1, 0⟩ = true) := fine_ground hg hat
        rw [hpm'] at d0
        clear hpx HPX hall
        by_cases h0 : ps[m].kind = 0
        · have hff : factFine ps ⟨p, argAt v ts 0, argAt v ts 1, 0⟩ = true := HF.out (hkd.trans h0)
          have h0' : (ps[m].kind == 0) = true := by simp [h0]
          clear HF hkd HG hpm' h0
          go_wp2_with fail
          refine (ruleBegun_c _).mono ?_
          rintro e w5 ⟨rfl, hb5⟩
          have k5 : Below w.heap.size w w5 := k4.trans (hb5.mono k4.size)
          have t0 := (cell_lasts hb5 z6).trans u0
          have t1 := (cell_lasts hb5 z6).trans u1
          have t2 := (cell_lasts hb5 z6).trans u2
          have t3 := (cell_lasts hb5 z6).trans u3
          clear u0 u1 u2 u3 hb5
          go_wp2_with fail
          refine (factFine_c _ _ ps _ _ _ _ (HP.out _ k5)).mono ?_
          rintro e w6 ⟨rfl, hb6⟩
          go_wp2_with fail
          go_ret
          exact ⟨rfl, k5.trans (hb6.mono k5.size)⟩
        · have h0' : (ps[m].kind == 0) = false := by simpa using h0
          clear HF hkd HG hpm' h0
          go_wp2_with fail
          refine (ruleBegun_c _).mono ?_
          rintro e w5 ⟨rfl, hb5⟩
          have k5 : Below w.heap.size w w5 := k4.trans (hb5.mono k4.size)
          have t0 := (cell_lasts hb5 z6).trans u0
          have t1 := (cell_lasts hb5 z6).trans u1
          have t2 := (cell_lasts hb5 z6).trans u2
          have t3 := (cell_lasts hb5 z6).trans u3
          clear u0 u1 u2 u3 hb5
          go_wp2_with fail
          go_ret
          exact ⟨rfl, k5⟩
      · have hat' : (atomErr ps ⟨p, ts⟩ != 0) = true := by simpa using hat
        clear hat HPX
        go_wp2_with fail
        refine (ruleBegun_c _).mono ?_
        rintro e w5 ⟨rfl, hb5⟩
        go_wp2_with fail
        go_ret
        exact ⟨rfl, k4.trans (hb5.mono k4.size)⟩
  · have hg' : (groundErr v ts != 0) = true := by simpa using hg
    clear hg HPX
    go_wp2_with fail
    refine (ruleBegun_c _).mono ?_
    rintro e w3 ⟨rfl, hb3⟩
    go_wp2_with fail
    go_ret
    exact ⟨rfl, (k2.alloc k2.size _).trans (hb3.mono (by have := k2.size; simp; omega))⟩

set_option maxRecDepth 100000 in
theorem grounds_lifted (os : Os) (started : os.Started) (H : Type) (enc : TypeId × Value → H) :
    ReturnsInHanded {} Try.checked os 8 .any (Rows.ruleGroundsSpec.pre6 enc Try.prog Try.f8 Rows.ruleGroundsRow.domain false) (Rows.ruleGroundsSpec.post enc Try.prog Try.f8 false true false false) := by
  refine Kit.lifted_of (C := Try.checked) (t := 4) (by kernel_rfl) started (by kernel_rfl) Try.func8
    (ChangeSpec.witness6 (enc := enc) (C := Try.checked) false ⟨#[], #[.slice none 0 0, .agg #[.int .i64 0, .slice none 0 0], .agg #[.int .i64 0, .int .i64 0, .int .i64 0]], []⟩ 8 (by kernel_rfl) (by kernel_rfl) (by kernel_rfl) (by kernel_rfl))
    (by kernel_rfl) (by kernel_rfl) (by kernel_rfl) Try.underlying4 rfl ?_ ?_
  · intro ds hds
    rw [show Try.f8.params.toList.length = 3 by kernel_rfl] at hds
    match ds, hds with
    | [d0, d1, d2], _ => rfl
  · intro W base args ds ps hval0 hA0 hsz0
    have hval : ∀ (j : Nat) t v, Try.f8.params[j]? = some t → args[j]? = some v → Value.okWide Try.prog W .any base t v := hval0
    have hA : DataW.TrodAll enc Try.prog W 0 (fun _ => true) true Try.f8.params.toList args.toList ds ps := hA0
    have hsz : (DataW.weightsEach Try.prog (Try.f8.params.toList ++ []) (ds ++ [])).all (· ≤ reachBytes) = true := hsz0
    rw [Try.params8] at hA hval hsz
    obtain ⟨v0, vs0, d0, ds0, p0, q0, hargs, rfl, rfl, h0, r0⟩ := trodAll_cons hA
    obtain ⟨v1, vs1, d1, ds1, p1, q1, rfl, rfl, rfl, h1, r1⟩ := trodAll_cons r0
    obtain ⟨v2, vs2, d2, ds2, p2, q2, rfl, rfl, rfl, h2, r2⟩ := trodAll_cons r1
    obtain ⟨rfl, rfl, rfl⟩ := trodAll_nil r2
    obtain rfl : args = #[v0, v1, v2] := by cases args; simp_all
    have hL := Open.light_all hsz
    simp only [List.append_nil, DataW.weightsEach] at hL
    obtain ⟨n0, t0⟩ := Open.trod_one h0
    obtain ⟨n1, t1⟩ := Open.trod_one h1
    obtain ⟨n2, t2⟩ := Open.trod_one h2
    obtain ⟨pv, ps, e0, hp⟩ := Open.preds_of t0 (Open.light_left hL)
    obtain ⟨a, sv, e1, ht⟩ := Open.atom_of t1 (Open.light_left (Open.light_right hL))
    obtain ⟨x, y, z, e2⟩ := Open.vars_of t2
    obtain rfl := Open.slice_of Try.underlying32 (hval 0 32 v0 rfl rfl) e0
    obtain rfl := Open.agg_of Try.underlying35 (hval 1 35 v1 rfl rfl) e1
    obtain rfl := Open.arr_of Try.underlying42 (hval 2 42 v2 rfl rfl) e2
    exact grounds_walk W v0 sv ps a.pred a.args ⟨x, y, z⟩ hp ht

end Go.Proofs.Ytchmdijkmfilfaa.Rule
namespace Go.Proofs.Ytchmdijkmfilfaa
/-- THE STATEMENT -/
theorem ruleGrounds_proved : Rows.RuleGroundsSaid :=
  OpenClaim.holds_of_wide 8 Try.f8 rfl rfl rfl rfl rfl rfl rfl ⟨rfl, rfl, rfl, rfl, rfl⟩ rfl rfl rfl rfl rfl (by kernel_rfl) Try.func8 (by kernel_rfl)
    (of_decide_eq_true (by kernel_rfl)) (by unfold Func.isWrapper; first | (rw [if_pos (by decide +kernel)]; kernel_rfl) | (rw [if_neg (by decide +kernel)]; exact ⟨rfl, rfl⟩))
    (fun os started H enc _ => Rule.grounds_lifted os started H enc)
#print axioms ruleGrounds_proved
end Go.Proofs.Ytchmdijkmfilfaa
