/-
  What is proved: without the document's own answer: who is needed needs no more, and each needs itself; for every program and any two of its predicates; no condition.
-/
import Derived.Test.YtgbacodellfacabProgBegun
import Derived.Test.YtgbacodellfacabChoose
import Derived.Test.YtgbacodellfacabOpen3
import Derived.Test.YtgbacodellfacabKit
namespace Go.Proofs.Ytgbacodellfacab.Prog
open Go.ChangeShapes Go.WideShapes Go.ChangeAt Go.RowKit
open Strata

set_option maxRecDepth 100000 in
set_option maxHeartbeats 1000000 in
theorem needs_walk (w : World) (pv rv : Value) (ps : List Prd) (rs : List Rul) (a b : Int) (hp : predsAt w pv ps) (hr : rulesAt w rv rs) (hn : small ps) (ha : (Lit.int .i64 a).wf = true) (hb : (Lit.int .i64 b).wf = true) :
    Calls Try.prog 6 #[.agg #[pv, rv], .int .i64 a, .int .i64 b] w fun e w' => e = .returned (.bool true) ∧ Below w.heap.size w w' := by
  have HP : Hid (∀ x, Below w.heap.size w x → predsAt x pv ps) := fun x hx => predsAt.lasts hx hp
  have HR : Hid (∀ x, Below w.heap.size w x → rulesAt x rv rs) := fun x hx => rulesAt.lasts hx hr
  obtain ⟨pa, pc, rfl, hpm, hpx⟩ := hp
  obtain ⟨ra, rc, rfl, hrm, hrx⟩ := hr
  clear hpx hrx
  have HA : Hid _ := wf_range ha
  have HB : Hid _ := wf_range hb
  clear ha hb
  by_cases hpe : progErr ps rs = 0
  · obtain ⟨hz, _⟩ := prog_zero hpe
    obtain ⟨z1, z2, z3⟩ := parts_zero hz
    have HE : Hid (Within (edges rs) ps.length) := within_edges z3
    clear hz z3
    by_cases hl0 : ps.length = 0
    · obtain rfl : ps = [] := List.length_eq_zero_iff.1 hl0
      clear hl0 z1
      have HP0 : Hid (∀ x, Below w.heap.size w x → predsAt x (.slice pa 0 pc) []) := HP.out
      go_enter Try.func6, Try.ntmps6
      go_wp2_with fail
      refine (devCheck_c _ _ _ [] rs (HP0.out _ (below_alloc _ _)) (HR.out _ (below_alloc _ _)) hn).mono ?_
      rw [hpe]
      rintro e w1 ⟨rfl, hb1⟩
      obtain ⟨c0, c1, _⟩ := boxL hb1
      have k1 : Below w.heap.size w w1 := below_trans (below_alloc _ _) hb1
      clear hb1
      go_wp2_with fail
      refine (progBegun_c _).mono ?_
      rintro e w2 ⟨rfl, hb2⟩
      go_wp2_with fail
      go_ret
      exact ⟨rfl, k1.trans (hb2.mono k1.size)⟩
    · have hlp : 0 < ps.length := by omega
      have hl0' : (ps.length : Int) ≠ 0 := by omega
      obtain ⟨i, hie⟩ : ∃ i, chosen a ps.length = i := ⟨_, rfl⟩
      obtain ⟨k, hke⟩ : ∃ k, chosen b ps.length = k := ⟨_, rfl⟩
      have hi : i < ps.length := hie ▸ chosen_lt a hlp
      have hk : k < ps.length := hke ▸ chosen_lt b hlp
      have hne : ∀ j, j < ps.length → needsErr ps rs (j : Int) = 0 := fun j hj => by rw [needsErr, if_neg (by rw [hpe]; simp), if_neg (by omega)]
      have HNE : Hid _ := hne
      clear hne
      have LX := needs_least HE.out hi
      have LY := needs_least HE.out hk
      have HLX : Hid ((needsL (edges rs) ps.length i).length = ps.length) := LX.len
      have HLY : Hid ((needsL (edges rs) ps.length k).length = ps.length) := LY.len
      have HSX : Hid (bat (needsL (edges rs) ps.length i) i = true) := LX.self
      have HXY : Hid (bat (needsL (edges rs) ps.length i) k = true → ∀ j, bat (needsL (edges rs) ps.length k) j = true → bat (needsL (edges rs) ps.length i) j = true) := fun h j => LY.least _ LX.closed h j
      clear LX LY
      go_enter Try.func6, Try.ntmps6
      go_wp2_with fail
      refine (devCheck_c _ _ _ ps rs (HP.out _ (below_alloc _ _)) (HR.out _ (below_alloc _ _)) hn).mono ?_
      rw [hpe]
      rintro e w1 ⟨rfl, hb1⟩
      have B1 := boxL hb1
      obtain ⟨c0, c1, hs1⟩ := id B1
      have k1 : Below w.heap.size w w1 := below_trans (below_alloc _ _) hb1
      clear hb1
      go_wp2_with fail
      have L0 : ∀ x : Low w1.heap.size w1, x.wd.cell? ⟨w.heap.size, 0, none⟩ = some (.slice pa ps.length pc) := fun x => (cell_lasts x.low hs1).trans c0
      refine wp_region_low w1.heap.size (by kernel_rfl) (by kernel_rfl) ?_
      have CA : ∀ x : World, Calls Try.prog 20 #[.int .i64 a, .int .i64 (ps.length : Int)] x fun e w' => e = .returned (.int .i64 (i : Int)) ∧ Below x.heap.size x w' := fun x => hie ▸ choose_c a ps.length x hlp z1 HA.out
      have CB : ∀ x : World, Calls Try.prog 20 #[.int .i64 b, .int .i64 (ps.length : Int)] x fun e w' => e = .returned (.int .i64 (k : Int)) ∧ Below x.heap.size x w' := fun x => hke ▸ choose_c b ps.length x hlp z1 HB.out
      have HCA : Hid _ := CA
      have HCB : Hid _ := CB
      clear CA CB hie hke
      repeat (go_big_quiet_step (first | (go_at_call_of 20 (Value.int .i64 a); exact low_of (HCA.out _)) | (go_at_call_of 20 (Value.int .i64 b); exact low_of (HCB.out _))))
      refine wpQuiet_nil ?_
      rintro w2 ⟨⟨_, hb2⟩, rfl⟩
      have B2 := boxO hb2 B1
      have k2 : Below w.heap.size w w2 := k1.trans (hb2.mono k1.size)
      clear L0 c0 c1 B1 hb2 HCA HCB
      obtain ⟨c0, c1, hs2⟩ := id B2
      go_wp2_with fail
      refine (devNeeds_c _ _ _ ps rs i (HP.out _ k2) (HR.out _ k2) hn).mono ?_
      rw [HNE.out i hi, Int.toNat_natCast]
      rintro e w3 ⟨⟨v3, rfl, _, hv3⟩, hb3⟩
      obtain ⟨xb, xo, xc, rfl, hxb, hxc⟩ := bools_row (hv3 rfl) HLX.out hlp
      have B3 := boxO hb3 B2
      have k3 : Below w.heap.size w w3 := k2.trans (hb3.mono k2.size)
      clear c0 c1 B2 hb3 hv3
      obtain ⟨c0, c1, hs3⟩ := id B3
      have HXC : Hid _ := hxc
      clear hxc
      go_wp2_with fail
      refine (devNeeds_c _ _ _ ps rs k (HP.out _ k3) (HR.out _ k3) hn).mono ?_
      rw [HNE.out k hk, Int.toNat_natCast]
      rintro e w4 ⟨⟨v4, rfl, _, hv4⟩, hb4⟩
      obtain ⟨yb, yo, yc, rfl, hyb, hyc⟩ := bools_row (hv4 rfl) HLY.out hlp
      have B4 := boxO hb4 B3
      have k4 : Below w.heap.size w w4 := k3.trans (hb4.mono k3.size)
      have HXC4 : Hid (∀ j, j < ps.length → w4.cell? ⟨xb, xo + j, none⟩ = some (.bool (bat (needsL (edges rs) ps.length i) j))) := fun j hj => (cell_lasts hb4 hxb).trans (HXC.out j hj)
      have HYC4 : Hid (∀ j, j < ps.length → w4.cell? ⟨yb, yo + j, none⟩ = some (.bool (bat (needsL (edges rs) ps.length k) j))) := hyc
      clear c0 c1 B3 hb4 hv4 hyc HXC HLX HLY HNE
      obtain ⟨c0, c1, hs4⟩ := id B4
      have xi := HXC4.out i hi
      rw [HSX.out] at xi
      have xk := HXC4.out k hk
      have hi' : (i : Int) < (ps.length : Int) := by omega
      have hk' : (k : Int) < (ps.length : Int) := by omega
      generalize needsL (edges rs) ps.length i = X at *
      generalize needsL (edges rs) ps.length k = Y at *
      go_wp2_with fail
      go_loopw [13] (fun v wr => ∃ j : Nat, j ≤ ps.length ∧ v = .int .i64 j ∧ wr = w4) (fun v _ => ps.length - (intOf v).toNat)
      case atStart => exact ⟨0, Nat.zero_le _, rfl, rfl⟩
      case round =>
        obtain ⟨j, hj, rfl, rfl⟩ := hrel
        by_cases hlt : j < ps.length
        · have xj := HXC4.out j hlt
          have yj := HYC4.out j hlt
          have hj1 : (j : Int) < (ps.length : Int) := by omega
          have hj0 : (0 : Int) ≤ (j : Int) := by omega
          cases hxk : bat X k
          · rw [hxk] at xk
            go_wp2_with fail
            refine (progBegun_c _).mono ?_
            rintro e w5 ⟨rfl, hb5⟩
            go_wp2_with fail
            go_ret
            exact ⟨rfl, k4.trans (hb5.mono k4.size)⟩
          · rw [hxk] at xk
            cases hyj : bat Y j
            · rw [hyj] at yj
              go_wp2_with fail
              exact ⟨⟨j + 1, by omega, by go_num, by trivial⟩, by simp [intOf]; omega⟩
            · rw [hyj] at yj
              rw [HXY.out hxk j hyj] at xj
              go_wp2_with fail
              exact ⟨⟨j + 1, by omega, by go_num, by trivial⟩, by simp [intOf]; omega⟩
        · have hj1 : ¬ (j : Int) < (ps.length : Int) := by omega
          go_wp2_with fail
          refine (progBegun_c _).mono ?_
          rintro e w5 ⟨rfl, hb5⟩
          go_wp2_with fail
          go_ret
          exact ⟨rfl, k4.trans (hb5.mono k4.size)⟩
  · have hpe' : progErr ps rs ≠ 0 := hpe
    go_enter Try.func6, Try.ntmps6
    go_wp2_with fail
    refine (devCheck_c _ _ _ ps rs (HP.out _ (below_alloc _ _)) (HR.out _ (below_alloc _ _)) hn).mono ?_
    rintro e w1 ⟨rfl, hb1⟩
    have k1 : Below w.heap.size w w1 := below_trans (below_alloc _ _) hb1
    clear hb1
    go_wp2_with fail
    refine (progBegun_c _).mono ?_
    rintro e w2 ⟨rfl, hb2⟩
    go_wp2_with fail
    go_ret
    exact ⟨rfl, k1.trans (hb2.mono k1.size)⟩

set_option maxRecDepth 100000 in
theorem needs_lifted (os : Os) (started : os.Started) (H : Type) (enc : TypeId × Value → H) :
    ReturnsInHanded {} Try.checked os 6 .any (Rows.progNeedsSpec.pre6 enc Try.prog Try.f6 Rows.progNeedsRow.domain false) (Rows.progNeedsSpec.post enc Try.prog Try.f6 false true false false) := by
  refine Kit.lifted_of (C := Try.checked) (t := 4) (by kernel_rfl) started (by kernel_rfl) Try.func6
    (ChangeSpec.witness6 (enc := enc) (C := Try.checked) false ⟨#[], #[.agg #[.slice none 0 0, .slice none 0 0], .int .i64 0, .int .i64 0], []⟩ 8 (by kernel_rfl) (by kernel_rfl) (by kernel_rfl) (by kernel_rfl))
    (by kernel_rfl) (by kernel_rfl) (by kernel_rfl) Try.underlying4 rfl ?_ ?_
  · intro ds hds
    rw [show Try.f6.params.toList.length = 3 by kernel_rfl] at hds
    match ds, hds with
    | [d0, d1, d2], _ => rfl
  · intro W base args ds ps hval0 hA0 hsz0
    have hval : ∀ (j : Nat) t v, Try.f6.params[j]? = some t → args[j]? = some v → Value.okWide Try.prog W .any base t v := hval0
    have hA : DataW.TrodAll enc Try.prog W 0 (fun _ => true) true Try.f6.params.toList args.toList ds ps := hA0
    have hsz : (DataW.weightsEach Try.prog (Try.f6.params.toList ++ []) (ds ++ [])).all (· ≤ reachBytes) = true := hsz0
    rw [Try.params6] at hA hval hsz
    obtain ⟨v0, vs0, d0, ds0, p0, q0, hargs, rfl, rfl, h0, r0⟩ := trodAll_cons hA
    obtain ⟨v1, vs1, d1, ds1, p1, q1, rfl, rfl, rfl, h1, r1⟩ := trodAll_cons r0
    obtain ⟨v2, vs2, d2, ds2, p2, q2, rfl, rfl, rfl, h2, r2⟩ := trodAll_cons r1
    obtain ⟨rfl, rfl, rfl⟩ := trodAll_nil r2
    obtain rfl : args = #[v0, v1, v2] := by cases args; simp_all
    have hL := Open.light_all hsz
    simp only [List.append_nil, DataW.weightsEach] at hL
    obtain ⟨n0, t0⟩ := Open.trod_one h0
    obtain ⟨n1, t1⟩ := Open.trod_one h1
    obtain ⟨n2, t2⟩ := Open.trod_one h2
    obtain ⟨pv, rv, ps, rs, e0, hp, hn, hr⟩ := Open.prog_of t0 (Open.light_left hL)
    obtain ⟨x1, e1, _, hs1⟩ := DataW.trod_int Try.underlying3 t1
    obtain ⟨x2, e2, _, hs2⟩ := DataW.trod_int Try.underlying3 t2
    obtain rfl := Open.agg_of Try.underlying25 (hval 0 25 v0 rfl rfl) e0
    obtain rfl := Open.int_of Try.underlying3 (hval 1 3 v1 rfl rfl) e1
    obtain rfl := Open.int_of Try.underlying3 (hval 2 3 v2 rfl rfl) e2
    exact needs_walk W pv rv ps rs x1 x2 hp hr hn hs1 hs2
end Go.Proofs.Ytgbacodellfacab.Prog
namespace Go.Proofs.Ytgbacodellfacab
/-- THE STATEMENT -/
theorem progNeeds_proved : Rows.ProgNeedsSaid :=
  OpenClaim.holds_of_wide 6 Try.f6 rfl rfl rfl rfl rfl rfl rfl ⟨rfl, rfl, rfl, rfl, rfl⟩ rfl rfl rfl rfl rfl (by kernel_rfl) Try.func6 (by kernel_rfl)
    (of_decide_eq_true (by kernel_rfl)) (by unfold Func.isWrapper; first | (rw [if_pos (by decide +kernel)]; kernel_rfl) | (rw [if_neg (by decide +kernel)]; exact ⟨rfl, rfl⟩))
    (fun os started H enc _ => Prog.needs_lifted os started H enc)
#print axioms progNeeds_proved
end Go.Proofs.Ytgbacodellfacab
