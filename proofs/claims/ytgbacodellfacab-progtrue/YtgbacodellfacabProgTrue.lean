/-
  What is proved: without the document's own answer: no predicate stands below what its rules use, and each above what they use with Not; who stands above 0 has a rule that asks for just that; for every program and each of its predicates; no condition.
-/
import Derived.Test.YtgbacodellfacabProgBegun
import Derived.Test.YtgbacodellfacabChoose
import Derived.Test.YtgbacodellfacabOpen3
import Derived.Test.YtgbacodellfacabKit
namespace Go.Proofs.Ytgbacodellfacab.Prog
open Go.ChangeShapes Go.WideShapes Go.ChangeAt Go.RowKit
open Strata

theorem nat_zero (n : Nat) : ((n : Int) == 0) = decide (n = 0) := by rw [Bool.eq_iff_iff]; simp
/-- an edge that asks for just that -/
def just (L : List Nat) (k : Nat) (e : Strata.Edge) : Bool := decide (e.h = k) && decide (at_ L k = at_ L e.b + e.up)
theorem asked_all {E : List Strata.Edge} {n : Nat} {L : List Nat} (hE : Within E n) (h : strataL E n = some L) (k : Nat) : (decide (at_ L k = 0) || E.any (just L k)) = true := by
  by_cases h0 : at_ L k = 0
  · rw [decide_eq_true h0, Bool.true_or]
  · obtain ⟨e, he, h1, h2⟩ := strata_asked hE h (Nat.pos_of_ne_zero h0)
    rw [List.any_eq_true.2 ⟨e, he, by rw [just, decide_eq_true h1, decide_eq_true h2]; rfl⟩, Bool.or_true]

set_option maxRecDepth 100000 in
set_option maxHeartbeats 2000000 in
theorem true_walk (w : World) (pv rv : Value) (ps : List Prd) (rs : List Rul) (a : Int) (hp : predsAt w pv ps) (hr : rulesAt w rv rs) (hn : small ps) (ha : (Lit.int .i64 a).wf = true) :
    Calls Try.prog 5 #[.agg #[pv, rv], .int .i64 a] w fun e w' => e = .returned (.bool true) ∧ Below w.heap.size w w' := by
  have HP : Hid (∀ x, Below w.heap.size w x → predsAt x pv ps) := fun x hx => predsAt.lasts hx hp
  have HR : Hid (∀ x, Below w.heap.size w x → rulesAt x rv rs) := fun x hx => rulesAt.lasts hx hr
  obtain ⟨pa, pc, rfl, hpm, hpx⟩ := hp
  obtain ⟨ra, rc, rfl, hrm, hrx⟩ := hr
  clear hpx hrx
  have HA : Hid _ := wf_range ha
  clear ha
  by_cases hpe : progErr ps rs = 0
  · obtain ⟨hz, L, hL⟩ := prog_zero hpe
    obtain ⟨z1, z2, z3⟩ := parts_zero hz
    have HK : Hid (∀ r ∈ rs, Right ps r) := z3
    have HE : Hid (Within (edges rs) ps.length) := within_edges z3
    clear hz z3
    by_cases hl0 : ps.length = 0
    · obtain rfl : ps = [] := List.length_eq_zero_iff.1 hl0
      clear hl0 z1
      have HP0 : Hid (∀ x, Below w.heap.size w x → predsAt x (.slice pa 0 pc) []) := HP.out
      go_enter Try.func5, Try.ntmps5
      go_wp2_with fail
      refine (devStrata_c _ _ _ [] rs (HP0.out _ (below_alloc _ _)) (HR.out _ (below_alloc _ _)) hn).mono ?_
      rw [hpe]
      rintro e w1 ⟨⟨v1, rfl, _, _⟩, hb1⟩
      obtain ⟨c0, c1, _⟩ := boxL hb1
      have k1 : Below w.heap.size w w1 := below_trans (below_alloc _ _) hb1
      clear hb1
      go_wp2_with fail
      refine (progBegun_c _).mono ?_
      rintro e w2 ⟨rfl, hb2⟩
      go_wp2_with fail
      go_ret
      exact ⟨rfl, k1.trans (hb2.mono k1.size)⟩
    · have hlp : 0 < ps.length := by omega
      have hl0' : (ps.length : Int) ≠ 0 := by omega
      obtain ⟨k, hke⟩ : ∃ k, chosen a ps.length = k := ⟨_, rfl⟩
      have hk : k < ps.length := hke ▸ chosen_lt a hlp
      obtain ⟨l1, l2, _⟩ := strata_some HE.out hL
      have HLL : Hid (L.length = ps.length) := l1
      have HSOL : Hid (Sol (edges rs) (at_ L)) := l2
      have HSM : Hid (∀ j, j < ps.length → at_ L j < ps.length) := fun j hj => strata_small HE.out hL hj
      have HAS : Hid ((decide (at_ L k = 0) || (edges rs).any (just L k)) = true) := asked_all HE.out hL k
      clear l1 l2
      go_enter Try.func5, Try.ntmps5
      go_wp2_with fail
      refine (devStrata_c _ _ _ ps rs (HP.out _ (below_alloc _ _)) (HR.out _ (below_alloc _ _)) hn).mono ?_
      rintro e w1 ⟨⟨v1, rfl, _, hv1⟩, hb1⟩
      obtain ⟨xb, xo, xc, rfl, hxb, hxc⟩ := ints_row (hv1 L hL hpe) HLL.out hlp
      have B1 := boxL hb1
      obtain ⟨c0, c1, hs1⟩ := id B1
      have k1 : Below w.heap.size w w1 := below_trans (below_alloc _ _) hb1
      rw [hpe]
      clear hb1 hv1 hpe hL
      have HXC : Hid (∀ j, j < ps.length → w1.cell? ⟨xb, xo + j, none⟩ = some (.int .i64 (at_ L j : Int))) := hxc
      clear hxc
      go_wp2_with fail
      have CA : Calls Try.prog 20 #[.int .i64 a, .int .i64 (ps.length : Int)] w1 fun e w' => e = .returned (.int .i64 (k : Int)) ∧ Below w1.heap.size w1 w' := hke ▸ choose_c a ps.length w1 hlp z1 HA.out
      refine CA.mono ?_
      rintro e w2 ⟨rfl, hb2⟩
      have B2 := boxO hb2 B1
      have k2 : Below w.heap.size w w2 := k1.trans (hb2.mono k1.size)
      have HX2 : Hid (∀ j, j < ps.length → w2.cell? ⟨xb, xo + j, none⟩ = some (.int .i64 (at_ L j : Int))) := fun j hj => (cell_lasts hb2 hxb).trans (HXC.out j hj)
      have hxb2 : xb < w2.heap.size := Nat.lt_of_lt_of_le hxb hb2.size
      clear CA c0 c1 hs1 B1 hb2 HXC hxb hke
      obtain ⟨c0, c1, hs2⟩ := id B2
      have xk := HX2.out k hk
      have hk' : (k : Int) < (ps.length : Int) := by omega
      go_wp2_with fail
      go_loopw [8, 9] (fun ask i wr => ∃ (m : Nat) (sb : Bool), m ≤ rs.length ∧ i = .int .i64 m ∧ ask = .bool sb ∧ Hid ((decide (at_ L k = 0) || (edges (rs.take m)).any (just L k)) = sb) ∧ Below w2.heap.size w2 wr) (fun _ i _ => rs.length - (intOf i).toNat)
      case atStart => exact ⟨0, _, Nat.zero_le _, rfl, rfl, by show _ = _; rw [nat_zero]; simp [edges], Below.refl _ _⟩
      case round =>
        obtain ⟨m, sb, hm, rfl, rfl, hsb, hbr⟩ := hrel
        have Br := boxO hbr B2
        have kr : Below w.heap.size w wr := k2.trans (hbr.mono k2.size)
        obtain ⟨d0, d1, hsr⟩ := id Br
        by_cases hml : m < rs.length
        · obtain ⟨rb, ro, rc', hv, hrb, hcells⟩ := slice_cells (HR.out w (Below.refl _ _)) hml
          obtain ⟨rfl, rfl⟩ : ra = some ⟨rb, ro, none⟩ ∧ rc = rc' := by simpa using hv
          obtain ⟨t0, ⟨hv', t1, t1'⟩, t2, t3, bv, t4, t5⟩ := hcells
          have HLIT : Hid (litsAt w bv rs[m].body) := t5
          obtain ⟨ba, bc, rfl, hblen, _⟩ := t5
          obtain ⟨ha', hc', rfl, _⟩ := t1'
          replace t0 := (cell_lasts kr hrb).trans t0
          replace t1 := (cell_lasts kr hrb).trans t1
          replace t2 := (cell_lasts kr hrb).trans t2
          replace t3 := (cell_lasts kr hrb).trans t3
          replace t4 := (cell_lasts kr hrb).trans t4
          have HRT : Hid (Right ps rs[m]) := HK.out _ (List.getElem_mem hml)
          have HET : Hid (edges (rs.take (m + 1)) = edges (rs.take m) ++ rs[m].body.map (edgeOf rs[m])) := edges_take hml
          have HIN : Hid (∀ x ∈ rs[m].body, edgeOf rs[m] x ∈ edges rs) := fun x hx => List.mem_flatMap.2 ⟨rs[m], List.getElem_mem hml, List.mem_map.2 ⟨x, hx, rfl⟩⟩
          have hm0 : (0 : Int) ≤ (m : Int) := by omega
          have hm1 : (m : Int) < (rs.length : Int) := by omega
          clear hv
          generalize hre : rs[m] = r at *
          obtain ⟨eh, heh⟩ : ∃ eh : Nat, r.head.pred = (eh : Int) := ⟨_, HRT.out.head.2⟩
          have hehn : eh < ps.length := by have := HRT.out.head.1; rw [heh] at this; simpa using this
          have HEO : Hid (∀ x, edgeOf r x = ⟨eh, x.atom.pred.toNat, x.neg⟩) := fun x => by rw [edgeOf, heh]; rfl
          rw [heh] at t0
          go_wp2_with fail
          obtain ⟨W0, hW0⟩ : ∃ W0, wr.alloc (.cells #[.int .i64 (eh : Int), .slice ha' r.head.args.length hc', .int .i64 r.src, .int .i64 r.n, .slice ba r.body.length bc] 48) = W0 := ⟨_, rfl⟩
          have hW : Below wr.heap.size wr W0 := by rw [← hW0]; exact below_alloc _ _
          obtain ⟨R, hRe⟩ : ∃ R, wr.heap.size = R := ⟨_, rfl⟩
          have f0 : W0.cell? ⟨R, 0, none⟩ = some (.int .i64 (eh : Int)) := by rw [← hW0, ← hRe]; simp [go_sem]
          have f4 : W0.cell? ⟨R, 4, none⟩ = some (.slice ba r.body.length bc) := by rw [← hW0, ← hRe]; simp [go_sem]
          have sR : R < W0.heap.size := by rw [← hW0, ← hRe]; simp
          have hb20 : Below w2.heap.size w2 W0 := hbr.trans (hW.mono hbr.size)
          rw [hW0, hRe]
          clear hW0 hRe t0 t1 t2 t3 t4 d0 d1 hsr Br kr hW hbr
          go_loopw [8, 11] (fun ask i wr3 => ∃ (q : Nat) (sb' : Bool), q ≤ r.body.length ∧ i = .int .i64 q ∧ ask = .bool sb' ∧ Hid ((decide (at_ L k = 0) || (edges (rs.take m) ++ (r.body.take q).map (edgeOf r)).any (just L k)) = sb') ∧ Below W0.heap.size W0 wr3 ∧ True) (fun _ i _ => r.body.length - (intOf i).toNat)
          case atStart => exact ⟨0, sb, Nat.zero_le _, rfl, rfl, by rw [List.take_zero, List.map_nil, List.append_nil]; exact hsb, Below.refl _ _, trivial⟩
          case round =>
            clear hsb
            obtain ⟨q, sb, hq, rfl, rfl, hsb, hbr⟩ := hrel
            have g0 := (cell_lasts hbr.1 sR).trans f0
            have g4 := (cell_lasts hbr.1 sR).trans f4
            by_cases hql : q < r.body.length
            · have hbw : Below w.heap.size w wr := k2.trans ((hb20.trans (hbr.1.mono hb20.size)).mono k2.size)
              have hb2r : Below w2.heap.size w2 wr := hb20.trans (hbr.1.mono hb20.size)
              obtain ⟨lb, lo, lc', hv, hlb, hcells⟩ := slice_cells HLIT.out hql
              obtain ⟨rfl, rfl⟩ : ba = some ⟨lb, lo, none⟩ ∧ bc = lc' := by simpa using hv
              obtain ⟨l0, l1, _⟩ := hcells
              replace l0 := (cell_lasts hbw hlb).trans l0
              replace l1 := (cell_lasts hbw hlb).trans l1
              have hRb := HRT.out.body _ (List.getElem_mem hql)
              have HS := map_take_succ hql
              have hin := HIN.out _ (List.getElem_mem hql)
              rw [HEO.out] at HS hin
              obtain ⟨eb, heb⟩ : ∃ eb : Nat, r.body[q].atom.pred = (eb : Int) := ⟨_, hRb.2⟩
              have hebn : eb < ps.length := by have := hRb.1; rw [heb] at this; simpa using this
              rw [heb] at l1
              rw [heb, Int.toNat_natCast] at HS hin
              have HS' : Hid _ := HS
              have HSE := HSOL.out _ hin
              dsimp only at HSE
              clear HS hv hRb heb hin
              have hq0 : (0 : Int) ≤ (q : Int) := by omega
              have hq1 : (q : Int) < (r.body.length : Int) := by omega
              have xe := (cell_lasts hb2r hxb2).trans (HX2.out eb hebn)
              have xh := (cell_lasts hb2r hxb2).trans (HX2.out eh hehn)
              have xk := (cell_lasts hb2r hxb2).trans (HX2.out k hk)
              have g1 : (eb : Int) < (ps.length : Int) := by omega
              have g2 : (eh : Int) < (ps.length : Int) := by omega
              have m1 := HSM.out eb hebn
              have m2 := HSM.out eh hehn
              have m3 := HSM.out k hk
              generalize r.body[q].neg = ng at *
              generalize hae : at_ L eb = ab at *
              generalize hah : at_ L eh = ah at *
              generalize hak : at_ L k = ak at *
              cases ng
              · have hup : (⟨eh, eb, false⟩ : Strata.Edge).up = 0 := rfl
                have hno : ¬ ah < ab := by have := HSE; rw [hup] at this; simpa using Nat.not_lt.2 this
                have hno' : ¬ (ah : Int) < (ab : Int) := by omega
                have HJ : Hid (just L k ⟨eh, eb, false⟩ = (decide (eh = k) && decide (ak = ab))) := by
                  show _ = _
                  rw [just, hup]
                  show (decide (eh = k) && decide (at_ L k = at_ L eb + 0)) = _
                  rw [hae, hak]
                  rfl
                clear HSE
                cases sb
                · by_cases q1 : eh = k
                  · obtain rfl : ak = ah := by rw [← hak, ← hah, q1]
                    have q1' : (eh : Int) = (k : Int) := by omega
                    by_cases q2 : ak = ab
                    · have q2' : (ak : Int) = (ab : Int) := by omega
                      have HV : Hid (just L k ⟨eh, eb, false⟩ = true) := by show _ = _; rw [HJ.out, decide_eq_true q1, decide_eq_true q2]; rfl
                      go_wp2_with fail
                      exact ⟨⟨q + 1, _, by omega, by go_num, rfl, by show _ = _; rw [HS'.out, ← List.append_assoc, List.any_append, List.any_cons, HV.out]; simp, hbr.1, hbr.2⟩, by simp [intOf]; omega⟩
                    · have q2' : ((ak : Int) == (ab : Int)) = false := beq_eq_false_iff_ne.2 (by omega)
                      have HV : Hid (just L k ⟨eh, eb, false⟩ = false) := by show _ = _; rw [HJ.out, decide_eq_false q2, Bool.and_false]
                      go_wp2_with fail
                      exact ⟨⟨q + 1, _, by omega, by go_num, rfl, by show _ = _; rw [HS'.out, ← List.append_assoc, List.any_append, List.any_cons, HV.out, ← Bool.or_assoc, hsb.out]; rfl, hbr.1, hbr.2⟩, by simp [intOf]; omega⟩
                  · have q1' : ((eh : Int) == (k : Int)) = false := beq_eq_false_iff_ne.2 (by omega)
                    have HV : Hid (just L k ⟨eh, eb, false⟩ = false) := by show _ = _; rw [HJ.out, decide_eq_false q1, Bool.false_and]
                    go_wp2_with fail
                    exact ⟨⟨q + 1, _, by omega, by go_num, rfl, by show _ = _; rw [HS'.out, ← List.append_assoc, List.any_append, List.any_cons, HV.out, ← Bool.or_assoc, hsb.out]; rfl, hbr.1, hbr.2⟩, by simp [intOf]; omega⟩
                · go_wp2_with fail
                  exact ⟨⟨q + 1, _, by omega, by go_num, rfl, by show _ = _; rw [HS'.out, ← List.append_assoc, List.any_append, ← Bool.or_assoc, hsb.out, Bool.true_or], hbr.1, hbr.2⟩, by simp [intOf]; omega⟩
              · have hup : (⟨eh, eb, true⟩ : Strata.Edge).up = 1 := rfl
                have hno : ¬ ah < ab + 1 := by have := HSE; rw [hup] at this; simpa using Nat.not_lt.2 this
                have hno' : ¬ (ah : Int) < (ab : Int) + 1 := by omega
                have HJ : Hid (just L k ⟨eh, eb, true⟩ = (decide (eh = k) && decide (ak = ab + 1))) := by
                  show _ = _
                  rw [just, hup]
                  show (decide (eh = k) && decide (at_ L k = at_ L eb + 1)) = _
                  rw [hae, hak]
                clear HSE
                cases sb
                · by_cases q1 : eh = k
                  · obtain rfl : ak = ah := by rw [← hak, ← hah, q1]
                    have q1' : (eh : Int) = (k : Int) := by omega
                    by_cases q2 : ak = ab + 1
                    · have q2' : (ak : Int) = (ab : Int) + 1 := by omega
                      have HV : Hid (just L k ⟨eh, eb, true⟩ = true) := by show _ = _; rw [HJ.out, decide_eq_true q1, decide_eq_true q2]; rfl
                      go_wp2_with fail
                      exact ⟨⟨q + 1, _, by omega, by go_num, rfl, by show _ = _; rw [HS'.out, ← List.append_assoc, List.any_append, List.any_cons, HV.out]; simp, hbr.1, hbr.2⟩, by simp [intOf]; omega⟩
                    · have q2' : ((ak : Int) == (ab : Int) + 1) = false := beq_eq_false_iff_ne.2 (by omega)
                      have HV : Hid (just L k ⟨eh, eb, true⟩ = false) := by show _ = _; rw [HJ.out, decide_eq_false q2, Bool.and_false]
                      go_wp2_with fail
                      exact ⟨⟨q + 1, _, by omega, by go_num, rfl, by show _ = _; rw [HS'.out, ← List.append_assoc, List.any_append, List.any_cons, HV.out, ← Bool.or_assoc, hsb.out]; rfl, hbr.1, hbr.2⟩, by simp [intOf]; omega⟩
                  · have q1' : ((eh : Int) == (k : Int)) = false := beq_eq_false_iff_ne.2 (by omega)
                    have HV : Hid (just L k ⟨eh, eb, true⟩ = false) := by show _ = _; rw [HJ.out, decide_eq_false q1, Bool.false_and]
                    go_wp2_with fail
                    exact ⟨⟨q + 1, _, by omega, by go_num, rfl, by show _ = _; rw [HS'.out, ← List.append_assoc, List.any_append, List.any_cons, HV.out, ← Bool.or_assoc, hsb.out]; rfl, hbr.1, hbr.2⟩, by simp [intOf]; omega⟩
                · go_wp2_with fail
                  exact ⟨⟨q + 1, _, by omega, by go_num, rfl, by show _ = _; rw [HS'.out, ← List.append_assoc, List.any_append, ← Bool.or_assoc, hsb.out, Bool.true_or], hbr.1, hbr.2⟩, by simp [intOf]; omega⟩
            · obtain rfl : q = r.body.length := by omega
              go_wp2_with fail
              refine ⟨⟨m + 1, sb, by omega, by go_num, rfl, ?_, hb20.trans (hbr.1.mono hb20.size)⟩, by simp [intOf]; omega⟩
              have := hsb.out
              rw [List.take_length] at this
              rw [HET.out]
              exact this
        · have HT : Hid (sb = true) := by
            show _ = _
            rw [← hsb.out, List.take_of_length_le (by omega)]
            exact HAS.out
          obtain rfl := HT.out
          clear hsb HT
          have m3 := HSM.out k hk
          have xk := (cell_lasts hbr hxb2).trans (HX2.out k hk)
          have sx : xb < wr.heap.size := Nat.lt_of_lt_of_le hxb2 hbr.size
          generalize at_ L k = ak at *
          have m3' : (ak : Int) < (ps.length : Int) := by omega
          have m4' : (0 : Int) ≤ (ak : Int) := by omega
          have L0 : ∀ x : Low wr.heap.size wr, x.wd.cell? ⟨w.heap.size, 0, none⟩ = some (.slice pa ps.length pc) := fun x => (cell_lasts x.low hsr).trans d0
          have L1 : ∀ x : Low wr.heap.size wr, x.wd.cell? ⟨xb, xo + k, none⟩ = some (.int .i64 (ak : Int)) := fun x => (cell_lasts x.low sx).trans xk
          go_wp2_with fail
          refine wp_region_low wr.heap.size (by kernel_rfl) (by kernel_rfl) ?_
          repeat (go_big_quiet_step (first | (go_at_call 9; exact low_of (progBegun_c _))))
          refine wpQuiet_nil ?_
          rintro w5 ⟨⟨_, hb5⟩, rfl⟩
          clear L0 L1
          go_wp2_with fail
          go_ret
          exact ⟨rfl, kr.trans (hb5.mono kr.size)⟩
  · have hpe' : progErr ps rs ≠ 0 := hpe
    go_enter Try.func5, Try.ntmps5
    go_wp2_with fail
    refine (devStrata_c _ _ _ ps rs (HP.out _ (below_alloc _ _)) (HR.out _ (below_alloc _ _)) hn).mono ?_
    rintro e w1 ⟨⟨v1, rfl, _, _⟩, hb1⟩
    have k1 : Below w.heap.size w w1 := below_trans (below_alloc _ _) hb1
    clear hb1
    go_wp2_with fail
    refine (progBegun_c _).mono ?_
    rintro e w2 ⟨rfl, hb2⟩
    go_wp2_with fail
    go_ret
    exact ⟨rfl, k1.trans (hb2.mono k1.size)⟩

set_option maxRecDepth 100000 in
theorem true_lifted (os : Os) (started : os.Started) (H : Type) (enc : TypeId × Value → H) :
    ReturnsInHanded {} Try.checked os 5 .any (Rows.progTrueSpec.pre6 enc Try.prog Try.f5 Rows.progTrueRow.domain false) (Rows.progTrueSpec.post enc Try.prog Try.f5 false true false false) := by
  refine Kit.lifted_of (C := Try.checked) (t := 4) (by kernel_rfl) started (by kernel_rfl) Try.func5
    (ChangeSpec.witness6 (enc := enc) (C := Try.checked) false ⟨#[], #[.agg #[.slice none 0 0, .slice none 0 0], .int .i64 0], []⟩ 8 (by kernel_rfl) (by kernel_rfl) (by kernel_rfl) (by kernel_rfl))
    (by kernel_rfl) (by kernel_rfl) (by kernel_rfl) Try.underlying4 rfl ?_ ?_
  · intro ds hds
    rw [show Try.f5.params.toList.length = 2 by kernel_rfl] at hds
    match ds, hds with
    | [d0, d1], _ => rfl
  · intro W base args ds ps hval0 hA0 hsz0
    have hval : ∀ (j : Nat) t v, Try.f5.params[j]? = some t → args[j]? = some v → Value.okWide Try.prog W .any base t v := hval0
    have hA : DataW.TrodAll enc Try.prog W 0 (fun _ => true) true Try.f5.params.toList args.toList ds ps := hA0
    have hsz : (DataW.weightsEach Try.prog (Try.f5.params.toList ++ []) (ds ++ [])).all (· ≤ reachBytes) = true := hsz0
    rw [Try.params5] at hA hval hsz
    obtain ⟨v0, vs0, d0, ds0, p0, q0, hargs, rfl, rfl, h0, r0⟩ := trodAll_cons hA
    obtain ⟨v1, vs1, d1, ds1, p1, q1, rfl, rfl, rfl, h1, r1⟩ := trodAll_cons r0
    obtain ⟨rfl, rfl, rfl⟩ := trodAll_nil r1
    obtain rfl : args = #[v0, v1] := by cases args; simp_all
    have hL := Open.light_all hsz
    simp only [List.append_nil, DataW.weightsEach] at hL
    obtain ⟨n0, t0⟩ := Open.trod_one h0
    obtain ⟨n1, t1⟩ := Open.trod_one h1
    obtain ⟨pv, rv, ps, rs, e0, hp, hn, hr⟩ := Open.prog_of t0 (Open.light_left hL)
    obtain ⟨x1, e1, _, hs1⟩ := DataW.trod_int Try.underlying3 t1
    obtain rfl := Open.agg_of Try.underlying25 (hval 0 25 v0 rfl rfl) e0
    obtain rfl := Open.int_of Try.underlying3 (hval 1 3 v1 rfl rfl) e1
    exact true_walk W pv rv ps rs x1 hp hr hn hs1
end Go.Proofs.Ytgbacodellfacab.Prog
namespace Go.Proofs.Ytgbacodellfacab
/-- THE STATEMENT -/
theorem progTrue_proved : Rows.ProgTrueSaid :=
  OpenClaim.holds_of_wide 5 Try.f5 rfl rfl rfl rfl rfl rfl rfl ⟨rfl, rfl, rfl, rfl, rfl⟩ rfl rfl rfl rfl rfl (by kernel_rfl) Try.func5 (by kernel_rfl)
    (of_decide_eq_true (by kernel_rfl)) (by unfold Func.isWrapper; first | (rw [if_pos (by decide +kernel)]; kernel_rfl) | (rw [if_neg (by decide +kernel)]; exact ⟨rfl, rfl⟩))
    (fun os started H enc _ => Prog.true_lifted os started H enc)
#print axioms progTrue_proved
end Go.Proofs.Ytgbacodellfacab
