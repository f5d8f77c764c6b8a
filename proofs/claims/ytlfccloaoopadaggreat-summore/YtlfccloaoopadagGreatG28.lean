/-
  Without a rule it is still right, no stratum is greater, and, if no literal is not, nothing else follows than did.
-/
import Derived.Test.YtlfccloaoopadagGreatG18
import Derived.Test.YtlfccloaoopadagGreatG26
import Derived.Test.YtlfccloaoopadagGreatG21
import Derived.Test.YtlfccloaoopadagGreatG22
namespace Go.Proofs.YtlfccloaoopadagGreat.Sum
open Go.ChangeShapes Go.WideShapes Go.ChangeAt Go.RowKit
open Prog (progErr small edges intsAt slice_cells)
open Strata (strataL)

open Naive (modelF modelL model_less less_right)
open Round (stratOf)
open Base (factsErr under)
open Rule (kindOf)
open Fire (posP)

theorem dropR_mem {rs : List Rul} {n : Nat} : ∀ r ∈ dropR rs n, r ∈ rs := fun r h => by
  rcases List.mem_append.1 h with h | h
  · exact List.mem_of_mem_take h
  · exact List.mem_of_mem_drop h
theorem dropR_len (rs : List Rul) (n : Nat) : (dropR rs n).length ≤ rs.length := by
  rw [dropR, List.length_append, List.length_take, List.length_drop]
  omega
theorem model_facts {ps : List Prd} {rs : List Rul} (h : progErr ps rs = 0) : factsErr ps (modelL ps rs) = 0 := (Round.once_level 0 (Naive.model_right h _)).2.1
theorem model_is {ps : List Prd} {rs : List Rul} (h : progErr ps rs = 0) : modelF ps rs = modelL ps rs := by rw [modelF, if_neg (by rw [h]; simp)]
/-- Strata of a right program -/
theorem strata_c (x : World) (pv rv : Value) (ps : List Prd) (rs : List Rul) (hp : predsAt x pv ps) (hr : rulesAt x rv rs) (hn : small ps) (h : progErr ps rs = 0) : Calls Tryz.prog 13 #[.agg #[pv, rv]] x fun e w' => ∃ a c, e = .returned (.tuple #[.slice a ps.length c, .int .i64 0]) ∧ intsAt w' (.slice a ps.length c) (stratOf ps rs) ∧ Below x.heap.size x w' := by
  refine (Prog.devStrata_c x pv rv ps rs hp hr hn).mono ?_
  rintro e w' ⟨⟨v, rfl, _, hv⟩, hb⟩
  obtain ⟨h1, h2⟩ := Round.strat_some h
  have hi := hv _ h1 h
  obtain ⟨a, c, rfl, h3⟩ := hi
  rw [h2]
  refine ⟨a, c, by rw [h], ?_, hb⟩
  have e : (Value.slice a ps.length c) = .slice a (stratOf ps rs).length c := by rw [h2]
  rw [e]
  exact ⟨a, c, rfl, h3⟩
theorem model_c (x : World) (pv rv : Value) (ps : List Prd) (rs : List Rul) (hp : predsAt x pv ps) (hr : rulesAt x rv rs) (hn : small ps) (h : progErr ps rs = 0) : Calls Tryz.prog 8 #[.agg #[pv, rv]] x fun e w' => ∃ a c, e = .returned (.tuple #[.slice a (modelL ps rs).length c, .int .i64 0]) ∧ factsAt w' (.slice a (modelL ps rs).length c) (modelL ps rs) ∧ Below x.heap.size x w' := by
  refine (Naive.devModel_c x pv rv ps rs hp hr hn).mono ?_
  rintro e w' ⟨u, rfl, hf, hb⟩
  rw [model_is h] at hf
  obtain ⟨a, c, rfl, h3⟩ := hf
  exact ⟨a, c, by rw [h], ⟨a, c, rfl, h3⟩, hb⟩

set_option maxRecDepth 100000 in
set_option maxHeartbeats 8000000 in
theorem lawLess_walk (w : World) (pv rv : Value) (n : Int) (ps : List Prd) (rs : List Rul) (hp : predsAt w pv ps) (hr : rulesAt w rv rs) (hn : small ps) (hcap : capLe rv) (hnr : -9223372036854775808 ≤ n ∧ n ≤ 9223372036854775807) :
    Calls Tryz.prog 4 #[.agg #[pv, rv], .int .i64 n] w fun e w' => e = .returned (.bool true) ∧ Below w.heap.size w w' := by
  have HWO : Hid (∀ x, Below w.heap.size w x → Calls Tryz.prog 12 #[.agg #[pv, rv], .int .i64 n] x fun e w' => ∃ v, e = .returned (.tuple #[v, .int .i64 (withoutErr ps rs n)]) ∧ ownP x.heap.size w' v (withoutP ps rs n) (withoutR ps rs n) ∧ Below x.heap.size x w') := fun x hx => Without_c x pv rv ps rs n hnr (predsAt.lasts hx hp) (rulesAt.lasts hx hr) hn hcap
  have HP : Hid (∀ x, Below w.heap.size w x → predsAt x pv ps) := fun x hx => predsAt.lasts hx hp
  have HR : Hid (∀ x, Below w.heap.size w x → rulesAt x rv rs) := fun x hx => rulesAt.lasts hx hr
  obtain ⟨pa, pc, rfl, _⟩ := hp
  obtain ⟨ra, rc, rfl, _⟩ := hr
  obtain ⟨W0, hW0⟩ : ∃ W0, w.alloc (.cells #[.slice pa ps.length pc, .slice ra rs.length rc] 25) = W0 := ⟨_, rfl⟩
  have b0 : Below w.heap.size w W0 := by rw [← hW0]; exact below_alloc _ _
  have x0 : boxAt W0 w.heap.size (.slice pa ps.length pc) (.slice ra rs.length rc) := by rw [← hW0]; exact box_new _ _ _
  have HB : Hid (∀ x, Below W0.heap.size W0 x → boxAt x w.heap.size (.slice pa ps.length pc) (.slice ra rs.length rc)) := fun x hx => (hx.block _ (box_cells x0).2.2.2.2).trans x0
  obtain ⟨c0, c1, _, _, _⟩ := box_cells x0
  go_enter Tryz.func4, Tryz.ntmps4
  go_wp2_with fail
  clear hW0
  refine (HWO.out _ b0).mono ?_
  rintro e W1 ⟨v, rfl, ho, hb1⟩
  have k1 : Below w.heap.size w W1 := b0.trans (hb1.mono b0.size)
  by_cases hwe : withoutErr ps rs n = 0
  · have hpe : progErr ps rs = 0 := by
      unfold withoutErr at hwe
      split at hwe
      · contradiction
      · rename_i h; exact Classical.not_not.1 h
    rw [withoutP, withoutR, if_pos hwe, if_pos hwe] at ho
    have hb8 := (prog_bounds hpe)
    have hql : (dropR rs n.toNat).length ≤ 8 := Nat.le_trans (dropR_len _ _) hb8.rules
    obtain ⟨hqe, hst⟩ := less_right hpe (dropR_mem (rs := rs) (n := n.toNat)) hql
    have hml := fun h => model_less hpe (dropR_mem (rs := rs) (n := n.toNat)) hql h
    rw [hwe]
    generalize dropR rs n.toNat = QS at *
    obtain ⟨qa, qc, ta, tc, rfl, hfr, _⟩ := own3 ho rfl rfl (by have := hb8.preds; omega) (by omega)
    have HQ : Hid (∀ x, Below W1.heap.size W1 x → predsAt x (.slice qa ps.length qc) ps ∧ rulesAt x (.slice ta QS.length tc) QS) := fun x hx => hfr x (KeepsFrom.below hx)
    obtain ⟨W2, hW2⟩ : ∃ W2, W1.alloc (.cells #[.slice qa ps.length qc, .slice ta QS.length tc] 25) = W2 := ⟨_, rfl⟩
    have b2 : Below W1.heap.size W1 W2 := by rw [← hW2]; exact below_alloc _ _
    have x2 : boxAt W2 W1.heap.size (.slice qa ps.length qc) (.slice ta QS.length tc) := by rw [← hW2]; exact box_new _ _ _
    have q2 : Below W0.heap.size W0 W2 := hb1.trans (b2.mono hb1.size)
    have HC : Hid (∀ x, Below W2.heap.size W2 x → x.cell? ⟨w.heap.size, 0, none⟩ = some (.slice pa ps.length pc) ∧ x.cell? ⟨w.heap.size, 1, none⟩ = some (.slice ra rs.length rc) ∧ x.cell? ⟨W1.heap.size, 0, none⟩ = some (.slice qa ps.length qc) ∧ x.cell? ⟨W1.heap.size, 1, none⟩ = some (.slice ta QS.length tc)) := fun x hx => by
      have h1 := box_cells (HB.out x (q2.trans (hx.mono q2.size)))
      have h2 := box_cells ((hx.block _ (box_cells x2).2.2.2.2).trans x2)
      exact ⟨h1.1, h1.2.1, h2.1, h2.2.1⟩
    have HD : Hid (∀ x, Below W2.heap.size W2 x → predsAt x (.slice pa ps.length pc) ps ∧ rulesAt x (.slice ra rs.length rc) rs ∧ predsAt x (.slice qa ps.length qc) ps ∧ rulesAt x (.slice ta QS.length tc) QS) := fun x hx => by
      have h1 : Below w.heap.size w x := b0.trans ((q2.trans (hx.mono q2.size)).mono b0.size)
      have h2 := HQ.out x (b2.trans (hx.mono b2.size))
      exact ⟨HP.out x h1, HR.out x h1, h2.1, h2.2⟩
    have k2 : Below w.heap.size w W2 := b0.trans (q2.mono b0.size)
    have HST : Hid (∀ k, Strata.at_ (stratOf ps QS) k ≤ Strata.at_ (stratOf ps rs) k) := hst
    have HSL : Hid ((stratOf ps rs).length = ps.length ∧ (stratOf ps QS).length = ps.length) := ⟨(Round.strat_some hpe).2, (Round.strat_some hqe).2⟩
    have HUN : Hid (Base.underOf ps (modelL ps QS) (modelL ps rs) = (under (kindOf ps) (modelL ps QS) (modelL ps rs), 0)) := Round.underOf_right (model_facts hqe) (model_facts hpe)
    have HML : Hid (posP rs = true → under (kindOf ps) (modelL ps QS) (modelL ps rs) = true) := hml
    have hps5 : ps.length ≤ 5 := hb8.preds
    have HPE : Hid (progErr ps rs = 0 ∧ progErr ps QS = 0) := ⟨hpe, hqe⟩
    clear c0 c1 ho hfr hql hst hml hb8 x0 x2 hpe hqe
    obtain ⟨c0, c1, c2, c3⟩ := HC.out W2 (Below.refl _ _)
    obtain ⟨p0, p1, p2, p3⟩ := HD.out W2 (Below.refl _ _)
    have HS1 := strata_c W2 _ _ ps rs p0 p1 hn HPE.out.1
    go_wp2_with fail
    clear hW2
    refine HS1.mono ?_
    rintro e W3 ⟨sa, sc, rfl, hi3, hb3⟩
    clear c0 c1 c2 c3 p0 p1 p2 p3 HS1
    obtain ⟨c0, c1, c2, c3⟩ := HC.out W3 hb3
    obtain ⟨p0, p1, p2, p3⟩ := HD.out W3 hb3
    have HS2 := strata_c W3 _ _ ps QS p2 p3 hn HPE.out.2
    go_wp2_with fail
    refine HS2.mono ?_
    rintro e W4 ⟨ua, uc, rfl, hi4, hb4⟩
    have q24 : Below W2.heap.size W2 W4 := hb3.trans (hb4.mono hb3.size)
    have HI : Hid (∀ x, Below W4.heap.size W4 x → intsAt x (.slice sa ps.length sc) (stratOf ps rs) ∧ intsAt x (.slice ua ps.length uc) (stratOf ps QS)) := fun x hx => ⟨Prog.intsAt.lasts (hb4.trans (hx.mono hb4.size)) hi3, Prog.intsAt.lasts hx hi4⟩
    clear c0 c1 c2 c3 p0 p1 p2 p3 HS2 hi3 hi4
    go_wp2_with fail
    go_loopw [11] (fun i wr => ∃ j : Nat, j ≤ ps.length ∧ i = .int .i64 j ∧ Below W4.heap.size W4 wr) (fun i _ => ps.length - (intOf i).toNat)
    case atStart => exact ⟨0, Nat.zero_le _, rfl, Below.refl _ _⟩
    case round =>
      obtain ⟨j, hj, rfl, hbw⟩ := hrel
      by_cases hlt : j < ps.length
      · have hj1 : j < (stratOf ps rs).length := by rw [HSL.out.1]; exact hlt
        have hj2 : j < (stratOf ps QS).length := by rw [HSL.out.2]; exact hlt
        obtain ⟨y1, o1, d1, hv1, s1, t1⟩ := slice_cells (HI.out wr hbw).1 hj1
        obtain ⟨y2, o2, d2, hv2, s2, t2⟩ := slice_cells (HI.out wr hbw).2 hj2
        obtain ⟨rfl, rfl⟩ : sa = some ⟨y1, o1, none⟩ ∧ sc = d1 := by simp only [Value.slice.injEq] at hv1; exact ⟨hv1.1, hv1.2.2⟩
        obtain ⟨rfl, rfl⟩ : ua = some ⟨y2, o2, none⟩ ∧ uc = d2 := by simp only [Value.slice.injEq] at hv2; exact ⟨hv2.1, hv2.2.2⟩
        have hle : ¬ (((stratOf ps QS)[j] : Nat) : Int) > (((stratOf ps rs)[j] : Nat) : Int) := by
          have h := HST.out j
          unfold Strata.at_ at h
          simp [hj1, hj2] at h
          omega
        have m1 : wr.cell? ⟨y1, o1 + j, none⟩ = some (.int .i64 (((stratOf ps rs)[j] : Nat) : Int)) := by have := t1; rwa [Nat.mul_one] at this
        have m2 : wr.cell? ⟨y2, o2 + j, none⟩ = some (.int .i64 (((stratOf ps QS)[j] : Nat) : Int)) := by have := t2; rwa [Nat.mul_one] at this
        have hjl : (j : Int) < (ps.length : Int) := by omega
        have hj0 : (0 : Int) ≤ (j : Int) := by omega
        generalize (((stratOf ps rs)[j] : Nat) : Int) = v1 at *
        generalize (((stratOf ps QS)[j] : Nat) : Int) = v2 at *
        have hle2 : ¬ v1 < v2 := hle
        clear hv1 hv2 t1 t2 hj1 hj2
        go_wp2_with fail
        have L0 : ∀ x : Low wr.heap.size wr, x.wd.cell? ⟨y1, o1 + j, none⟩ = some (.int .i64 v1) := fun x => (cell_lasts x.low s1).trans m1
        have L1 : ∀ x : Low wr.heap.size wr, x.wd.cell? ⟨y2, o2 + j, none⟩ = some (.int .i64 v2) := fun x => (cell_lasts x.low s2).trans m2
        refine wp_region_low wr.heap.size (by kernel_rfl) (by kernel_rfl) ?_
        repeat (go_big_quiet_step (fail))
        refine wpQuiet_nil ?_
        rintro _ ⟨⟨w1, hk⟩, rfl⟩
        clear L0 L1 m1 m2
        go_wp2_with fail
        go_roundw
        case rel => exact ⟨j + 1, by omega, by go_num, hbw.trans (hk.mono hbw.size)⟩
        case measure => simp [intOf]; omega
      · obtain rfl : j = ps.length := by omega
        have q2w : Below W2.heap.size W2 wr := q24.trans (hbw.mono q24.size)
        obtain ⟨c0, c1, c2, c3⟩ := HC.out wr q2w
        obtain ⟨p0, p1, p2, p3⟩ := HD.out wr q2w
        have HM1 := model_c wr _ _ ps QS p2 p3 hn HPE.out.2
        go_wp2_with fail
        refine HM1.mono ?_
        rintro e W5 ⟨ma, mc, rfl, hf5, hb5⟩
        have q5 : Below W2.heap.size W2 W5 := q2w.trans (hb5.mono q2w.size)
        clear c0 c1 c2 c3 p0 p1 p2 p3 HM1
        obtain ⟨c0, c1, c2, c3⟩ := HC.out W5 q5
        obtain ⟨p0, p1, p2, p3⟩ := HD.out W5 q5
        have HM2 := model_c W5 _ _ ps rs p0 p1 hn HPE.out.1
        go_wp2_with fail
        refine HM2.mono ?_
        rintro e W6 ⟨na, nc, rfl, hf6, hb6⟩
        have q6 : Below W2.heap.size W2 W6 := q5.trans (hb6.mono q5.size)
        clear c0 c1 c2 c3 p0 p1 p2 p3 HM2
        obtain ⟨c0, c1, c2, c3⟩ := HC.out W6 q6
        obtain ⟨p0, p1, p2, p3⟩ := HD.out W6 q6
        have HU := Base.Under_c W6 _ _ _ ps _ _ p0 (factsAt.lasts hb6 hf5) hf6
        rw [HUN.out] at HU
        clear hf5 hf6
        generalize under (kindOf ps) (modelL ps QS) (modelL ps rs) = ub at *
        generalize modelL ps QS = M1 at *
        generalize modelL ps rs = M2 at *
        go_wp2_with fail
        refine HU.mono ?_
        rintro e W7 ⟨rfl, hb7⟩
        have q7 : Below W2.heap.size W2 W7 := q6.trans (hb7.mono q6.size)
        clear c0 c1 c2 c3 p0 p1 p2 p3 HU
        go_wp2_with fail
        refine (sumBegun_c _).mono ?_
        rintro e W8 ⟨rfl, hb8⟩
        have q8 : Below W2.heap.size W2 W8 := q7.trans (hb8.mono q7.size)
        have k8 : Below w.heap.size w W8 := k2.trans (q8.mono k2.size)
        obtain ⟨c0, c1, c2, c3⟩ := HC.out W8 q8
        obtain ⟨p0, p1, p2, p3⟩ := HD.out W8 q8
        have HPO := Fire.positive_c W8 (.slice pa ps.length pc) _ rs ⟨_, _, _, rfl⟩ p1
        clear p0 p1 p2 p3
        cases hpos : posP rs
        · rw [hpos] at HPO
          go_wp2_with fail
          refine HPO.mono ?_
          rintro e W9 ⟨rfl, hb9⟩
          go_wp2_with fail
          go_ret
          exact ⟨rfl, k8.trans (hb9.mono k8.size)⟩
        · rw [hpos] at HPO
          obtain rfl : ub = true := HML.out hpos
          go_wp2_with fail
          refine HPO.mono ?_
          rintro e W9 ⟨rfl, hb9⟩
          go_wp2_with fail
          go_ret
          exact ⟨rfl, k8.trans (hb9.mono k8.size)⟩
  · have hwe' : withoutErr ps rs n ≠ 0 := hwe
    rw [withoutP, withoutR, if_neg hwe, if_neg hwe] at ho
    obtain ⟨qa, qc, ta, tc, rfl, _⟩ := own3 ho (n := 0) (m := 0) rfl rfl (by omega) (by omega)
    clear ho
    go_wp2_with fail
    refine (sumBegun_c _).mono ?_
    rintro e W3 ⟨rfl, hb3⟩
    go_wp2_with fail
    go_ret
    exact ⟨rfl, k1.trans (((below_alloc _ _).trans (hb3.mono (below_alloc _ _).size)).mono k1.size)⟩
end Go.Proofs.YtlfccloaoopadagGreat.Sum
