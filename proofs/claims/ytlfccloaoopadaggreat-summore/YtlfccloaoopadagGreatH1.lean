/-
  If no literal is not, all that follows from either of two programs follows from both; in whichever order.
-/
import Derived.Test.YtlfccloaoopadagGreatG28
import Derived.Test.YtlfccloaoopadagGreatG20
namespace Go.Proofs.YtlfccloaoopadagGreat.Sum
open Go.ChangeShapes Go.WideShapes Go.ChangeAt Go.RowKit
open Prog (progErr small edges intsAt slice_cells)
open Naive (modelF modelL model_less less_right)
open Base (factsErr under)
open Rule (kindOf)
open Fire (posP)

theorem union_zero {ps qs : List Prd} {rs ss : List Rul} (h : unionErr ps rs qs ss = 0) : progErr ps rs = 0 ∧ progErr qs ss = 0 ∧ ps = qs ∧ progErr ps (rs ++ ss) = 0 := by
  unfold unionErr at h
  split at h
  · contradiction
  · rename_i h1
    split at h
    · contradiction
    · rename_i h2
      split at h
      · rename_i h3
        exact ⟨Classical.not_not.1 h1, Classical.not_not.1 h2, h3, h⟩
      · cases h

theorem union_len (ps qs : List Prd) (rs ss : List Rul) : (unionP ps rs qs ss).length ≤ 500 ∧ (unionR ps rs qs ss).length ≤ 500 := by
  unfold unionP unionR
  by_cases h : unionErr ps rs qs ss = 0
  · rw [if_pos h, if_pos h]
    have := prog_bounds (union_zero h).2.2.2
    exact ⟨by have := this.preds; omega, by have := this.rules; omega⟩
  · rw [if_neg h, if_neg h]
    exact ⟨by simp, by simp⟩

set_option maxRecDepth 100000 in
set_option maxHeartbeats 8000000 in
theorem lawMore_walk (w : World) (pv rv qv sv : Value) (ps qs : List Prd) (rs ss : List Rul) (hp : predsAt w pv ps) (hr : rulesAt w rv rs) (hq : predsAt w qv qs) (hs : rulesAt w sv ss) (hn : small ps) (hn' : small qs) :
    Calls Tryz.prog 3 #[.agg #[pv, rv], .agg #[qv, sv]] w fun e w' => e = .returned (.bool true) ∧ Below w.heap.size w w' := by
  have HU1 : Hid (∀ x, Below w.heap.size w x → Calls Tryz.prog 6 #[.agg #[pv, rv], .agg #[qv, sv]] x fun e w' => ∃ v, e = .returned (.tuple #[v, .int .i64 (unionErr ps rs qs ss)]) ∧ ownP x.heap.size w' v (unionP ps rs qs ss) (unionR ps rs qs ss) ∧ Below x.heap.size x w') := fun x hx => Union_c x pv rv qv sv ps qs rs ss (predsAt.lasts hx hp) (rulesAt.lasts hx hr) (predsAt.lasts hx hq) (rulesAt.lasts hx hs) hn hn'
  have HU2 : Hid (∀ x, Below w.heap.size w x → Calls Tryz.prog 6 #[.agg #[qv, sv], .agg #[pv, rv]] x fun e w' => ∃ v, e = .returned (.tuple #[v, .int .i64 (unionErr qs ss ps rs)]) ∧ ownP x.heap.size w' v (unionP qs ss ps rs) (unionR qs ss ps rs) ∧ Below x.heap.size x w') := fun x hx => Union_c x qv sv pv rv qs ps ss rs (predsAt.lasts hx hq) (rulesAt.lasts hx hs) (predsAt.lasts hx hp) (rulesAt.lasts hx hr) hn' hn
  have HP : Hid (∀ x, Below w.heap.size w x → predsAt x pv ps) := fun x hx => predsAt.lasts hx hp
  have HR : Hid (∀ x, Below w.heap.size w x → rulesAt x rv rs) := fun x hx => rulesAt.lasts hx hr
  obtain ⟨pa, pc, rfl, _⟩ := hp
  obtain ⟨ra, rc, rfl, _⟩ := hr
  obtain ⟨qa, qc, rfl, _⟩ := hq
  obtain ⟨sa, sc, rfl, _⟩ := hs
  obtain ⟨W0, hW0⟩ : ∃ W0, (w.alloc (.cells #[.slice pa ps.length pc, .slice ra rs.length rc] 25)).alloc (.cells #[.slice qa qs.length qc, .slice sa ss.length sc] 25) = W0 := ⟨_, rfl⟩
  have b0 : Below w.heap.size w W0 := by rw [← hW0]; exact (below_alloc _ _).alloc (by simp) _
  have hs0 : W0.heap.size = w.heap.size + 2 := by rw [← hW0]; simp
  have hc0 : W0.cell? ⟨w.heap.size, 0, none⟩ = some (.slice pa ps.length pc) ∧ W0.cell? ⟨w.heap.size, 1, none⟩ = some (.slice ra rs.length rc) ∧ W0.cell? ⟨w.heap.size + 1, 0, none⟩ = some (.slice qa qs.length qc) ∧ W0.cell? ⟨w.heap.size + 1, 1, none⟩ = some (.slice sa ss.length sc) := by
    rw [← hW0]
    refine ⟨?_, ?_, ?_, ?_⟩ <;> simp [go_sem]
  have HB : Hid (∀ x, Below W0.heap.size W0 x → x.cell? ⟨w.heap.size, 0, none⟩ = some (.slice pa ps.length pc) ∧ x.cell? ⟨w.heap.size, 1, none⟩ = some (.slice ra rs.length rc) ∧ x.cell? ⟨w.heap.size + 1, 0, none⟩ = some (.slice qa qs.length qc) ∧ x.cell? ⟨w.heap.size + 1, 1, none⟩ = some (.slice sa ss.length sc)) := fun x hx => ⟨(cell_lasts hx (by omega)).trans hc0.1, (cell_lasts hx (by omega)).trans hc0.2.1, (cell_lasts hx (by omega)).trans hc0.2.2.1, (cell_lasts hx (by omega)).trans hc0.2.2.2⟩
  obtain ⟨d0, d1, d2, d3⟩ := id hc0
  clear hc0
  go_enter Tryz.func3, Tryz.ntmps3
  go_wp2_with fail
  clear hW0
  refine (HU1.out _ b0).mono ?_
  rintro e W1 ⟨v, rfl, ho, hb1⟩
  have k1 : Below w.heap.size w W1 := b0.trans (hb1.mono b0.size)
  have HL1 : Hid (∃ n m, (unionP ps rs qs ss).length = n ∧ (unionR ps rs qs ss).length = m) := ⟨_, _, rfl, rfl⟩
  obtain ⟨n1, m1, hn1, hm1⟩ := HL1.out
  have hlp : n1 ≤ 500 ∧ m1 ≤ 500 := by rw [← hn1, ← hm1]; exact union_len ps qs rs ss
  obtain ⟨xa, xc, ya, yc, rfl, hf1, _⟩ := own3 ho hn1 hm1 hlp.1 hlp.2
  obtain ⟨W2, hW2⟩ : ∃ W2, W1.alloc (.cells #[.slice xa n1 xc, .slice ya m1 yc] 25) = W2 := ⟨_, rfl⟩
  have b2 : Below W1.heap.size W1 W2 := by rw [← hW2]; exact below_alloc _ _
  have x2 : boxAt W2 W1.heap.size (.slice xa n1 xc) (.slice ya m1 yc) := by rw [← hW2]; exact box_new _ _ _
  have q2 : Below W0.heap.size W0 W2 := hb1.trans (b2.mono hb1.size)
  have k2 : Below w.heap.size w W2 := b0.trans (q2.mono b0.size)
  clear d0 d1 d2 d3
  obtain ⟨d0, d1, d2, d3⟩ := HB.out W2 q2
  go_wp2_with fail
  clear hW2
  refine (HU2.out _ k2).mono ?_
  rintro e W3 ⟨v', rfl, ho', hb3⟩
  obtain ⟨n2, m2, hn2, hm2⟩ : ∃ n m, (unionP qs ss ps rs).length = n ∧ (unionR qs ss ps rs).length = m := ⟨_, _, rfl, rfl⟩
  have hlp' : n2 ≤ 500 ∧ m2 ≤ 500 := by rw [← hn2, ← hm2]; exact union_len qs ps ss rs
  obtain ⟨xb, xd, yb, yd, rfl, hf3, _⟩ := own3 ho' hn2 hm2 hlp'.1 hlp'.2
  obtain ⟨W4, hW4⟩ : ∃ W4, W3.alloc (.cells #[.slice xb n2 xd, .slice yb m2 yd] 25) = W4 := ⟨_, rfl⟩
  have b4 : Below W3.heap.size W3 W4 := by rw [← hW4]; exact below_alloc _ _
  have x4 : boxAt W4 W3.heap.size (.slice xb n2 xd) (.slice yb m2 yd) := by rw [← hW4]; exact box_new _ _ _
  have q24 : Below W2.heap.size W2 W4 := hb3.trans (b4.mono hb3.size)
  have q4 : Below W0.heap.size W0 W4 := q2.trans (q24.mono q2.size)
  have k4 : Below w.heap.size w W4 := b0.trans (q4.mono b0.size)
  have HC : Hid (∀ x, Below W4.heap.size W4 x → x.cell? ⟨w.heap.size, 0, none⟩ = some (.slice pa ps.length pc) ∧ x.cell? ⟨w.heap.size, 1, none⟩ = some (.slice ra rs.length rc) ∧ x.cell? ⟨W1.heap.size, 0, none⟩ = some (.slice xa n1 xc) ∧ x.cell? ⟨W1.heap.size, 1, none⟩ = some (.slice ya m1 yc) ∧ x.cell? ⟨W3.heap.size, 0, none⟩ = some (.slice xb n2 xd) ∧ x.cell? ⟨W3.heap.size, 1, none⟩ = some (.slice yb m2 yd)) := fun x hx => by
    have h0 := HB.out x (q4.trans (hx.mono q4.size))
    have h1 := box_cells (((q24.trans (hx.mono q24.size)).block _ (box_cells x2).2.2.2.2).trans x2)
    have h2 := box_cells ((hx.block _ (box_cells x4).2.2.2.2).trans x4)
    exact ⟨h0.1, h0.2.1, h1.1, h1.2.1, h2.1, h2.2.1⟩
  have HF1 : Hid (∀ x, Below W4.heap.size W4 x → predsAt x (.slice xa n1 xc) (unionP ps rs qs ss) ∧ rulesAt x (.slice ya m1 yc) (unionR ps rs qs ss)) := fun x hx => hf1 x (KeepsFrom.below ((b2.trans (q24.mono b2.size)).trans (hx.mono (b2.trans (q24.mono b2.size)).size)))
  have HF3 : Hid (∀ x, Below W4.heap.size W4 x → predsAt x (.slice xb n2 xd) (unionP qs ss ps rs) ∧ rulesAt x (.slice yb m2 yd) (unionR qs ss ps rs)) := fun x hx => hf3 x (KeepsFrom.below (b4.trans (hx.mono b4.size)))
  clear d0 d1 d2 d3 ho ho' hf1 hf3 x2 x4
  by_cases h1 : unionErr ps rs qs ss = 0
  · rw [h1]
    by_cases h2 : unionErr qs ss ps rs = 0
    · rw [h2]
      obtain ⟨g1, _, rfl, g2⟩ := union_zero h1
      obtain ⟨_, _, _, g3⟩ := union_zero h2
      have hP1 : unionP ps rs ps ss = ps := by rw [unionP, if_pos h1]
      have hR1 : unionR ps rs ps ss = rs ++ ss := by rw [unionR, if_pos h1]
      have hP2 : unionP ps ss ps rs = ps := by rw [unionP, if_pos h2]
      have hR2 : unionR ps ss ps rs = ss ++ rs := by rw [unionR, if_pos h2]
      rw [hP1, hR1] at HF1
      rw [hP2, hR2] at HF3
      have hmo : modelL ps (ss ++ rs) = modelL ps (rs ++ ss) := (Naive.model_order g2 (fun r => by simp only [List.mem_append]; exact or_comm) (prog_bounds g3).rules).1
      have hml : posP (rs ++ ss) = true → under (kindOf ps) (modelL ps rs) (modelL ps (rs ++ ss)) = true := fun h => model_less g2 (fun r hr => List.mem_append.2 (.inl hr)) (prog_bounds g1).rules h
      have hun := Round.underOf_right (model_facts g1) (model_facts g2)
      have HM1 : Hid (∀ x, Below W4.heap.size W4 x → Calls Tryz.prog 8 #[.agg #[.slice xa n1 xc, .slice ya m1 yc]] x fun e w' => ∃ a c, e = .returned (.tuple #[.slice a (modelL ps (rs ++ ss)).length c, .int .i64 0]) ∧ factsAt w' (.slice a (modelL ps (rs ++ ss)).length c) (modelL ps (rs ++ ss)) ∧ Below x.heap.size x w') := fun x hx => model_c x _ _ ps (rs ++ ss) (HF1.out x hx).1 (HF1.out x hx).2 hn g2
      have HM2 : Hid (∀ x, Below W4.heap.size W4 x → Calls Tryz.prog 8 #[.agg #[.slice xb n2 xd, .slice yb m2 yd]] x fun e w' => ∃ a c, e = .returned (.tuple #[.slice a (modelL ps (rs ++ ss)).length c, .int .i64 0]) ∧ factsAt w' (.slice a (modelL ps (rs ++ ss)).length c) (modelL ps (rs ++ ss)) ∧ Below x.heap.size x w') := fun x hx => by
        have h := model_c x _ _ ps (ss ++ rs) (HF3.out x hx).1 (HF3.out x hx).2 hn g3
        rw [hmo] at h
        exact h
      have HM3 : Hid (∀ x, Below W4.heap.size W4 x → Calls Tryz.prog 8 #[.agg #[.slice pa ps.length pc, .slice ra rs.length rc]] x fun e w' => ∃ a c, e = .returned (.tuple #[.slice a (modelL ps rs).length c, .int .i64 0]) ∧ factsAt w' (.slice a (modelL ps rs).length c) (modelL ps rs) ∧ Below x.heap.size x w') := fun x hx => model_c x _ _ ps rs (HP.out x (k4.trans (hx.mono k4.size))) (HR.out x (k4.trans (hx.mono k4.size))) hn g1
      have HPO : Hid (∀ x, Below W4.heap.size W4 x → Calls Tryz.prog 11 #[.agg #[.slice xa n1 xc, .slice ya m1 yc]] x fun e w' => e = .returned (.bool (posP (rs ++ ss))) ∧ Below x.heap.size x w') := fun x hx => Fire.positive_c x (.slice xa n1 xc) _ (rs ++ ss) ⟨_, _, _, rfl⟩ (HF1.out x hx).2
      have HPP : Hid (∀ x, Below W4.heap.size W4 x → predsAt x (.slice pa ps.length pc) ps) := fun x hx => HP.out x (k4.trans (hx.mono k4.size))
      have HUN : Hid (Base.underOf ps (modelL ps rs) (modelL ps (rs ++ ss)) = (under (kindOf ps) (modelL ps rs) (modelL ps (rs ++ ss)), 0)) := hun
      have HML : Hid (posP (rs ++ ss) = true → under (kindOf ps) (modelL ps rs) (modelL ps (rs ++ ss)) = true) := hml
      clear hmo hml hun HF1 HF3 g1 g2 g3 hP1 hR1 hP2 hR2 HU1 HU2
      obtain ⟨ub, hub⟩ : ∃ ub, under (kindOf ps) (modelL ps rs) (modelL ps (rs ++ ss)) = ub := ⟨_, rfl⟩
      obtain ⟨pb, hpb⟩ : ∃ pb, posP (rs ++ ss) = pb := ⟨_, rfl⟩
      obtain ⟨M, hM⟩ : ∃ M, modelL ps (rs ++ ss) = M := ⟨_, rfl⟩
      obtain ⟨N, hN⟩ : ∃ N, modelL ps rs = N := ⟨_, rfl⟩
      rw [hpb] at HPO HML
      rw [hM] at HM1 HM2
      rw [hN] at HM3
      rw [hub] at HUN HML
      rw [hM, hN] at HUN
      clear hub hpb hM hN
      obtain ⟨c0, c1, c2, c3, c4, c5⟩ := HC.out W4 (Below.refl _ _)
      go_wp2_with fail
      clear hW4
      refine (HM1.out _ (Below.refl _ _)).mono ?_
      rintro e W5 ⟨ma, mc, rfl, hf5, hb5⟩
      clear c0 c1 c2 c3 c4 c5
      obtain ⟨c0, c1, c2, c3, c4, c5⟩ := HC.out W5 hb5
      go_wp2_with fail
      refine (HM2.out _ hb5).mono ?_
      rintro e W6 ⟨na, nc, rfl, hf6, hb6⟩
      have q6 : Below W4.heap.size W4 W6 := hb5.trans (hb6.mono hb5.size)
      clear c0 c1 c2 c3 c4 c5
      obtain ⟨c0, c1, c2, c3, c4, c5⟩ := HC.out W6 q6
      go_wp2_with fail
      refine (HM3.out _ q6).mono ?_
      rintro e W7 ⟨oa, oc, rfl, hf7, hb7⟩
      have q7 : Below W4.heap.size W4 W7 := q6.trans (hb7.mono q6.size)
      have HSF : Hid (Calls Tryz.prog 9 #[.slice ma M.length mc, .slice na M.length nc] W7 fun e w' => e = .returned (.bool true) ∧ Below W7.heap.size W7 w') := by
        have h := Base.sameFacts_c W7 _ _ M M (factsAt.lasts (hb6.trans (hb7.mono hb6.size)) hf5) (factsAt.lasts hb7 hf6)
        rw [decide_eq_true rfl] at h
        exact h
      clear c0 c1 c2 c3 c4 c5
      go_wp2_with fail
      refine HSF.out.mono ?_
      rintro e W8 ⟨rfl, hb8⟩
      have q8 : Below W4.heap.size W4 W8 := q7.trans (hb8.mono q7.size)
      have HU := Base.Under_c W8 _ _ _ ps N M (HPP.out W8 q8) (factsAt.lasts hb8 hf7) (factsAt.lasts (hb6.trans ((hb7.trans (hb8.mono hb7.size)).mono hb6.size)) hf5)
      rw [HUN.out] at HU
      clear hf5 hf6 hf7
      obtain ⟨c0, c1, c2, c3, c4, c5⟩ := HC.out W8 q8
      go_wp2_with fail
      refine HU.mono ?_
      rintro e W9 ⟨rfl, hb9⟩
      have q9 : Below W4.heap.size W4 W9 := q8.trans (hb9.mono q8.size)
      clear c0 c1 c2 c3 c4 c5 HU
      go_wp2_with fail
      refine (sumBegun_c _).mono ?_
      rintro e W10 ⟨rfl, hb10⟩
      have q10 : Below W4.heap.size W4 W10 := q9.trans (hb10.mono q9.size)
      have k10 : Below w.heap.size w W10 := k4.trans (q10.mono k4.size)
      obtain ⟨c0, c1, c2, c3, c4, c5⟩ := HC.out W10 q10
      cases pb
      · go_wp2_with fail
        refine (HPO.out _ q10).mono ?_
        rintro e W11 ⟨rfl, hb11⟩
        go_wp2_with fail
        go_ret
        exact ⟨rfl, k10.trans (hb11.mono k10.size)⟩
      · obtain rfl : ub = true := HML.out rfl
        go_wp2_with fail
        refine (HPO.out _ q10).mono ?_
        rintro e W11 ⟨rfl, hb11⟩
        go_wp2_with fail
        go_ret
        exact ⟨rfl, k10.trans (hb11.mono k10.size)⟩
    · have h2' : unionErr qs ss ps rs ≠ 0 := h2
      go_wp2_with fail
      refine (sumBegun_c _).mono ?_
      rintro e W5 ⟨rfl, hb5⟩
      go_wp2_with fail
      go_ret
      exact ⟨rfl, k4.trans (hb5.mono k4.size)⟩
  · have h1' : unionErr ps rs qs ss ≠ 0 := h1
    go_wp2_with fail
    refine (sumBegun_c _).mono ?_
    rintro e W5 ⟨rfl, hb5⟩
    go_wp2_with fail
    go_ret
    exact ⟨rfl, k4.trans (hb5.mono k4.size)⟩
end Go.Proofs.YtlfccloaoopadagGreat.Sum
