/-
  The walk of the law on what holds of more.
-/
import Derived.Test.YtkeoeceejhicaacGreatG22
import Derived.Test.YtkeoeceejhicaacGreatH1
namespace Go.Proofs.YtkeoeceejhicaacGreat.Fire
open Go.ChangeShapes Go.WideShapes Go.ChangeAt Go.RowKit
open Rule (Vars kindOf ruleErr factFine)
open Base (factsErr under capOk underOf)
open Prog (progErr small)

theorem below_four {wr x : World} (hx : Below wr.heap.size wr x) (y0 y1 y2 y3 : Value) : Below wr.heap.size wr ((((x.setCell ⟨wr.heap.size, 0, none⟩ y0).setCell ⟨wr.heap.size, 1, none⟩ y1).setCell ⟨wr.heap.size, 2, none⟩ y2).setCell ⟨wr.heap.size, 3, none⟩ y3) := by
  have e : ∀ o, wr.heap.size ≤ (⟨wr.heap.size, o, none⟩ : Addr).block := fun _ => Nat.le_refl _
  exact (((hx.setCell (e _) _).setCell (e _) _).setCell (e _) _).setCell (e _) _
theorem zero_box {wr x : World} (hx : Below (wr.alloc (.cells #[.int .i64 0, .int .i64 0, .int .i64 0, .int .i64 0] 29)).drew.heap.size (wr.alloc (.cells #[.int .i64 0, .int .i64 0, .int .i64 0, .int .i64 0] 29)).drew x) : x.cell? ⟨wr.heap.size, 0, none⟩ = some (.int .i64 0) ∧ x.cell? ⟨wr.heap.size, 1, none⟩ = some (.int .i64 0) ∧ x.cell? ⟨wr.heap.size, 2, none⟩ = some (.int .i64 0) ∧ x.cell? ⟨wr.heap.size, 3, none⟩ = some (.int .i64 0) ∧ ∀ o, x.frozen? ⟨wr.heap.size, o, none⟩ = false := by
  have hlt' : wr.heap.size < (wr.alloc (.cells #[.int .i64 0, .int .i64 0, .int .i64 0, .int .i64 0] 29)).drew.heap.size := by simp [World.drew]
  have e := fun o => cell_lasts hx (o := o) hlt'
  rw [e, e, e, e]
  refine ⟨?_, ?_, ?_, ?_, fun o => ?_⟩
  all_goals first | rw [(bcell hx).2 _ _ hlt'] | skip
  all_goals simp [go_sem]
theorem cell_bound {w : World} {b o : Nat} {v : Value} (h : w.cell? ⟨b, o, none⟩ = some v) : b < w.heap.size := by
  obtain ⟨o', ho, _⟩ := cells_of_cell h
  exact (Array.getElem?_eq_some_iff.1 ho).1
theorem four_on {w x : World} {b : Nat} {a0 a1 a2 a3 : Value} (hx : Below w.heap.size w x) (h : w.cell? ⟨b, 0, none⟩ = some a0 ∧ w.cell? ⟨b, 1, none⟩ = some a1 ∧ w.cell? ⟨b, 2, none⟩ = some a2 ∧ w.cell? ⟨b, 3, none⟩ = some a3) : x.cell? ⟨b, 0, none⟩ = some a0 ∧ x.cell? ⟨b, 1, none⟩ = some a1 ∧ x.cell? ⟨b, 2, none⟩ = some a2 ∧ x.cell? ⟨b, 3, none⟩ = some a3 := by
  have hb := cell_bound h.1
  exact ⟨(cell_lasts hx hb).trans h.1, (cell_lasts hx hb).trans h.2.1, (cell_lasts hx hb).trans h.2.2.1, (cell_lasts hx hb).trans h.2.2.2⟩

theorem facts_one (w : World) (x : Fct) : factsAt (w.alloc (.cells #[.int .i64 x.pred, .int .i64 x.a, .int .i64 x.b, .int .i64 x.val] 29)) (.slice (some ⟨w.heap.size, 0, none⟩) 1 1) [x] := by
  refine ⟨_, 1, rfl, by simp, .inr ⟨w.heap.size, 0, rfl, by simp, fun i y hi => ?_⟩⟩
  match i, hi with
  | 0, hi =>
    obtain rfl : x = y := by simpa using hi
    refine ⟨?_, ?_, ?_, ?_⟩ <;> simp [go_sem]
  | i + 1, hi => simp at hi

set_option maxRecDepth 100000 in
set_option maxHeartbeats 16000000 in
theorem lawTrue_walk (w : World) (pv rv fv gv : Value) (ps : List Prd) (rs : List Rul) (f g : List Fct) (n : Int) (hp : predsAt w pv ps) (hr : rulesAt w rv rs) (hf : factsAt w fv f) (hg : factsAt w gv g) (hn : small ps) :
    Calls Tryz.prog 5 #[.agg #[pv, rv], fv, gv, .int .i64 n] w fun e w' => e = .returned (.bool true) ∧ Below w.heap.size w w' := by
  have HA : Hid (∀ x, Below w.heap.size w x → Calls Tryz.prog 11 #[.agg #[pv, rv], fv, .int .i64 n] x fun e w' => (∃ v, e = .returned (.tuple #[v, .int .i64 (fireErr ps rs f n)]) ∧ stepsAt w' v (allOf ps rs f n)) ∧ Below x.heap.size x w') := fun x hx => devAll_c x pv rv fv ps rs f n (predsAt.lasts hx hp) (rulesAt.lasts hx hr) (factsAt.lasts hx hf) hn
  have HU : Hid (∀ x, Below w.heap.size w x → Calls Tryz.prog 15 #[pv, fv, gv] x fun e w' => e = .returned (.tuple #[.bool (underOf ps f g).1, .int .i64 (underOf ps f g).2]) ∧ Below x.heap.size x w') := fun x hx => Base.Under_c x pv fv gv ps f g (predsAt.lasts hx hp) (factsAt.lasts hx hf) (factsAt.lasts hx hg)
  have HH : Hid (∀ x v, Below w.heap.size w x → Calls Tryz.prog 8 #[.agg #[pv, rv], fv, .int .i64 n, .agg #[.int .i64 v.x, .int .i64 v.y, .int .i64 v.z]] x fun e w' => e = .returned (.tuple #[.bool (holdsOk ps rs f n v), .agg #[.int .i64 (holdsFact ps rs f n v).pred, .int .i64 (holdsFact ps rs f n v).a, .int .i64 (holdsFact ps rs f n v).b, .int .i64 (holdsFact ps rs f n v).val], .int .i64 (holdsErr ps rs f n v)]) ∧ Below x.heap.size x w') := fun x v hx => devHolds_c x pv rv fv ps rs f n v (predsAt.lasts hx hp) (rulesAt.lasts hx hr) (factsAt.lasts hx hf) hn
  have HG : Hid (∀ x v, Below w.heap.size w x → Calls Tryz.prog 8 #[.agg #[pv, rv], gv, .int .i64 n, .agg #[.int .i64 v.x, .int .i64 v.y, .int .i64 v.z]] x fun e w' => e = .returned (.tuple #[.bool (holdsOk ps rs g n v), .agg #[.int .i64 (holdsFact ps rs g n v).pred, .int .i64 (holdsFact ps rs g n v).a, .int .i64 (holdsFact ps rs g n v).b, .int .i64 (holdsFact ps rs g n v).val], .int .i64 (holdsErr ps rs g n v)]) ∧ Below x.heap.size x w') := fun x v hx => devHolds_c x pv rv gv ps rs g n v (predsAt.lasts hx hp) (rulesAt.lasts hx hr) (factsAt.lasts hx hg) hn
  have HPO : Hid (∀ x, Below w.heap.size w x → Calls Tryz.prog 16 #[.agg #[pv, rv]] x fun e w' => e = .returned (.bool (posP rs)) ∧ Below x.heap.size x w') := fun x hx => positive_c x pv rv rs (by obtain ⟨a, c, e, _⟩ := hp; exact ⟨_, _, _, e⟩) (rulesAt.lasts hx hr)
  have HU2 : Hid (∀ x (y z : Fct) b c, factFine ps y = true → factFine ps z = true → factsErr ps f = 0 → Below w.heap.size w x → factsAt x (.slice (some ⟨b, 0, none⟩) 1 1) [y] → factsAt x (.slice (some ⟨c, 0, none⟩) 1 1) [z] → Calls Tryz.prog 15 #[pv, .slice (some ⟨b, 0, none⟩) 1 1, .slice (some ⟨c, 0, none⟩) 1 1] x fun e w' => e = .returned (.tuple #[.bool (under (kindOf ps) [y] [z]), .int .i64 0]) ∧ Below x.heap.size x w') := fun x y z b c h1 h2 h3 hx h4 h5 => by
    have h := Base.Under_c x pv _ _ ps [y] [z] (predsAt.lasts hx hp) h4 h5
    rw [Round.underOf_right (Round.one_right h3 h1) (Round.one_right h3 h2)] at h
    exact h
  obtain ⟨pa, pc, rfl, _⟩ := hp
  obtain ⟨ra, rc, rfl, _⟩ := hr
  obtain ⟨fa, fc, rfl, _⟩ := hf
  obtain ⟨ga, gc, rfl, _⟩ := hg
  by_cases hfe : fireErr ps rs f n = 0
  · obtain ⟨z1, z2, z3, z4⟩ := fire_zero hfe
    obtain ⟨m, rfl⟩ : ∃ m : Nat, n = (m : Int) := ⟨n.toNat, by omega⟩
    have hml : m < rs.length := by omega
    rw [hfe] at HA
    by_cases hge : factsErr ps g = 0
    · have hgf : fireErr ps rs g m = 0 := by rw [fireErr, if_neg (by rw [z1]; simp), if_neg (by rw [hge]; simp), if_pos ⟨z3, z4⟩]
      have HUE : Hid (underOf ps f g = (under (kindOf ps) f g, 0)) := Round.underOf_right z2 hge
      have hre := rules_right z1 _ (List.getElem_mem hml)
      have HAL : Hid (allOf ps rs f m = allL f rs[m] m) := by show _ = _; rw [allOf, if_neg (by rw [hfe]; simp), Int.toNat_natCast, List.getElem?_eq_getElem hml]
      have HHK : Hid (∀ k, (hk : k < (allL f rs[m] m).length) → (allL f rs[m] m)[k].rule = (m : Int) ∧ holdsErr ps rs f m (allL f rs[m] m)[k].vars = 0 ∧ holdsOk ps rs f m (allL f rs[m] m)[k].vars = true ∧ holdsFact ps rs f m (allL f rs[m] m)[k].vars = headF ps f rs[m] (allL f rs[m] m)[k].vars ∧ factFine ps (headF ps f rs[m] (allL f rs[m] m)[k].vars) = true ∧ factFine ps (headF ps g rs[m] (allL f rs[m] m)[k].vars) = true ∧
          (under (kindOf ps) f g = true → posP rs = true → holdsErr ps rs g m (allL f rs[m] m)[k].vars = 0 ∧ holdsOk ps rs g m (allL f rs[m] m)[k].vars = true ∧ holdsFact ps rs g m (allL f rs[m] m)[k].vars = headF ps g rs[m] (allL f rs[m] m)[k].vars ∧ under (kindOf ps) [headF ps f rs[m] (allL f rs[m] m)[k].vars] [headF ps g rs[m] (allL f rs[m] m)[k].vars] = true)) := fun k hk => by
        have hm := mem_all.1 (List.getElem_mem hk)
        obtain ⟨e1, e2, e3, _⟩ := hm
        have he : ∀ q, fireErr ps rs q m = 0 → holdsErr ps rs q m (allL f rs[m] m)[k].vars = 0 := fun q hq => by rw [holdsErr, if_neg (by rw [hq]; simp), if_pos e2]
        have ho : ∀ q, fireErr ps rs q m = 0 → holdsOk ps rs q m (allL f rs[m] m)[k].vars = bodyOk q (allL f rs[m] m)[k].vars rs[m].body := fun q hq => by rw [holdsOk, if_neg (by rw [he q hq]; simp), Int.toNat_natCast, List.getElem?_eq_getElem hml]; rfl
        have hx : ∀ q, fireErr ps rs q m = 0 → bodyOk q (allL f rs[m] m)[k].vars rs[m].body = true → holdsFact ps rs q m (allL f rs[m] m)[k].vars = headF ps q rs[m] (allL f rs[m] m)[k].vars := fun q hq hb => by rw [holdsFact, if_neg (by rw [he q hq]; simp), Int.toNat_natCast, List.getElem?_eq_getElem hml]; show holdsF _ _ _ _ = _; rw [holdsF, if_pos hb]
        refine ⟨e1, he f hfe, (ho f hfe).trans e3, hx f hfe e3, Round.head_fine hre z2 e2, Round.head_fine hre hge e2, fun hu hpo => ?_⟩
        have hb : bodyOk g (allL f rs[m] m)[k].vars rs[m].body = true := body_more z2 hu (by unfold posP at hpo; exact List.all_eq_true.1 hpo _ (List.getElem_mem hml)) e3
        exact ⟨he g hgf, (ho g hgf).trans hb, hx g hgf hb, head_more hre z2 hge e2 hu e3⟩
      have HZ2 : Hid (factsErr ps f = 0) := z2
      rw [HAL.out] at HA
      clear z1 z2 z3 z4 hfe hge hgf hre HAL
      generalize rs[m] = r at *
      have HUX : Hid (∀ x, Below w.heap.size w x → Calls Tryz.prog 15 #[.slice pa ps.length pc, .slice fa f.length fc, .slice ga g.length gc] x fun e w' => e = .returned (.tuple #[.bool (under (kindOf ps) f g), .int .i64 0]) ∧ Below x.heap.size x w') := fun x hx => by
        have h := HU.out x hx
        rw [HUE.out] at h
        exact h
      clear HU HUE
      generalize posP rs = po at *
      generalize hun : under (kindOf ps) f g = un at *
      go_enter Tryz.func5, Tryz.ntmps5
      go_wp2_with fail
      refine (HA.out _ (below_alloc _ _)).mono ?_
      rintro e W1 ⟨⟨v1, rfl, hst⟩, hb1⟩
      have k1 : Below w.heap.size w W1 := below_trans (below_alloc _ _) hb1
      have B1 := Prog.boxL hb1
      have HST : Hid (∀ x, Below W1.heap.size W1 x → stepsAt x v1 (allL f r m)) := fun x hx => stepsAt.lasts hx hst
      obtain ⟨ta, tc, rfl, _⟩ := hst
      obtain ⟨c0, c1, _⟩ := id B1
      clear hb1 HA
      go_wp2_with fail
      refine (HUX.out _ k1).mono ?_
      rintro e W2 ⟨rfl, hb2⟩
      have k2 : Below w.heap.size w W2 := k1.trans (hb2.mono k1.size)
      clear c0 c1 HUX
      go_wp2_with fail
      go_loopw [13] (fun i wr => ∃ k : Nat, k ≤ (allL f r m).length ∧ i = .int .i64 k ∧ Below W1.heap.size W1 wr) (fun i _ => (allL f r m).length - (intOf i).toNat)
      case atStart => exact ⟨0, Nat.zero_le _, rfl, hb2⟩
      case round =>
        obtain ⟨k, hk, rfl, hbr⟩ := hrel
        have kr : Below w.heap.size w wr := k1.trans (hbr.mono k1.size)
        by_cases hlt : k < (allL f r m).length
        · obtain ⟨tb, to_, tc', htv, htb, q0, q1, q2, q3⟩ := step_cells (HST.out _ hbr) hlt
          obtain ⟨rfl, rfl⟩ : ta = some ⟨tb, to_, none⟩ ∧ tc = tc' := by simpa using htv
          obtain ⟨g1, g2, g3, g4, g5, g6, g7⟩ := HHK.out k hlt
          have HX1 : Hid (∀ x, Below w.heap.size w x → Calls Tryz.prog 8 #[.agg #[.slice pa ps.length pc, .slice ra rs.length rc], .slice fa f.length fc, .int .i64 (m : Int), .agg #[.int .i64 (allL f r m)[k].x, .int .i64 (allL f r m)[k].y, .int .i64 (allL f r m)[k].z]] x fun e w' => e = .returned (.tuple #[.bool true, .agg #[.int .i64 (headF ps f r (allL f r m)[k].vars).pred, .int .i64 (headF ps f r (allL f r m)[k].vars).a, .int .i64 (headF ps f r (allL f r m)[k].vars).b, .int .i64 (headF ps f r (allL f r m)[k].vars).val], .int .i64 0]) ∧ Below x.heap.size x w') := fun x hx => by
            have h := HH.out x (allL f r m)[k].vars hx
            rw [g2, g3, g4] at h
            exact h
          have HX2 : Hid (un = true → po = true → ∀ x, Below w.heap.size w x → Calls Tryz.prog 8 #[.agg #[.slice pa ps.length pc, .slice ra rs.length rc], .slice ga g.length gc, .int .i64 (m : Int), .agg #[.int .i64 (allL f r m)[k].x, .int .i64 (allL f r m)[k].y, .int .i64 (allL f r m)[k].z]] x fun e w' => e = .returned (.tuple #[.bool true, .agg #[.int .i64 (headF ps g r (allL f r m)[k].vars).pred, .int .i64 (headF ps g r (allL f r m)[k].vars).a, .int .i64 (headF ps g r (allL f r m)[k].vars).b, .int .i64 (headF ps g r (allL f r m)[k].vars).val], .int .i64 0]) ∧ Below x.heap.size x w') := fun h1 h2 x hx => by
            obtain ⟨j1, j2, j3, _⟩ := g7 h1 h2
            have h := HG.out x (allL f r m)[k].vars hx
            rw [j1, j2, j3] at h
            exact h
          have HLE : Hid (un = true → po = true → under (kindOf ps) [headF ps f r (allL f r m)[k].vars] [headF ps g r (allL f r m)[k].vars] = true) := fun h1 h2 => (g7 h1 h2).2.2.2
          have HFI : Hid (factFine ps (headF ps f r (allL f r m)[k].vars) = true ∧ factFine ps (headF ps g r (allL f r m)[k].vars) = true) := ⟨g5, g6⟩
          have HQ : Hid (∀ x, Below W1.heap.size W1 x → x.cell? ⟨tb, to_ + k * 4, none⟩ = some (.int .i64 (m : Int)) ∧ x.cell? ⟨tb, to_ + k * 4 + 1, none⟩ = some (.int .i64 (allL f r m)[k].x) ∧ x.cell? ⟨tb, to_ + k * 4 + 2, none⟩ = some (.int .i64 (allL f r m)[k].y) ∧ x.cell? ⟨tb, to_ + k * 4 + 3, none⟩ = some (.int .i64 (allL f r m)[k].z) ∧ tb < x.heap.size ∧ x.cell? ⟨w.heap.size, 0, none⟩ = some (.slice pa ps.length pc) ∧ x.cell? ⟨w.heap.size, 1, none⟩ = some (.slice ra rs.length rc) ∧ w.heap.size < x.heap.size) := fun x hx => by
            obtain ⟨b, o, c, e, hb, e0, e1, e2, e3⟩ := step_cells (HST.out x hx) hlt
            obtain ⟨⟨rfl, rfl⟩, rfl⟩ : (tb = b ∧ to_ = o) ∧ tc = c := by simpa using e
            rw [g1] at e0
            obtain ⟨d0, d1, d2⟩ := Prog.boxO hx B1
            exact ⟨e0, e1, e2, e3, hb, d0, d1, d2⟩
          have hk0 : (k : Int) < ((allL f r m).length : Int) := by omega
          clear g1 g2 g3 g4 g5 g6 g7 htv q0 q1 q2 q3 htb
          generalize (allL f r m)[k] = sk at *
          generalize headF ps f r sk.vars = x_ at *
          generalize headF ps g r sk.vars = y_ at *
          obtain ⟨q0, q1, q2, q3, htb, c0, c1, hNw⟩ := HQ.out _ hbr
          have KEEP : Hid (∀ w' : World, Below wr.heap.size wr w' → w'.cell? ⟨w.heap.size, 0, none⟩ = some (.slice pa ps.length pc) ∧ w'.cell? ⟨w.heap.size, 1, none⟩ = some (.slice ra rs.length rc) ∧ w'.cell? ⟨tb, to_ + k * 4 + 1, none⟩ = some (.int .i64 sk.x) ∧ w'.cell? ⟨tb, to_ + k * 4 + 2, none⟩ = some (.int .i64 sk.y) ∧ w'.cell? ⟨tb, to_ + k * 4 + 3, none⟩ = some (.int .i64 sk.z)) := fun w' hx => ⟨(cell_lasts hx hNw).trans c0, (cell_lasts hx hNw).trans c1, (cell_lasts hx htb).trans q1, (cell_lasts hx htb).trans q2, (cell_lasts hx htb).trans q3⟩
          have KA : Hid (Below wr.heap.size wr (wr.alloc (.cells #[.int .i64 0, .int .i64 0, .int .i64 0, .int .i64 0] 29))) := below_alloc _ _
          have KS : Hid (∀ x, Below wr.heap.size wr x → ∀ y0 y1 y2 y3, Below wr.heap.size wr ((((x.setCell ⟨wr.heap.size, 0, none⟩ y0).setCell ⟨wr.heap.size, 1, none⟩ y1).setCell ⟨wr.heap.size, 2, none⟩ y2).setCell ⟨wr.heap.size, 3, none⟩ y3)) := fun x hx y0 y1 y2 y3 => below_four hx y0 y1 y2 y3
          have KZ : Hid (∀ x, Below (wr.alloc (.cells #[.int .i64 0, .int .i64 0, .int .i64 0, .int .i64 0] 29)).drew.heap.size (wr.alloc (.cells #[.int .i64 0, .int .i64 0, .int .i64 0, .int .i64 0] 29)).drew x → x.cell? ⟨wr.heap.size, 0, none⟩ = some (.int .i64 0) ∧ x.cell? ⟨wr.heap.size, 1, none⟩ = some (.int .i64 0) ∧ x.cell? ⟨wr.heap.size, 2, none⟩ = some (.int .i64 0) ∧ x.cell? ⟨wr.heap.size, 3, none⟩ = some (.int .i64 0) ∧ ∀ o, x.frozen? ⟨wr.heap.size, o, none⟩ = false) := fun x hx => zero_box hx
          clear c0 c1 q0 q1 q2 q3
          go_wp2_with fail
          go_region_held3 (fun w' => w'.cell? ⟨w.heap.size, 0, none⟩ = some (.slice pa ps.length pc) ∧ w'.cell? ⟨w.heap.size, 1, none⟩ = some (.slice ra rs.length rc) ∧ w'.cell? ⟨tb, to_ + k * 4 + 1, none⟩ = some (.int .i64 sk.x) ∧ w'.cell? ⟨tb, to_ + k * 4 + 2, none⟩ = some (.int .i64 sk.y) ∧ w'.cell? ⟨tb, to_ + k * 4 + 3, none⟩ = some (.int .i64 sk.z))
            (first | (refine KEEP.out _ ?_; (first | with_reducible exact Below.refl _ _ | with_reducible exact Below.drew (Below.refl _ _) | with_reducible exact hk | with_reducible exact KA.out | with_reducible exact Below.drew KA.out | with_reducible exact Below.alloc hk (Below.size hk) _ | with_reducible exact KS.out _ hk _ _ _ _)))
            (first | (go_at_call 8; refine (HX1.out _ (kr.trans (KA.out.drew.mono kr.size))).mono ?_; rintro ex w5 ⟨rfl, hb5⟩; have hk : Below wr.heap.size wr w5 := KA.out.trans ((((Below.refl _ _).drew).trans hb5).mono KA.out.size); obtain ⟨z0, z1, z2, z3, zf⟩ := KZ.out _ hb5) | (go_at_call 8; refine (HX1.out _ kr.drew).mono ?_; rintro ex w5 ⟨rfl, hb5⟩; have hk : Below wr.heap.size wr w5 := ((Below.refl _ _).drew).trans hb5))
          · obtain ⟨W6, hW6⟩ : ∃ W6, w5.alloc (.cells #[.int .i64 x_.pred, .int .i64 x_.a, .int .i64 x_.b, .int .i64 x_.val] 29) = W6 := ⟨_, rfl⟩
            have k6 : Below wr.heap.size wr W6 := by rw [← hW6]; exact Below.alloc hk (Below.size hk) _
            obtain ⟨BX, hBX⟩ : ∃ BX, w5.heap.size = BX := ⟨_, rfl⟩
            have HN : Hid (∀ x, Below W6.heap.size W6 x → x.cell? ⟨BX, 0, none⟩ = some (.int .i64 x_.pred) ∧ x.cell? ⟨BX, 1, none⟩ = some (.int .i64 x_.a) ∧ x.cell? ⟨BX, 2, none⟩ = some (.int .i64 x_.b) ∧ x.cell? ⟨BX, 3, none⟩ = some (.int .i64 x_.val)) := by
              rw [← hBX]
              have e : W6.cell? ⟨w5.heap.size, 0, none⟩ = some (.int .i64 x_.pred) ∧ W6.cell? ⟨w5.heap.size, 1, none⟩ = some (.int .i64 x_.a) ∧ W6.cell? ⟨w5.heap.size, 2, none⟩ = some (.int .i64 x_.b) ∧ W6.cell? ⟨w5.heap.size, 3, none⟩ = some (.int .i64 x_.val) := by rw [← hW6]; simp [go_sem]
              exact fun x hx => four_on hx e
            rw [hW6, hBX]
            clear hW6 hBX
            have hb16 : Below W1.heap.size W1 W6 := hbr.trans (k6.mono hbr.size)
            have kw6 : Below w.heap.size w W6 := k1.trans (hb16.mono k1.size)
            obtain ⟨q0, q1, q2, q3, htb, c0, c1, hNw⟩ := HQ.out _ hb16
            cases un
            · go_wp2_with fail
              exact ⟨⟨k + 1, by omega, by go_num, hb16⟩, by simp [intOf]; omega⟩
            · go_wp2_with fail
              refine (HPO.out _ kw6).mono ?_
              rintro ex W8 ⟨rfl, hb8⟩
              have hb18 : Below W1.heap.size W1 W8 := hb16.trans (hb8.mono hb16.size)
              have krb : Below w.heap.size w W8 := k1.trans (hb18.mono k1.size)
              clear q0 q1 q2 q3 htb c0 c1 hNw
              cases po
              · go_wp2_with fail
                exact ⟨⟨k + 1, by omega, by go_num, hb18⟩, by simp [intOf]; omega⟩
              · have HX3 : Hid (∀ x, Below w.heap.size w x → Calls Tryz.prog 8 #[.agg #[.slice pa ps.length pc, .slice ra rs.length rc], .slice ga g.length gc, .int .i64 (m : Int), .agg #[.int .i64 sk.x, .int .i64 sk.y, .int .i64 sk.z]] x fun e w' => e = .returned (.tuple #[.bool true, .agg #[.int .i64 y_.pred, .int .i64 y_.a, .int .i64 y_.b, .int .i64 y_.val], .int .i64 0]) ∧ Below x.heap.size x w') := HX2.out (by first | rfl | trivial) (by first | rfl | trivial)
                have HUC : Hid (∀ x, Below w.heap.size w x → Calls Tryz.prog 15 #[.slice pa ps.length pc, .slice (some ⟨x.heap.size, 0, none⟩) 1 1, .slice (some ⟨x.heap.size + 1, 0, none⟩) 1 1] ((x.alloc (.cells #[.int .i64 x_.pred, .int .i64 x_.a, .int .i64 x_.b, .int .i64 x_.val] 29)).alloc (.cells #[.int .i64 y_.pred, .int .i64 y_.a, .int .i64 y_.b, .int .i64 y_.val] 29)) fun e w' => e = .returned (.tuple #[.bool true, .int .i64 0]) ∧ Below ((x.alloc (.cells #[.int .i64 x_.pred, .int .i64 x_.a, .int .i64 x_.b, .int .i64 x_.val] 29)).alloc (.cells #[.int .i64 y_.pred, .int .i64 y_.a, .int .i64 y_.b, .int .i64 y_.val] 29)).heap.size ((x.alloc (.cells #[.int .i64 x_.pred, .int .i64 x_.a, .int .i64 x_.b, .int .i64 x_.val] 29)).alloc (.cells #[.int .i64 y_.pred, .int .i64 y_.a, .int .i64 y_.b, .int .i64 y_.val] 29)) w') := fun x hx => by
                  have h2 := facts_one (x.alloc (.cells #[.int .i64 x_.pred, .int .i64 x_.a, .int .i64 x_.b, .int .i64 x_.val] 29)) y_
                  rw [World.size_alloc] at h2
                  have h := HU2.out _ x_ y_ x.heap.size (x.heap.size + 1) HFI.out.1 HFI.out.2 HZ2.out ((hx.alloc hx.size _).alloc (by have := hx.size; simp; omega) _) (factsAt.lasts (below_alloc _ _) (facts_one x x_)) h2
                  rw [HLE.out (by first | rfl | trivial) (by first | rfl | trivial)] at h
                  exact h
                obtain ⟨q0b, q1b, q2b, q3b, htbb, c0b, c1b, hNwb⟩ := HQ.out _ hb18
                have HN8 : Hid (∀ x, Below W8.heap.size W8 x → x.cell? ⟨BX, 0, none⟩ = some (.int .i64 x_.pred) ∧ x.cell? ⟨BX, 1, none⟩ = some (.int .i64 x_.a) ∧ x.cell? ⟨BX, 2, none⟩ = some (.int .i64 x_.b) ∧ x.cell? ⟨BX, 3, none⟩ = some (.int .i64 x_.val)) := fun x hx => HN.out x (hb8.trans (hx.mono hb8.size))
                have KEEPb : Hid (∀ w' : World, Below W8.heap.size W8 w' → w'.cell? ⟨w.heap.size, 0, none⟩ = some (.slice pa ps.length pc) ∧ w'.cell? ⟨w.heap.size, 1, none⟩ = some (.slice ra rs.length rc) ∧ w'.cell? ⟨tb, to_ + k * 4 + 1, none⟩ = some (.int .i64 sk.x) ∧ w'.cell? ⟨tb, to_ + k * 4 + 2, none⟩ = some (.int .i64 sk.y) ∧ w'.cell? ⟨tb, to_ + k * 4 + 3, none⟩ = some (.int .i64 sk.z)) := fun w' hx => ⟨(cell_lasts hx hNwb).trans c0b, (cell_lasts hx hNwb).trans c1b, (cell_lasts hx htbb).trans q1b, (cell_lasts hx htbb).trans q2b, (cell_lasts hx htbb).trans q3b⟩
                have KAb : Hid (Below W8.heap.size W8 (W8.alloc (.cells #[.int .i64 0, .int .i64 0, .int .i64 0, .int .i64 0] 29))) := below_alloc _ _
                have KSb : Hid (∀ x, Below W8.heap.size W8 x → ∀ y0 y1 y2 y3, Below W8.heap.size W8 ((((x.setCell ⟨W8.heap.size, 0, none⟩ y0).setCell ⟨W8.heap.size, 1, none⟩ y1).setCell ⟨W8.heap.size, 2, none⟩ y2).setCell ⟨W8.heap.size, 3, none⟩ y3)) := fun x hx y0 y1 y2 y3 => below_four hx y0 y1 y2 y3
                have KZb : Hid (∀ x, Below (W8.alloc (.cells #[.int .i64 0, .int .i64 0, .int .i64 0, .int .i64 0] 29)).drew.heap.size (W8.alloc (.cells #[.int .i64 0, .int .i64 0, .int .i64 0, .int .i64 0] 29)).drew x → x.cell? ⟨W8.heap.size, 0, none⟩ = some (.int .i64 0) ∧ x.cell? ⟨W8.heap.size, 1, none⟩ = some (.int .i64 0) ∧ x.cell? ⟨W8.heap.size, 2, none⟩ = some (.int .i64 0) ∧ x.cell? ⟨W8.heap.size, 3, none⟩ = some (.int .i64 0) ∧ ∀ o, x.frozen? ⟨W8.heap.size, o, none⟩ = false) := fun x hx => zero_box hx
                clear c0b c1b q0b q1b q2b q3b
                go_wp2_with fail
                go_region_held3 (fun w' => w'.cell? ⟨w.heap.size, 0, none⟩ = some (.slice pa ps.length pc) ∧ w'.cell? ⟨w.heap.size, 1, none⟩ = some (.slice ra rs.length rc) ∧ w'.cell? ⟨tb, to_ + k * 4 + 1, none⟩ = some (.int .i64 sk.x) ∧ w'.cell? ⟨tb, to_ + k * 4 + 2, none⟩ = some (.int .i64 sk.y) ∧ w'.cell? ⟨tb, to_ + k * 4 + 3, none⟩ = some (.int .i64 sk.z))
                  (first | (refine KEEPb.out _ ?_; (first | with_reducible exact Below.refl _ _ | with_reducible exact Below.drew (Below.refl _ _) | with_reducible exact hkb | with_reducible exact KAb.out | with_reducible exact Below.drew KAb.out | with_reducible exact Below.alloc hkb (Below.size hkb) _ | with_reducible exact KSb.out _ hkb _ _ _ _)))
                  (first | (go_at_call 8; refine (HX3.out _ (krb.trans (KAb.out.drew.mono krb.size))).mono ?_; rintro ex w5 ⟨rfl, hb5⟩; have hkb : Below W8.heap.size W8 w5 := KAb.out.trans ((((Below.refl _ _).drew).trans hb5).mono KAb.out.size); obtain ⟨z0, z1, z2, z3, zf⟩ := KZb.out _ hb5) | (go_at_call 8; refine (HX3.out _ krb.drew).mono ?_; rintro ex w5 ⟨rfl, hb5⟩; have hkb : Below W8.heap.size W8 w5 := ((Below.refl _ _).drew).trans hb5))
                · obtain ⟨W7, hW7⟩ : ∃ W7, w5.alloc (.cells #[.int .i64 y_.pred, .int .i64 y_.a, .int .i64 y_.b, .int .i64 y_.val] 29) = W7 := ⟨_, rfl⟩
                  have k87 : Below W8.heap.size W8 W7 := by rw [← hW7]; exact Below.alloc hkb (Below.size hkb) _
                  obtain ⟨BXb, hBXb⟩ : ∃ BX, w5.heap.size = BX := ⟨_, rfl⟩
                  have HNb : Hid (∀ x, Below W7.heap.size W7 x → x.cell? ⟨BXb, 0, none⟩ = some (.int .i64 y_.pred) ∧ x.cell? ⟨BXb, 1, none⟩ = some (.int .i64 y_.a) ∧ x.cell? ⟨BXb, 2, none⟩ = some (.int .i64 y_.b) ∧ x.cell? ⟨BXb, 3, none⟩ = some (.int .i64 y_.val)) := by
                    rw [← hBXb]
                    have e : W7.cell? ⟨w5.heap.size, 0, none⟩ = some (.int .i64 y_.pred) ∧ W7.cell? ⟨w5.heap.size, 1, none⟩ = some (.int .i64 y_.a) ∧ W7.cell? ⟨w5.heap.size, 2, none⟩ = some (.int .i64 y_.b) ∧ W7.cell? ⟨w5.heap.size, 3, none⟩ = some (.int .i64 y_.val) := by rw [← hW7]; simp [go_sem]
                    exact fun x hx => four_on hx e
                  rw [hW7, hBXb]
                  clear hW7 hBXb
                  obtain ⟨v0, v1, v2, v3⟩ := HNb.out _ (Below.refl _ _)
                  have hbb7 := cell_bound v0
                  obtain ⟨x0, x1, x2, x3⟩ := HN8.out _ k87
                  obtain ⟨_, _, _, _, _, c0, c1, _⟩ := HQ.out _ (hb18.trans (k87.mono hb18.size))
                  have kw7 : Below w.heap.size w W7 := krb.trans (k87.mono krb.size)
                  have hUc := HUC.out W7 kw7
                  go_wp2_with fail
                  refine hUc.mono ?_
                  rintro ex W9 ⟨rfl, hb9⟩
                  have k79 : Below W7.heap.size W7 W9 := below_trans (((Below.refl _ _).alloc (Nat.le_refl _) _).alloc (by simp) _) hb9
                  go_wp2_with fail
                  exact ⟨⟨k + 1, by omega, by go_num, (hb18.trans (k87.mono hb18.size)).trans (k79.mono (hb18.trans (k87.mono hb18.size)).size)⟩, by simp [intOf]; omega⟩
                · obtain ⟨W7, hW7⟩ : ∃ W7, (((w5.setCell ⟨W8.heap.size, 0, none⟩ (.int .i64 y_.pred)).setCell ⟨W8.heap.size, 1, none⟩ (.int .i64 y_.a)).setCell ⟨W8.heap.size, 2, none⟩ (.int .i64 y_.b)).setCell ⟨W8.heap.size, 3, none⟩ (.int .i64 y_.val) = W7 := ⟨_, rfl⟩
                  have k87 : Below W8.heap.size W8 W7 := by rw [← hW7]; exact KSb.out _ hkb _ _ _ _
                  obtain ⟨BXb, hBXb⟩ : ∃ BX, W8.heap.size = BX := ⟨_, rfl⟩
                  have HNb : Hid (∀ x, Below W7.heap.size W7 x → x.cell? ⟨BXb, 0, none⟩ = some (.int .i64 y_.pred) ∧ x.cell? ⟨BXb, 1, none⟩ = some (.int .i64 y_.a) ∧ x.cell? ⟨BXb, 2, none⟩ = some (.int .i64 y_.b) ∧ x.cell? ⟨BXb, 3, none⟩ = some (.int .i64 y_.val)) := by
                    rw [← hBXb]
                    have e : W7.cell? ⟨W8.heap.size, 0, none⟩ = some (.int .i64 y_.pred) ∧ W7.cell? ⟨W8.heap.size, 1, none⟩ = some (.int .i64 y_.a) ∧ W7.cell? ⟨W8.heap.size, 2, none⟩ = some (.int .i64 y_.b) ∧ W7.cell? ⟨W8.heap.size, 3, none⟩ = some (.int .i64 y_.val) := by rw [← hW7]; simp [go_sem, z0, z1, z2, z3]
                    exact fun x hx => four_on hx e
                  rw [hW7, hBXb]
                  clear hW7 hBXb
                  obtain ⟨v0, v1, v2, v3⟩ := HNb.out _ (Below.refl _ _)
                  have hbb7 := cell_bound v0
                  obtain ⟨x0, x1, x2, x3⟩ := HN8.out _ k87
                  obtain ⟨_, _, _, _, _, c0, c1, _⟩ := HQ.out _ (hb18.trans (k87.mono hb18.size))
                  have kw7 : Below w.heap.size w W7 := krb.trans (k87.mono krb.size)
                  have hUc := HUC.out W7 kw7
                  go_wp2_with fail
                  refine hUc.mono ?_
                  rintro ex W9 ⟨rfl, hb9⟩
                  have k79 : Below W7.heap.size W7 W9 := below_trans (((Below.refl _ _).alloc (Nat.le_refl _) _).alloc (by simp) _) hb9
                  go_wp2_with fail
                  exact ⟨⟨k + 1, by omega, by go_num, (hb18.trans (k87.mono hb18.size)).trans (k79.mono (hb18.trans (k87.mono hb18.size)).size)⟩, by simp [intOf]; omega⟩
          · obtain ⟨W6, hW6⟩ : ∃ W6, (((w5.setCell ⟨wr.heap.size, 0, none⟩ (.int .i64 x_.pred)).setCell ⟨wr.heap.size, 1, none⟩ (.int .i64 x_.a)).setCell ⟨wr.heap.size, 2, none⟩ (.int .i64 x_.b)).setCell ⟨wr.heap.size, 3, none⟩ (.int .i64 x_.val) = W6 := ⟨_, rfl⟩
            have k6 : Below wr.heap.size wr W6 := by rw [← hW6]; exact KS.out _ hk _ _ _ _
            obtain ⟨BX, hBX⟩ : ∃ BX, wr.heap.size = BX := ⟨_, rfl⟩
            have HN : Hid (∀ x, Below W6.heap.size W6 x → x.cell? ⟨BX, 0, none⟩ = some (.int .i64 x_.pred) ∧ x.cell? ⟨BX, 1, none⟩ = some (.int .i64 x_.a) ∧ x.cell? ⟨BX, 2, none⟩ = some (.int .i64 x_.b) ∧ x.cell? ⟨BX, 3, none⟩ = some (.int .i64 x_.val)) := by
              rw [← hBX]
              have e : W6.cell? ⟨wr.heap.size, 0, none⟩ = some (.int .i64 x_.pred) ∧ W6.cell? ⟨wr.heap.size, 1, none⟩ = some (.int .i64 x_.a) ∧ W6.cell? ⟨wr.heap.size, 2, none⟩ = some (.int .i64 x_.b) ∧ W6.cell? ⟨wr.heap.size, 3, none⟩ = some (.int .i64 x_.val) := by rw [← hW6]; simp [go_sem, z0, z1, z2, z3]
              exact fun x hx => four_on hx e
            rw [hW6, hBX]
            clear hW6 hBX
            have hb16 : Below W1.heap.size W1 W6 := hbr.trans (k6.mono hbr.size)
            have kw6 : Below w.heap.size w W6 := k1.trans (hb16.mono k1.size)
            obtain ⟨q0, q1, q2, q3, htb, c0, c1, hNw⟩ := HQ.out _ hb16
            cases un
            · go_wp2_with fail
              exact ⟨⟨k + 1, by omega, by go_num, hb16⟩, by simp [intOf]; omega⟩
            · go_wp2_with fail
              refine (HPO.out _ kw6).mono ?_
              rintro ex W8 ⟨rfl, hb8⟩
              have hb18 : Below W1.heap.size W1 W8 := hb16.trans (hb8.mono hb16.size)
              have krb : Below w.heap.size w W8 := k1.trans (hb18.mono k1.size)
              clear q0 q1 q2 q3 htb c0 c1 hNw
              cases po
              · go_wp2_with fail
                exact ⟨⟨k + 1, by omega, by go_num, hb18⟩, by simp [intOf]; omega⟩
              · have HX3 : Hid (∀ x, Below w.heap.size w x → Calls Tryz.prog 8 #[.agg #[.slice pa ps.length pc, .slice ra rs.length rc], .slice ga g.length gc, .int .i64 (m : Int), .agg #[.int .i64 sk.x, .int .i64 sk.y, .int .i64 sk.z]] x fun e w' => e = .returned (.tuple #[.bool true, .agg #[.int .i64 y_.pred, .int .i64 y_.a, .int .i64 y_.b, .int .i64 y_.val], .int .i64 0]) ∧ Below x.heap.size x w') := HX2.out (by first | rfl | trivial) (by first | rfl | trivial)
                have HUC : Hid (∀ x, Below w.heap.size w x → Calls Tryz.prog 15 #[.slice pa ps.length pc, .slice (some ⟨x.heap.size, 0, none⟩) 1 1, .slice (some ⟨x.heap.size + 1, 0, none⟩) 1 1] ((x.alloc (.cells #[.int .i64 x_.pred, .int .i64 x_.a, .int .i64 x_.b, .int .i64 x_.val] 29)).alloc (.cells #[.int .i64 y_.pred, .int .i64 y_.a, .int .i64 y_.b, .int .i64 y_.val] 29)) fun e w' => e = .returned (.tuple #[.bool true, .int .i64 0]) ∧ Below ((x.alloc (.cells #[.int .i64 x_.pred, .int .i64 x_.a, .int .i64 x_.b, .int .i64 x_.val] 29)).alloc (.cells #[.int .i64 y_.pred, .int .i64 y_.a, .int .i64 y_.b, .int .i64 y_.val] 29)).heap.size ((x.alloc (.cells #[.int .i64 x_.pred, .int .i64 x_.a, .int .i64 x_.b, .int .i64 x_.val] 29)).alloc (.cells #[.int .i64 y_.pred, .int .i64 y_.a, .int .i64 y_.b, .int .i64 y_.val] 29)) w') := fun x hx => by
                  have h2 := facts_one (x.alloc (.cells #[.int .i64 x_.pred, .int .i64 x_.a, .int .i64 x_.b, .int .i64 x_.val] 29)) y_
                  rw [World.size_alloc] at h2
                  have h := HU2.out _ x_ y_ x.heap.size (x.heap.size + 1) HFI.out.1 HFI.out.2 HZ2.out ((hx.alloc hx.size _).alloc (by have := hx.size; simp; omega) _) (factsAt.lasts (below_alloc _ _) (facts_one x x_)) h2
                  rw [HLE.out (by first | rfl | trivial) (by first | rfl | trivial)] at h
                  exact h
                obtain ⟨q0b, q1b, q2b, q3b, htbb, c0b, c1b, hNwb⟩ := HQ.out _ hb18
                have HN8 : Hid (∀ x, Below W8.heap.size W8 x → x.cell? ⟨BX, 0, none⟩ = some (.int .i64 x_.pred) ∧ x.cell? ⟨BX, 1, none⟩ = some (.int .i64 x_.a) ∧ x.cell? ⟨BX, 2, none⟩ = some (.int .i64 x_.b) ∧ x.cell? ⟨BX, 3, none⟩ = some (.int .i64 x_.val)) := fun x hx => HN.out x (hb8.trans (hx.mono hb8.size))
                have KEEPb : Hid (∀ w' : World, Below W8.heap.size W8 w' → w'.cell? ⟨w.heap.size, 0, none⟩ = some (.slice pa ps.length pc) ∧ w'.cell? ⟨w.heap.size, 1, none⟩ = some (.slice ra rs.length rc) ∧ w'.cell? ⟨tb, to_ + k * 4 + 1, none⟩ = some (.int .i64 sk.x) ∧ w'.cell? ⟨tb, to_ + k * 4 + 2, none⟩ = some (.int .i64 sk.y) ∧ w'.cell? ⟨tb, to_ + k * 4 + 3, none⟩ = some (.int .i64 sk.z)) := fun w' hx => ⟨(cell_lasts hx hNwb).trans c0b, (cell_lasts hx hNwb).trans c1b, (cell_lasts hx htbb).trans q1b, (cell_lasts hx htbb).trans q2b, (cell_lasts hx htbb).trans q3b⟩
                have KAb : Hid (Below W8.heap.size W8 (W8.alloc (.cells #[.int .i64 0, .int .i64 0, .int .i64 0, .int .i64 0] 29))) := below_alloc _ _
                have KSb : Hid (∀ x, Below W8.heap.size W8 x → ∀ y0 y1 y2 y3, Below W8.heap.size W8 ((((x.setCell ⟨W8.heap.size, 0, none⟩ y0).setCell ⟨W8.heap.size, 1, none⟩ y1).setCell ⟨W8.heap.size, 2, none⟩ y2).setCell ⟨W8.heap.size, 3, none⟩ y3)) := fun x hx y0 y1 y2 y3 => below_four hx y0 y1 y2 y3
                have KZb : Hid (∀ x, Below (W8.alloc (.cells #[.int .i64 0, .int .i64 0, .int .i64 0, .int .i64 0] 29)).drew.heap.size (W8.alloc (.cells #[.int .i64 0, .int .i64 0, .int .i64 0, .int .i64 0] 29)).drew x → x.cell? ⟨W8.heap.size, 0, none⟩ = some (.int .i64 0) ∧ x.cell? ⟨W8.heap.size, 1, none⟩ = some (.int .i64 0) ∧ x.cell? ⟨W8.heap.size, 2, none⟩ = some (.int .i64 0) ∧ x.cell? ⟨W8.heap.size, 3, none⟩ = some (.int .i64 0) ∧ ∀ o, x.frozen? ⟨W8.heap.size, o, none⟩ = false) := fun x hx => zero_box hx
                clear c0b c1b q0b q1b q2b q3b
                go_wp2_with fail
                go_region_held3 (fun w' => w'.cell? ⟨w.heap.size, 0, none⟩ = some (.slice pa ps.length pc) ∧ w'.cell? ⟨w.heap.size, 1, none⟩ = some (.slice ra rs.length rc) ∧ w'.cell? ⟨tb, to_ + k * 4 + 1, none⟩ = some (.int .i64 sk.x) ∧ w'.cell? ⟨tb, to_ + k * 4 + 2, none⟩ = some (.int .i64 sk.y) ∧ w'.cell? ⟨tb, to_ + k * 4 + 3, none⟩ = some (.int .i64 sk.z))
                  (first | (refine KEEPb.out _ ?_; (first | with_reducible exact Below.refl _ _ | with_reducible exact Below.drew (Below.refl _ _) | with_reducible exact hkb | with_reducible exact KAb.out | with_reducible exact Below.drew KAb.out | with_reducible exact Below.alloc hkb (Below.size hkb) _ | with_reducible exact KSb.out _ hkb _ _ _ _)))
                  (first | (go_at_call 8; refine (HX3.out _ (krb.trans (KAb.out.drew.mono krb.size))).mono ?_; rintro ex w5 ⟨rfl, hb5⟩; have hkb : Below W8.heap.size W8 w5 := KAb.out.trans ((((Below.refl _ _).drew).trans hb5).mono KAb.out.size); obtain ⟨z0, z1, z2, z3, zf⟩ := KZb.out _ hb5) | (go_at_call 8; refine (HX3.out _ krb.drew).mono ?_; rintro ex w5 ⟨rfl, hb5⟩; have hkb : Below W8.heap.size W8 w5 := ((Below.refl _ _).drew).trans hb5))
                · obtain ⟨W7, hW7⟩ : ∃ W7, w5.alloc (.cells #[.int .i64 y_.pred, .int .i64 y_.a, .int .i64 y_.b, .int .i64 y_.val] 29) = W7 := ⟨_, rfl⟩
                  have k87 : Below W8.heap.size W8 W7 := by rw [← hW7]; exact Below.alloc hkb (Below.size hkb) _
                  obtain ⟨BXb, hBXb⟩ : ∃ BX, w5.heap.size = BX := ⟨_, rfl⟩
                  have HNb : Hid (∀ x, Below W7.heap.size W7 x → x.cell? ⟨BXb, 0, none⟩ = some (.int .i64 y_.pred) ∧ x.cell? ⟨BXb, 1, none⟩ = some (.int .i64 y_.a) ∧ x.cell? ⟨BXb, 2, none⟩ = some (.int .i64 y_.b) ∧ x.cell? ⟨BXb, 3, none⟩ = some (.int .i64 y_.val)) := by
                    rw [← hBXb]
                    have e : W7.cell? ⟨w5.heap.size, 0, none⟩ = some (.int .i64 y_.pred) ∧ W7.cell? ⟨w5.heap.size, 1, none⟩ = some (.int .i64 y_.a) ∧ W7.cell? ⟨w5.heap.size, 2, none⟩ = some (.int .i64 y_.b) ∧ W7.cell? ⟨w5.heap.size, 3, none⟩ = some (.int .i64 y_.val) := by rw [← hW7]; simp [go_sem]
                    exact fun x hx => four_on hx e
                  rw [hW7, hBXb]
                  clear hW7 hBXb
                  obtain ⟨v0, v1, v2, v3⟩ := HNb.out _ (Below.refl _ _)
                  have hbb7 := cell_bound v0
                  obtain ⟨x0, x1, x2, x3⟩ := HN8.out _ k87
                  obtain ⟨_, _, _, _, _, c0, c1, _⟩ := HQ.out _ (hb18.trans (k87.mono hb18.size))
                  have kw7 : Below w.heap.size w W7 := krb.trans (k87.mono krb.size)
                  have hUc := HUC.out W7 kw7
                  go_wp2_with fail
                  refine hUc.mono ?_
                  rintro ex W9 ⟨rfl, hb9⟩
                  have k79 : Below W7.heap.size W7 W9 := below_trans (((Below.refl _ _).alloc (Nat.le_refl _) _).alloc (by simp) _) hb9
                  go_wp2_with fail
                  exact ⟨⟨k + 1, by omega, by go_num, (hb18.trans (k87.mono hb18.size)).trans (k79.mono (hb18.trans (k87.mono hb18.size)).size)⟩, by simp [intOf]; omega⟩
                · obtain ⟨W7, hW7⟩ : ∃ W7, (((w5.setCell ⟨W8.heap.size, 0, none⟩ (.int .i64 y_.pred)).setCell ⟨W8.heap.size, 1, none⟩ (.int .i64 y_.a)).setCell ⟨W8.heap.size, 2, none⟩ (.int .i64 y_.b)).setCell ⟨W8.heap.size, 3, none⟩ (.int .i64 y_.val) = W7 := ⟨_, rfl⟩
                  have k87 : Below W8.heap.size W8 W7 := by rw [← hW7]; exact KSb.out _ hkb _ _ _ _
                  obtain ⟨BXb, hBXb⟩ : ∃ BX, W8.heap.size = BX := ⟨_, rfl⟩
                  have HNb : Hid (∀ x, Below W7.heap.size W7 x → x.cell? ⟨BXb, 0, none⟩ = some (.int .i64 y_.pred) ∧ x.cell? ⟨BXb, 1, none⟩ = some (.int .i64 y_.a) ∧ x.cell? ⟨BXb, 2, none⟩ = some (.int .i64 y_.b) ∧ x.cell? ⟨BXb, 3, none⟩ = some (.int .i64 y_.val)) := by
                    rw [← hBXb]
                    have e : W7.cell? ⟨W8.heap.size, 0, none⟩ = some (.int .i64 y_.pred) ∧ W7.cell? ⟨W8.heap.size, 1, none⟩ = some (.int .i64 y_.a) ∧ W7.cell? ⟨W8.heap.size, 2, none⟩ = some (.int .i64 y_.b) ∧ W7.cell? ⟨W8.heap.size, 3, none⟩ = some (.int .i64 y_.val) := by rw [← hW7]; simp [go_sem, z0, z1, z2, z3]
                    exact fun x hx => four_on hx e
                  rw [hW7, hBXb]
                  clear hW7 hBXb
                  obtain ⟨v0, v1, v2, v3⟩ := HNb.out _ (Below.refl _ _)
                  have hbb7 := cell_bound v0
                  obtain ⟨x0, x1, x2, x3⟩ := HN8.out _ k87
                  obtain ⟨_, _, _, _, _, c0, c1, _⟩ := HQ.out _ (hb18.trans (k87.mono hb18.size))
                  have kw7 : Below w.heap.size w W7 := krb.trans (k87.mono krb.size)
                  have hUc := HUC.out W7 kw7
                  go_wp2_with fail
                  refine hUc.mono ?_
                  rintro ex W9 ⟨rfl, hb9⟩
                  have k79 : Below W7.heap.size W7 W9 := below_trans (((Below.refl _ _).alloc (Nat.le_refl _) _).alloc (by simp) _) hb9
                  go_wp2_with fail
                  exact ⟨⟨k + 1, by omega, by go_num, (hb18.trans (k87.mono hb18.size)).trans (k79.mono (hb18.trans (k87.mono hb18.size)).size)⟩, by simp [intOf]; omega⟩
        · obtain rfl : k = (allL f r m).length := by omega
          go_wp2_with fail
          refine (fireBegun_c _).mono ?_
          rintro e W4 ⟨rfl, hb4⟩
          go_wp2_with fail
          go_ret
          exact ⟨rfl, kr.trans (hb4.mono kr.size)⟩
    · have HUE : Hid ((underOf ps f g).2 = factsErr ps g) := by show _ = _; unfold underOf; rw [if_neg (by rw [z2]; simp), if_pos hge]
      have hge' : (factsErr ps g == 0) = false := by simpa using hge
      go_enter Tryz.func5, Tryz.ntmps5
      go_wp2_with fail
      refine (HA.out _ (below_alloc _ _)).mono ?_
      rintro e W1 ⟨⟨v1, rfl, _⟩, hb1⟩
      have k1 : Below w.heap.size w W1 := below_trans (below_alloc _ _) hb1
      obtain ⟨c0, c1, _⟩ := Prog.boxL hb1
      go_wp2_with fail
      refine (HU.out _ k1).mono ?_
      rw [HUE.out]
      rintro e W2 ⟨rfl, hb2⟩
      have k2 : Below w.heap.size w W2 := k1.trans (hb2.mono k1.size)
      clear c0 c1
      go_wp2_with fail
      refine (fireBegun_c _).mono ?_
      rintro e W4 ⟨rfl, hb4⟩
      go_wp2_with fail
      go_ret
      exact ⟨rfl, k2.trans (hb4.mono k2.size)⟩
  · have hfe' : (fireErr ps rs f n == 0) = false := by simpa using hfe
    go_enter Tryz.func5, Tryz.ntmps5
    go_wp2_with fail
    refine (HA.out _ (below_alloc _ _)).mono ?_
    rintro e W1 ⟨⟨v1, rfl, _⟩, hb1⟩
    have k1 : Below w.heap.size w W1 := below_trans (below_alloc _ _) hb1
    obtain ⟨c0, c1, _⟩ := Prog.boxL hb1
    go_wp2_with fail
    refine (HU.out _ k1).mono ?_
    rintro e W2 ⟨rfl, hb2⟩
    have k2 : Below w.heap.size w W2 := k1.trans (hb2.mono k1.size)
    clear c0 c1
    go_wp2_with fail
    refine (fireBegun_c _).mono ?_
    rintro e W4 ⟨rfl, hb4⟩
    go_wp2_with fail
    go_ret
    exact ⟨rfl, k2.trans (hb4.mono k2.size)⟩
end Go.Proofs.YtkeoeceejhicaacGreat.Fire
