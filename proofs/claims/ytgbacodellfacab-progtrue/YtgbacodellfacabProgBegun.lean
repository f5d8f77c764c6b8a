/-
  What must be in any case of package prog.
-/
import Derived.Test.YtgbacodellfacabOwnProg3
import Derived.Test.YtgbacodellfacabRoads
import Derived.Deep.RegionHeld3
import Derived.Deep.AppendLies
namespace Go.Proofs.Ytgbacodellfacab.Prog
open Go.ChangeShapes Go.WideShapes Go.ChangeAt Go.RowKit
open Strata
open Rule (ruleErr)

def bodyX : List Ltr := [⟨true, ⟨2, [⟨true, 0⟩]⟩⟩, ⟨false, ⟨0, [⟨true, 0⟩, ⟨true, 1⟩]⟩⟩]
def ruleX : Rul := ⟨⟨1, [⟨true, 0⟩, ⟨true, 1⟩]⟩, -1, 1, bodyX⟩
def rulesX : List Rul := Roads.rules.set 4 ruleX
def predsY : List Prd := [⟨ByteArray.mk #[101, 100, 103, 101], 2, 0⟩, ⟨ByteArray.mk #[101, 100, 103, 101], 2, 2⟩, ⟨ByteArray.mk #[108, 111, 110, 101], 1, 0⟩]

theorem twice_data (ps : List Prd) : twice ps = (List.range ps.length).any fun k => (ps.take k).any fun q => q.name.data.toList == ((ps[k]?.map Prd.name).getD ⟨#[]⟩).data.toList := by
  unfold twice
  congr 1
  funext k
  congr 1
  funext q
  rw [ByteArray.toList_eq, ByteArray.toList_eq]
theorem g1 : strataL (edges Roads.rules) 3 = some [0, 0, 1] := by decide
theorem gt : twice Roads.preds = false := by rw [twice_data]; decide
theorem g0 : progErr Roads.preds Roads.rules = 0 := by
  have h : partsErr Roads.preds Roads.rules = 0 := by rw [parts_rules (by decide) (by decide) gt (by decide) (by decide)]; decide
  rw [prog_round h, show Roads.preds.length = 3 from rfl, g1]; rfl
theorem g2 : needsErr Roads.preds Roads.rules 1 = 0 := by rw [needsErr, if_neg (by rw [g0]; simp), if_neg (by decide)]
theorem g3 : needsL (edges Roads.rules) 3 1 = [true, true, false] := by decide
theorem g4 : needsErr Roads.preds Roads.rules 3 = 7 := by rw [needsErr, if_neg (by rw [g0]; simp), if_pos (by decide)]
theorem gx : progErr Roads.preds rulesX = 8 := by
  have h : partsErr Roads.preds rulesX = 0 := by rw [parts_rules (by decide) (by decide) gt (by decide) (by decide)]; decide
  rw [prog_round h, show strataL (edges rulesX) Roads.preds.length = none by decide]; rfl
theorem gy : progErr predsY Roads.rules = 6 := prog_parts (parts_twice (by decide) (by decide) (by rw [twice_data]; decide)) (by decide)
theorem n1 : isName ⟨#[101, 100, 103, 101]⟩ = true := by decide
theorem n2 : isName ⟨#[69, 100, 103, 101]⟩ = false := by decide
theorem smallP : small Roads.preds := by intro q hq; revert q; decide
theorem smallY : small predsY := by intro q hq; revert q; decide

theorem wp_name {P : Program} {c : Code} {Q : Exit → Act → World → Prop} {a : Act} {W : World} (F : World → Prop) (hF : F W) (h : ∀ W0, F W0 → Code.wp P c Q a W0) : Code.wp P c Q a W := h W hF
theorem infoLit : (Try.prog.info? 50).map (fun i => (i.zero, i.size, i.bytes)) = some (some (.agg #[.bool false, .int .i64 0, .slice none 0 0]), 3, 40) := by kernel_rfl
theorem addr_add (b o j : Nat) : (⟨b, o, none⟩ : Addr).add j = ⟨b, o + j, none⟩ := by unfold Addr.add; split <;> simp_all
theorem term_one (w : World) : termsAt (w.alloc (.cells #[.bool true, .int .i64 0] 69)) (.slice (some ⟨w.heap.size, 0, none⟩) 1 1) [⟨true, 0⟩] := by
  refine ⟨_, 1, rfl, by decide, .inr ⟨w.heap.size, 0, rfl, by simp, ?_⟩⟩
  intro i x hi
  match i, hi with
  | 0, hi =>
    obtain rfl : (⟨true, 0⟩ : Tm) = x := by simpa using hi
    refine ⟨?_, ?_⟩ <;> simp [go_sem]
  | i + 1, hi => simp at hi
/-- a cell that is turned, and one that holds something else -/
theorem cell_else {w : World} {b o b' o' : Nat} {x y u : Value} (h : w.cell? ⟨b, o, none⟩ = some x) (h' : w.cell? ⟨b', o', none⟩ = some y) (hne : x ≠ y) : (w.setCell ⟨b, o, none⟩ u).cell? ⟨b', o', none⟩ = some y :=
  (World.cell?_setCell_other w _ _ _ (fun e => by rw [e] at h; rw [h] at h'; exact hne (Option.some.inj h'))).trans h'
theorem terms_else {w : World} {b o : Nat} {x u v : Value} {ts : List Tm} (h : w.cell? ⟨b, o, none⟩ = some x) (hx : (∀ k, x ≠ .bool k) ∧ ∀ k, x ≠ .int .i64 k) (ht : termsAt w v ts) : termsAt (w.setCell ⟨b, o, none⟩ u) v ts := by
  obtain ⟨a, cap, hv, hl, hc⟩ := ht
  refine ⟨a, cap, hv, hl, hc.imp id ?_⟩
  rintro ⟨b', off, ha, hlt, hc⟩
  exact ⟨b', off, ha, by rw [size_set]; exact hlt, fun i t hi => ⟨cell_else h (hc i t hi).1 (hx.1 _), cell_else h (hc i t hi).2 (hx.2 _)⟩⟩
theorem lits_str {w : World} {b o : Nat} {s : ByteArray} {u v : Value} {ls : List Ltr} (h : w.cell? ⟨b, o, none⟩ = some (.string s)) (ht : litsAt w v ls) : litsAt (w.setCell ⟨b, o, none⟩ u) v ls := by
  obtain ⟨a, cap, hv, hl, hc⟩ := ht
  refine ⟨a, cap, hv, hl, hc.imp id ?_⟩
  rintro ⟨b', off, ha, hlt, hc⟩
  refine ⟨b', off, ha, by rw [size_set]; exact hlt, fun i t hi => ?_⟩
  obtain ⟨h0, h1, av, h2, h3⟩ := hc i t hi
  have h3' := h3
  obtain ⟨aa, ac, rfl, _⟩ := h3'
  exact ⟨cell_else h h0 (by simp), cell_else h h1 (by simp), _, cell_else h h2 (by simp), terms_else h ⟨by simp, by simp⟩ h3⟩
theorem rules_str {w : World} {b o : Nat} {s : ByteArray} {u v : Value} {rs : List Rul} (h : w.cell? ⟨b, o, none⟩ = some (.string s)) (ht : rulesAt w v rs) : rulesAt (w.setCell ⟨b, o, none⟩ u) v rs := by
  obtain ⟨a, cap, hv, hl, hc⟩ := ht
  refine ⟨a, cap, hv, hl, hc.imp id ?_⟩
  rintro ⟨b', off, ha, hlt, hc⟩
  refine ⟨b', off, ha, by rw [size_set]; exact hlt, fun i t hi => ?_⟩
  obtain ⟨h0, ⟨hv1, h1, h1'⟩, h2, h3, bv, h4, h5⟩ := hc i t hi
  have e1 := h1'
  have e5 := h5
  obtain ⟨aa, ac, rfl, _⟩ := e1
  obtain ⟨ba, bc, rfl, _⟩ := e5
  exact ⟨cell_else h h0 (by simp), ⟨_, cell_else h h1 (by simp), terms_else h ⟨by simp, by simp⟩ h1'⟩, cell_else h h2 (by simp), cell_else h h3 (by simp), _, cell_else h h4 (by simp), lits_str h h5⟩
/-- a slice at (br, 24) is turned, where a number lies at (br, 22) -/
theorem lits_body {w : World} {br : Nat} {n : Int} {a0 : Option Addr} {n0 c0 : Nat} {u v : Value} {ls : List Ltr} (h : w.cell? ⟨br, 24, none⟩ = some (.slice a0 n0 c0)) (hn : w.cell? ⟨br, 22, none⟩ = some (.int .i64 n)) (ht : litsAt w v ls) : litsAt (w.setCell ⟨br, 24, none⟩ u) v ls := by
  obtain ⟨a, cap, hv, hl, hc⟩ := ht
  refine ⟨a, cap, hv, hl, hc.imp id ?_⟩
  rintro ⟨b', off, ha, hlt, hc⟩
  refine ⟨b', off, ha, by rw [size_set]; exact hlt, fun i t hi => ?_⟩
  obtain ⟨h0, h1, av, h2, h3⟩ := hc i t hi
  refine ⟨cell_else h h0 (by simp), cell_else h h1 (by simp), av, ?_, terms_else h ⟨by simp, by simp⟩ h3⟩
  by_cases e : (⟨br, 24, none⟩ : Addr) = ⟨b', off + i * 3 + 2, none⟩
  · exfalso
    have e1 : br = b' := congrArg Addr.block e
    have e2 : 24 = off + i * 3 + 2 := congrArg Addr.off e
    subst e1
    rw [show off + i * 3 = 22 by omega, hn] at h0
    cases h0
  · exact (World.cell?_setCell_other w _ _ _ e).trans h2
theorem preds_block {w : World} {bp b o n c : Nat} {u : Value} {ps : List Prd} (hne : b ≠ bp) (ht : predsAt w (.slice (some ⟨bp, 0, none⟩) n c) ps) : predsAt (w.setCell ⟨b, o, none⟩ u) (.slice (some ⟨bp, 0, none⟩) n c) ps := by
  obtain ⟨a, cap, hv, hl, hc⟩ := ht
  refine ⟨a, cap, hv, hl, hc.imp id ?_⟩
  rintro ⟨b', off, ha, hlt, hc⟩
  obtain rfl : bp = b' := by cases hv; cases ha; rfl
  exact ⟨bp, off, ha, by rw [size_set]; exact hlt, fun i t hi => ⟨(cell_block hne).trans (hc i t hi).1, (cell_block hne).trans (hc i t hi).2.1, (cell_block hne).trans (hc i t hi).2.2⟩⟩
theorem rules_x {w : World} {br g cap : Nat} (ht : rulesAt w (.slice (some ⟨br, 0, none⟩) 7 7) Roads.rules) (hl : litsAt w (.slice (some ⟨g, 0, none⟩) 2 cap) bodyX) : rulesAt (w.setCell ⟨br, 24, none⟩ (.slice (some ⟨g, 0, none⟩) 2 cap)) (.slice (some ⟨br, 0, none⟩) 7 7) rulesX := by
  obtain ⟨a, cap', hv, hm, hc⟩ := ht
  obtain ⟨b', off, ha, hlt, hc⟩ := hc.resolve_left (by decide)
  obtain ⟨rfl, rfl⟩ : br = b' ∧ off = 0 := by cases hv; cases ha; exact ⟨rfl, rfl⟩
  obtain ⟨q0, ⟨qv, q1, q1'⟩, q2, q3, qb, q4, q5⟩ := hc 4 _ rfl
  obtain ⟨qa, qc, rfl, _⟩ := q5
  refine ⟨a, cap', hv, by decide, .inr ⟨br, 0, ha, by rw [size_set]; exact hlt, fun i t hi => ?_⟩⟩
  by_cases e : i = 4
  · subst e
    obtain rfl : ruleX = t := by simpa [rulesX, Roads.rules] using hi
    exact ⟨(cell_off (by omega)).trans q0, ⟨_, (cell_off (by omega)).trans q1, terms_else q4 ⟨by simp, by simp⟩ q1'⟩, (cell_off (by omega)).trans q2, (cell_off (by omega)).trans q3, _, cell_set q4, lits_body q4 q2 hl⟩
  · have hi' : Roads.rules[i]? = some t := by rw [rulesX, List.getElem?_set_ne (fun q => e q.symm)] at hi; exact hi
    obtain ⟨h0, ⟨hv1, h1, h1'⟩, h2, h3, bv, h4, h5⟩ := hc i t hi'
    exact ⟨(cell_off (by omega)).trans h0, ⟨_, (cell_off (by omega)).trans h1, terms_else q4 ⟨by simp, by simp⟩ h1'⟩, (cell_off (by omega)).trans h2, (cell_off (by omega)).trans h3, _, (cell_off (by omega)).trans h4, lits_body q4 q2 h5⟩
theorem preds_y {w : World} {bp : Nat} (ht : predsAt w (.slice (some ⟨bp, 0, none⟩) 3 3) Roads.preds) : predsAt (w.setCell ⟨bp, 3, none⟩ (.string ⟨#[101, 100, 103, 101]⟩)) (.slice (some ⟨bp, 0, none⟩) 3 3) predsY ∧ w.cell? ⟨bp, 3, none⟩ = some (.string ⟨#[102, 97, 114]⟩) := by
  obtain ⟨a, cap', hv, hm, hc⟩ := ht
  obtain ⟨b', off, ha, hlt, hc⟩ := hc.resolve_left (by decide)
  obtain ⟨rfl, rfl⟩ : bp = b' ∧ off = 0 := by cases hv; cases ha; exact ⟨rfl, rfl⟩
  obtain ⟨a0, a1, a2⟩ := hc 0 _ rfl
  obtain ⟨b0, b1, b2⟩ := hc 1 _ rfl
  obtain ⟨c0, c1, c2⟩ := hc 2 _ rfl
  refine ⟨⟨a, cap', hv, by decide, .inr ⟨bp, 0, ha, by rw [size_set]; exact hlt, fun i t hi => ?_⟩⟩, b0⟩
  match i, hi with
  | 0, hi =>
    cases hi
    exact ⟨(cell_off (by omega)).trans a0, (cell_off (by omega)).trans a1, (cell_off (by omega)).trans a2⟩
  | 1, hi =>
    cases hi
    exact ⟨cell_set b0, (cell_off (by omega)).trans b1, (cell_off (by omega)).trans b2⟩
  | 2, hi =>
    cases hi
    exact ⟨(cell_off (by omega)).trans c0, (cell_off (by omega)).trans c1, (cell_off (by omega)).trans c2⟩
  | i + 3, hi => simp [predsY] at hi
/-- three cells more -/
theorem news3 {w : World} {lb lo : Nat} {a b c : Value} (h0 : w.cell? ⟨lb, lo, none⟩ = some a) (h1 : w.cell? ⟨lb, lo + 1, none⟩ = some b) (h2 : w.cell? ⟨lb, lo + 2, none⟩ = some c) : ∀ (j : Nat) (u : Value), [a, b, c][j]? = some u → w.cell? ((⟨lb, lo, none⟩ : Addr).add j) = some u := by
  intro j u hj
  rw [addr_add]
  match j, hj with
  | 0, hj => cases hj; exact h0
  | 1, hj => cases hj; exact h1
  | 2, hj => cases hj; exact h2
  | j + 3, hj => simp at hj
theorem lits_two {w : World} {base g cap : Nat} {n1 n2 : Bool} {p1 p2 : Int} {v1 v2 : Value} {t1 t2 : List Tm} (h : w.ownsRow base 50 3 (.slice (some ⟨g, 0, none⟩) (1 + 1) cap) (1 + 1) ([.bool n1, .int .i64 p1, v1] ++ [.bool n2, .int .i64 p2, v2])) (hg : g < w.heap.size) (h1 : termsAt w v1 t1) (h2 : termsAt w v2 t2) :
    litsAt w (.slice (some ⟨g, 0, none⟩) 2 cap) [⟨n1, ⟨p1, t1⟩⟩, ⟨n2, ⟨p2, t2⟩⟩] := by
  refine ⟨_, cap, rfl, by simp, .inr ⟨g, 0, rfl, hg, ?_⟩⟩
  have c := fun j hj => h.cellAt j hj
  intro i x hi
  match i, hi with
  | 0, hi =>
    cases hi
    exact ⟨c 0 (by omega), c 1 (by omega), v1, c 2 (by omega), h1⟩
  | 1, hi =>
    cases hi
    exact ⟨c 3 (by omega), c 4 (by omega), v2, c 5 (by omega), h2⟩
  | i + 2, hi => simp at hi

set_option maxRecDepth 100000 in
set_option maxHeartbeats 8000000 in
theorem progBegun_c (w : World) : Calls Try.prog 9 #[] w fun e w' => e = .returned (.bool true) ∧ Below w.heap.size w w' := by
  go_enter Try.func9, Try.ntmps9
  go_wp2_with fail
  refine (Roads.roads_c _).mono ?_
  rintro e w1 ⟨bp1, br1, rfl, _, _, _, hp1, hr1, _, _, _, hb1⟩
  go_wp2_with fail
  refine (devStrata_c _ _ _ Roads.preds Roads.rules hp1 hr1 smallP).mono ?_
  rw [g0]
  rintro e w2 ⟨⟨v2, rfl, _, hv2⟩, hb2⟩
  have HV2 : Hid (intsAt w2 v2 [0, 0, 1]) := hv2 _ g1 rfl
  have k2 : Below w.heap.size w w2 := below_trans hb1 hb2
  clear hp1 hr1 hb1 hb2 hv2
  go_wp2_with fail
  refine (Roads.roads_c _).mono ?_
  rintro e w3 ⟨bp3, br3, rfl, _, _, _, hp3, hr3, _, _, _, hb3⟩
  go_wp2_with fail
  refine (devNeeds_c _ _ _ Roads.preds Roads.rules 1 hp3 hr3 smallP).mono ?_
  rw [g2]
  rintro e w4 ⟨⟨v4, rfl, _, hv4⟩, hb4⟩
  have HV4 : Hid (boolsAt w4 v4 [true, true, false]) := g3 ▸ hv4 rfl
  have q4 : Below w2.heap.size w2 w4 := below_trans hb3 hb4
  clear hp3 hr3 hb3 hb4 hv4
  go_wp2_with fail
  refine (Roads.roads_c _).mono ?_
  rintro e w5 ⟨bp5, br5, rfl, _, _, _, hp5, hr5, _, _, _, hb5⟩
  go_wp2_with fail
  refine (devNeeds_c _ _ _ Roads.preds Roads.rules 3 hp5 hr5 smallP).mono ?_
  rw [g4]
  rintro e w6 ⟨⟨v6, rfl, hv6, _⟩, hb6⟩
  obtain rfl := hv6 (by decide)
  have q6 : Below w4.heap.size w4 w6 := below_trans hb5 hb6
  clear hp5 hr5 hb5 hb6 hv6
  go_wp2_with fail
  refine (Roads.roads_c _).mono ?_
  rintro e w7 ⟨bp, br, rfl, hbp0, hbpr, hbrs, hp7, hr7, hfp, hfr, _, hb7⟩
  have HP7 : Hid (predsAt w7 (.slice (some ⟨bp, 0, none⟩) 3 3) Roads.preds) := hp7
  have HR7 : Hid (rulesAt w7 (.slice (some ⟨br, 0, none⟩) 7 7) Roads.rules) := hr7
  have q7 : Below w6.heap.size w6 w7 := hb7
  clear hp7 hr7 hb7
  go_wp2_with fail
  rename_i KK hKK
  obtain ⟨i0, hi, hz0, hz1, hz2⟩ := info_parts infoLit
  obtain ⟨_, _, _, _, bv, c24, hbody⟩ : ruleAt w7 br (0 + 4 * 5) Roads.rules[4] := by
    obtain ⟨a, cap, hv, hl, hx⟩ := HR7.out
    rcases hx with hx | ⟨b, off, ha, hlt, hx⟩
    · cases hx
    · cases hv
      cases ha
      exact hx 4 _ rfl
  obtain ⟨ba, lc, rfl, _, hlx⟩ := hbody
  obtain ⟨lb, lo, rfl, hlb, hlx⟩ := hlx.resolve_left (by decide)
  obtain ⟨l0, l1, av, l2, l3⟩ := hlx 0 _ rfl
  have HAV : Hid (termsAt w7 av [⟨true, 0⟩, ⟨true, 1⟩]) := l3
  obtain ⟨aa, ac, rfl, _, _⟩ := l3
  refine wp_name (fun W0 => Below w7.heap.size w7 W0 ∧ w7.heap.size < W0.heap.size ∧ W0.cell? ⟨w7.heap.size, 0, none⟩ = some (.slice (some ⟨bp, 0, none⟩) 3 3) ∧ W0.cell? ⟨w7.heap.size, 1, none⟩ = some (.slice (some ⟨br, 0, none⟩) 7 7)) ⟨below_alloc _ _, by simp, by simp [go_sem], by simp [go_sem]⟩ ?_
  rintro W0 ⟨hk0, hs0, x0, x1⟩
  have KS : Hid (∀ x, Below W0.heap.size W0 x → x.cell? ⟨w7.heap.size, 1, none⟩ = some (.slice (some ⟨br, 0, none⟩) 7 7)) := fun x hx => (cell_lasts hx hs0).trans x1
  have KC : Hid (∀ x, Below W0.heap.size W0 x → x.cell? ⟨br, 24, none⟩ = some (.slice (some ⟨lb, lo, none⟩) 1 lc)) := fun x hx => (cell_lasts hx (by omega)).trans ((cell_lasts hk0 hbrs).trans c24)
  have KF : Hid (∀ x, Below W0.heap.size W0 x → x.frozen? ⟨br, 24, none⟩ = false) := fun x hx => (hx.frozen (p := ⟨br, 24, none⟩) (show br < W0.heap.size by omega)).trans ((hk0.frozen (p := ⟨br, 24, none⟩) hbrs).trans (hfr 24))
  have KL : Hid (∀ x, Below W0.heap.size W0 x → ∀ (j : Nat) (u : Value), [Value.bool false, .int .i64 0, .slice aa 2 ac][j]? = some u → x.cell? ((⟨lb, lo, none⟩ : Addr).add j) = some u) := fun x hx => news3
    ((cell_lasts hx (by omega)).trans ((cell_lasts hk0 hlb).trans l0)) ((cell_lasts hx (by omega)).trans ((cell_lasts hk0 hlb).trans l1)) ((cell_lasts hx (by omega)).trans ((cell_lasts hk0 hlb).trans l2))
  have KA : Hid (∀ x, Below W0.heap.size W0 x → termsAt x (.slice aa 2 ac) [⟨true, 0⟩, ⟨true, 1⟩]) := fun x hx => termsAt.lasts (hk0.trans (hx.mono hk0.size)) HAV.out
  have C24 : W0.cell? ⟨br, 24, none⟩ = some (.slice (some ⟨lb, lo, none⟩) 1 lc) := KC.out _ (Below.refl _ _)
  clear c24 l0 l1 l2 HAV hlx
  refine wp_mono (Q := fun e a' w' => e = .normal ∧ (∃ W5 g cap, w' = W5.setCell ⟨br, 24, none⟩ (.slice (some ⟨g, 0, none⟩) 2 cap) ∧ Below W0.heap.size W0 W5 ∧ litsAt W5 (.slice (some ⟨g, 0, none⟩) 2 cap) bodyX) ∧ ∃ u25 u26 u27 u28 u29 u30 u31 u32 u33 u34 u35 u36 u37 u38 u39 : Value, a' = { tmps := #[.bool false, v2, .int .i64 0, v4, .int .i64 0, .slice none 0 0, .int .i64 7, .pointer (some ⟨w7.heap.size, 0, none⟩), undef, .tuple #[v2, .int .i64 0], .agg #[.slice (some ⟨bp1, 0, none⟩) 3 3, .slice (some ⟨br1, 0, none⟩) 7 7], .tuple #[v2, .int .i64 0], v2, .int .i64 0, .tuple #[v4, .int .i64 0], .agg #[.slice (some ⟨bp3, 0, none⟩) 3 3, .slice (some ⟨br3, 0, none⟩) 7 7], .tuple #[v4, .int .i64 0], v4, .int .i64 0, .tuple #[.slice none 0 0, .int .i64 7], .agg #[.slice (some ⟨bp5, 0, none⟩) 3 3, .slice (some ⟨br5, 0, none⟩) 7 7], .tuple #[.slice none 0 0, .int .i64 7], .slice none 0 0, .int .i64 7, .agg #[.slice (some ⟨bp, 0, none⟩) 3 3, .slice (some ⟨br, 0, none⟩) 7 7], u25, u26, u27, u28, u29, u30, u31, u32, u33, u34, u35, u36, u37, u38, u39, undef, undef, undef, undef, undef, undef, undef, undef, undef, undef, undef, undef, undef, undef, undef, undef, undef, undef, undef, undef, undef, undef, undef, undef, undef, undef, undef, undef, undef, undef, undef, undef, undef, undef, undef, undef, undef, undef, undef, undef, undef, undef, undef, undef, undef, undef, undef], defers := [] }) ?reg ?rest
  case reg =>
    refine wp_region_held_drew (S := fun w' => w'.cell? ⟨w7.heap.size, 1, none⟩ = some (.slice (some ⟨br, 0, none⟩) 7 7)) (by kernel_rfl) (KS.out _ (Below.refl _ _).drew) (fun hHeld => ?_)
    refine wpAnyH_take (i := 0) (v := ?_) rfl (by kernel_rfl) (by kernel_rfl) (by kernel_rfl) (fun _ _ _ h => by cases h.1) (Or.inl ⟨by rfl, ?_⟩) (by assumption) ?_
    rotate_left
    · (intro w hSw; (try dsimp only at hSw); go_simp; try with_reducible rfl)
    try simp only [Act.put, List.setIfInBounds_toArray]
    refine wpAnyH_take (i := 1) (v := ?_) rfl (by kernel_rfl) (by kernel_rfl) (by kernel_rfl) (fun _ _ _ h => by cases h.1) (Or.inl ⟨by rfl, ?_⟩) (by assumption) ?_
    rotate_left
    · (intro w hSw; (try dsimp only at hSw); go_simp; try with_reducible rfl)
    try simp only [Act.put]
    refine wpAnyH_take (i := 7) (v := ?_) rfl (by kernel_rfl) (by kernel_rfl) (by kernel_rfl) (fun _ _ _ h => by cases h.1) (Or.inl ⟨by rfl, ?_⟩) (by assumption) ?_
    rotate_left
    · (intro w hSw; (try dsimp only at hSw); go_simp; try with_reducible rfl)
    try simp only [Act.put]
    refine wpAnyH_take (i := 8) (v := ?_) rfl (by kernel_rfl) (by kernel_rfl) (by kernel_rfl) (fun _ _ _ h => by cases h.1) (Or.inl ⟨by rfl, ?_⟩) (by assumption) ?_
    rotate_left
    · (intro w hSw; (try dsimp only at hSw); go_simp; try with_reducible rfl)
    try simp only [Act.put]
    refine wpAnyH_take (i := 9) (v := ?_) rfl (by kernel_rfl) (by kernel_rfl) (by kernel_rfl) (fun _ _ _ h => by cases h.1) (Or.inl ⟨by rfl, ?_⟩) (by assumption) ?_
    rotate_left
    · (intro w hSw; (try dsimp only at hSw); go_simp; try with_reducible rfl)
    try simp only [Act.put]
    refine wpAnyH_take (i := 10) (v := ?_) rfl (by kernel_rfl) (by kernel_rfl) (by kernel_rfl) (fun _ _ _ h => by cases h.1) (Or.inl ⟨by rfl, ?_⟩) (by assumption) ?_
    rotate_left
    · (intro w hSw; (try dsimp only at hSw); go_simp; try with_reducible rfl)
    try simp only [Act.put]
    refine wpAnyH_ready (rs := [2, 11]) (by kernel_rfl) (by simp) ?_
    refine AllReadyH.cons rfl (fun K hK => ?_) ?_
    · go_simp
      refine (Roads.v_c _ _).mono ?_
      rintro e w4' ⟨rfl, hw4⟩
      have hk : Below W0.heap.size W0 w4' := (by rw [hw4]; first | exact (below_alloc _ _) | exact ((Below.refl _ _).drew).alloc (Nat.le_refl _) _ | exact ((Below.refl _ _).alloc (Nat.le_refl _) _).drew)
      have C4 := KC.out _ hk
      have C4' := fun o => KC.out _ (hk.alloc hk.size o)
      clear hw4
      try go_wp2_with fail
      refine hK.out _ _ ?_ (fun hHeld => ?_)
      · refine KS.out _ ?_; (first | exact Below.refl _ _ | exact (Below.refl _ _).drew | exact hk | exact hk.drew | exact hk.alloc hk.size _ | exact (hk.alloc hk.size _).drew | exact hk.drew.alloc hk.size _)
      clear hK K
      try simp only [Act.put, List.setIfInBounds_toArray, List.set_cons_zero, List.set_cons_succ]
      refine wpAnyH_ready (rs := [3, 11]) (by kernel_rfl) (by simp) ?_
      refine AllReadyH.cons rfl (fun K hK => ?_) ?_
      · go_simp
        refine hK.out _ _ ?_ (fun hHeld => ?_)
        · refine KS.out _ ?_; (first | exact Below.refl _ _ | exact (Below.refl _ _).drew | exact hk | exact hk.drew | exact hk.alloc hk.size _ | exact (hk.alloc hk.size _).drew | exact hk.drew.alloc hk.size _)
        clear hK K
        try simp only [Act.put, List.setIfInBounds_toArray, List.set_cons_zero, List.set_cons_succ]
        refine wpAnyH_ready (rs := [4, 11]) (by kernel_rfl) (by simp) ?_
        refine AllReadyH.cons rfl (fun K hK => ?_) ?_
        · go_simp
          refine (Roads.at_c _ _ _ _ _).mono ?_
          rintro e w5' ⟨rfl, hw5⟩
          have HT5 : Hid (termsAt w5' (.slice (some ⟨w4'.heap.size, 0, none⟩) 1 1) [⟨true, 0⟩]) := (by rw [hw5]; exact termsAt.lasts (below_alloc _ _) (term_one _))
          have hk : Below W0.heap.size W0 w5' := (by rw [hw5]; exact (hk.alloc hk.size _).alloc (by have := hk.size; simp; omega) _)
          have C5 := KC.out _ hk
          have C5' := fun o => KC.out _ (hk.alloc hk.size o)
          clear hw5 C4 C4'
          try go_wp2_with fail
          refine hK.out _ _ ?_ (fun hHeld => ?_)
          · refine KS.out _ ?_; (first | exact Below.refl _ _ | exact (Below.refl _ _).drew | exact hk | exact hk.drew | exact hk.alloc hk.size _ | exact (hk.alloc hk.size _).drew | exact hk.drew.alloc hk.size _)
          clear hK K
          try simp only [Act.put, List.setIfInBounds_toArray, List.set_cons_zero, List.set_cons_succ]
          refine wpAnyH_ready (rs := [5, 11]) (by kernel_rfl) (by simp) ?_
          refine AllReadyH.cons rfl (fun K hK => ?_) ?_
          · go_simp
            refine (Roads.not_c _ _ _ _ _).mono ?_
            rintro e w6' ⟨rfl, hw6⟩
            have h56 : Below w5'.heap.size w5' w6' := (by rw [hw6]; exact (below_alloc _ _).alloc (by simp) _)
            have hk : Below W0.heap.size W0 w6' := hk.trans (h56.mono hk.size)
            have C6 := KC.out _ hk
            have C6' := fun o => KC.out _ (hk.alloc hk.size o)
            clear hw6 C5 C5'
            try go_wp2_with fail
            refine hK.out _ _ ?_ (fun hHeld => ?_)
            · refine KS.out _ ?_; (first | exact Below.refl _ _ | exact (Below.refl _ _).drew | exact hk | exact hk.drew | exact hk.alloc hk.size _ | exact (hk.alloc hk.size _).drew | exact hk.drew.alloc hk.size _)
            clear hK K
            try simp only [Act.put, List.setIfInBounds_toArray, List.set_cons_zero, List.set_cons_succ]
            refine wpAnyH_ready (rs := [6, 11]) (by kernel_rfl) (by simp) ?_
            refine AllReadyH.cons rfl (fun K hK => ?_) ?_
            · go_simp
              refine hK.out _ _ ?_ (fun hHeld => ?_)
              · refine KS.out _ ?_; (first | exact Below.refl _ _ | exact (Below.refl _ _).drew | exact hk | exact hk.drew | exact hk.alloc hk.size _ | exact (hk.alloc hk.size _).drew | exact hk.drew.alloc hk.size _)
              clear hK K
              try simp only [Act.put, List.setIfInBounds_toArray, List.set_cons_zero, List.set_cons_succ]
              refine wpAnyH_ready (rs := [11]) (by kernel_rfl) (by simp) ?_
              refine AllReadyH.cons rfl (fun K hK => ?_) AllReadyH.nil
              · go_simp
                refine hK.out _ _ ?_ (fun hHeld => ?_)
                · first | exact hHeld | (refine KS.out _ ?_; (first | exact Below.refl _ _ | exact (Below.refl _ _).drew | exact hk | exact hk.drew | exact hk.alloc hk.size _ | exact (hk.alloc hk.size _).drew | exact hk.drew.alloc hk.size _))
                clear hK K
                try simp only [Act.put, List.setIfInBounds_toArray, List.set_cons_zero, List.set_cons_succ]
                refine wpAnyH_ready (rs := [12]) (by kernel_rfl) (by simp) ?_
                refine AllReadyH.cons rfl (fun K hK => ?_) AllReadyH.nil
                refine step_append_lies _ (by rfl) _ _ 46 (by rfl) W0.heap.size 50 i0 (.agg #[.bool false, .int .i64 0, .slice none 0 0]) 3 40 Try.underlying46 hi hz0 hz1 hz2 (by rfl) (by omega) (.slice (some ⟨w6'.heap.size, 0, none⟩) 1 1) 1 [.bool true, .int .i64 2, .slice (some ⟨w4'.heap.size, 0, none⟩) 1 1] (by rfl) (World.ownsRow_lit w6' #[.bool true, .int .i64 2, .slice (some ⟨w4'.heap.size, 0, none⟩) 1 1] 1 hk.size (by unfold maxLen; omega) rfl) ⟨lb, lo, none⟩ 1 lc [.bool false, .int .i64 0, .slice aa 2 ac] (by rfl) (by rfl) (KL.out _ (hk.alloc hk.size _)) (by intro u hu; simp at hu; rcases hu with rfl | rfl | rfl <;> rfl) (by omega) (by unfold maxLen; omega) (by omega) (by have := hk.size; simp; omega) (w6'.heap.size + 1) (by simp) ?_
                intro g cap w8' hown8 hgrow8 hat8 hlt8
                have hk8 : Below W0.heap.size W0 w8' := (hk.alloc hk.size _).grown hgrow8 (by have := hk.size; simp; omega) (fun k e => by cases e; exact hk.size)
                have h68 : Below w6'.heap.size w6' w8' := ((Below.refl _ _).alloc (Nat.le_refl _) _).grown hgrow8 (by simp) (fun k e => by cases e; exact Nat.le_refl _)
                have C8 := KC.out _ hk8
                have F8 := KF.out _ hk8
                clear C6 C6'
                refine hK.out _ _ ?_ (fun hHeld => ?_)
                · exact KS.out _ hk8
                clear hK K
                try simp only [Act.put, List.setIfInBounds_toArray]
                refine wpAnyH_take (i := 13) (v := ?_) rfl (by kernel_rfl) (by kernel_rfl) (by kernel_rfl) (fun _ _ _ h => by cases h.1) (Or.inl ⟨by rfl, ?_⟩) (by assumption) ?_
                rotate_left
                · (intro w hSw; (try dsimp only at hSw); go_simp; try with_reducible rfl)
                try simp only [Act.put]
                refine wpAnyH_take (i := 14) (v := ?_) rfl (by kernel_rfl) (by kernel_rfl) (by kernel_rfl) (fun _ _ _ h => by cases h.1) (Or.inl ⟨by rfl, ?_⟩) (by assumption) ?_
                rotate_left
                · (intro w hSw; (try dsimp only at hSw); go_simp; try with_reducible rfl)
                try simp only [Act.put]
                refine wpAnyH_ready (rs := [15]) (by kernel_rfl) (by simp) ?_
                refine AllReadyH.cons rfl (fun K hK => ?_) AllReadyH.nil
                go_simp
                refine hK.out _ _ ?_ (fun hHeld => ?_)
                · exact (cell_block (by omega)).trans (KS.out _ hk8)
                clear hK K
                try simp only [Act.put, List.setIfInBounds_toArray, List.set_cons_zero, List.set_cons_succ]
                refine wpAnyH_done (by kernel_rfl) ?_ _
                exact ⟨rfl, ⟨w8', g, cap, rfl, hk8, lits_two hown8 hlt8 (termsAt.lasts (below_trans h56 h68) HT5.out) (KA.out _ hk8)⟩, _, _, _, _, _, _, _, _, _, _, _, _, _, _, _, rfl⟩
            refine AllReadyH.cons rfl (fun K hK => ?_) AllReadyH.nil
            · go_simp
              refine hK.out _ _ ?_ (fun hHeld => ?_)
              · first | exact hHeld | (refine KS.out _ ?_; (first | exact Below.refl _ _ | exact (Below.refl _ _).drew | exact hk | exact hk.drew | exact hk.alloc hk.size _ | exact (hk.alloc hk.size _).drew | exact hk.drew.alloc hk.size _))
              clear hK K
              try simp only [Act.put, List.setIfInBounds_toArray, List.set_cons_zero, List.set_cons_succ]
              refine wpAnyH_ready (rs := [6]) (by kernel_rfl) (by simp) ?_
              refine AllReadyH.cons rfl (fun K hK => ?_) AllReadyH.nil
              · go_simp
                refine hK.out _ _ ?_ (fun hHeld => ?_)
                · refine KS.out _ ?_; (first | exact Below.refl _ _ | exact (Below.refl _ _).drew | exact hk | exact hk.drew | exact hk.alloc hk.size _ | exact (hk.alloc hk.size _).drew | exact hk.drew.alloc hk.size _)
                clear hK K
                try simp only [Act.put, List.setIfInBounds_toArray, List.set_cons_zero, List.set_cons_succ]
                refine wpAnyH_ready (rs := [12]) (by kernel_rfl) (by simp) ?_
                refine AllReadyH.cons rfl (fun K hK => ?_) AllReadyH.nil
                refine step_append_lies _ (by rfl) _ _ 46 (by rfl) W0.heap.size 50 i0 (.agg #[.bool false, .int .i64 0, .slice none 0 0]) 3 40 Try.underlying46 hi hz0 hz1 hz2 (by rfl) (by omega) (.slice (some ⟨w6'.heap.size, 0, none⟩) 1 1) 1 [.bool true, .int .i64 2, .slice (some ⟨w4'.heap.size, 0, none⟩) 1 1] (by rfl) (World.ownsRow_lit w6' #[.bool true, .int .i64 2, .slice (some ⟨w4'.heap.size, 0, none⟩) 1 1] 1 hk.size (by unfold maxLen; omega) rfl) ⟨lb, lo, none⟩ 1 lc [.bool false, .int .i64 0, .slice aa 2 ac] (by rfl) (by rfl) (KL.out _ (hk.alloc hk.size _)) (by intro u hu; simp at hu; rcases hu with rfl | rfl | rfl <;> rfl) (by omega) (by unfold maxLen; omega) (by omega) (by have := hk.size; simp; omega) (w6'.heap.size + 1) (by simp) ?_
                intro g cap w8' hown8 hgrow8 hat8 hlt8
                have hk8 : Below W0.heap.size W0 w8' := (hk.alloc hk.size _).grown hgrow8 (by have := hk.size; simp; omega) (fun k e => by cases e; exact hk.size)
                have h68 : Below w6'.heap.size w6' w8' := ((Below.refl _ _).alloc (Nat.le_refl _) _).grown hgrow8 (by simp) (fun k e => by cases e; exact Nat.le_refl _)
                have C8 := KC.out _ hk8
                have F8 := KF.out _ hk8
                clear C6 C6'
                refine hK.out _ _ ?_ (fun hHeld => ?_)
                · exact KS.out _ hk8
                clear hK K
                try simp only [Act.put, List.setIfInBounds_toArray]
                refine wpAnyH_take (i := 13) (v := ?_) rfl (by kernel_rfl) (by kernel_rfl) (by kernel_rfl) (fun _ _ _ h => by cases h.1) (Or.inl ⟨by rfl, ?_⟩) (by assumption) ?_
                rotate_left
                · (intro w hSw; (try dsimp only at hSw); go_simp; try with_reducible rfl)
                try simp only [Act.put]
                refine wpAnyH_take (i := 14) (v := ?_) rfl (by kernel_rfl) (by kernel_rfl) (by kernel_rfl) (fun _ _ _ h => by cases h.1) (Or.inl ⟨by rfl, ?_⟩) (by assumption) ?_
                rotate_left
                · (intro w hSw; (try dsimp only at hSw); go_simp; try with_reducible rfl)
                try simp only [Act.put]
                refine wpAnyH_ready (rs := [15]) (by kernel_rfl) (by simp) ?_
                refine AllReadyH.cons rfl (fun K hK => ?_) AllReadyH.nil
                go_simp
                refine hK.out _ _ ?_ (fun hHeld => ?_)
                · exact (cell_block (by omega)).trans (KS.out _ hk8)
                clear hK K
                try simp only [Act.put, List.setIfInBounds_toArray, List.set_cons_zero, List.set_cons_succ]
                refine wpAnyH_done (by kernel_rfl) ?_ _
                exact ⟨rfl, ⟨w8', g, cap, rfl, hk8, lits_two hown8 hlt8 (termsAt.lasts (below_trans h56 h68) HT5.out) (KA.out _ hk8)⟩, _, _, _, _, _, _, _, _, _, _, _, _, _, _, _, rfl⟩
          refine AllReadyH.cons rfl (fun K hK => ?_) AllReadyH.nil
          · go_simp
            refine hK.out _ _ ?_ (fun hHeld => ?_)
            · first | exact hHeld | (refine KS.out _ ?_; (first | exact Below.refl _ _ | exact (Below.refl _ _).drew | exact hk | exact hk.drew | exact hk.alloc hk.size _ | exact (hk.alloc hk.size _).drew | exact hk.drew.alloc hk.size _))
            clear hK K
            try simp only [Act.put, List.setIfInBounds_toArray, List.set_cons_zero, List.set_cons_succ]
            refine wpAnyH_ready (rs := [5]) (by kernel_rfl) (by simp) ?_
            refine AllReadyH.cons rfl (fun K hK => ?_) AllReadyH.nil
            · go_simp
              refine (Roads.not_c _ _ _ _ _).mono ?_
              rintro e w6' ⟨rfl, hw6⟩
              have h56 : Below w5'.heap.size w5' w6' := (by rw [hw6]; exact (below_alloc _ _).alloc (by simp) _)
              have hk : Below W0.heap.size W0 w6' := hk.trans (h56.mono hk.size)
              have C6 := KC.out _ hk
              have C6' := fun o => KC.out _ (hk.alloc hk.size o)
              clear hw6 C5 C5'
              try go_wp2_with fail
              refine hK.out _ _ ?_ (fun hHeld => ?_)
              · refine KS.out _ ?_; (first | exact Below.refl _ _ | exact (Below.refl _ _).drew | exact hk | exact hk.drew | exact hk.alloc hk.size _ | exact (hk.alloc hk.size _).drew | exact hk.drew.alloc hk.size _)
              clear hK K
              try simp only [Act.put, List.setIfInBounds_toArray, List.set_cons_zero, List.set_cons_succ]
              refine wpAnyH_ready (rs := [6]) (by kernel_rfl) (by simp) ?_
              refine AllReadyH.cons rfl (fun K hK => ?_) AllReadyH.nil
              · go_simp
                refine hK.out _ _ ?_ (fun hHeld => ?_)
                · refine KS.out _ ?_; (first | exact Below.refl _ _ | exact (Below.refl _ _).drew | exact hk | exact hk.drew | exact hk.alloc hk.size _ | exact (hk.alloc hk.size _).drew | exact hk.drew.alloc hk.size _)
                clear hK K
                try simp only [Act.put, List.setIfInBounds_toArray, List.set_cons_zero, List.set_cons_succ]
                refine wpAnyH_ready (rs := [12]) (by kernel_rfl) (by simp) ?_
                refine AllReadyH.cons rfl (fun K hK => ?_) AllReadyH.nil
                refine step_append_lies _ (by rfl) _ _ 46 (by rfl) W0.heap.size 50 i0 (.agg #[.bool false, .int .i64 0, .slice none 0 0]) 3 40 Try.underlying46 hi hz0 hz1 hz2 (by rfl) (by omega) (.slice (some ⟨w6'.heap.size, 0, none⟩) 1 1) 1 [.bool true, .int .i64 2, .slice (some ⟨w4'.heap.size, 0, none⟩) 1 1] (by rfl) (World.ownsRow_lit w6' #[.bool true, .int .i64 2, .slice (some ⟨w4'.heap.size, 0, none⟩) 1 1] 1 hk.size (by unfold maxLen; omega) rfl) ⟨lb, lo, none⟩ 1 lc [.bool false, .int .i64 0, .slice aa 2 ac] (by rfl) (by rfl) (KL.out _ (hk.alloc hk.size _)) (by intro u hu; simp at hu; rcases hu with rfl | rfl | rfl <;> rfl) (by omega) (by unfold maxLen; omega) (by omega) (by have := hk.size; simp; omega) (w6'.heap.size + 1) (by simp) ?_
                intro g cap w8' hown8 hgrow8 hat8 hlt8
                have hk8 : Below W0.heap.size W0 w8' := (hk.alloc hk.size _).grown hgrow8 (by have := hk.size; simp; omega) (fun k e => by cases e; exact hk.size)
                have h68 : Below w6'.heap.size w6' w8' := ((Below.refl _ _).alloc (Nat.le_refl _) _).grown hgrow8 (by simp) (fun k e => by cases e; exact Nat.le_refl _)
                have C8 := KC.out _ hk8
                have F8 := KF.out _ hk8
                clear C6 C6'
                refine hK.out _ _ ?_ (fun hHeld => ?_)
                · exact KS.out _ hk8
                clear hK K
                try simp only [Act.put, List.setIfInBounds_toArray]
                refine wpAnyH_take (i := 13) (v := ?_) rfl (by kernel_rfl) (by kernel_rfl) (by kernel_rfl) (fun _ _ _ h => by cases h.1) (Or.inl ⟨by rfl, ?_⟩) (by assumption) ?_
                rotate_left
                · (intro w hSw; (try dsimp only at hSw); go_simp; try with_reducible rfl)
                try simp only [Act.put]
                refine wpAnyH_take (i := 14) (v := ?_) rfl (by kernel_rfl) (by kernel_rfl) (by kernel_rfl) (fun _ _ _ h => by cases h.1) (Or.inl ⟨by rfl, ?_⟩) (by assumption) ?_
                rotate_left
                · (intro w hSw; (try dsimp only at hSw); go_simp; try with_reducible rfl)
                try simp only [Act.put]
                refine wpAnyH_ready (rs := [15]) (by kernel_rfl) (by simp) ?_
                refine AllReadyH.cons rfl (fun K hK => ?_) AllReadyH.nil
                go_simp
                refine hK.out _ _ ?_ (fun hHeld => ?_)
                · exact (cell_block (by omega)).trans (KS.out _ hk8)
                clear hK K
                try simp only [Act.put, List.setIfInBounds_toArray, List.set_cons_zero, List.set_cons_succ]
                refine wpAnyH_done (by kernel_rfl) ?_ _
                exact ⟨rfl, ⟨w8', g, cap, rfl, hk8, lits_two hown8 hlt8 (termsAt.lasts (below_trans h56 h68) HT5.out) (KA.out _ hk8)⟩, _, _, _, _, _, _, _, _, _, _, _, _, _, _, _, rfl⟩
        refine AllReadyH.cons rfl (fun K hK => ?_) AllReadyH.nil
        · go_simp
          refine hK.out _ _ ?_ (fun hHeld => ?_)
          · first | exact hHeld | (refine KS.out _ ?_; (first | exact Below.refl _ _ | exact (Below.refl _ _).drew | exact hk | exact hk.drew | exact hk.alloc hk.size _ | exact (hk.alloc hk.size _).drew | exact hk.drew.alloc hk.size _))
          clear hK K
          try simp only [Act.put, List.setIfInBounds_toArray, List.set_cons_zero, List.set_cons_succ]
          refine wpAnyH_ready (rs := [4]) (by kernel_rfl) (by simp) ?_
          refine AllReadyH.cons rfl (fun K hK => ?_) AllReadyH.nil
          · go_simp
            refine (Roads.at_c _ _ _ _ _).mono ?_
            rintro e w5' ⟨rfl, hw5⟩
            have HT5 : Hid (termsAt w5' (.slice (some ⟨w4'.heap.size, 0, none⟩) 1 1) [⟨true, 0⟩]) := (by rw [hw5]; exact termsAt.lasts (below_alloc _ _) (term_one _))
            have hk : Below W0.heap.size W0 w5' := (by rw [hw5]; exact (hk.alloc hk.size _).alloc (by have := hk.size; simp; omega) _)
            have C5 := KC.out _ hk
            have C5' := fun o => KC.out _ (hk.alloc hk.size o)
            clear hw5 C4 C4'
            try go_wp2_with fail
            refine hK.out _ _ ?_ (fun hHeld => ?_)
            · refine KS.out _ ?_; (first | exact Below.refl _ _ | exact (Below.refl _ _).drew | exact hk | exact hk.drew | exact hk.alloc hk.size _ | exact (hk.alloc hk.size _).drew | exact hk.drew.alloc hk.size _)
            clear hK K
            try simp only [Act.put, List.setIfInBounds_toArray, List.set_cons_zero, List.set_cons_succ]
            refine wpAnyH_ready (rs := [5]) (by kernel_rfl) (by simp) ?_
            refine AllReadyH.cons rfl (fun K hK => ?_) AllReadyH.nil
            · go_simp
              refine (Roads.not_c _ _ _ _ _).mono ?_
              rintro e w6' ⟨rfl, hw6⟩
              have h56 : Below w5'.heap.size w5' w6' := (by rw [hw6]; exact (below_alloc _ _).alloc (by simp) _)
              have hk : Below W0.heap.size W0 w6' := hk.trans (h56.mono hk.size)
              have C6 := KC.out _ hk
              have C6' := fun o => KC.out _ (hk.alloc hk.size o)
              clear hw6 C5 C5'
              try go_wp2_with fail
              refine hK.out _ _ ?_ (fun hHeld => ?_)
              · refine KS.out _ ?_; (first | exact Below.refl _ _ | exact (Below.refl _ _).drew | exact hk | exact hk.drew | exact hk.alloc hk.size _ | exact (hk.alloc hk.size _).drew | exact hk.drew.alloc hk.size _)
              clear hK K
              try simp only [Act.put, List.setIfInBounds_toArray, List.set_cons_zero, List.set_cons_succ]
              refine wpAnyH_ready (rs := [6]) (by kernel_rfl) (by simp) ?_
              refine AllReadyH.cons rfl (fun K hK => ?_) AllReadyH.nil
              · go_simp
                refine hK.out _ _ ?_ (fun hHeld => ?_)
                · refine KS.out _ ?_; (first | exact Below.refl _ _ | exact (Below.refl _ _).drew | exact hk | exact hk.drew | exact hk.alloc hk.size _ | exact (hk.alloc hk.size _).drew | exact hk.drew.alloc hk.size _)
                clear hK K
                try simp only [Act.put, List.setIfInBounds_toArray, List.set_cons_zero, List.set_cons_succ]
                refine wpAnyH_ready (rs := [12]) (by kernel_rfl) (by simp) ?_
                refine AllReadyH.cons rfl (fun K hK => ?_) AllReadyH.nil
                refine step_append_lies _ (by rfl) _ _ 46 (by rfl) W0.heap.size 50 i0 (.agg #[.bool false, .int .i64 0, .slice none 0 0]) 3 40 Try.underlying46 hi hz0 hz1 hz2 (by rfl) (by omega) (.slice (some ⟨w6'.heap.size, 0, none⟩) 1 1) 1 [.bool true, .int .i64 2, .slice (some ⟨w4'.heap.size, 0, none⟩) 1 1] (by rfl) (World.ownsRow_lit w6' #[.bool true, .int .i64 2, .slice (some ⟨w4'.heap.size, 0, none⟩) 1 1] 1 hk.size (by unfold maxLen; omega) rfl) ⟨lb, lo, none⟩ 1 lc [.bool false, .int .i64 0, .slice aa 2 ac] (by rfl) (by rfl) (KL.out _ (hk.alloc hk.size _)) (by intro u hu; simp at hu; rcases hu with rfl | rfl | rfl <;> rfl) (by omega) (by unfold maxLen; omega) (by omega) (by have := hk.size; simp; omega) (w6'.heap.size + 1) (by simp) ?_
                intro g cap w8' hown8 hgrow8 hat8 hlt8
                have hk8 : Below W0.heap.size W0 w8' := (hk.alloc hk.size _).grown hgrow8 (by have := hk.size; simp; omega) (fun k e => by cases e; exact hk.size)
                have h68 : Below w6'.heap.size w6' w8' := ((Below.refl _ _).alloc (Nat.le_refl _) _).grown hgrow8 (by simp) (fun k e => by cases e; exact Nat.le_refl _)
                have C8 := KC.out _ hk8
                have F8 := KF.out _ hk8
                clear C6 C6'
                refine hK.out _ _ ?_ (fun hHeld => ?_)
                · exact KS.out _ hk8
                clear hK K
                try simp only [Act.put, List.setIfInBounds_toArray]
                refine wpAnyH_take (i := 13) (v := ?_) rfl (by kernel_rfl) (by kernel_rfl) (by kernel_rfl) (fun _ _ _ h => by cases h.1) (Or.inl ⟨by rfl, ?_⟩) (by assumption) ?_
                rotate_left
                · (intro w hSw; (try dsimp only at hSw); go_simp; try with_reducible rfl)
                try simp only [Act.put]
                refine wpAnyH_take (i := 14) (v := ?_) rfl (by kernel_rfl) (by kernel_rfl) (by kernel_rfl) (fun _ _ _ h => by cases h.1) (Or.inl ⟨by rfl, ?_⟩) (by assumption) ?_
                rotate_left
                · (intro w hSw; (try dsimp only at hSw); go_simp; try with_reducible rfl)
                try simp only [Act.put]
                refine wpAnyH_ready (rs := [15]) (by kernel_rfl) (by simp) ?_
                refine AllReadyH.cons rfl (fun K hK => ?_) AllReadyH.nil
                go_simp
                refine hK.out _ _ ?_ (fun hHeld => ?_)
                · exact (cell_block (by omega)).trans (KS.out _ hk8)
                clear hK K
                try simp only [Act.put, List.setIfInBounds_toArray, List.set_cons_zero, List.set_cons_succ]
                refine wpAnyH_done (by kernel_rfl) ?_ _
                exact ⟨rfl, ⟨w8', g, cap, rfl, hk8, lits_two hown8 hlt8 (termsAt.lasts (below_trans h56 h68) HT5.out) (KA.out _ hk8)⟩, _, _, _, _, _, _, _, _, _, _, _, _, _, _, _, rfl⟩
      refine AllReadyH.cons rfl (fun K hK => ?_) AllReadyH.nil
      · go_simp
        refine hK.out _ _ ?_ (fun hHeld => ?_)
        · first | exact hHeld | (refine KS.out _ ?_; (first | exact Below.refl _ _ | exact (Below.refl _ _).drew | exact hk | exact hk.drew | exact hk.alloc hk.size _ | exact (hk.alloc hk.size _).drew | exact hk.drew.alloc hk.size _))
        clear hK K
        try simp only [Act.put, List.setIfInBounds_toArray, List.set_cons_zero, List.set_cons_succ]
        refine wpAnyH_ready (rs := [3]) (by kernel_rfl) (by simp) ?_
        refine AllReadyH.cons rfl (fun K hK => ?_) AllReadyH.nil
        · go_simp
          refine hK.out _ _ ?_ (fun hHeld => ?_)
          · refine KS.out _ ?_; (first | exact Below.refl _ _ | exact (Below.refl _ _).drew | exact hk | exact hk.drew | exact hk.alloc hk.size _ | exact (hk.alloc hk.size _).drew | exact hk.drew.alloc hk.size _)
          clear hK K
          try simp only [Act.put, List.setIfInBounds_toArray, List.set_cons_zero, List.set_cons_succ]
          refine wpAnyH_ready (rs := [4]) (by kernel_rfl) (by simp) ?_
          refine AllReadyH.cons rfl (fun K hK => ?_) AllReadyH.nil
          · go_simp
            refine (Roads.at_c _ _ _ _ _).mono ?_
            rintro e w5' ⟨rfl, hw5⟩
            have HT5 : Hid (termsAt w5' (.slice (some ⟨w4'.heap.size, 0, none⟩) 1 1) [⟨true, 0⟩]) := (by rw [hw5]; exact termsAt.lasts (below_alloc _ _) (term_one _))
            have hk : Below W0.heap.size W0 w5' := (by rw [hw5]; exact (hk.alloc hk.size _).alloc (by have := hk.size; simp; omega) _)
            have C5 := KC.out _ hk
            have C5' := fun o => KC.out _ (hk.alloc hk.size o)
            clear hw5 C4 C4'
            try go_wp2_with fail
            refine hK.out _ _ ?_ (fun hHeld => ?_)
            · refine KS.out _ ?_; (first | exact Below.refl _ _ | exact (Below.refl _ _).drew | exact hk | exact hk.drew | exact hk.alloc hk.size _ | exact (hk.alloc hk.size _).drew | exact hk.drew.alloc hk.size _)
            clear hK K
            try simp only [Act.put, List.setIfInBounds_toArray, List.set_cons_zero, List.set_cons_succ]
            refine wpAnyH_ready (rs := [5]) (by kernel_rfl) (by simp) ?_
            refine AllReadyH.cons rfl (fun K hK => ?_) AllReadyH.nil
            · go_simp
              refine (Roads.not_c _ _ _ _ _).mono ?_
              rintro e w6' ⟨rfl, hw6⟩
              have h56 : Below w5'.heap.size w5' w6' := (by rw [hw6]; exact (below_alloc _ _).alloc (by simp) _)
              have hk : Below W0.heap.size W0 w6' := hk.trans (h56.mono hk.size)
              have C6 := KC.out _ hk
              have C6' := fun o => KC.out _ (hk.alloc hk.size o)
              clear hw6 C5 C5'
              try go_wp2_with fail
              refine hK.out _ _ ?_ (fun hHeld => ?_)
              · refine KS.out _ ?_; (first | exact Below.refl _ _ | exact (Below.refl _ _).drew | exact hk | exact hk.drew | exact hk.alloc hk.size _ | exact (hk.alloc hk.size _).drew | exact hk.drew.alloc hk.size _)
              clear hK K
              try simp only [Act.put, List.setIfInBounds_toArray, List.set_cons_zero, List.set_cons_succ]
              refine wpAnyH_ready (rs := [6]) (by kernel_rfl) (by simp) ?_
              refine AllReadyH.cons rfl (fun K hK => ?_) AllReadyH.nil
              · go_simp
                refine hK.out _ _ ?_ (fun hHeld => ?_)
                · refine KS.out _ ?_; (first | exact Below.refl _ _ | exact (Below.refl _ _).drew | exact hk | exact hk.drew | exact hk.alloc hk.size _ | exact (hk.alloc hk.size _).drew | exact hk.drew.alloc hk.size _)
                clear hK K
                try simp only [Act.put, List.setIfInBounds_toArray, List.set_cons_zero, List.set_cons_succ]
                refine wpAnyH_ready (rs := [12]) (by kernel_rfl) (by simp) ?_
                refine AllReadyH.cons rfl (fun K hK => ?_) AllReadyH.nil
                refine step_append_lies _ (by rfl) _ _ 46 (by rfl) W0.heap.size 50 i0 (.agg #[.bool false, .int .i64 0, .slice none 0 0]) 3 40 Try.underlying46 hi hz0 hz1 hz2 (by rfl) (by omega) (.slice (some ⟨w6'.heap.size, 0, none⟩) 1 1) 1 [.bool true, .int .i64 2, .slice (some ⟨w4'.heap.size, 0, none⟩) 1 1] (by rfl) (World.ownsRow_lit w6' #[.bool true, .int .i64 2, .slice (some ⟨w4'.heap.size, 0, none⟩) 1 1] 1 hk.size (by unfold maxLen; omega) rfl) ⟨lb, lo, none⟩ 1 lc [.bool false, .int .i64 0, .slice aa 2 ac] (by rfl) (by rfl) (KL.out _ (hk.alloc hk.size _)) (by intro u hu; simp at hu; rcases hu with rfl | rfl | rfl <;> rfl) (by omega) (by unfold maxLen; omega) (by omega) (by have := hk.size; simp; omega) (w6'.heap.size + 1) (by simp) ?_
                intro g cap w8' hown8 hgrow8 hat8 hlt8
                have hk8 : Below W0.heap.size W0 w8' := (hk.alloc hk.size _).grown hgrow8 (by have := hk.size; simp; omega) (fun k e => by cases e; exact hk.size)
                have h68 : Below w6'.heap.size w6' w8' := ((Below.refl _ _).alloc (Nat.le_refl _) _).grown hgrow8 (by simp) (fun k e => by cases e; exact Nat.le_refl _)
                have C8 := KC.out _ hk8
                have F8 := KF.out _ hk8
                clear C6 C6'
                refine hK.out _ _ ?_ (fun hHeld => ?_)
                · exact KS.out _ hk8
                clear hK K
                try simp only [Act.put, List.setIfInBounds_toArray]
                refine wpAnyH_take (i := 13) (v := ?_) rfl (by kernel_rfl) (by kernel_rfl) (by kernel_rfl) (fun _ _ _ h => by cases h.1) (Or.inl ⟨by rfl, ?_⟩) (by assumption) ?_
                rotate_left
                · (intro w hSw; (try dsimp only at hSw); go_simp; try with_reducible rfl)
                try simp only [Act.put]
                refine wpAnyH_take (i := 14) (v := ?_) rfl (by kernel_rfl) (by kernel_rfl) (by kernel_rfl) (fun _ _ _ h => by cases h.1) (Or.inl ⟨by rfl, ?_⟩) (by assumption) ?_
                rotate_left
                · (intro w hSw; (try dsimp only at hSw); go_simp; try with_reducible rfl)
                try simp only [Act.put]
                refine wpAnyH_ready (rs := [15]) (by kernel_rfl) (by simp) ?_
                refine AllReadyH.cons rfl (fun K hK => ?_) AllReadyH.nil
                go_simp
                refine hK.out _ _ ?_ (fun hHeld => ?_)
                · exact (cell_block (by omega)).trans (KS.out _ hk8)
                clear hK K
                try simp only [Act.put, List.setIfInBounds_toArray, List.set_cons_zero, List.set_cons_succ]
                refine wpAnyH_done (by kernel_rfl) ?_ _
                exact ⟨rfl, ⟨w8', g, cap, rfl, hk8, lits_two hown8 hlt8 (termsAt.lasts (below_trans h56 h68) HT5.out) (KA.out _ hk8)⟩, _, _, _, _, _, _, _, _, _, _, _, _, _, _, _, rfl⟩
    refine AllReadyH.cons rfl (fun K hK => ?_) AllReadyH.nil
    · go_simp
      refine hK.out _ _ ?_ (fun hHeld => ?_)
      · first | exact hHeld | (refine KS.out _ ?_; (first | exact Below.refl _ _ | exact (Below.refl _ _).drew | exact hk | exact hk.drew | exact hk.alloc hk.size _ | exact (hk.alloc hk.size _).drew | exact hk.drew.alloc hk.size _))
      clear hK K
      try simp only [Act.put, List.setIfInBounds_toArray, List.set_cons_zero, List.set_cons_succ]
      refine wpAnyH_ready (rs := [2]) (by kernel_rfl) (by simp) ?_
      refine AllReadyH.cons rfl (fun K hK => ?_) AllReadyH.nil
      · go_simp
        refine (Roads.v_c _ _).mono ?_
        rintro e w4' ⟨rfl, hw4⟩
        have hk : Below W0.heap.size W0 w4' := (by rw [hw4]; first | exact (below_alloc _ _) | exact ((Below.refl _ _).drew).alloc (Nat.le_refl _) _ | exact ((Below.refl _ _).alloc (Nat.le_refl _) _).drew)
        have C4 := KC.out _ hk
        have C4' := fun o => KC.out _ (hk.alloc hk.size o)
        clear hw4
        try go_wp2_with fail
        refine hK.out _ _ ?_ (fun hHeld => ?_)
        · refine KS.out _ ?_; (first | exact Below.refl _ _ | exact (Below.refl _ _).drew | exact hk | exact hk.drew | exact hk.alloc hk.size _ | exact (hk.alloc hk.size _).drew | exact hk.drew.alloc hk.size _)
        clear hK K
        try simp only [Act.put, List.setIfInBounds_toArray, List.set_cons_zero, List.set_cons_succ]
        refine wpAnyH_ready (rs := [3]) (by kernel_rfl) (by simp) ?_
        refine AllReadyH.cons rfl (fun K hK => ?_) AllReadyH.nil
        · go_simp
          refine hK.out _ _ ?_ (fun hHeld => ?_)
          · refine KS.out _ ?_; (first | exact Below.refl _ _ | exact (Below.refl _ _).drew | exact hk | exact hk.drew | exact hk.alloc hk.size _ | exact (hk.alloc hk.size _).drew | exact hk.drew.alloc hk.size _)
          clear hK K
          try simp only [Act.put, List.setIfInBounds_toArray, List.set_cons_zero, List.set_cons_succ]
          refine wpAnyH_ready (rs := [4]) (by kernel_rfl) (by simp) ?_
          refine AllReadyH.cons rfl (fun K hK => ?_) AllReadyH.nil
          · go_simp
            refine (Roads.at_c _ _ _ _ _).mono ?_
            rintro e w5' ⟨rfl, hw5⟩
            have HT5 : Hid (termsAt w5' (.slice (some ⟨w4'.heap.size, 0, none⟩) 1 1) [⟨true, 0⟩]) := (by rw [hw5]; exact termsAt.lasts (below_alloc _ _) (term_one _))
            have hk : Below W0.heap.size W0 w5' := (by rw [hw5]; exact (hk.alloc hk.size _).alloc (by have := hk.size; simp; omega) _)
            have C5 := KC.out _ hk
            have C5' := fun o => KC.out _ (hk.alloc hk.size o)
            clear hw5 C4 C4'
            try go_wp2_with fail
            refine hK.out _ _ ?_ (fun hHeld => ?_)
            · refine KS.out _ ?_; (first | exact Below.refl _ _ | exact (Below.refl _ _).drew | exact hk | exact hk.drew | exact hk.alloc hk.size _ | exact (hk.alloc hk.size _).drew | exact hk.drew.alloc hk.size _)
            clear hK K
            try simp only [Act.put, List.setIfInBounds_toArray, List.set_cons_zero, List.set_cons_succ]
            refine wpAnyH_ready (rs := [5]) (by kernel_rfl) (by simp) ?_
            refine AllReadyH.cons rfl (fun K hK => ?_) AllReadyH.nil
            · go_simp
              refine (Roads.not_c _ _ _ _ _).mono ?_
              rintro e w6' ⟨rfl, hw6⟩
              have h56 : Below w5'.heap.size w5' w6' := (by rw [hw6]; exact (below_alloc _ _).alloc (by simp) _)
              have hk : Below W0.heap.size W0 w6' := hk.trans (h56.mono hk.size)
              have C6 := KC.out _ hk
              have C6' := fun o => KC.out _ (hk.alloc hk.size o)
              clear hw6 C5 C5'
              try go_wp2_with fail
              refine hK.out _ _ ?_ (fun hHeld => ?_)
              · refine KS.out _ ?_; (first | exact Below.refl _ _ | exact (Below.refl _ _).drew | exact hk | exact hk.drew | exact hk.alloc hk.size _ | exact (hk.alloc hk.size _).drew | exact hk.drew.alloc hk.size _)
              clear hK K
              try simp only [Act.put, List.setIfInBounds_toArray, List.set_cons_zero, List.set_cons_succ]
              refine wpAnyH_ready (rs := [6]) (by kernel_rfl) (by simp) ?_
              refine AllReadyH.cons rfl (fun K hK => ?_) AllReadyH.nil
              · go_simp
                refine hK.out _ _ ?_ (fun hHeld => ?_)
                · refine KS.out _ ?_; (first | exact Below.refl _ _ | exact (Below.refl _ _).drew | exact hk | exact hk.drew | exact hk.alloc hk.size _ | exact (hk.alloc hk.size _).drew | exact hk.drew.alloc hk.size _)
                clear hK K
                try simp only [Act.put, List.setIfInBounds_toArray, List.set_cons_zero, List.set_cons_succ]
                refine wpAnyH_ready (rs := [12]) (by kernel_rfl) (by simp) ?_
                refine AllReadyH.cons rfl (fun K hK => ?_) AllReadyH.nil
                refine step_append_lies _ (by rfl) _ _ 46 (by rfl) W0.heap.size 50 i0 (.agg #[.bool false, .int .i64 0, .slice none 0 0]) 3 40 Try.underlying46 hi hz0 hz1 hz2 (by rfl) (by omega) (.slice (some ⟨w6'.heap.size, 0, none⟩) 1 1) 1 [.bool true, .int .i64 2, .slice (some ⟨w4'.heap.size, 0, none⟩) 1 1] (by rfl) (World.ownsRow_lit w6' #[.bool true, .int .i64 2, .slice (some ⟨w4'.heap.size, 0, none⟩) 1 1] 1 hk.size (by unfold maxLen; omega) rfl) ⟨lb, lo, none⟩ 1 lc [.bool false, .int .i64 0, .slice aa 2 ac] (by rfl) (by rfl) (KL.out _ (hk.alloc hk.size _)) (by intro u hu; simp at hu; rcases hu with rfl | rfl | rfl <;> rfl) (by omega) (by unfold maxLen; omega) (by omega) (by have := hk.size; simp; omega) (w6'.heap.size + 1) (by simp) ?_
                intro g cap w8' hown8 hgrow8 hat8 hlt8
                have hk8 : Below W0.heap.size W0 w8' := (hk.alloc hk.size _).grown hgrow8 (by have := hk.size; simp; omega) (fun k e => by cases e; exact hk.size)
                have h68 : Below w6'.heap.size w6' w8' := ((Below.refl _ _).alloc (Nat.le_refl _) _).grown hgrow8 (by simp) (fun k e => by cases e; exact Nat.le_refl _)
                have C8 := KC.out _ hk8
                have F8 := KF.out _ hk8
                clear C6 C6'
                refine hK.out _ _ ?_ (fun hHeld => ?_)
                · exact KS.out _ hk8
                clear hK K
                try simp only [Act.put, List.setIfInBounds_toArray]
                refine wpAnyH_take (i := 13) (v := ?_) rfl (by kernel_rfl) (by kernel_rfl) (by kernel_rfl) (fun _ _ _ h => by cases h.1) (Or.inl ⟨by rfl, ?_⟩) (by assumption) ?_
                rotate_left
                · (intro w hSw; (try dsimp only at hSw); go_simp; try with_reducible rfl)
                try simp only [Act.put]
                refine wpAnyH_take (i := 14) (v := ?_) rfl (by kernel_rfl) (by kernel_rfl) (by kernel_rfl) (fun _ _ _ h => by cases h.1) (Or.inl ⟨by rfl, ?_⟩) (by assumption) ?_
                rotate_left
                · (intro w hSw; (try dsimp only at hSw); go_simp; try with_reducible rfl)
                try simp only [Act.put]
                refine wpAnyH_ready (rs := [15]) (by kernel_rfl) (by simp) ?_
                refine AllReadyH.cons rfl (fun K hK => ?_) AllReadyH.nil
                go_simp
                refine hK.out _ _ ?_ (fun hHeld => ?_)
                · exact (cell_block (by omega)).trans (KS.out _ hk8)
                clear hK K
                try simp only [Act.put, List.setIfInBounds_toArray, List.set_cons_zero, List.set_cons_succ]
                refine wpAnyH_done (by kernel_rfl) ?_ _
                exact ⟨rfl, ⟨w8', g, cap, rfl, hk8, lits_two hown8 hlt8 (termsAt.lasts (below_trans h56 h68) HT5.out) (KA.out _ hk8)⟩, _, _, _, _, _, _, _, _, _, _, _, _, _, _, _, rfl⟩
  case rest =>
    rintro e a' w' ⟨rfl, ⟨W5, g, cap, rfl, hk5, hl5⟩, u25, u26, u27, u28, u29, u30, u31, u32, u33, u34, u35, u36, u37, u38, u39, rfl⟩
    refine hKK _ _ ?_
    clear hKK KS KF KL KA C24 hi hz0 hz1 hz2
    have k75 : Below w7.heap.size w7 W5 := hk0.trans (hk5.mono hk0.size)
    have HPX : Hid (predsAt (W5.setCell ⟨br, 24, none⟩ (.slice (some ⟨g, 0, none⟩) 2 cap)) (.slice (some ⟨bp, 0, none⟩) 3 3) Roads.preds) := preds_block (by omega) (predsAt.lasts k75 HP7.out)
    have HRX : Hid (rulesAt (W5.setCell ⟨br, 24, none⟩ (.slice (some ⟨g, 0, none⟩) 2 cap)) (.slice (some ⟨br, 0, none⟩) 7 7) rulesX) := rules_x (rulesAt.lasts k75 HR7.out) hl5
    have y0 : (W5.setCell ⟨br, 24, none⟩ (.slice (some ⟨g, 0, none⟩) 2 cap)).cell? ⟨w7.heap.size, 0, none⟩ = some (.slice (some ⟨bp, 0, none⟩) 3 3) := (cell_block (by omega)).trans ((cell_lasts hk5 hs0).trans x0)
    have y1 : (W5.setCell ⟨br, 24, none⟩ (.slice (some ⟨g, 0, none⟩) 2 cap)).cell? ⟨w7.heap.size, 1, none⟩ = some (.slice (some ⟨br, 0, none⟩) 7 7) := (cell_block (by omega)).trans ((cell_lasts hk5 hs0).trans x1)
    have k66 : Below w6.heap.size w6 (W5.setCell ⟨br, 24, none⟩ (.slice (some ⟨g, 0, none⟩) 2 cap)) := (q7.trans (k75.mono q7.size)).setCell (p := ⟨br, 24, none⟩) (show w6.heap.size ≤ br by omega) _
    have s6 : w7.heap.size < (W5.setCell ⟨br, 24, none⟩ (.slice (some ⟨g, 0, none⟩) 2 cap)).heap.size := by rw [size_set]; have := hk5.size; omega
    generalize W5.setCell ⟨br, 24, none⟩ (.slice (some ⟨g, 0, none⟩) 2 cap) = W6 at *
    clear hl5 KC hk5 k75
    go_wp2_with fail
    refine (Roads.roads_c _).mono ?_
    rintro e w9 ⟨bp9, br9, rfl, hb9p, hb9r, hb9s, hp9, hr9, hf9p, _, _, hb9⟩
    have d3 : ∀ o, (w9.alloc o).cell? ⟨bp9, 3, none⟩ = some (.string ⟨#[102, 97, 114]⟩) := fun o => (cell_lasts (below_alloc _ _) (by omega)).trans (preds_y hp9).2
    have e3 : ∀ o, (w9.alloc o).frozen? ⟨bp9, 3, none⟩ = false := fun o => ((below_alloc w9 o).frozen (p := ⟨bp9, 3, none⟩) (show bp9 < w9.heap.size by omega)).trans (hf9p 3)
    have HP9 : Hid (predsAt w9 (.slice (some ⟨bp9, 0, none⟩) 3 3) Roads.preds) := hp9
    have HR9 : Hid (rulesAt w9 (.slice (some ⟨br9, 0, none⟩) 7 7) Roads.rules) := hr9
    have k96 : Below W6.heap.size W6 w9 := hb9
    clear hp9 hr9 hb9
    go_wp2_with fail
    obtain ⟨W9, hW9⟩ : ∃ W9, w9.alloc (.cells #[.slice (some ⟨bp9, 0, none⟩) 3 3, .slice (some ⟨br9, 0, none⟩) 7 7] 25) = W9 := ⟨_, rfl⟩
    have h99 : Below w9.heap.size w9 W9 := by rw [← hW9]; exact below_alloc _ _
    have f0 : W9.cell? ⟨w9.heap.size, 0, none⟩ = some (.slice (some ⟨bp9, 0, none⟩) 3 3) := by rw [← hW9]; simp [go_sem]
    have f1 : W9.cell? ⟨w9.heap.size, 1, none⟩ = some (.slice (some ⟨br9, 0, none⟩) 7 7) := by rw [← hW9]; simp [go_sem]
    have s9 : W9.heap.size = w9.heap.size + 1 := by rw [← hW9]; simp
    have d39 := d3 (.cells #[.slice (some ⟨bp9, 0, none⟩) 3 3, .slice (some ⟨br9, 0, none⟩) 7 7] 25)
    rw [hW9] at d39 ⊢
    clear hW9 d3 e3
    have HPY : Hid (predsAt (W9.setCell ⟨bp9, 3, none⟩ (.string ⟨#[101, 100, 103, 101]⟩)) (.slice (some ⟨bp9, 0, none⟩) 3 3) predsY) := (preds_y (predsAt.lasts h99 HP9.out)).1
    have HRY : Hid (rulesAt (W9.setCell ⟨bp9, 3, none⟩ (.string ⟨#[101, 100, 103, 101]⟩)) (.slice (some ⟨br9, 0, none⟩) 7 7) Roads.rules) := rules_str d39 (rulesAt.lasts h99 HR9.out)
    have z0 := (cell_block (w := W9) (o := 3) (o' := 0) (u := .string ⟨#[101, 100, 103, 101]⟩) (show bp9 ≠ w9.heap.size by omega)).trans f0
    have z1 := (cell_block (w := W9) (o := 3) (o' := 1) (u := .string ⟨#[101, 100, 103, 101]⟩) (show bp9 ≠ w9.heap.size by omega)).trans f1
    have k10 : Below W6.heap.size W6 (W9.setCell ⟨bp9, 3, none⟩ (.string ⟨#[101, 100, 103, 101]⟩)) := (k96.trans (h99.mono k96.size)).setCell (p := ⟨bp9, 3, none⟩) hb9p _
    have s10 : w9.heap.size < (W9.setCell ⟨bp9, 3, none⟩ (.string ⟨#[101, 100, 103, 101]⟩)).heap.size := by rw [size_set]; omega
    generalize W9.setCell ⟨bp9, 3, none⟩ (.string ⟨#[101, 100, 103, 101]⟩) = W10 at *
    clear d39 f0 f1 h99 s9 HP9 HR9 k96
    have y0' := (cell_lasts k10 s6).trans y0
    have y1' := (cell_lasts k10 s6).trans y1
    have HPX' : Hid (predsAt W10 (.slice (some ⟨bp, 0, none⟩) 3 3) Roads.preds) := predsAt.lasts k10 HPX.out
    have HRX' : Hid (rulesAt W10 (.slice (some ⟨br, 0, none⟩) 7 7) rulesX) := rulesAt.lasts k10 HRX.out
    have k610 : Below w6.heap.size w6 W10 := k66.trans (k10.mono k66.size)
    have k410 : Below w4.heap.size w4 W10 := q6.trans (k610.mono q6.size)
    have k210 : Below w2.heap.size w2 W10 := q4.trans (k410.mono q4.size)
    have kw10 : Below w.heap.size w W10 := k2.trans (k210.mono k2.size)
    have HI : Hid (intsAt W10 v2 [0, 0, 1]) := intsAt.lasts k210 HV2.out
    have HBO : Hid (boolsAt W10 v4 [true, true, false]) := boolsAt.lasts k410 HV4.out
    have hs7 : w7.heap.size < W10.heap.size := by have := k10.size; omega
    clear HPX HRX y0 y1 k66 k10 k610 k410 k210 q4 q6 q7 k2 HV2 HV4 s6 x0 x1
    refine (Roads.roads_c _).mono ?_
    rintro e wa ⟨bpa, bra, rfl, _, _, _, hpa, hra, _, _, _, hka⟩
    go_wp2_with fail
    refine (devCheck_c _ _ _ Roads.preds Roads.rules hpa hra smallP).mono ?_
    rw [g0]
    rintro e wb ⟨rfl, hkb⟩
    have kb : Below W10.heap.size W10 wb := below_trans hka hkb
    have yb0 := (cell_lasts kb hs7).trans y0'
    have yb1 := (cell_lasts kb hs7).trans y1'
    clear hpa hra hka hkb y0' y1'
    go_wp2_with fail
    refine (devCheck_c _ _ _ Roads.preds rulesX (predsAt.lasts kb HPX'.out) (rulesAt.lasts kb HRX'.out) smallP).mono ?_
    rw [gx]
    rintro e wc ⟨rfl, hkc⟩
    have kc : Below W10.heap.size W10 wc := below_trans kb hkc
    have zc0 := (cell_lasts kc s10).trans z0
    have zc1 := (cell_lasts kc s10).trans z1
    clear yb0 yb1 kb hkc HPX' HRX' z0 z1
    go_wp2_with fail
    refine (devCheck_c _ _ _ predsY Roads.rules (predsAt.lasts kc HPY.out) (rulesAt.lasts kc HRY.out) smallY).mono ?_
    rw [gy]
    rintro e wd ⟨rfl, hkd⟩
    have kd : Below W10.heap.size W10 wd := below_trans kc hkd
    clear zc0 zc1 kc hkd HPY HRY
    go_wp2_with fail
    refine (name_c _ _ (by decide)).mono ?_
    rw [n1]
    rintro e we ⟨rfl, hke⟩
    have ke : Below W10.heap.size W10 we := below_trans kd hke
    clear kd hke
    go_wp2_with fail
    refine (name_c _ _ (by decide)).mono ?_
    rw [n2]
    rintro e wf ⟨rfl, hkf⟩
    have kf : Below W10.heap.size W10 wf := below_trans ke hkf
    clear ke hkf
    go_wp2_with fail
    refine (sameInts_c _ _ _ [0, 0, 1] [0, 0, 1] (intsAt.lasts (kf.alloc kf.size _) HI.out) (intsAt_of (l := [0, 0, 1]) rowAt_new (by decide) (by simp))).mono ?_
    rintro e wg ⟨rfl, hkg⟩
    have kg : Below W10.heap.size W10 wg := below_trans (kf.alloc kf.size _) hkg
    clear kf hkg HI
    go_wp2_with fail
    refine (sameBools_c _ _ _ [true, true, false] [true, true, false] (boolsAt.lasts (kg.alloc kg.size _) HBO.out) (boolsAt_of (l := [true, true, false]) rowAt_new (by decide) (by simp))).mono ?_
    rintro e wh ⟨rfl, hkh⟩
    have kh : Below W10.heap.size W10 wh := below_trans (kg.alloc kg.size _) hkh
    clear kg hkh HBO
    go_wp2_with fail
    go_ret
    exact ⟨rfl, kw10.trans (kh.mono kw10.size)⟩
end Go.Proofs.Ytgbacodellfacab.Prog
