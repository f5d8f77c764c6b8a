/-
  What the two laws of rules ask in any case (ruleBegun) is so.
-/
import Derived.Test.YtchmdijkmfilfaaCheckRule
import Derived.Test.YtchmdijkmfilfaaGround2
import Derived.Test.YtchmdijkmfilfaaRoads
import Derived.Deep.RegionWith
namespace Go.Proofs.Ytchmdijkmfilfaa.Rule
open Go.ChangeShapes Go.WideShapes Go.ChangeAt Go.RowKit Go.Maps
open Lat (within within_c)
open Roads (v_c c_c at_c roads_c)

theorem terms_new2 {w : World} {T : TypeId} {B : Nat} (hB : B = w.heap.size) (a b : Bool) (m n : Int) : termsAt (w.alloc (.cells #[.bool a, .int .i64 m, .bool b, .int .i64 n] T)) (.slice (some ⟨B, 0, none⟩) 2 2) [⟨a, m⟩, ⟨b, n⟩] := by
  subst hB
  refine ⟨_, 2, rfl, by simp, .inr ⟨w.heap.size, 0, rfl, by simp, ?_⟩⟩
  intro i x hi
  match i, hi with
  | 0, hi => obtain rfl := (Option.some.inj hi); exact ⟨by simp [go_sem], by simp [go_sem]⟩
  | 1, hi => obtain rfl := (Option.some.inj hi); exact ⟨by simp [go_sem], by simp [go_sem]⟩
  | n + 2, hi => exact absurd hi (by simp)
theorem terms_new1 {w : World} {T : TypeId} {B : Nat} (hB : B = w.heap.size) (a : Bool) (m : Int) : termsAt (w.alloc (.cells #[.bool a, .int .i64 m] T)) (.slice (some ⟨B, 0, none⟩) 1 1) [⟨a, m⟩] := by
  subst hB
  refine ⟨_, 1, rfl, by simp, .inr ⟨w.heap.size, 0, rfl, by simp, ?_⟩⟩
  intro i x hi
  match i, hi with
  | 0, hi => obtain rfl := (Option.some.inj hi); exact ⟨by simp [go_sem], by simp [go_sem]⟩
  | n + 1, hi => exact absurd hi (by simp)
/-- a world by its facts alone -/
theorem wp_name {P : Program} {c : Code} {Q : Exit → Act → World → Prop} {a : Act} {W : World} (F : World → Prop) (hF : F W) (h : ∀ W0, F W0 → Code.wp P c Q a W0) : Code.wp P c Q a W := h W hF
theorem lits_tail {w : World} {b off : Nat} {x y : Ltr} (h : litsAt w (.slice (some ⟨b, off, none⟩) 2 2) [x, y]) : litsAt w (.slice (some ⟨b, off + 3, none⟩) 1 1) [y] := by
  obtain ⟨a, cap, hv, hm, hx⟩ := h
  rcases hx with hx | ⟨b', off', ha, hlt, hx⟩
  · cases hx
  · have e : b = b' ∧ off = off' := by
      rw [ha] at hv
      simp at hv
      exact hv.1
    obtain ⟨rfl, rfl⟩ := e
    refine ⟨_, 1, rfl, by simp, .inr ⟨b, off + 3, rfl, hlt, ?_⟩⟩
    intro i z hi
    match i, hi with
    | 0, hi =>
      obtain rfl := Option.some.inj hi
      simpa using hx 1 y rfl
    | n + 1, hi => exact absurd hi (by simp)
theorem terms_nil (w : World) : termsAt w (.slice none 0 0) [] := ⟨none, 0, rfl, by simp, .inl rfl⟩

def r5 : Rul := ⟨⟨1, [⟨true, 0⟩, ⟨true, 2⟩]⟩, 0, 1, [⟨false, ⟨1, [⟨true, 0⟩, ⟨true, 1⟩]⟩⟩, ⟨false, ⟨0, [⟨true, 1⟩, ⟨true, 2⟩]⟩⟩]⟩
def r6 : Rul := ⟨⟨2, [⟨true, 0⟩]⟩, -1, 0, [⟨false, ⟨0, [⟨true, 0⟩, ⟨true, 1⟩]⟩⟩, ⟨true, ⟨1, [⟨true, 0⟩, ⟨true, 0⟩]⟩⟩]⟩

def rFree : Rul := ⟨⟨2, [⟨true, 0⟩]⟩, -1, 0, [⟨true, ⟨1, [⟨true, 0⟩, ⟨true, 0⟩]⟩⟩]⟩
def rForm : Rul := ⟨⟨1, [⟨true, 0⟩, ⟨true, 2⟩]⟩, 1, 1, [⟨false, ⟨1, [⟨true, 0⟩, ⟨true, 1⟩]⟩⟩, ⟨false, ⟨0, [⟨true, 1⟩, ⟨true, 2⟩]⟩⟩]⟩
theorem rule_open {w : World} {v : Value} {rs : List Rul} {b : Nat} (h : rulesAt w v rs) (hv : ∃ n c, v = .slice (some ⟨b, 0, none⟩) n c) (i : Nat) (r : Rul) (hi : rs[i]? = some r) : ruleAt w b (i * 5) r := by
  obtain ⟨a, cap, rfl, hm, hx⟩ := h
  obtain ⟨n, c, hv⟩ := hv
  rcases hx with rfl | ⟨b', off', rfl, hlt, hx⟩
  · simp at hi
  · obtain ⟨rfl, rfl⟩ : b' = b ∧ off' = 0 := by simp at hv; exact hv.1
    simpa using hx i r hi
theorem rule_cells {w : World} {b o : Nat} {r : Rul} (h : ruleAt w b o r) : w.cell? ⟨b, o, none⟩ = some (.int .i64 r.head.pred) ∧ w.cell? ⟨b, o + 2, none⟩ = some (.int .i64 r.src) ∧ w.cell? ⟨b, o + 3, none⟩ = some (.int .i64 r.n) ∧
    ∃ a c a' c', w.cell? ⟨b, o + 1, none⟩ = some (.slice a r.head.args.length c) ∧ w.cell? ⟨b, o + 4, none⟩ = some (.slice a' r.body.length c') ∧ termsAt w (.slice a r.head.args.length c) r.head.args ∧ litsAt w (.slice a' r.body.length c') r.body := by
  obtain ⟨h1, ⟨v, h2, h3⟩, h4, h5, u, h6, h7⟩ := h
  obtain ⟨a, c, rfl, h8⟩ := h3
  obtain ⟨a', c', rfl, h9⟩ := h7
  exact ⟨h1, h4, h5, a, c, a', c', h2, h6, ⟨a, c, rfl, h8⟩, ⟨a', c', rfl, h9⟩⟩

set_option maxRecDepth 100000 in
set_option maxHeartbeats 4000000 in
theorem ruleBegun_c (w : World) : Calls Try.prog 18 #[] w fun e w' => e = .returned (.bool true) ∧ Below w.heap.size w w' := by
  go_enter Try.func18, Try.ntmps18
  go_wp2_with fail
  refine (roads_c _).mono ?_
  rintro e w1 ⟨bp, br, rfl, hbp, hbr, hbz, hP, hR, _, _, ⟨b6, hb6⟩, hb1⟩
  have HP : Hid (predsAt w1 (.slice (some ⟨bp, 0, none⟩) 3 3) Roads.preds) := hP
  have HR : Hid (rulesAt w1 (.slice (some ⟨br, 0, none⟩) 7 7) Roads.rules) := hR
  clear hP hR
  go_wp2_with (first
    | (go_at_call 37; refine (v_c _ _).mono ?_; rintro e w' ⟨rfl, rfl⟩)
    | (go_at_call 38; refine (c_c _ _).mono ?_; rintro e w' ⟨rfl, rfl⟩)
    | (go_at_call 36; refine (at_c _ _ _ _ _).mono ?_; rintro e w' ⟨rfl, rfl⟩))
  have g1 : groundOf ⟨3, 0, 0⟩ 1 [⟨true, 0⟩, ⟨false, 2⟩] = ⟨1, 3, 2, 0⟩ := rfl
  have g2 : groundErr ⟨3, 0, 0⟩ [⟨true, 0⟩, ⟨false, 2⟩] = 0 := rfl
  have g3 : groundErr ⟨5, 0, 0⟩ [⟨true, 0⟩] = 3 := rfl
  have g4 : groundOf ⟨5, 0, 0⟩ 1 [⟨true, 0⟩] = ⟨0, 0, 0, 0⟩ := rfl
  refine (ground_c _ _ 1 [⟨true, 0⟩, ⟨false, 2⟩] ⟨3, 0, 0⟩ (termsAt.lasts (below_alloc _ _) (by exact terms_new2 (by simp) _ _ _ _))).mono ?_
  rintro e w2 ⟨rfl, hb2⟩
  have p0 : w2.cell? ⟨w1.heap.size, 0, none⟩ = some (.slice (some ⟨bp, 0, none⟩) 3 3) := by rw [hb2.cell (p := ⟨w1.heap.size, 0, none⟩) (by simp; omega)]; simp [go_sem]
  have p1 : w2.cell? ⟨w1.heap.size, 1, none⟩ = some (.slice (some ⟨br, 0, none⟩) 7 7) := by rw [hb2.cell (p := ⟨w1.heap.size, 1, none⟩) (by simp; omega)]; simp [go_sem]
  have k2 : Below w1.heap.size w1 w2 := Below.trans (((((Below.refl _ _).alloc (Nat.le_refl _) _).alloc (by simp) _).alloc (by simp; omega) _).alloc (by simp; omega) _) (Below.trans ((Below.refl _ _).alloc (by simp; omega) _) (hb2.mono (by simp; omega)))
  have z2 : w1.heap.size < w2.heap.size := by have := hb2.size; simp at this; omega
  clear hb2
  go_wp2_with (first
    | (go_at_call 37; refine (v_c _ _).mono ?_; rintro e w' ⟨rfl, rfl⟩)
    | (go_at_call 38; refine (c_c _ _).mono ?_; rintro e w' ⟨rfl, rfl⟩)
    | (go_at_call 36; refine (at_c _ _ _ _ _).mono ?_; rintro e w' ⟨rfl, rfl⟩))
  refine (ground_c _ _ 1 [⟨true, 0⟩] ⟨5, 0, 0⟩ (termsAt.lasts (below_alloc _ _) (by exact terms_new1 (by simp) _ _))).mono ?_
  rintro e w3 ⟨rfl, hb3⟩
  have kw : Below w2.heap.size w2 w3 := Below.trans ((((Below.refl _ _).alloc (Nat.le_refl _) _).alloc (by simp) _).alloc (by simp; omega) _) (Below.trans ((Below.refl _ _).alloc (by simp; omega) _) (hb3.mono (by simp; omega)))
  have k3 : Below w1.heap.size w1 w3 := k2.trans (kw.mono k2.size)
  have z3 : w2.heap.size < w3.heap.size := by have := hb3.size; simp at this; omega
  have x0 : w3.cell? ⟨w2.heap.size, 0, none⟩ = some (.int .i64 1) := by rw [hb3.cell (p := ⟨w2.heap.size, 0, none⟩) (by simp; omega)]; simp [go_sem]
  have x1 : w3.cell? ⟨w2.heap.size, 1, none⟩ = some (.int .i64 3) := by rw [hb3.cell (p := ⟨w2.heap.size, 1, none⟩) (by simp; omega)]; simp [go_sem]
  have x2 : w3.cell? ⟨w2.heap.size, 2, none⟩ = some (.int .i64 2) := by rw [hb3.cell (p := ⟨w2.heap.size, 2, none⟩) (by simp; omega)]; simp [go_sem]
  have x3 : w3.cell? ⟨w2.heap.size, 3, none⟩ = some (.int .i64 0) := by rw [hb3.cell (p := ⟨w2.heap.size, 3, none⟩) (by simp; omega)]; simp [go_sem]
  have q0 := (cell_lasts kw z2).trans p0
  have q1 := (cell_lasts kw z2).trans p1
  have hR3 := rulesAt.lasts k3 HR.out
  obtain ⟨F0, F2, F3, fa, fc, fa', fc', F1, F4, fT, fL⟩ := rule_cells (rule_open hR3 ⟨_, _, rfl⟩ 6 r6 rfl)
  obtain ⟨E0, E2, E3, ea, ec, ea', ec', E1, E4, eT, eL⟩ := rule_cells (rule_open hR3 ⟨_, _, rfl⟩ 5 r5 rfl)
  have e6 : Value.slice fa' r6.body.length fc' = .slice (some ⟨b6, 0, none⟩) 2 2 := by
    have := (cell_lasts k3 hbz).trans hb6
    exact Option.some.inj (F4.symm.trans this)
  rw [e6] at F4 fL
  have f0 : w3.cell? ⟨br, 30, none⟩ = some (.int .i64 2) := F0
  have f1 : w3.cell? ⟨br, 31, none⟩ = some (.slice fa 1 fc) := F1
  have f2 : w3.cell? ⟨br, 32, none⟩ = some (.int .i64 (-1)) := F2
  have f3 : w3.cell? ⟨br, 33, none⟩ = some (.int .i64 0) := F3
  have f4 : w3.cell? ⟨br, 34, none⟩ = some (.slice (some ⟨b6, 0, none⟩) 2 2) := F4
  have e0 : w3.cell? ⟨br, 25, none⟩ = some (.int .i64 1) := E0
  have e1 : w3.cell? ⟨br, 26, none⟩ = some (.slice ea 2 ec) := E1
  have e2 : w3.cell? ⟨br, 27, none⟩ = some (.int .i64 0) := E2
  have e3 : w3.cell? ⟨br, 28, none⟩ = some (.int .i64 1) := E3
  have e4 : w3.cell? ⟨br, 29, none⟩ = some (.slice ea' 2 ec') := E4
  have HFT : Hid (termsAt w3 (.slice fa 1 fc) r6.head.args) := fT
  have HFL : Hid (litsAt w3 (.slice (some ⟨b6, 3, none⟩) 1 1) [⟨true, ⟨1, [⟨true, 0⟩, ⟨true, 0⟩]⟩⟩]) := lits_tail fL
  have HET : Hid (termsAt w3 (.slice ea 2 ec) r5.head.args) := eT
  have HEL : Hid (litsAt w3 (.slice ea' 2 ec') r5.body) := eL
  have HPR : Hid (predsAt w3 (.slice (some ⟨bp, 0, none⟩) 3 3) Roads.preds) := predsAt.lasts k3 HP.out
  have hb03 : Below w.heap.size w w3 := hb1.trans (k3.mono hb1.size)
  have zb : br < w3.heap.size := by have := k3.size; omega
  have z1 : w1.heap.size < w3.heap.size := by omega
  clear e6 fT fL eT eL hR3 p0 p1 hb3 HP HR hb6 g1 g2 kw k2 k3 hb1 F0 F1 F2 F3 F4 E0 E1 E2 E3 E4
  have cell3 : ∀ {b o : Nat} {u v z : Obj}, b < w3.heap.size → (((w3.alloc u).alloc v).alloc z).cell? ⟨b, o, none⟩ = w3.cell? ⟨b, o, none⟩ := fun h => cell_lasts ((((Below.refl _ _).alloc (Nat.le_refl _) _).alloc (by simp) _).alloc (by simp; omega) _) h
  have HC3 : Hid (∀ {b o : Nat} {u v z : Obj}, b < w3.heap.size → (((w3.alloc u).alloc v).alloc z).cell? ⟨b, o, none⟩ = w3.cell? ⟨b, o, none⟩) := @cell3
  clear cell3
  go_wp2_with fail
  have cell3 := @HC3.out
  refine wp_name (fun W0 => Below w.heap.size w W0 ∧ Below w3.heap.size w3 W0 ∧ w1.heap.size < W0.heap.size ∧ w2.heap.size < W0.heap.size ∧ w3.heap.size + 1 < W0.heap.size ∧ w3.heap.size + 1 + 1 < W0.heap.size ∧ br < W0.heap.size ∧ W0.cell? ⟨w1.heap.size, 0, none⟩ = some (.slice (some ⟨bp, 0, none⟩) 3 3) ∧ W0.cell? ⟨w1.heap.size, 1, none⟩ = some (.slice (some ⟨br, 0, none⟩) 7 7) ∧ W0.cell? ⟨w2.heap.size, 0, none⟩ = some (.int .i64 1) ∧ W0.cell? ⟨w2.heap.size, 1, none⟩ = some (.int .i64 3) ∧ W0.cell? ⟨w2.heap.size, 2, none⟩ = some (.int .i64 2) ∧ W0.cell? ⟨w2.heap.size, 3, none⟩ = some (.int .i64 0) ∧ W0.cell? ⟨w3.heap.size + 1, 0, none⟩ = some (.int .i64 2) ∧ W0.cell? ⟨w3.heap.size + 1, 1, none⟩ = some (.slice fa 1 fc) ∧ W0.cell? ⟨w3.heap.size + 1, 2, none⟩ = some (.int .i64 (-1)) ∧ W0.cell? ⟨w3.heap.size + 1, 3, none⟩ = some (.int .i64 0) ∧ W0.cell? ⟨w3.heap.size + 1, 4, none⟩ = some (.slice (some ⟨b6, 3, none⟩) 1 1) ∧ W0.cell? ⟨w3.heap.size + 1 + 1, 0, none⟩ = some (.int .i64 1) ∧ W0.cell? ⟨w3.heap.size + 1 + 1, 1, none⟩ = some (.slice ea 2 ec) ∧ W0.cell? ⟨w3.heap.size + 1 + 1, 2, none⟩ = some (.int .i64 1) ∧ W0.cell? ⟨w3.heap.size + 1 + 1, 3, none⟩ = some (.int .i64 1) ∧ W0.cell? ⟨w3.heap.size + 1 + 1, 4, none⟩ = some (.slice ea' 2 ec') ∧ W0.cell? ⟨br, 25, none⟩ = some (.int .i64 1) ∧ W0.cell? ⟨br, 26, none⟩ = some (.slice ea 2 ec) ∧ W0.cell? ⟨br, 27, none⟩ = some (.int .i64 0) ∧ W0.cell? ⟨br, 28, none⟩ = some (.int .i64 1) ∧ W0.cell? ⟨br, 29, none⟩ = some (.slice ea' 2 ec')) ⟨(((hb03.alloc hb03.size _).alloc (by have := hb03.size; simp; omega) _).alloc (by have := hb03.size; simp; omega) _), (((Below.refl _ _).alloc (Nat.le_refl _) _).alloc (by simp) _).alloc (by simp; omega) _, by simp; omega, by simp; omega, by simp, by simp, by simp; omega, by rw [cell3 z1]; exact q0, by rw [cell3 z1]; exact q1, by rw [cell3 z3]; exact x0, by rw [cell3 z3]; exact x1, by rw [cell3 z3]; exact x2, by rw [cell3 z3]; exact x3, by simp [go_sem], by simp [go_sem], by simp [go_sem], by simp [go_sem], by simp [go_sem], by simp [go_sem], by simp [go_sem], by simp [go_sem], by simp [go_sem], by simp [go_sem], by rw [cell3 zb]; exact e0, by rw [cell3 zb]; exact e1, by rw [cell3 zb]; exact e2, by rw [cell3 zb]; exact e3, by rw [cell3 zb]; exact e4⟩ ?_
  rintro W0 ⟨kw0, k30, s1, s2, s3, s4, s5, d0, d1, d2, d3, d4, d5, d6, d7, d8, d9, d10, d11, d12, d13, d14, d15, d16, d17, d18, d19, d20⟩
  clear cell3 q0 q1 x0 x1 x2 x3 e0 e1 e2 e3 e4 f0 f1 f2 f3 f4 HC3
  have KEEP : Hid (∀ w', Below W0.heap.size W0 w' → (fun w' => Below W0.heap.size W0 w' ∧ w'.cell? ⟨w1.heap.size, 0, none⟩ = some (.slice (some ⟨bp, 0, none⟩) 3 3) ∧ w'.cell? ⟨w1.heap.size, 1, none⟩ = some (.slice (some ⟨br, 0, none⟩) 7 7) ∧ w'.cell? ⟨w2.heap.size, 0, none⟩ = some (.int .i64 1) ∧ w'.cell? ⟨w2.heap.size, 1, none⟩ = some (.int .i64 3) ∧ w'.cell? ⟨w2.heap.size, 2, none⟩ = some (.int .i64 2) ∧ w'.cell? ⟨w2.heap.size, 3, none⟩ = some (.int .i64 0) ∧ w'.cell? ⟨w3.heap.size + 1, 0, none⟩ = some (.int .i64 2) ∧ w'.cell? ⟨w3.heap.size + 1, 1, none⟩ = some (.slice fa 1 fc) ∧ w'.cell? ⟨w3.heap.size + 1, 2, none⟩ = some (.int .i64 (-1)) ∧ w'.cell? ⟨w3.heap.size + 1, 3, none⟩ = some (.int .i64 0) ∧ w'.cell? ⟨w3.heap.size + 1, 4, none⟩ = some (.slice (some ⟨b6, 3, none⟩) 1 1) ∧ w'.cell? ⟨w3.heap.size + 1 + 1, 0, none⟩ = some (.int .i64 1) ∧ w'.cell? ⟨w3.heap.size + 1 + 1, 1, none⟩ = some (.slice ea 2 ec) ∧ w'.cell? ⟨w3.heap.size + 1 + 1, 2, none⟩ = some (.int .i64 1) ∧ w'.cell? ⟨w3.heap.size + 1 + 1, 3, none⟩ = some (.int .i64 1) ∧ w'.cell? ⟨w3.heap.size + 1 + 1, 4, none⟩ = some (.slice ea' 2 ec') ∧ w'.cell? ⟨br, 25, none⟩ = some (.int .i64 1) ∧ w'.cell? ⟨br, 26, none⟩ = some (.slice ea 2 ec) ∧ w'.cell? ⟨br, 27, none⟩ = some (.int .i64 0) ∧ w'.cell? ⟨br, 28, none⟩ = some (.int .i64 1) ∧ w'.cell? ⟨br, 29, none⟩ = some (.slice ea' 2 ec')) w') := fun w' hq => ⟨hq, (cell_lasts hq s1).trans d0, (cell_lasts hq s1).trans d1, (cell_lasts hq s2).trans d2, (cell_lasts hq s2).trans d3, (cell_lasts hq s2).trans d4, (cell_lasts hq s2).trans d5, (cell_lasts hq s3).trans d6, (cell_lasts hq s3).trans d7, (cell_lasts hq s3).trans d8, (cell_lasts hq s3).trans d9, (cell_lasts hq s3).trans d10, (cell_lasts hq s4).trans d11, (cell_lasts hq s4).trans d12, (cell_lasts hq s4).trans d13, (cell_lasts hq s4).trans d14, (cell_lasts hq s4).trans d15, (cell_lasts hq s5).trans d16, (cell_lasts hq s5).trans d17, (cell_lasts hq s5).trans d18, (cell_lasts hq s5).trans d19, (cell_lasts hq s5).trans d20⟩
  have ve1 : atomErr Roads.preds ⟨2, [⟨true, 0⟩]⟩ = 0 := rfl
  have ve2 : atomErr Roads.preds ⟨2, []⟩ = 1 := rfl
  have ve3 : atomErr Roads.preds ⟨3, []⟩ = 7 := rfl
  have ve4 : ruleErr Roads.preds r5 = 0 := rfl
  have ve5 : ruleErr Roads.preds rFree = 9 := rfl
  have ve6 : ruleErr Roads.preds rForm = 1 := rfl
  go_region_held3 (fun w' => Below W0.heap.size W0 w' ∧ w'.cell? ⟨w1.heap.size, 0, none⟩ = some (.slice (some ⟨bp, 0, none⟩) 3 3) ∧ w'.cell? ⟨w1.heap.size, 1, none⟩ = some (.slice (some ⟨br, 0, none⟩) 7 7) ∧ w'.cell? ⟨w2.heap.size, 0, none⟩ = some (.int .i64 1) ∧ w'.cell? ⟨w2.heap.size, 1, none⟩ = some (.int .i64 3) ∧ w'.cell? ⟨w2.heap.size, 2, none⟩ = some (.int .i64 2) ∧ w'.cell? ⟨w2.heap.size, 3, none⟩ = some (.int .i64 0) ∧ w'.cell? ⟨w3.heap.size + 1, 0, none⟩ = some (.int .i64 2) ∧ w'.cell? ⟨w3.heap.size + 1, 1, none⟩ = some (.slice fa 1 fc) ∧ w'.cell? ⟨w3.heap.size + 1, 2, none⟩ = some (.int .i64 (-1)) ∧ w'.cell? ⟨w3.heap.size + 1, 3, none⟩ = some (.int .i64 0) ∧ w'.cell? ⟨w3.heap.size + 1, 4, none⟩ = some (.slice (some ⟨b6, 3, none⟩) 1 1) ∧ w'.cell? ⟨w3.heap.size + 1 + 1, 0, none⟩ = some (.int .i64 1) ∧ w'.cell? ⟨w3.heap.size + 1 + 1, 1, none⟩ = some (.slice ea 2 ec) ∧ w'.cell? ⟨w3.heap.size + 1 + 1, 2, none⟩ = some (.int .i64 1) ∧ w'.cell? ⟨w3.heap.size + 1 + 1, 3, none⟩ = some (.int .i64 1) ∧ w'.cell? ⟨w3.heap.size + 1 + 1, 4, none⟩ = some (.slice ea' 2 ec') ∧ w'.cell? ⟨br, 25, none⟩ = some (.int .i64 1) ∧ w'.cell? ⟨br, 26, none⟩ = some (.slice ea 2 ec) ∧ w'.cell? ⟨br, 27, none⟩ = some (.int .i64 0) ∧ w'.cell? ⟨br, 28, none⟩ = some (.int .i64 1) ∧ w'.cell? ⟨br, 29, none⟩ = some (.slice ea' 2 ec'))
    ((refine KEEP.out _ ?_; (first | exact Below.refl _ _ | exact (Below.refl _ _).drew | exact hk | exact hk.drew | exact hk.alloc hk.size _ | exact (hk.alloc hk.size _).drew | exact hk.drew.alloc hk.size _)))
    (first
      | (go_at_call 37; refine (v_c _ _).mono ?_; rintro e w4 ⟨rfl, hw4⟩; have hk : Below W0.heap.size W0 w4 := (by rw [hw4]; first | exact (below_alloc _ _) | exact ((Below.refl _ _).drew).alloc (Nat.le_refl _) _ | exact ((Below.refl _ _).alloc (Nat.le_refl _) _).drew); clear hw4)
      | (go_at_call 36; refine (at_c _ _ _ _ _).mono ?_; rintro e w5 ⟨rfl, hw5⟩; try (have HT5 : Hid (termsAt w5 (.slice (some ⟨w4.heap.size, 0, none⟩) 1 1) [⟨true, 0⟩]) := (by rw [hw5]; exact termsAt.lasts (below_alloc _ _) (terms_new1 rfl _ _))); have hk : Below W0.heap.size W0 w5 := (by rw [hw5]; first | exact hk.alloc hk.size _ | exact (hk.alloc hk.size _).alloc (by have := hk.size; simp; omega) _); clear hw5)
      | (go_at_call 19; refine (atom_c _ _ _ Roads.preds _ _ (predsAt.lasts (k30.trans (Below.mono (by (first | exact Below.refl _ _ | exact (Below.refl _ _).drew | exact hk | exact hk.drew | exact hk.alloc hk.size _ | exact (hk.alloc hk.size _).drew | exact hk.drew.alloc hk.size _)) k30.size)) HPR.out) (by first | exact HT5.out | exact terms_nil _)).mono ?_; rintro e w6 ⟨rfl, hb6⟩; have hk : Below W0.heap.size W0 w6 := Below.trans (by (first | exact Below.refl _ _ | exact (Below.refl _ _).drew | exact hk | exact hk.drew | exact hk.alloc hk.size _ | exact (hk.alloc hk.size _).drew | exact hk.drew.alloc hk.size _)) (hb6.mono (by have := hk.size; first | omega | (simp; omega))); clear hb6)
      | (go_at_call_of 21 (Value.agg #[.int .i64 1, .slice ea 2 ec, .int .i64 0, .int .i64 1, .slice ea' 2 ec']); refine (check_c _ _ Roads.preds r5 _ _ (predsAt.lasts (k30.trans (Below.mono (by (first | exact Below.refl _ _ | exact (Below.refl _ _).drew | exact hk | exact hk.drew | exact hk.alloc hk.size _ | exact (hk.alloc hk.size _).drew | exact hk.drew.alloc hk.size _)) k30.size)) HPR.out) (termsAt.lasts (k30.trans (Below.mono (by (first | exact Below.refl _ _ | exact (Below.refl _ _).drew | exact hk | exact hk.drew | exact hk.alloc hk.size _ | exact (hk.alloc hk.size _).drew | exact hk.drew.alloc hk.size _)) k30.size)) HET.out) (litsAt.lasts (k30.trans (Below.mono (by (first | exact Below.refl _ _ | exact (Below.refl _ _).drew | exact hk | exact hk.drew | exact hk.alloc hk.size _ | exact (hk.alloc hk.size _).drew | exact hk.drew.alloc hk.size _)) k30.size)) HEL.out)).mono ?_; rintro e w7 ⟨rfl, hb6⟩; have hk : Below W0.heap.size W0 w7 := Below.trans (by (first | exact Below.refl _ _ | exact (Below.refl _ _).drew | exact hk | exact hk.drew | exact hk.alloc hk.size _ | exact (hk.alloc hk.size _).drew | exact hk.drew.alloc hk.size _)) (hb6.mono (by have := hk.size; first | omega | (simp; omega))); clear hb6)
      | (go_at_call_of 21 (Value.slice fa 1 fc); refine (check_c _ _ Roads.preds rFree _ _ (predsAt.lasts (k30.trans (Below.mono (by (first | exact Below.refl _ _ | exact (Below.refl _ _).drew | exact hk | exact hk.drew | exact hk.alloc hk.size _ | exact (hk.alloc hk.size _).drew | exact hk.drew.alloc hk.size _)) k30.size)) HPR.out) (termsAt.lasts (k30.trans (Below.mono (by (first | exact Below.refl _ _ | exact (Below.refl _ _).drew | exact hk | exact hk.drew | exact hk.alloc hk.size _ | exact (hk.alloc hk.size _).drew | exact hk.drew.alloc hk.size _)) k30.size)) HFT.out) (litsAt.lasts (k30.trans (Below.mono (by (first | exact Below.refl _ _ | exact (Below.refl _ _).drew | exact hk | exact hk.drew | exact hk.alloc hk.size _ | exact (hk.alloc hk.size _).drew | exact hk.drew.alloc hk.size _)) k30.size)) HFL.out)).mono ?_; rintro e w8 ⟨rfl, hb6⟩; have hk : Below W0.heap.size W0 w8 := Below.trans (by (first | exact Below.refl _ _ | exact (Below.refl _ _).drew | exact hk | exact hk.drew | exact hk.alloc hk.size _ | exact (hk.alloc hk.size _).drew | exact hk.drew.alloc hk.size _)) (hb6.mono (by have := hk.size; first | omega | (simp; omega))); clear hb6)
      | (go_at_call_of 21 (Value.agg #[.int .i64 1, .slice ea 2 ec, .int .i64 1, .int .i64 1, .slice ea' 2 ec']); refine (check_c _ _ Roads.preds rForm _ _ (predsAt.lasts (k30.trans (Below.mono (by (first | exact Below.refl _ _ | exact (Below.refl _ _).drew | exact hk | exact hk.drew | exact hk.alloc hk.size _ | exact (hk.alloc hk.size _).drew | exact hk.drew.alloc hk.size _)) k30.size)) HPR.out) (termsAt.lasts (k30.trans (Below.mono (by (first | exact Below.refl _ _ | exact (Below.refl _ _).drew | exact hk | exact hk.drew | exact hk.alloc hk.size _ | exact (hk.alloc hk.size _).drew | exact hk.drew.alloc hk.size _)) k30.size)) HET.out) (litsAt.lasts (k30.trans (Below.mono (by (first | exact Below.refl _ _ | exact (Below.refl _ _).drew | exact hk | exact hk.drew | exact hk.alloc hk.size _ | exact (hk.alloc hk.size _).drew | exact hk.drew.alloc hk.size _)) k30.size)) HEL.out)).mono ?_; rintro e w9 ⟨rfl, hb6⟩; have hk : Below W0.heap.size W0 w9 := Below.trans (by (first | exact Below.refl _ _ | exact (Below.refl _ _).drew | exact hk | exact hk.drew | exact hk.alloc hk.size _ | exact (hk.alloc hk.size _).drew | exact hk.drew.alloc hk.size _)) (hb6.mono (by have := hk.size; first | omega | (simp; omega))); clear hb6))
  have hkz : Below w.heap.size w w9 := kw0.trans (hk.mono kw0.size)
  clear KEEP HPR HFT HFL HET HEL
  go_wp2_with fail
  go_ret
  exact ⟨rfl, hkz⟩
end Go.Proofs.Ytchmdijkmfilfaa.Rule
