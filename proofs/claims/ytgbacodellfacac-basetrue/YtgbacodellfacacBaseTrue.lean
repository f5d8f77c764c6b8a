/-
  What is proved: what base.Add has added is there and nothing is less; added once more nothing changes; two facts are added alike, whichever is first; two lists of facts that are under one another are the same: for every list of predicates, every two lists of facts and every two facts; no condition.
-/
import Derived.Test.YtgbacodellfacacBaseBegun
import Derived.Test.YtgbacodellfacacBaseRef5
import Derived.Test.YtgbacodellfacacOpen2
import Derived.Test.YtgbacodellfacacKit
namespace Go.Proofs.Ytgbacodellfacac.Base
open Go.ChangeShapes Go.WideShapes Go.ChangeAt Go.RowKit
open Lat (within join)
open Rule (factFine isPred kindOf arityOf isPred_iff)

theorem good_of {ps : List Prd} {f : List Fct} (hs : Sorted f) (hf : ∀ x ∈ f, factFine ps x = true) : goodTo ps f f.length = true := by
  rw [goodTo, List.all_eq_true]
  intro i hi
  have hi' : i < f.length := by simpa using hi
  simp only [goodAt, nth_eq hi', Bool.and_eq_true]
  refine ⟨hf _ (List.getElem_mem hi'), ?_⟩
  cases i with
  | zero => simp
  | succ i =>
    have := List.pairwise_iff_getElem.1 hs i (i + 1) (by omega) hi' (by omega)
    rw [Nat.add_sub_cancel, nth_eq (show i < f.length by omega)]
    simpa using this
theorem err_of {ps : List Prd} {f : List Fct} (h5 : ps.length ≤ 5) (hp : predsOk ps = true) (hs : Sorted f) (hf : ∀ x ∈ f, factFine ps x = true) : factsErr ps f = 0 := by
  rw [factsErr, if_neg (by omega), if_neg (by rw [hp]; simp), if_pos (good_of hs hf)]
theorem fine_join {ps : List Prd} {x y : Fct} (hx : factFine ps x = true) (hy : factFine ps y = true) (h : place y = place x) : factFine ps ⟨y.pred, y.a, y.b, join (kindOf ps x.pred) y.val x.val⟩ = true := by
  have hp := (place_inj (fine_of hy) (fine_of hx) h).1
  have he : Lat.err (kindOf ps y.pred) (join (kindOf ps x.pred) y.val x.val) = 0 := by
    rw [hp]
    exact Lat.err_join (by rw [← hp]; exact (fine_of hy).v) (fine_of hx).v
  simp only [factFine, Bool.and_eq_true] at hy ⊢
  obtain ⟨h1, h2, h3, h4, h5, h6⟩ := hy
  exact ⟨h1, h2, h3, h4, h5, by rw [he]; rfl⟩
theorem fine_addF {ps : List Prd} {x : Fct} (hx : factFine ps x = true) : ∀ {f : List Fct}, (∀ z ∈ f, factFine ps z = true) → ∀ z ∈ addF (kindOf ps) x f, factFine ps z = true
  | [], _, z, hz => by
    simp [addF] at hz
    rw [hz]
    exact hx
  | y :: f, hf, z, hz => by
    rw [addF] at hz
    split at hz
    · rename_i e
      rcases List.mem_cons.1 hz with rfl | hz
      · exact fine_join hx (hf y (by simp)) e
      · exact hf z (by simp [hz])
    · split at hz
      · rcases List.mem_cons.1 hz with rfl | hz
        · exact hx
        · exact hf z hz
      · rcases List.mem_cons.1 hz with rfl | hz
        · exact hf _ (by simp)
        · exact fine_addF hx (fun u hu => hf u (by simp [hu])) z hz
theorem err_add {ps : List Prd} {f : List Fct} {x : Fct} (hf : factsErr ps f = 0) (hx : factFine ps x = true) : factsErr ps (addF (kindOf ps) x f) = 0 :=
  err_of (factsErr_zero hf).1 (factsErr_zero hf).2.1 (sorted_add (right_of hf).sorted) (fine_addF hx (facts_fine hf))
theorem err_single {ps : List Prd} {f : List Fct} {x : Fct} (hf : factsErr ps f = 0) (hx : factFine ps x = true) : factsErr ps [x] = 0 :=
  err_of (factsErr_zero hf).1 (factsErr_zero hf).2.1 (by simp [Sorted]) (by simpa using hx)
theorem with_zero {ps : List Prd} {f : List Fct} {x : Fct} (hf : factsErr ps f = 0) (hx : factFine ps x = true) : withErr ps f x = 0 := by simp [withErr, hf, hx]
theorem add_is {ps : List Prd} {f : List Fct} {x : Fct} (hf : factsErr ps f = 0) (hx : factFine ps x = true) : addOf ps f x = (addF (kindOf ps) x f, addC (kindOf ps) x f, 0) := by simp [addOf, with_zero hf hx]
theorem under_is {ps : List Prd} {f g : List Fct} (hf : factsErr ps f = 0) (hg : factsErr ps g = 0) : underOf ps f g = (under (kindOf ps) f g, 0) := by simp [underOf, hf, hg]
theorem same_under {ps : List Prd} {f g : List Fct} (hf : factsErr ps f = 0) (hg : factsErr ps g = 0) : (under (kindOf ps) f g && under (kindOf ps) g f) = decide (f = g) := by
  by_cases h : f = g
  · subst h
    rw [under_refl (right_of hf)]
    simp
  · have : ¬ ((under (kindOf ps) f g && under (kindOf ps) g f) = true) := by
      rw [Bool.and_eq_true]
      rintro ⟨h1, h2⟩
      exact h (under_anti (right_of hf) (right_of hg) h1 h2)
    simp [h]
    simpa using this
theorem more_no {ps : List Prd} {f : List Fct} {x : Fct} (hf : factsErr ps f = 0) (hx : factFine ps x = true) : addC (kindOf ps) x (addF (kindOf ps) x f) = false := by
  have h1 := addC_iff (x := x) (right_of (err_add hf hx))
  cases h : addC (kindOf ps) x (addF (kindOf ps) x f) with
  | false => rfl
  | true => exact absurd (add_again (right_of hf) (fine_of hx)) (h1.1 h)
theorem changed_is {ps : List Prd} {f : List Fct} {x : Fct} (hf : factsErr ps f = 0) : addC (kindOf ps) x f = !decide (addF (kindOf ps) x f = f) := by
  have h1 := addC_iff (x := x) (right_of hf)
  by_cases h : addF (kindOf ps) x f = f
  · cases h2 : addC (kindOf ps) x f with
    | false => simp [h]
    | true => exact absurd h (h1.1 h2)
  · rw [h1.2 h]
    simp [h]
theorem two_last (w w1 : World) (xp xa xb xv yp ya yb yv : Int) (h : Below ((w.alloc (.cells #[.int .i64 xp, .int .i64 xa, .int .i64 xb, .int .i64 xv] 25)).alloc (.cells #[.int .i64 yp, .int .i64 ya, .int .i64 yb, .int .i64 yv] 25)).heap.size ((w.alloc (.cells #[.int .i64 xp, .int .i64 xa, .int .i64 xb, .int .i64 xv] 25)).alloc (.cells #[.int .i64 yp, .int .i64 ya, .int .i64 yb, .int .i64 yv] 25)) w1) :
    Below w.heap.size w w1 ∧ w1.cell? ⟨w.heap.size, 0, none⟩ = some (.int .i64 xp) ∧ w1.cell? ⟨w.heap.size, 1, none⟩ = some (.int .i64 xa) ∧ w1.cell? ⟨w.heap.size, 2, none⟩ = some (.int .i64 xb) ∧ w1.cell? ⟨w.heap.size, 3, none⟩ = some (.int .i64 xv) ∧ w1.cell? ⟨w.heap.size + 1, 0, none⟩ = some (.int .i64 yp) ∧ w1.cell? ⟨w.heap.size + 1, 1, none⟩ = some (.int .i64 ya) ∧ w1.cell? ⟨w.heap.size + 1, 2, none⟩ = some (.int .i64 yb) ∧ w1.cell? ⟨w.heap.size + 1, 3, none⟩ = some (.int .i64 yv) := by
  refine ⟨((below_alloc _ _).alloc (by simp) _).trans (h.mono (by simp; omega)), ?_, ?_, ?_, ?_, ?_, ?_, ?_, ?_⟩
  all_goals (first | (rw [h.cell (by simp; omega)]; simp [go_sem]; done) | (rw [h.cell (by simp)]; simp [go_sem]))

theorem single_at (w : World) (p a b v : Int) (t : TypeId) : factsAt (w.alloc (.cells #[.int .i64 p, .int .i64 a, .int .i64 b, .int .i64 v] t)) (.slice (some ⟨w.heap.size, 0, none⟩) 1 1) [⟨p, a, b, v⟩] := by
  refine ⟨_, 1, rfl, by simp, .inr ⟨w.heap.size, 0, rfl, by simp, ?_⟩⟩
  intro i x hi
  cases i with
  | zero =>
    obtain rfl : (⟨p, a, b, v⟩ : Fct) = x := by simpa using hi
    refine ⟨?_, ?_, ?_, ?_⟩ <;> simp [go_sem]
  | succ i => simp at hi

set_option maxRecDepth 100000 in
set_option maxHeartbeats 16000000 in
theorem true_walk (w : World) (pv fv gv : Value) (ps : List Prd) (f g : List Fct) (x y : Fct) (hp : predsAt w pv ps) (hf : factsAt w fv f) (hg : factsAt w gv g) (hcf : capOk fv) :
    Calls Try.prog 3 #[pv, fv, gv, .agg #[.int .i64 x.pred, .int .i64 x.a, .int .i64 x.b, .int .i64 x.val], .agg #[.int .i64 y.pred, .int .i64 y.a, .int .i64 y.b, .int .i64 y.val]] w fun e w' => e = .returned (.bool true) ∧ Below w.heap.size w w' := by
  obtain ⟨xp, xa, xb, xv⟩ := x
  obtain ⟨yp, ya, yb, yv⟩ := y
  dsimp only
  have HP : Hid (∀ (w1 : World), Below w.heap.size w w1 → predsAt w1 pv ps) := fun w1 hb1 => predsAt.lasts hb1 hp
  have HF : Hid (∀ (w1 : World), Below w.heap.size w w1 → factsAt w1 fv f) := fun w1 hb1 => factsAt.lasts hb1 hf
  have HG : Hid (∀ (w1 : World), Below w.heap.size w w1 → factsAt w1 gv g) := fun w1 hb1 => factsAt.lasts hb1 hg
  have HCF : Hid (capOk fv) := hcf
  clear hp hf hg hcf
  have HL : Hid (∀ w1, Below ((w.alloc (.cells #[.int .i64 xp, .int .i64 xa, .int .i64 xb, .int .i64 xv] 25)).alloc (.cells #[.int .i64 yp, .int .i64 ya, .int .i64 yb, .int .i64 yv] 25)).heap.size ((w.alloc (.cells #[.int .i64 xp, .int .i64 xa, .int .i64 xb, .int .i64 xv] 25)).alloc (.cells #[.int .i64 yp, .int .i64 ya, .int .i64 yb, .int .i64 yv] 25)) w1 → Below w.heap.size w w1 ∧ w1.cell? ⟨w.heap.size, 0, none⟩ = some (.int .i64 xp) ∧ w1.cell? ⟨w.heap.size, 1, none⟩ = some (.int .i64 xa) ∧ w1.cell? ⟨w.heap.size, 2, none⟩ = some (.int .i64 xb) ∧ w1.cell? ⟨w.heap.size, 3, none⟩ = some (.int .i64 xv) ∧ w1.cell? ⟨w.heap.size + 1, 0, none⟩ = some (.int .i64 yp) ∧ w1.cell? ⟨w.heap.size + 1, 1, none⟩ = some (.int .i64 ya) ∧ w1.cell? ⟨w.heap.size + 1, 2, none⟩ = some (.int .i64 yb) ∧ w1.cell? ⟨w.heap.size + 1, 3, none⟩ = some (.int .i64 yv)) := fun w1 h => two_last w w1 xp xa xb xv yp ya yb yv h
  by_cases hex : withErr ps f ⟨xp, xa, xb, xv⟩ = 0
  · by_cases hey : withErr ps f ⟨yp, ya, yb, yv⟩ = 0
    · obtain ⟨hf0, hfx⟩ := withErr_zero hex
      obtain ⟨_, hfy⟩ := withErr_zero hey
      obtain ⟨D, hD⟩ : ∃ D, decide ((addF (kindOf ps) ⟨xp, xa, xb, xv⟩ f) = f) = D := ⟨_, rfl⟩
      have E10 : Hid (decide ((addF (kindOf ps) ⟨xp, xa, xb, xv⟩ f) = f) = D) := hD
      have E1 : Hid (addOf ps f ⟨xp, xa, xb, xv⟩ = ((addF (kindOf ps) ⟨xp, xa, xb, xv⟩ f), !D, 0)) := by show _ = _; rw [add_is hf0 hfx, changed_is hf0, hD]
      have E2 : Hid (addOf ps f ⟨yp, ya, yb, yv⟩ = ((addF (kindOf ps) ⟨yp, ya, yb, yv⟩ f), addC (kindOf ps) ⟨yp, ya, yb, yv⟩ f, 0)) := add_is hf0 hfy
      have EA := err_add hf0 hfx
      have EB := err_add hf0 hfy
      have E3 : Hid (addOf ps (addF (kindOf ps) ⟨xp, xa, xb, xv⟩ f) ⟨xp, xa, xb, xv⟩ = ((addF (kindOf ps) ⟨xp, xa, xb, xv⟩ f), false, 0)) := by show _ = _; rw [add_is EA hfx, add_again (right_of hf0) (fine_of hfx), more_no hf0 hfx]
      have E4 : Hid (underOf ps f (addF (kindOf ps) ⟨xp, xa, xb, xv⟩ f) = (true, 0)) := by show _ = _; rw [under_is hf0 EA, under_add (right_of hf0) (fine_of hfx)]
      have E5 : Hid (underOf ps [⟨xp, xa, xb, xv⟩] (addF (kindOf ps) ⟨xp, xa, xb, xv⟩ f) = (true, 0)) := by show _ = _; rw [under_is (err_single hf0 hfx) EA, under_one (right_of hf0) (fine_of hfx)]
      have E6 : Hid (addOf ps (addF (kindOf ps) ⟨xp, xa, xb, xv⟩ f) ⟨yp, ya, yb, yv⟩ = ((addF (kindOf ps) ⟨yp, ya, yb, yv⟩ (addF (kindOf ps) ⟨xp, xa, xb, xv⟩ f)), addC (kindOf ps) ⟨yp, ya, yb, yv⟩ (addF (kindOf ps) ⟨xp, xa, xb, xv⟩ f), 0)) := add_is EA hfy
      have E7 : Hid (addOf ps (addF (kindOf ps) ⟨yp, ya, yb, yv⟩ f) ⟨xp, xa, xb, xv⟩ = ((addF (kindOf ps) ⟨yp, ya, yb, yv⟩ (addF (kindOf ps) ⟨xp, xa, xb, xv⟩ f)), addC (kindOf ps) ⟨xp, xa, xb, xv⟩ (addF (kindOf ps) ⟨yp, ya, yb, yv⟩ f), 0)) := by show _ = _; rw [add_is EB hfx, add_comm (right_of hf0) (fine_of hfx) (fine_of hfy)]
      have hf0' : Hid (factsErr ps f = 0) := hf0
      clear EA EB hf0 hfx hfy hex hey hD
      cases D
      all_goals
        simp only [Bool.not_true, Bool.not_false] at E1
        go_enter Try.func3, Try.ntmps3
        have q0 : Below ((w.alloc (.cells #[.int .i64 xp, .int .i64 xa, .int .i64 xb, .int .i64 xv] 25)).alloc (.cells #[.int .i64 yp, .int .i64 ya, .int .i64 yb, .int .i64 yv] 25)).heap.size ((w.alloc (.cells #[.int .i64 xp, .int .i64 xa, .int .i64 xb, .int .i64 xv] 25)).alloc (.cells #[.int .i64 yp, .int .i64 ya, .int .i64 yb, .int .i64 yv] 25)) ((w.alloc (.cells #[.int .i64 xp, .int .i64 xa, .int .i64 xb, .int .i64 xv] 25)).alloc (.cells #[.int .i64 yp, .int .i64 ya, .int .i64 yb, .int .i64 yv] 25)) := Below.refl _ _
        obtain ⟨k0, c00, c10, c20, c30, d00, d10, d20, d30⟩ := HL.out _ q0

        go_wp2_with fail
        refine (Add_c _ _ _ ps f _ _ _ _ (HP.out _ k0) (HF.out _ k0) HCF.out).mono ?_
        rw [E1.out]
        rintro e w1 ⟨va, rfl, hfn, hcn, hb1⟩
        have q1 : Below ((w.alloc (.cells #[.int .i64 xp, .int .i64 xa, .int .i64 xb, .int .i64 xv] 25)).alloc (.cells #[.int .i64 yp, .int .i64 ya, .int .i64 yb, .int .i64 yv] 25)).heap.size ((w.alloc (.cells #[.int .i64 xp, .int .i64 xa, .int .i64 xb, .int .i64 xv] 25)).alloc (.cells #[.int .i64 yp, .int .i64 ya, .int .i64 yb, .int .i64 yv] 25)) w1 := q0.trans (hb1.mono q0.size)
        have HA_1 : Hid (factsAt w1 va (addF (kindOf ps) ⟨xp, xa, xb, xv⟩ f)) := hfn
        have HCHA : Hid (capOk va) := hcn
        clear hfn hcn
        clear hb1 k0 c00 c10 c20 c30 d00 d10 d20 d30
        obtain ⟨k1, c01, c11, c21, c31, d01, d11, d21, d31⟩ := HL.out _ q1
        go_wp2_with fail
        refine (Add_c _ _ _ ps f _ _ _ _ (HP.out _ k1) (HF.out _ k1) HCF.out).mono ?_
        rw [E2.out]
        rintro e w2 ⟨vb, rfl, hfn, hcn, hb2⟩
        have q2 : Below ((w.alloc (.cells #[.int .i64 xp, .int .i64 xa, .int .i64 xb, .int .i64 xv] 25)).alloc (.cells #[.int .i64 yp, .int .i64 ya, .int .i64 yb, .int .i64 yv] 25)).heap.size ((w.alloc (.cells #[.int .i64 xp, .int .i64 xa, .int .i64 xb, .int .i64 xv] 25)).alloc (.cells #[.int .i64 yp, .int .i64 ya, .int .i64 yb, .int .i64 yv] 25)) w2 := q1.trans (hb2.mono q1.size)
        have HA_2 : Hid (factsAt w2 va (addF (kindOf ps) ⟨xp, xa, xb, xv⟩ f)) := factsAt.lasts hb2 HA_1.out
        clear HA_1
        have HB_2 : Hid (factsAt w2 vb (addF (kindOf ps) ⟨yp, ya, yb, yv⟩ f)) := hfn
        have HCHB : Hid (capOk vb) := hcn
        clear hfn hcn
        clear hb2 k1 c01 c11 c21 c31 d01 d11 d21 d31
        obtain ⟨k2, c02, c12, c22, c32, d02, d12, d22, d32⟩ := HL.out _ q2
        go_wp2_with fail
        refine (Add_c _ _ _ ps (addF (kindOf ps) ⟨xp, xa, xb, xv⟩ f) _ _ _ _ (HP.out _ k2) HA_2.out HCHA.out).mono ?_
        rw [E3.out]
        rintro e w3 ⟨vc, rfl, hfn, hcn, hb3⟩
        have q3 : Below ((w.alloc (.cells #[.int .i64 xp, .int .i64 xa, .int .i64 xb, .int .i64 xv] 25)).alloc (.cells #[.int .i64 yp, .int .i64 ya, .int .i64 yb, .int .i64 yv] 25)).heap.size ((w.alloc (.cells #[.int .i64 xp, .int .i64 xa, .int .i64 xb, .int .i64 xv] 25)).alloc (.cells #[.int .i64 yp, .int .i64 ya, .int .i64 yb, .int .i64 yv] 25)) w3 := q2.trans (hb3.mono q2.size)
        have HA_3 : Hid (factsAt w3 va (addF (kindOf ps) ⟨xp, xa, xb, xv⟩ f)) := factsAt.lasts hb3 HA_2.out
        clear HA_2
        have HB_3 : Hid (factsAt w3 vb (addF (kindOf ps) ⟨yp, ya, yb, yv⟩ f)) := factsAt.lasts hb3 HB_2.out
        clear HB_2
        have HG3_3 : Hid (factsAt w3 vc (addF (kindOf ps) ⟨xp, xa, xb, xv⟩ f)) := hfn
        have HCHG3 : Hid (capOk vc) := hcn
        clear hfn hcn
        clear hb3 k2 c02 c12 c22 c32 d02 d12 d22 d32
        obtain ⟨k3, c03, c13, c23, c33, d03, d13, d23, d33⟩ := HL.out _ q3
        go_wp2_with fail
        refine (Under_c _ _ _ _ ps f (addF (kindOf ps) ⟨xp, xa, xb, xv⟩ f) (HP.out _ k3) (HF.out _ k3) HA_3.out).mono ?_
        rw [E4.out]
        rintro e w4 ⟨rfl, hb4⟩
        have q4 : Below ((w.alloc (.cells #[.int .i64 xp, .int .i64 xa, .int .i64 xb, .int .i64 xv] 25)).alloc (.cells #[.int .i64 yp, .int .i64 ya, .int .i64 yb, .int .i64 yv] 25)).heap.size ((w.alloc (.cells #[.int .i64 xp, .int .i64 xa, .int .i64 xb, .int .i64 xv] 25)).alloc (.cells #[.int .i64 yp, .int .i64 ya, .int .i64 yb, .int .i64 yv] 25)) w4 := q3.trans (hb4.mono q3.size)
        have HA_4 : Hid (factsAt w4 va (addF (kindOf ps) ⟨xp, xa, xb, xv⟩ f)) := factsAt.lasts hb4 HA_3.out
        clear HA_3
        have HB_4 : Hid (factsAt w4 vb (addF (kindOf ps) ⟨yp, ya, yb, yv⟩ f)) := factsAt.lasts hb4 HB_3.out
        clear HB_3
        have HG3_4 : Hid (factsAt w4 vc (addF (kindOf ps) ⟨xp, xa, xb, xv⟩ f)) := factsAt.lasts hb4 HG3_3.out
        clear HG3_3
        clear hb4 k3 c03 c13 c23 c33 d03 d13 d23 d33
        obtain ⟨k4, c04, c14, c24, c34, d04, d14, d24, d34⟩ := HL.out _ q4
        go_wp2_with fail
        refine (Under_c _ _ _ _ ps [⟨xp, xa, xb, xv⟩] (addF (kindOf ps) ⟨xp, xa, xb, xv⟩ f) (HP.out _ (k4.trans ((below_alloc _ _).mono k4.size))) (single_at _ _ _ _ _ _) (factsAt.lasts (below_alloc _ _) HA_4.out)).mono ?_
        rw [E5.out]
        rintro e w5 ⟨rfl, hb5⟩
        have hbn := (below_alloc _ _).trans (hb5.mono (by simp))
        clear hb5
        have hb5 := hbn
        clear hbn
        have q5 : Below ((w.alloc (.cells #[.int .i64 xp, .int .i64 xa, .int .i64 xb, .int .i64 xv] 25)).alloc (.cells #[.int .i64 yp, .int .i64 ya, .int .i64 yb, .int .i64 yv] 25)).heap.size ((w.alloc (.cells #[.int .i64 xp, .int .i64 xa, .int .i64 xb, .int .i64 xv] 25)).alloc (.cells #[.int .i64 yp, .int .i64 ya, .int .i64 yb, .int .i64 yv] 25)) w5 := q4.trans (hb5.mono q4.size)
        have HA_5 : Hid (factsAt w5 va (addF (kindOf ps) ⟨xp, xa, xb, xv⟩ f)) := factsAt.lasts hb5 HA_4.out
        clear HA_4
        have HB_5 : Hid (factsAt w5 vb (addF (kindOf ps) ⟨yp, ya, yb, yv⟩ f)) := factsAt.lasts hb5 HB_4.out
        clear HB_4
        have HG3_5 : Hid (factsAt w5 vc (addF (kindOf ps) ⟨xp, xa, xb, xv⟩ f)) := factsAt.lasts hb5 HG3_4.out
        clear HG3_4
        clear hb5 k4 c04 c14 c24 c34 d04 d14 d24 d34
        obtain ⟨k5, c05, c15, c25, c35, d05, d15, d25, d35⟩ := HL.out _ q5
        go_wp2_with fail
        refine (Add_c _ _ _ ps (addF (kindOf ps) ⟨xp, xa, xb, xv⟩ f) _ _ _ _ (HP.out _ k5) HA_5.out HCHA.out).mono ?_
        rw [E6.out]
        rintro e w6 ⟨vd, rfl, hfn, hcn, hb6⟩
        have q6 : Below ((w.alloc (.cells #[.int .i64 xp, .int .i64 xa, .int .i64 xb, .int .i64 xv] 25)).alloc (.cells #[.int .i64 yp, .int .i64 ya, .int .i64 yb, .int .i64 yv] 25)).heap.size ((w.alloc (.cells #[.int .i64 xp, .int .i64 xa, .int .i64 xb, .int .i64 xv] 25)).alloc (.cells #[.int .i64 yp, .int .i64 ya, .int .i64 yb, .int .i64 yv] 25)) w6 := q5.trans (hb6.mono q5.size)
        have HA_6 : Hid (factsAt w6 va (addF (kindOf ps) ⟨xp, xa, xb, xv⟩ f)) := factsAt.lasts hb6 HA_5.out
        clear HA_5
        have HB_6 : Hid (factsAt w6 vb (addF (kindOf ps) ⟨yp, ya, yb, yv⟩ f)) := factsAt.lasts hb6 HB_5.out
        clear HB_5
        have HG3_6 : Hid (factsAt w6 vc (addF (kindOf ps) ⟨xp, xa, xb, xv⟩ f)) := factsAt.lasts hb6 HG3_5.out
        clear HG3_5
        have HD_6 : Hid (factsAt w6 vd (addF (kindOf ps) ⟨yp, ya, yb, yv⟩ (addF (kindOf ps) ⟨xp, xa, xb, xv⟩ f))) := hfn
        have HCHD : Hid (capOk vd) := hcn
        clear hfn hcn
        clear hb6 k5 c05 c15 c25 c35 d05 d15 d25 d35
        obtain ⟨k6, c06, c16, c26, c36, d06, d16, d26, d36⟩ := HL.out _ q6
        go_wp2_with fail
        refine (Add_c _ _ _ ps (addF (kindOf ps) ⟨yp, ya, yb, yv⟩ f) _ _ _ _ (HP.out _ k6) HB_6.out HCHB.out).mono ?_
        rw [E7.out]
        rintro e w7 ⟨vf, rfl, hfn, hcn, hb7⟩
        have q7 : Below ((w.alloc (.cells #[.int .i64 xp, .int .i64 xa, .int .i64 xb, .int .i64 xv] 25)).alloc (.cells #[.int .i64 yp, .int .i64 ya, .int .i64 yb, .int .i64 yv] 25)).heap.size ((w.alloc (.cells #[.int .i64 xp, .int .i64 xa, .int .i64 xb, .int .i64 xv] 25)).alloc (.cells #[.int .i64 yp, .int .i64 ya, .int .i64 yb, .int .i64 yv] 25)) w7 := q6.trans (hb7.mono q6.size)
        have HA_7 : Hid (factsAt w7 va (addF (kindOf ps) ⟨xp, xa, xb, xv⟩ f)) := factsAt.lasts hb7 HA_6.out
        clear HA_6
        have HB_7 : Hid (factsAt w7 vb (addF (kindOf ps) ⟨yp, ya, yb, yv⟩ f)) := factsAt.lasts hb7 HB_6.out
        clear HB_6
        have HG3_7 : Hid (factsAt w7 vc (addF (kindOf ps) ⟨xp, xa, xb, xv⟩ f)) := factsAt.lasts hb7 HG3_6.out
        clear HG3_6
        have HD_7 : Hid (factsAt w7 vd (addF (kindOf ps) ⟨yp, ya, yb, yv⟩ (addF (kindOf ps) ⟨xp, xa, xb, xv⟩ f))) := factsAt.lasts hb7 HD_6.out
        clear HD_6
        have HE_7 : Hid (factsAt w7 vf (addF (kindOf ps) ⟨yp, ya, yb, yv⟩ (addF (kindOf ps) ⟨xp, xa, xb, xv⟩ f))) := hfn
        have HCHE : Hid (capOk vf) := hcn
        clear hfn hcn
        clear hb7 k6 c06 c16 c26 c36 d06 d16 d26 d36
        obtain ⟨k7, c07, c17, c27, c37, d07, d17, d27, d37⟩ := HL.out _ q7

        go_wp2_with fail
        refine (sameFacts_c _ _ _ (addF (kindOf ps) ⟨xp, xa, xb, xv⟩ f) (addF (kindOf ps) ⟨xp, xa, xb, xv⟩ f) HG3_7.out HA_7.out).mono ?_
        rw [decide_eq_true (rfl : (addF (kindOf ps) ⟨xp, xa, xb, xv⟩ f) = (addF (kindOf ps) ⟨xp, xa, xb, xv⟩ f))]
        rintro e w8 ⟨rfl, hb8⟩
        have q8 : Below ((w.alloc (.cells #[.int .i64 xp, .int .i64 xa, .int .i64 xb, .int .i64 xv] 25)).alloc (.cells #[.int .i64 yp, .int .i64 ya, .int .i64 yb, .int .i64 yv] 25)).heap.size ((w.alloc (.cells #[.int .i64 xp, .int .i64 xa, .int .i64 xb, .int .i64 xv] 25)).alloc (.cells #[.int .i64 yp, .int .i64 ya, .int .i64 yb, .int .i64 yv] 25)) w8 := q7.trans (hb8.mono q7.size)
        have HA_8 : Hid (factsAt w8 va (addF (kindOf ps) ⟨xp, xa, xb, xv⟩ f)) := factsAt.lasts hb8 HA_7.out
        clear HA_7
        have HB_8 : Hid (factsAt w8 vb (addF (kindOf ps) ⟨yp, ya, yb, yv⟩ f)) := factsAt.lasts hb8 HB_7.out
        clear HB_7
        have HG3_8 : Hid (factsAt w8 vc (addF (kindOf ps) ⟨xp, xa, xb, xv⟩ f)) := factsAt.lasts hb8 HG3_7.out
        clear HG3_7
        have HD_8 : Hid (factsAt w8 vd (addF (kindOf ps) ⟨yp, ya, yb, yv⟩ (addF (kindOf ps) ⟨xp, xa, xb, xv⟩ f))) := factsAt.lasts hb8 HD_7.out
        clear HD_7
        have HE_8 : Hid (factsAt w8 vf (addF (kindOf ps) ⟨yp, ya, yb, yv⟩ (addF (kindOf ps) ⟨xp, xa, xb, xv⟩ f))) := factsAt.lasts hb8 HE_7.out
        clear HE_7
        clear hb8 k7 c07 c17 c27 c37 d07 d17 d27 d37
        obtain ⟨k8, c08, c18, c28, c38, d08, d18, d28, d38⟩ := HL.out _ q8
        go_wp2_with fail
        refine (sameFacts_c _ _ _ (addF (kindOf ps) ⟨yp, ya, yb, yv⟩ (addF (kindOf ps) ⟨xp, xa, xb, xv⟩ f)) (addF (kindOf ps) ⟨yp, ya, yb, yv⟩ (addF (kindOf ps) ⟨xp, xa, xb, xv⟩ f)) HD_8.out HE_8.out).mono ?_
        rw [decide_eq_true (rfl : (addF (kindOf ps) ⟨yp, ya, yb, yv⟩ (addF (kindOf ps) ⟨xp, xa, xb, xv⟩ f)) = (addF (kindOf ps) ⟨yp, ya, yb, yv⟩ (addF (kindOf ps) ⟨xp, xa, xb, xv⟩ f)))]
        rintro e w9 ⟨rfl, hb9⟩
        have q9 : Below ((w.alloc (.cells #[.int .i64 xp, .int .i64 xa, .int .i64 xb, .int .i64 xv] 25)).alloc (.cells #[.int .i64 yp, .int .i64 ya, .int .i64 yb, .int .i64 yv] 25)).heap.size ((w.alloc (.cells #[.int .i64 xp, .int .i64 xa, .int .i64 xb, .int .i64 xv] 25)).alloc (.cells #[.int .i64 yp, .int .i64 ya, .int .i64 yb, .int .i64 yv] 25)) w9 := q8.trans (hb9.mono q8.size)
        have HA_9 : Hid (factsAt w9 va (addF (kindOf ps) ⟨xp, xa, xb, xv⟩ f)) := factsAt.lasts hb9 HA_8.out
        clear HA_8
        have HB_9 : Hid (factsAt w9 vb (addF (kindOf ps) ⟨yp, ya, yb, yv⟩ f)) := factsAt.lasts hb9 HB_8.out
        clear HB_8
        have HG3_9 : Hid (factsAt w9 vc (addF (kindOf ps) ⟨xp, xa, xb, xv⟩ f)) := factsAt.lasts hb9 HG3_8.out
        clear HG3_8
        have HD_9 : Hid (factsAt w9 vd (addF (kindOf ps) ⟨yp, ya, yb, yv⟩ (addF (kindOf ps) ⟨xp, xa, xb, xv⟩ f))) := factsAt.lasts hb9 HD_8.out
        clear HD_8
        have HE_9 : Hid (factsAt w9 vf (addF (kindOf ps) ⟨yp, ya, yb, yv⟩ (addF (kindOf ps) ⟨xp, xa, xb, xv⟩ f))) := factsAt.lasts hb9 HE_8.out
        clear HE_8
        clear hb9 k8 c08 c18 c28 c38 d08 d18 d28 d38
        obtain ⟨k9, c09, c19, c29, c39, d09, d19, d29, d39⟩ := HL.out _ q9
        go_wp2_with fail
        refine (sameFacts_c _ _ _ (addF (kindOf ps) ⟨xp, xa, xb, xv⟩ f) f HA_9.out (HF.out _ k9)).mono ?_
        rw [E10.out]
        rintro e w10 ⟨rfl, hb10⟩
        have q10 : Below ((w.alloc (.cells #[.int .i64 xp, .int .i64 xa, .int .i64 xb, .int .i64 xv] 25)).alloc (.cells #[.int .i64 yp, .int .i64 ya, .int .i64 yb, .int .i64 yv] 25)).heap.size ((w.alloc (.cells #[.int .i64 xp, .int .i64 xa, .int .i64 xb, .int .i64 xv] 25)).alloc (.cells #[.int .i64 yp, .int .i64 ya, .int .i64 yb, .int .i64 yv] 25)) w10 := q9.trans (hb10.mono q9.size)
        have HA_10 : Hid (factsAt w10 va (addF (kindOf ps) ⟨xp, xa, xb, xv⟩ f)) := factsAt.lasts hb10 HA_9.out
        clear HA_9
        have HB_10 : Hid (factsAt w10 vb (addF (kindOf ps) ⟨yp, ya, yb, yv⟩ f)) := factsAt.lasts hb10 HB_9.out
        clear HB_9
        have HG3_10 : Hid (factsAt w10 vc (addF (kindOf ps) ⟨xp, xa, xb, xv⟩ f)) := factsAt.lasts hb10 HG3_9.out
        clear HG3_9
        have HD_10 : Hid (factsAt w10 vd (addF (kindOf ps) ⟨yp, ya, yb, yv⟩ (addF (kindOf ps) ⟨xp, xa, xb, xv⟩ f))) := factsAt.lasts hb10 HD_9.out
        clear HD_9
        have HE_10 : Hid (factsAt w10 vf (addF (kindOf ps) ⟨yp, ya, yb, yv⟩ (addF (kindOf ps) ⟨xp, xa, xb, xv⟩ f))) := factsAt.lasts hb10 HE_9.out
        clear HE_9
        clear hb10 k9 c09 c19 c29 c39 d09 d19 d29 d39
        obtain ⟨k10, c010, c110, c210, c310, d010, d110, d210, d310⟩ := HL.out _ q10

        by_cases hge : factsErr ps g = 0
        · have U1' : underOf ps f g = (under (kindOf ps) f g, 0) := under_is hf0'.out hge
          have U2' : underOf ps g f = (under (kindOf ps) g f, 0) := under_is hge hf0'.out
          have U3' : decide (f = g) = (under (kindOf ps) f g && under (kindOf ps) g f) := (same_under hf0'.out hge).symm
          cases hu1 : under (kindOf ps) f g
          all_goals
            cases hu2 : under (kindOf ps) g f
          all_goals
            rw [hu1] at U1' U3'
            rw [hu2] at U2' U3'
            have U1 : Hid _ := U1'
            have U2 : Hid _ := U2'
            simp only [Bool.and_self, Bool.false_and, Bool.and_false] at U3'
            have U3 : Hid _ := U3'
            clear U1' U2' U3' hu1 hu2 hge
            go_wp2_with fail
            refine (Under_c _ _ _ _ ps f g (HP.out _ k10) (HF.out _ k10) (HG.out _ k10)).mono ?_
            rw [U1.out]
            rintro e w11 ⟨rfl, hb11⟩
            have q11 : Below ((w.alloc (.cells #[.int .i64 xp, .int .i64 xa, .int .i64 xb, .int .i64 xv] 25)).alloc (.cells #[.int .i64 yp, .int .i64 ya, .int .i64 yb, .int .i64 yv] 25)).heap.size ((w.alloc (.cells #[.int .i64 xp, .int .i64 xa, .int .i64 xb, .int .i64 xv] 25)).alloc (.cells #[.int .i64 yp, .int .i64 ya, .int .i64 yb, .int .i64 yv] 25)) w11 := q10.trans (hb11.mono q10.size)
            have HA_11 : Hid (factsAt w11 va (addF (kindOf ps) ⟨xp, xa, xb, xv⟩ f)) := factsAt.lasts hb11 HA_10.out
            clear HA_10
            have HB_11 : Hid (factsAt w11 vb (addF (kindOf ps) ⟨yp, ya, yb, yv⟩ f)) := factsAt.lasts hb11 HB_10.out
            clear HB_10
            have HG3_11 : Hid (factsAt w11 vc (addF (kindOf ps) ⟨xp, xa, xb, xv⟩ f)) := factsAt.lasts hb11 HG3_10.out
            clear HG3_10
            have HD_11 : Hid (factsAt w11 vd (addF (kindOf ps) ⟨yp, ya, yb, yv⟩ (addF (kindOf ps) ⟨xp, xa, xb, xv⟩ f))) := factsAt.lasts hb11 HD_10.out
            clear HD_10
            have HE_11 : Hid (factsAt w11 vf (addF (kindOf ps) ⟨yp, ya, yb, yv⟩ (addF (kindOf ps) ⟨xp, xa, xb, xv⟩ f))) := factsAt.lasts hb11 HE_10.out
            clear HE_10
            clear hb11 k10 c010 c110 c210 c310 d010 d110 d210 d310
            obtain ⟨k11, c011, c111, c211, c311, d011, d111, d211, d311⟩ := HL.out _ q11
            go_wp2_with fail
            refine (Under_c _ _ _ _ ps g f (HP.out _ k11) (HG.out _ k11) (HF.out _ k11)).mono ?_
            rw [U2.out]
            rintro e w12 ⟨rfl, hb12⟩
            have q12 : Below ((w.alloc (.cells #[.int .i64 xp, .int .i64 xa, .int .i64 xb, .int .i64 xv] 25)).alloc (.cells #[.int .i64 yp, .int .i64 ya, .int .i64 yb, .int .i64 yv] 25)).heap.size ((w.alloc (.cells #[.int .i64 xp, .int .i64 xa, .int .i64 xb, .int .i64 xv] 25)).alloc (.cells #[.int .i64 yp, .int .i64 ya, .int .i64 yb, .int .i64 yv] 25)) w12 := q11.trans (hb12.mono q11.size)
            have HA_12 : Hid (factsAt w12 va (addF (kindOf ps) ⟨xp, xa, xb, xv⟩ f)) := factsAt.lasts hb12 HA_11.out
            clear HA_11
            have HB_12 : Hid (factsAt w12 vb (addF (kindOf ps) ⟨yp, ya, yb, yv⟩ f)) := factsAt.lasts hb12 HB_11.out
            clear HB_11
            have HG3_12 : Hid (factsAt w12 vc (addF (kindOf ps) ⟨xp, xa, xb, xv⟩ f)) := factsAt.lasts hb12 HG3_11.out
            clear HG3_11
            have HD_12 : Hid (factsAt w12 vd (addF (kindOf ps) ⟨yp, ya, yb, yv⟩ (addF (kindOf ps) ⟨xp, xa, xb, xv⟩ f))) := factsAt.lasts hb12 HD_11.out
            clear HD_11
            have HE_12 : Hid (factsAt w12 vf (addF (kindOf ps) ⟨yp, ya, yb, yv⟩ (addF (kindOf ps) ⟨xp, xa, xb, xv⟩ f))) := factsAt.lasts hb12 HE_11.out
            clear HE_11
            clear hb12 k11 c011 c111 c211 c311 d011 d111 d211 d311
            obtain ⟨k12, c012, c112, c212, c312, d012, d112, d212, d312⟩ := HL.out _ q12
            go_wp2_with fail
            refine (baseBegun_c _).mono ?_
            rintro e w13 ⟨rfl, hb13⟩
            have q13 : Below ((w.alloc (.cells #[.int .i64 xp, .int .i64 xa, .int .i64 xb, .int .i64 xv] 25)).alloc (.cells #[.int .i64 yp, .int .i64 ya, .int .i64 yb, .int .i64 yv] 25)).heap.size ((w.alloc (.cells #[.int .i64 xp, .int .i64 xa, .int .i64 xb, .int .i64 xv] 25)).alloc (.cells #[.int .i64 yp, .int .i64 ya, .int .i64 yb, .int .i64 yv] 25)) w13 := q12.trans (hb13.mono q12.size)
            have HA_13 : Hid (factsAt w13 va (addF (kindOf ps) ⟨xp, xa, xb, xv⟩ f)) := factsAt.lasts hb13 HA_12.out
            clear HA_12
            have HB_13 : Hid (factsAt w13 vb (addF (kindOf ps) ⟨yp, ya, yb, yv⟩ f)) := factsAt.lasts hb13 HB_12.out
            clear HB_12
            have HG3_13 : Hid (factsAt w13 vc (addF (kindOf ps) ⟨xp, xa, xb, xv⟩ f)) := factsAt.lasts hb13 HG3_12.out
            clear HG3_12
            have HD_13 : Hid (factsAt w13 vd (addF (kindOf ps) ⟨yp, ya, yb, yv⟩ (addF (kindOf ps) ⟨xp, xa, xb, xv⟩ f))) := factsAt.lasts hb13 HD_12.out
            clear HD_12
            have HE_13 : Hid (factsAt w13 vf (addF (kindOf ps) ⟨yp, ya, yb, yv⟩ (addF (kindOf ps) ⟨xp, xa, xb, xv⟩ f))) := factsAt.lasts hb13 HE_12.out
            clear HE_12
            clear hb13 k12 c012 c112 c212 c312 d012 d112 d212 d312
            obtain ⟨k13, c013, c113, c213, c313, d013, d113, d213, d313⟩ := HL.out _ q13
            go_wp2_with fail
            refine (sameFacts_c _ _ _ f g (HF.out _ k13) (HG.out _ k13)).mono ?_
            rw [U3.out]
            rintro e w14 ⟨rfl, hb14⟩
            have q14 : Below ((w.alloc (.cells #[.int .i64 xp, .int .i64 xa, .int .i64 xb, .int .i64 xv] 25)).alloc (.cells #[.int .i64 yp, .int .i64 ya, .int .i64 yb, .int .i64 yv] 25)).heap.size ((w.alloc (.cells #[.int .i64 xp, .int .i64 xa, .int .i64 xb, .int .i64 xv] 25)).alloc (.cells #[.int .i64 yp, .int .i64 ya, .int .i64 yb, .int .i64 yv] 25)) w14 := q13.trans (hb14.mono q13.size)
            have HA_14 : Hid (factsAt w14 va (addF (kindOf ps) ⟨xp, xa, xb, xv⟩ f)) := factsAt.lasts hb14 HA_13.out
            clear HA_13
            have HB_14 : Hid (factsAt w14 vb (addF (kindOf ps) ⟨yp, ya, yb, yv⟩ f)) := factsAt.lasts hb14 HB_13.out
            clear HB_13
            have HG3_14 : Hid (factsAt w14 vc (addF (kindOf ps) ⟨xp, xa, xb, xv⟩ f)) := factsAt.lasts hb14 HG3_13.out
            clear HG3_13
            have HD_14 : Hid (factsAt w14 vd (addF (kindOf ps) ⟨yp, ya, yb, yv⟩ (addF (kindOf ps) ⟨xp, xa, xb, xv⟩ f))) := factsAt.lasts hb14 HD_13.out
            clear HD_13
            have HE_14 : Hid (factsAt w14 vf (addF (kindOf ps) ⟨yp, ya, yb, yv⟩ (addF (kindOf ps) ⟨xp, xa, xb, xv⟩ f))) := factsAt.lasts hb14 HE_13.out
            clear HE_13
            clear hb14 k13 c013 c113 c213 c313 d013 d113 d213 d313
            obtain ⟨k14, c014, c114, c214, c314, d014, d114, d214, d314⟩ := HL.out _ q14
            go_wp2_with fail
            go_ret
            exact ⟨rfl, k14⟩

        · have U1 : Hid (underOf ps f g = (false, factsErr ps g)) := by show _ = _; simp [underOf, hf0'.out, hge]
          have U2 : Hid (underOf ps g f = (false, factsErr ps g)) := by show _ = _; simp [underOf, hge]
          have hge' : (factsErr ps g == 0) = false := by simpa using hge
          go_wp2_with fail
          refine (Under_c _ _ _ _ ps f g (HP.out _ k10) (HF.out _ k10) (HG.out _ k10)).mono ?_
          rw [U1.out]
          rintro e w11 ⟨rfl, hb11⟩
          have q11 : Below ((w.alloc (.cells #[.int .i64 xp, .int .i64 xa, .int .i64 xb, .int .i64 xv] 25)).alloc (.cells #[.int .i64 yp, .int .i64 ya, .int .i64 yb, .int .i64 yv] 25)).heap.size ((w.alloc (.cells #[.int .i64 xp, .int .i64 xa, .int .i64 xb, .int .i64 xv] 25)).alloc (.cells #[.int .i64 yp, .int .i64 ya, .int .i64 yb, .int .i64 yv] 25)) w11 := q10.trans (hb11.mono q10.size)
          have HA_11 : Hid (factsAt w11 va (addF (kindOf ps) ⟨xp, xa, xb, xv⟩ f)) := factsAt.lasts hb11 HA_10.out
          clear HA_10
          have HB_11 : Hid (factsAt w11 vb (addF (kindOf ps) ⟨yp, ya, yb, yv⟩ f)) := factsAt.lasts hb11 HB_10.out
          clear HB_10
          have HG3_11 : Hid (factsAt w11 vc (addF (kindOf ps) ⟨xp, xa, xb, xv⟩ f)) := factsAt.lasts hb11 HG3_10.out
          clear HG3_10
          have HD_11 : Hid (factsAt w11 vd (addF (kindOf ps) ⟨yp, ya, yb, yv⟩ (addF (kindOf ps) ⟨xp, xa, xb, xv⟩ f))) := factsAt.lasts hb11 HD_10.out
          clear HD_10
          have HE_11 : Hid (factsAt w11 vf (addF (kindOf ps) ⟨yp, ya, yb, yv⟩ (addF (kindOf ps) ⟨xp, xa, xb, xv⟩ f))) := factsAt.lasts hb11 HE_10.out
          clear HE_10
          clear hb11 k10 c010 c110 c210 c310 d010 d110 d210 d310
          obtain ⟨k11, c011, c111, c211, c311, d011, d111, d211, d311⟩ := HL.out _ q11
          go_wp2_with fail
          refine (Under_c _ _ _ _ ps g f (HP.out _ k11) (HG.out _ k11) (HF.out _ k11)).mono ?_
          rw [U2.out]
          rintro e w12 ⟨rfl, hb12⟩
          have q12 : Below ((w.alloc (.cells #[.int .i64 xp, .int .i64 xa, .int .i64 xb, .int .i64 xv] 25)).alloc (.cells #[.int .i64 yp, .int .i64 ya, .int .i64 yb, .int .i64 yv] 25)).heap.size ((w.alloc (.cells #[.int .i64 xp, .int .i64 xa, .int .i64 xb, .int .i64 xv] 25)).alloc (.cells #[.int .i64 yp, .int .i64 ya, .int .i64 yb, .int .i64 yv] 25)) w12 := q11.trans (hb12.mono q11.size)
          have HA_12 : Hid (factsAt w12 va (addF (kindOf ps) ⟨xp, xa, xb, xv⟩ f)) := factsAt.lasts hb12 HA_11.out
          clear HA_11
          have HB_12 : Hid (factsAt w12 vb (addF (kindOf ps) ⟨yp, ya, yb, yv⟩ f)) := factsAt.lasts hb12 HB_11.out
          clear HB_11
          have HG3_12 : Hid (factsAt w12 vc (addF (kindOf ps) ⟨xp, xa, xb, xv⟩ f)) := factsAt.lasts hb12 HG3_11.out
          clear HG3_11
          have HD_12 : Hid (factsAt w12 vd (addF (kindOf ps) ⟨yp, ya, yb, yv⟩ (addF (kindOf ps) ⟨xp, xa, xb, xv⟩ f))) := factsAt.lasts hb12 HD_11.out
          clear HD_11
          have HE_12 : Hid (factsAt w12 vf (addF (kindOf ps) ⟨yp, ya, yb, yv⟩ (addF (kindOf ps) ⟨xp, xa, xb, xv⟩ f))) := factsAt.lasts hb12 HE_11.out
          clear HE_11
          clear hb12 k11 c011 c111 c211 c311 d011 d111 d211 d311
          obtain ⟨k12, c012, c112, c212, c312, d012, d112, d212, d312⟩ := HL.out _ q12
          go_wp2_with fail
          refine (baseBegun_c _).mono ?_
          rintro e w13 ⟨rfl, hb13⟩
          have q13 : Below ((w.alloc (.cells #[.int .i64 xp, .int .i64 xa, .int .i64 xb, .int .i64 xv] 25)).alloc (.cells #[.int .i64 yp, .int .i64 ya, .int .i64 yb, .int .i64 yv] 25)).heap.size ((w.alloc (.cells #[.int .i64 xp, .int .i64 xa, .int .i64 xb, .int .i64 xv] 25)).alloc (.cells #[.int .i64 yp, .int .i64 ya, .int .i64 yb, .int .i64 yv] 25)) w13 := q12.trans (hb13.mono q12.size)
          have HA_13 : Hid (factsAt w13 va (addF (kindOf ps) ⟨xp, xa, xb, xv⟩ f)) := factsAt.lasts hb13 HA_12.out
          clear HA_12
          have HB_13 : Hid (factsAt w13 vb (addF (kindOf ps) ⟨yp, ya, yb, yv⟩ f)) := factsAt.lasts hb13 HB_12.out
          clear HB_12
          have HG3_13 : Hid (factsAt w13 vc (addF (kindOf ps) ⟨xp, xa, xb, xv⟩ f)) := factsAt.lasts hb13 HG3_12.out
          clear HG3_12
          have HD_13 : Hid (factsAt w13 vd (addF (kindOf ps) ⟨yp, ya, yb, yv⟩ (addF (kindOf ps) ⟨xp, xa, xb, xv⟩ f))) := factsAt.lasts hb13 HD_12.out
          clear HD_12
          have HE_13 : Hid (factsAt w13 vf (addF (kindOf ps) ⟨yp, ya, yb, yv⟩ (addF (kindOf ps) ⟨xp, xa, xb, xv⟩ f))) := factsAt.lasts hb13 HE_12.out
          clear HE_12
          clear hb13 k12 c012 c112 c212 c312 d012 d112 d212 d312
          obtain ⟨k13, c013, c113, c213, c313, d013, d113, d213, d313⟩ := HL.out _ q13
          go_wp2_with fail
          go_ret
          exact ⟨rfl, k13⟩

    · have E1 : Hid (addOf ps f ⟨xp, xa, xb, xv⟩ = (addF (kindOf ps) ⟨xp, xa, xb, xv⟩ f, addC (kindOf ps) ⟨xp, xa, xb, xv⟩ f, 0)) := by show _ = _; simp [addOf, hex]
      have E2 : Hid (addOf ps f ⟨yp, ya, yb, yv⟩ = ([], false, withErr ps f ⟨yp, ya, yb, yv⟩)) := by show _ = _; simp [addOf, hey]
      have hey' : (withErr ps f ⟨yp, ya, yb, yv⟩ == 0) = false := by simpa using hey
      clear hex hey
      go_enter Try.func3, Try.ntmps3
      have q0 : Below ((w.alloc (.cells #[.int .i64 xp, .int .i64 xa, .int .i64 xb, .int .i64 xv] 25)).alloc (.cells #[.int .i64 yp, .int .i64 ya, .int .i64 yb, .int .i64 yv] 25)).heap.size ((w.alloc (.cells #[.int .i64 xp, .int .i64 xa, .int .i64 xb, .int .i64 xv] 25)).alloc (.cells #[.int .i64 yp, .int .i64 ya, .int .i64 yb, .int .i64 yv] 25)) ((w.alloc (.cells #[.int .i64 xp, .int .i64 xa, .int .i64 xb, .int .i64 xv] 25)).alloc (.cells #[.int .i64 yp, .int .i64 ya, .int .i64 yb, .int .i64 yv] 25)) := Below.refl _ _
      obtain ⟨k0, c00, c10, c20, c30, d00, d10, d20, d30⟩ := HL.out _ q0

      go_wp2_with fail
      refine (Add_c _ _ _ ps f _ _ _ _ (HP.out _ k0) (HF.out _ k0) HCF.out).mono ?_
      rw [E1.out]
      rintro e w1 ⟨va, rfl, hfn, hcn, hb1⟩
      have q1 : Below ((w.alloc (.cells #[.int .i64 xp, .int .i64 xa, .int .i64 xb, .int .i64 xv] 25)).alloc (.cells #[.int .i64 yp, .int .i64 ya, .int .i64 yb, .int .i64 yv] 25)).heap.size ((w.alloc (.cells #[.int .i64 xp, .int .i64 xa, .int .i64 xb, .int .i64 xv] 25)).alloc (.cells #[.int .i64 yp, .int .i64 ya, .int .i64 yb, .int .i64 yv] 25)) w1 := q0.trans (hb1.mono q0.size)
      clear hb1 k0 c00 c10 c20 c30 d00 d10 d20 d30
      obtain ⟨k1, c01, c11, c21, c31, d01, d11, d21, d31⟩ := HL.out _ q1
      go_wp2_with fail
      refine (Add_c _ _ _ ps f _ _ _ _ (HP.out _ k1) (HF.out _ k1) HCF.out).mono ?_
      rw [E2.out]
      rintro e w2 ⟨vb, rfl, hfn, hcn, hb2⟩
      have q2 : Below ((w.alloc (.cells #[.int .i64 xp, .int .i64 xa, .int .i64 xb, .int .i64 xv] 25)).alloc (.cells #[.int .i64 yp, .int .i64 ya, .int .i64 yb, .int .i64 yv] 25)).heap.size ((w.alloc (.cells #[.int .i64 xp, .int .i64 xa, .int .i64 xb, .int .i64 xv] 25)).alloc (.cells #[.int .i64 yp, .int .i64 ya, .int .i64 yb, .int .i64 yv] 25)) w2 := q1.trans (hb2.mono q1.size)
      clear hb2 k1 c01 c11 c21 c31 d01 d11 d21 d31
      obtain ⟨k2, c02, c12, c22, c32, d02, d12, d22, d32⟩ := HL.out _ q2
      go_wp2_with fail
      refine (baseBegun_c _).mono ?_
      rintro e w3 ⟨rfl, hb3⟩
      have q3 : Below ((w.alloc (.cells #[.int .i64 xp, .int .i64 xa, .int .i64 xb, .int .i64 xv] 25)).alloc (.cells #[.int .i64 yp, .int .i64 ya, .int .i64 yb, .int .i64 yv] 25)).heap.size ((w.alloc (.cells #[.int .i64 xp, .int .i64 xa, .int .i64 xb, .int .i64 xv] 25)).alloc (.cells #[.int .i64 yp, .int .i64 ya, .int .i64 yb, .int .i64 yv] 25)) w3 := q2.trans (hb3.mono q2.size)
      clear hb3 k2 c02 c12 c22 c32 d02 d12 d22 d32
      obtain ⟨k3, c03, c13, c23, c33, d03, d13, d23, d33⟩ := HL.out _ q3
      go_wp2_with fail
      go_ret
      exact ⟨rfl, k3⟩

  · have E1 : Hid (addOf ps f ⟨xp, xa, xb, xv⟩ = ([], false, withErr ps f ⟨xp, xa, xb, xv⟩)) := by show _ = _; simp [addOf, hex]
    have hex' : (withErr ps f ⟨xp, xa, xb, xv⟩ == 0) = false := by simpa using hex
    obtain ⟨L2, b2, e2, hR⟩ : ∃ L2 b2 e2, addOf ps f ⟨yp, ya, yb, yv⟩ = (L2, b2, e2) := ⟨_, _, _, rfl⟩
    have E2 : Hid (addOf ps f ⟨yp, ya, yb, yv⟩ = (L2, b2, e2)) := hR
    clear hex hR
    go_enter Try.func3, Try.ntmps3
    have q0 : Below ((w.alloc (.cells #[.int .i64 xp, .int .i64 xa, .int .i64 xb, .int .i64 xv] 25)).alloc (.cells #[.int .i64 yp, .int .i64 ya, .int .i64 yb, .int .i64 yv] 25)).heap.size ((w.alloc (.cells #[.int .i64 xp, .int .i64 xa, .int .i64 xb, .int .i64 xv] 25)).alloc (.cells #[.int .i64 yp, .int .i64 ya, .int .i64 yb, .int .i64 yv] 25)) ((w.alloc (.cells #[.int .i64 xp, .int .i64 xa, .int .i64 xb, .int .i64 xv] 25)).alloc (.cells #[.int .i64 yp, .int .i64 ya, .int .i64 yb, .int .i64 yv] 25)) := Below.refl _ _
    obtain ⟨k0, c00, c10, c20, c30, d00, d10, d20, d30⟩ := HL.out _ q0

    go_wp2_with fail
    refine (Add_c _ _ _ ps f _ _ _ _ (HP.out _ k0) (HF.out _ k0) HCF.out).mono ?_
    rw [E1.out]
    rintro e w1 ⟨va, rfl, hfn, hcn, hb1⟩
    have q1 : Below ((w.alloc (.cells #[.int .i64 xp, .int .i64 xa, .int .i64 xb, .int .i64 xv] 25)).alloc (.cells #[.int .i64 yp, .int .i64 ya, .int .i64 yb, .int .i64 yv] 25)).heap.size ((w.alloc (.cells #[.int .i64 xp, .int .i64 xa, .int .i64 xb, .int .i64 xv] 25)).alloc (.cells #[.int .i64 yp, .int .i64 ya, .int .i64 yb, .int .i64 yv] 25)) w1 := q0.trans (hb1.mono q0.size)
    clear hb1 k0 c00 c10 c20 c30 d00 d10 d20 d30
    obtain ⟨k1, c01, c11, c21, c31, d01, d11, d21, d31⟩ := HL.out _ q1
    go_wp2_with fail
    refine (Add_c _ _ _ ps f _ _ _ _ (HP.out _ k1) (HF.out _ k1) HCF.out).mono ?_
    rw [E2.out]
    rintro e w2 ⟨vb, rfl, hfn, hcn, hb2⟩
    have q2 : Below ((w.alloc (.cells #[.int .i64 xp, .int .i64 xa, .int .i64 xb, .int .i64 xv] 25)).alloc (.cells #[.int .i64 yp, .int .i64 ya, .int .i64 yb, .int .i64 yv] 25)).heap.size ((w.alloc (.cells #[.int .i64 xp, .int .i64 xa, .int .i64 xb, .int .i64 xv] 25)).alloc (.cells #[.int .i64 yp, .int .i64 ya, .int .i64 yb, .int .i64 yv] 25)) w2 := q1.trans (hb2.mono q1.size)
    clear hb2 k1 c01 c11 c21 c31 d01 d11 d21 d31
    obtain ⟨k2, c02, c12, c22, c32, d02, d12, d22, d32⟩ := HL.out _ q2
    go_wp2_with fail
    refine (baseBegun_c _).mono ?_
    rintro e w3 ⟨rfl, hb3⟩
    have q3 : Below ((w.alloc (.cells #[.int .i64 xp, .int .i64 xa, .int .i64 xb, .int .i64 xv] 25)).alloc (.cells #[.int .i64 yp, .int .i64 ya, .int .i64 yb, .int .i64 yv] 25)).heap.size ((w.alloc (.cells #[.int .i64 xp, .int .i64 xa, .int .i64 xb, .int .i64 xv] 25)).alloc (.cells #[.int .i64 yp, .int .i64 ya, .int .i64 yb, .int .i64 yv] 25)) w3 := q2.trans (hb3.mono q2.size)
    clear hb3 k2 c02 c12 c22 c32 d02 d12 d22 d32
    obtain ⟨k3, c03, c13, c23, c33, d03, d13, d23, d33⟩ := HL.out _ q3
    go_wp2_with fail
    go_ret
    exact ⟨rfl, k3⟩


set_option maxRecDepth 100000 in
theorem true_lifted (os : Os) (started : os.Started) (H : Type) (enc : TypeId × Value → H) :
    ReturnsInHanded {} Try.checked os 3 .any (Rows.baseTrueSpec.pre6 enc Try.prog Try.f3 Rows.baseTrueRow.domain false) (Rows.baseTrueSpec.post enc Try.prog Try.f3 false true false false) := by
  refine Kit.lifted_of (C := Try.checked) (t := 4) (by kernel_rfl) started (by kernel_rfl) Try.func3
    (ChangeSpec.witness6 (enc := enc) (C := Try.checked) false ⟨#[], #[.slice none 0 0, .slice none 0 0, .slice none 0 0, .agg #[.int .i64 0, .int .i64 0, .int .i64 0, .int .i64 0], .agg #[.int .i64 0, .int .i64 0, .int .i64 0, .int .i64 0]], []⟩ 8 (by kernel_rfl) (by kernel_rfl) (by kernel_rfl) (by kernel_rfl))
    (by kernel_rfl) (by kernel_rfl) (by kernel_rfl) Try.underlying4 rfl ?_ ?_
  · intro ds hds
    rw [show Try.f3.params.toList.length = 5 by kernel_rfl] at hds
    match ds, hds with
    | [d0, d1, d2, d3, d4], _ => rfl
  · intro W base args ds ps hval0 hA0 hsz0
    have hval : ∀ (j : Nat) t v, Try.f3.params[j]? = some t → args[j]? = some v → Value.okWide Try.prog W .any base t v := hval0
    have hA : DataW.TrodAll enc Try.prog W 0 (fun _ => true) true Try.f3.params.toList args.toList ds ps := hA0
    have hsz : (DataW.weightsEach Try.prog (Try.f3.params.toList ++ []) (ds ++ [])).all (· ≤ reachBytes) = true := hsz0
    rw [Try.params3] at hA hval hsz
    obtain ⟨v0, vs0, d0, ds0, p0, q0, hargs, rfl, rfl, h0, r0⟩ := trodAll_cons hA
    obtain ⟨v1, vs1, d1, ds1, p1, q1, rfl, rfl, rfl, h1, r1⟩ := trodAll_cons r0
    obtain ⟨v2, vs2, d2, ds2, p2, q2, rfl, rfl, rfl, h2, r2⟩ := trodAll_cons r1
    obtain ⟨v3, vs3, d3, ds3, p3, q3, rfl, rfl, rfl, h3, r3⟩ := trodAll_cons r2
    obtain ⟨v4, vs4, d4, ds4, p4, q4, rfl, rfl, rfl, h4, r4⟩ := trodAll_cons r3
    obtain ⟨rfl, rfl, rfl⟩ := trodAll_nil r4
    obtain rfl : args = #[v0, v1, v2, v3, v4] := by cases args; simp_all
    have hL := Open.light_all hsz
    simp only [List.append_nil, DataW.weightsEach] at hL
    obtain ⟨n0, t0⟩ := Open.trod_one h0
    obtain ⟨n1, t1⟩ := Open.trod_one h1
    obtain ⟨n2, t2⟩ := Open.trod_one h2
    obtain ⟨n3, t3⟩ := Open.trod_one h3
    obtain ⟨n4, t4⟩ := Open.trod_one h4
    obtain ⟨pv, ps, e0, hp⟩ := Open.preds_of t0 (Open.light_left hL)
    obtain ⟨fv, f, e1, hf, hcf⟩ := Open.facts_of t1 (Open.light_left (Open.light_right hL))
    obtain ⟨gv, g, e2, hg, _⟩ := Open.facts_of t2 (Open.light_left (Open.light_right (Open.light_right hL)))
    obtain ⟨x, e3⟩ := Open.fact_of t3
    obtain ⟨y, e4⟩ := Open.fact_of t4
    obtain rfl := Open.slice_of Try.underlying22 (hval 0 22 v0 rfl rfl) e0
    obtain rfl := Open.slice_of Try.underlying23 (hval 1 23 v1 rfl rfl) e1
    obtain rfl := Open.slice_of Try.underlying23 (hval 2 23 v2 rfl rfl) e2
    obtain rfl := Open.agg_of Try.underlying25 (hval 3 25 v3 rfl rfl) e3
    obtain rfl := Open.agg_of Try.underlying25 (hval 4 25 v4 rfl rfl) e4
    exact true_walk W v0 v1 v2 ps f g x y hp hf hg hcf
end Go.Proofs.Ytgbacodellfacac.Base
namespace Go.Proofs.Ytgbacodellfacac
/-- THE STATEMENT -/
theorem baseTrue_proved : Rows.BaseTrueSaid :=
  OpenClaim.holds_of_wide 3 Try.f3 rfl rfl rfl rfl rfl rfl rfl ⟨rfl, rfl, rfl, rfl, rfl⟩ rfl rfl rfl rfl rfl (by kernel_rfl) Try.func3 (by kernel_rfl)
    (of_decide_eq_true (by kernel_rfl)) (by unfold Func.isWrapper; first | (rw [if_pos (by decide +kernel)]; kernel_rfl) | (rw [if_neg (by decide +kernel)]; exact ⟨rfl, rfl⟩))
    (fun os started H enc _ => Base.true_lifted os started H enc)
#print axioms baseTrue_proved
end Go.Proofs.Ytgbacodellfacac
