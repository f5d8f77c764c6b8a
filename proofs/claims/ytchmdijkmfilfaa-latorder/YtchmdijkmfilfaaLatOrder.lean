/-
  LatOrder answers true whatever it is handed: Leq of package lat is an order, and 0 lifts nothing.
-/
import Derived.Test.YtchmdijkmfilfaaKit
import Derived.Test.YtchmdijkmfilfaaLatBegun
namespace Go.Proofs.Ytchmdijkmfilfaa.Lat
open Go.ChangeShapes Go.WideShapes Go.ChangeAt Go.RowKit

theorem err2_first {k a b : Int} (h : err k a ≠ 0) : err2 k a b = err k a := by simp [err2, h]
theorem err2_second {k a b : Int} (h : err k a = 0) : err2 k a b = err k b := by simp [err2, h]
theorem err_at0 {k a : Int} (h : err k a = 0) : err k 0 = 0 := by
  obtain ⟨hk, _⟩ := err_ok h
  rcases hk with rfl | rfl | rfl | rfl <;> rfl
/-- the first error comes of e -/
theorem order_bad1 (k a b c : Int) (w : World) (h : (err2 k a a != 0) = true) :
    Calls Try.prog 6 #[.int .i64 k, .int .i64 a, .int .i64 b, .int .i64 c] w fun e w' => e = .returned (.bool true) ∧ Below w.heap.size w w' := by
  go_enter Try.func6, Try.ntmps6
  go_wp2_with fail
  refine (Leq_c _ _ _ _).mono ?_
  rintro e w1 ⟨rfl, b1⟩
  go_wp2_with fail
  refine (Leq_c _ _ _ _).mono ?_
  rintro e w2 ⟨rfl, b2⟩
  go_wp2_with fail
  refine (Leq_c _ _ _ _).mono ?_
  rintro e w3 ⟨rfl, b3⟩
  go_wp2_with fail
  refine (Leq_c _ _ _ _).mono ?_
  rintro e w4 ⟨rfl, b4⟩
  go_wp2_with fail
  refine (Leq_c _ _ _ _).mono ?_
  rintro e w5 ⟨rfl, b5⟩
  go_wp2_with fail
  refine (Lift_c _ _ _ _).mono ?_
  rintro e w6 ⟨rfl, b6⟩
  go_wp2_with fail
  refine (latBegun_c _).mono ?_
  rintro e w7 ⟨rfl, b7⟩
  go_wp2_with fail
  go_ret
  exact ⟨rfl, below_trans b1 (below_trans b2 (below_trans b3 (below_trans b4 (below_trans b5 (below_trans b6 b7)))))⟩

theorem order_bad2 (k a b c : Int) (w : World) (h1 : (err2 k a a != 0) = false) (h : (err2 k a b != 0) = true) :
    Calls Try.prog 6 #[.int .i64 k, .int .i64 a, .int .i64 b, .int .i64 c] w fun e w' => e = .returned (.bool true) ∧ Below w.heap.size w w' := by
  go_enter Try.func6, Try.ntmps6
  go_wp2_with fail
  refine (Leq_c _ _ _ _).mono ?_
  rintro e w1 ⟨rfl, b1⟩
  go_wp2_with fail
  refine (Leq_c _ _ _ _).mono ?_
  rintro e w2 ⟨rfl, b2⟩
  go_wp2_with fail
  refine (Leq_c _ _ _ _).mono ?_
  rintro e w3 ⟨rfl, b3⟩
  go_wp2_with fail
  refine (Leq_c _ _ _ _).mono ?_
  rintro e w4 ⟨rfl, b4⟩
  go_wp2_with fail
  refine (Leq_c _ _ _ _).mono ?_
  rintro e w5 ⟨rfl, b5⟩
  go_wp2_with fail
  refine (Lift_c _ _ _ _).mono ?_
  rintro e w6 ⟨rfl, b6⟩
  go_wp2_with fail
  refine (latBegun_c _).mono ?_
  rintro e w7 ⟨rfl, b7⟩
  go_wp2_with fail
  go_ret
  exact ⟨rfl, below_trans b1 (below_trans b2 (below_trans b3 (below_trans b4 (below_trans b5 (below_trans b6 b7)))))⟩

theorem order_bad4 (k a b c : Int) (w : World) (h1 : (err2 k a a != 0) = false) (h2 : (err2 k a b != 0) = false) (h3 : (err2 k b a != 0) = false) (h : (err2 k b c != 0) = true) :
    Calls Try.prog 6 #[.int .i64 k, .int .i64 a, .int .i64 b, .int .i64 c] w fun e w' => e = .returned (.bool true) ∧ Below w.heap.size w w' := by
  go_enter Try.func6, Try.ntmps6
  go_wp2_with fail
  refine (Leq_c _ _ _ _).mono ?_
  rintro e w1 ⟨rfl, b1⟩
  go_wp2_with fail
  refine (Leq_c _ _ _ _).mono ?_
  rintro e w2 ⟨rfl, b2⟩
  go_wp2_with fail
  refine (Leq_c _ _ _ _).mono ?_
  rintro e w3 ⟨rfl, b3⟩
  go_wp2_with fail
  refine (Leq_c _ _ _ _).mono ?_
  rintro e w4 ⟨rfl, b4⟩
  go_wp2_with fail
  refine (Leq_c _ _ _ _).mono ?_
  rintro e w5 ⟨rfl, b5⟩
  go_wp2_with fail
  refine (Lift_c _ _ _ _).mono ?_
  rintro e w6 ⟨rfl, b6⟩
  go_wp2_with fail
  refine (latBegun_c _).mono ?_
  rintro e w7 ⟨rfl, b7⟩
  go_wp2_with fail
  go_ret
  exact ⟨rfl, below_trans b1 (below_trans b2 (below_trans b3 (below_trans b4 (below_trans b5 (below_trans b6 b7)))))⟩

set_option maxHeartbeats 4000000 in
theorem order_good (k a b c : Int) (ab ba bc ac q : Bool) (w : World) (h1 : err2 k a a = 0) (h2 : err2 k a b = 0) (h3 : err2 k b a = 0) (h4 : err2 k b c = 0) (h5 : err2 k a c = 0) (h6 : err2 k a 0 = 0)
    (g1 : leq k a a = true) (g2 : leq k a b = ab) (g3 : leq k b a = ba) (g4 : leq k b c = bc) (g5 : leq k a c = ac) (g6 : liftOf k a 0 = a) (g7 : (a == b) = q)
    (d1 : (ab && ba) = q) (d2 : (!ab || !bc || ac) = true) :
    Calls Try.prog 6 #[.int .i64 k, .int .i64 a, .int .i64 b, .int .i64 c] w fun e w' => e = .returned (.bool true) ∧ Below w.heap.size w w' := by
  cases q <;> cases ab <;> cases ba <;> first | (cases d1; done) | skip
  all_goals clear d1
  all_goals (try (cases bc <;> try (cases ac <;> first | (cases d2; done) | skip)))
  all_goals (try clear d2)
  all_goals
    go_enter Try.func6, Try.ntmps6
    go_wp2_with fail
    refine (Leq_c _ _ _ _).mono ?_
    rintro e w1 ⟨rfl, b1⟩
    go_wp2_with fail
    refine (Leq_c _ _ _ _).mono ?_
    rintro e w2 ⟨rfl, b2⟩
    go_wp2_with fail
    refine (Leq_c _ _ _ _).mono ?_
    rintro e w3 ⟨rfl, b3⟩
    go_wp2_with fail
    refine (Leq_c _ _ _ _).mono ?_
    rintro e w4 ⟨rfl, b4⟩
    go_wp2_with fail
    refine (Leq_c _ _ _ _).mono ?_
    rintro e w5 ⟨rfl, b5⟩
    go_wp2_with fail
    refine (Lift_c _ _ _ _).mono ?_
    rintro e w6 ⟨rfl, b6⟩
    go_wp2_with fail
    refine (latBegun_c _).mono ?_
    rintro e w7 ⟨rfl, b7⟩
    go_wp2_with fail
    go_ret
    exact ⟨rfl, below_trans b1 (below_trans b2 (below_trans b3 (below_trans b4 (below_trans b5 (below_trans b6 b7)))))⟩

theorem order_walk (k a b c : Int) (w : World) :
    Calls Try.prog 6 #[.int .i64 k, .int .i64 a, .int .i64 b, .int .i64 c] w fun e w' => e = .returned (.bool true) ∧ Below w.heap.size w w' := by
  by_cases ha : err k a = 0
  · by_cases hb : err k b = 0
    · by_cases hc : err k c = 0
      · refine order_good k a b c (leq k a b) (leq k b a) (leq k b c) (leq k a c) (a == b) w (by rw [err2_second ha, ha]) (by rw [err2_second ha, hb]) (by rw [err2_second hb, ha]) (by rw [err2_second hb, hc]) (by rw [err2_second ha, hc]) (by rw [err2_second ha, err_at0 ha]) ((leq_iff ha ha).2 (le_self ha)) rfl rfl rfl rfl ?_ rfl ?_ ?_
        · rw [liftOf, if_pos (by rw [err2_second ha, err_at0 ha]), lift_zero ha]
        · rw [Bool.eq_iff_iff, Bool.and_eq_true, leq_iff ha hb, leq_iff hb ha, beq_iff_eq]
          constructor
          · rintro ⟨h1, h2⟩
            exact le_anti ha hb h1 h2
          · rintro rfl
            exact ⟨le_self ha, le_self ha⟩
        · cases h1 : leq k a b
          · rfl
          · cases h2 : leq k b c
            · rfl
            · rw [leq_iff ha hb] at h1
              rw [leq_iff hb hc] at h2
              rw [(leq_iff ha hc).2 (le_trans ha hb hc h1 h2)]
              rfl
      · exact order_bad4 k a b c w (by rw [err2_second ha, ha]; rfl) (by rw [err2_second ha, hb]; rfl) (by rw [err2_second hb, ha]; rfl) (by rw [err2_second hb]; simpa using hc)
    · exact order_bad2 k a b c w (by rw [err2_second ha, ha]; rfl) (by rw [err2_second ha]; simpa using hb)
  · exact order_bad1 k a b c w (by rw [err2_first ha]; simpa using ha)

set_option maxRecDepth 100000 in
theorem order_lifted (os : Os) (started : os.Started) (H : Type) (enc : TypeId × Value → H) :
    ReturnsInHanded {} Try.checked os 6 .any (Rows.latOrderSpec.pre6 enc Try.prog Try.f6 Rows.latOrderRow.domain false) (Rows.latOrderSpec.post enc Try.prog Try.f6 false true false false) := by
  refine Kit.lifted_of (C := Try.checked) (t := 4) (by kernel_rfl) started (by kernel_rfl) Try.func6
    (ChangeSpec.witness6 (enc := enc) (C := Try.checked) false ⟨#[], #[.int .i64 0, .int .i64 0, .int .i64 0, .int .i64 0], []⟩ 8 (by kernel_rfl) (by kernel_rfl) (by kernel_rfl) (by kernel_rfl))
    (by kernel_rfl) (by kernel_rfl) (by kernel_rfl) Try.underlying4 rfl ?_ ?_
  · intro ds hds
    rw [show Try.f6.params.toList.length = 4 by kernel_rfl] at hds
    match ds, hds with
    | [d0, d1, d2, d3], _ => rfl
  · intro W base args ds ps hval0 hA0 _
    have hval : ∀ (j : Nat) t v, Try.f6.params[j]? = some t → args[j]? = some v → Value.okWide Try.prog W .any base t v := hval0
    have hA : DataW.TrodAll enc Try.prog W 0 (fun _ => true) true Try.f6.params.toList args.toList ds ps := hA0
    rw [Try.params6] at hA hval
    obtain ⟨v0, vs0, d0, ds0, p0, q0, hargs, rfl, rfl, h0, r0⟩ := trodAll_cons hA
    obtain ⟨v1, vs1, d1, ds1, p1, q1, rfl, rfl, rfl, h1, r1⟩ := trodAll_cons r0
    obtain ⟨v2, vs2, d2, ds2, p2, q2, rfl, rfl, rfl, h2, r2⟩ := trodAll_cons r1
    obtain ⟨v3, vs3, d3, ds3, p3, q3, rfl, rfl, rfl, h3, r3⟩ := trodAll_cons r2
    obtain ⟨rfl, rfl, rfl⟩ := trodAll_nil r3
    obtain rfl : args = #[v0, v1, v2, v3] := by cases args; simp_all
    obtain ⟨a0, rfl, rfl, rfl, w0⟩ := open_int Try.underlying3 (hval 0 3 v0 rfl rfl) h0
    obtain ⟨a1, rfl, rfl, rfl, w1⟩ := open_int Try.underlying3 (hval 1 3 v1 rfl rfl) h1
    obtain ⟨a2, rfl, rfl, rfl, w2⟩ := open_int Try.underlying3 (hval 2 3 v2 rfl rfl) h2
    obtain ⟨a3, rfl, rfl, rfl, w3⟩ := open_int Try.underlying3 (hval 3 3 v3 rfl rfl) h3
    exact order_walk a0 a1 a2 a3 W

end Go.Proofs.Ytchmdijkmfilfaa.Lat
namespace Go.Proofs.Ytchmdijkmfilfaa
/-- THE STATEMENT -/
theorem latOrder_proved : Rows.LatOrderSaid :=
  OpenClaim.holds_of_wide 6 Try.f6 rfl rfl rfl rfl rfl rfl rfl ⟨rfl, rfl, rfl, rfl, rfl⟩ rfl rfl rfl rfl rfl (by kernel_rfl) Try.func6 (by kernel_rfl)
    (of_decide_eq_true (by kernel_rfl)) (by unfold Func.isWrapper; first | (rw [if_pos (by decide +kernel)]; kernel_rfl) | (rw [if_neg (by decide +kernel)]; exact ⟨rfl, rfl⟩))
    (fun os started H enc _ => Lat.order_lifted os started H enc)
#print axioms latOrder_proved
end Go.Proofs.Ytchmdijkmfilfaa
