/-
  LatTrue answers true whatever it is handed: Join of package lat is the least of what is above both, in whatever order and once more; what is below is below, lifted too.
-/
import Derived.Test.YtchmdijkmfilfaaKit
import Derived.Test.YtchmdijkmfilfaaLatBegun
namespace Go.Proofs.Ytchmdijkmfilfaa.Lat
open Go.ChangeShapes Go.WideShapes Go.ChangeAt Go.RowKit

theorem e2_first {k a b : Int} (h : err k a ≠ 0) : err2 k a b = err k a := by simp [err2, h]
theorem e2_second {k a b : Int} (h : err k a = 0) : err2 k a b = err k b := by simp [err2, h]
theorem e2_both {k a b : Int} (h : err k a = 0) (g : err k b = 0) : err2 k a b = 0 := by rw [e2_second h, g]
theorem joinOf_ok {k a b : Int} (h : err k a = 0) (g : err k b = 0) : joinOf k a b = join k a b := by rw [joinOf, if_pos (e2_both h g)]
theorem liftOf_ok {k a b : Int} (h : err k a = 0) (g : err k b = 0) : liftOf k a b = lift k a b := by rw [liftOf, if_pos (e2_both h g)]

set_option maxRecDepth 100000 in
theorem true_bad1 (k a b c n : Int) (w : World) (h1 : (err2 k a b != 0) = true) :
    Calls Try.prog 5 #[.int .i64 k, .int .i64 a, .int .i64 b, .int .i64 c, .int .i64 n] w fun e w' => e = .returned (.bool true) ∧ Below w.heap.size w w' := by
  go_enter Try.func5, Try.ntmps5
  go_wp2_with fail
  refine (Join_c _ _ _ _).mono ?_
  rintro e w1 ⟨rfl, b1⟩
  go_wp2_with fail
  refine (Join_c _ _ _ _).mono ?_
  rintro e w2 ⟨rfl, b2⟩
  go_wp2_with fail
  refine (Join_c _ _ _ _).mono ?_
  rintro e w3 ⟨rfl, b3⟩
  go_wp2_with fail
  refine (Lift_c _ _ _ _).mono ?_
  rintro e w4 ⟨rfl, b4⟩
  go_wp2_with fail
  refine (Lift_c _ _ _ _).mono ?_
  rintro e w5 ⟨rfl, b5⟩
  go_wp2_with fail
  refine (latBegun_c _).mono ?_
  rintro e w6 ⟨rfl, b6⟩
  go_wp2_with fail
  go_ret
  exact ⟨rfl, below_trans b1 (below_trans b2 (below_trans b3 (below_trans b4 (below_trans b5 (b6)))))⟩

set_option maxRecDepth 100000 in
theorem true_bad3 (k a b c n : Int) (w : World) (h1 : (err2 k a b != 0) = false) (h2 : (err2 k b a != 0) = false) (h3 : (err2 k b c != 0) = true) :
    Calls Try.prog 5 #[.int .i64 k, .int .i64 a, .int .i64 b, .int .i64 c, .int .i64 n] w fun e w' => e = .returned (.bool true) ∧ Below w.heap.size w w' := by
  go_enter Try.func5, Try.ntmps5
  go_wp2_with fail
  refine (Join_c _ _ _ _).mono ?_
  rintro e w1 ⟨rfl, b1⟩
  go_wp2_with fail
  refine (Join_c _ _ _ _).mono ?_
  rintro e w2 ⟨rfl, b2⟩
  go_wp2_with fail
  refine (Join_c _ _ _ _).mono ?_
  rintro e w3 ⟨rfl, b3⟩
  go_wp2_with fail
  refine (Lift_c _ _ _ _).mono ?_
  rintro e w4 ⟨rfl, b4⟩
  go_wp2_with fail
  refine (Lift_c _ _ _ _).mono ?_
  rintro e w5 ⟨rfl, b5⟩
  go_wp2_with fail
  refine (latBegun_c _).mono ?_
  rintro e w6 ⟨rfl, b6⟩
  go_wp2_with fail
  go_ret
  exact ⟨rfl, below_trans b1 (below_trans b2 (below_trans b3 (below_trans b4 (below_trans b5 (b6)))))⟩

set_option maxRecDepth 100000 in
theorem true_bad4 (k a b c n : Int) (w : World) (h1 : (err2 k a b != 0) = false) (h2 : (err2 k b a != 0) = false) (h3 : (err2 k b c != 0) = false) (h4 : (err2 k a n != 0) = true) :
    Calls Try.prog 5 #[.int .i64 k, .int .i64 a, .int .i64 b, .int .i64 c, .int .i64 n] w fun e w' => e = .returned (.bool true) ∧ Below w.heap.size w w' := by
  go_enter Try.func5, Try.ntmps5
  go_wp2_with fail
  refine (Join_c _ _ _ _).mono ?_
  rintro e w1 ⟨rfl, b1⟩
  go_wp2_with fail
  refine (Join_c _ _ _ _).mono ?_
  rintro e w2 ⟨rfl, b2⟩
  go_wp2_with fail
  refine (Join_c _ _ _ _).mono ?_
  rintro e w3 ⟨rfl, b3⟩
  go_wp2_with fail
  refine (Lift_c _ _ _ _).mono ?_
  rintro e w4 ⟨rfl, b4⟩
  go_wp2_with fail
  refine (Lift_c _ _ _ _).mono ?_
  rintro e w5 ⟨rfl, b5⟩
  go_wp2_with fail
  refine (latBegun_c _).mono ?_
  rintro e w6 ⟨rfl, b6⟩
  go_wp2_with fail
  go_ret
  exact ⟨rfl, below_trans b1 (below_trans b2 (below_trans b3 (below_trans b4 (below_trans b5 (b6)))))⟩

set_option maxRecDepth 100000 in
set_option maxHeartbeats 8000000 in
theorem true_good (k a b c n P Q X Y R : Int) (la lb less raised : Bool) (w : World) (h1 : err2 k a b = 0) (h2 : err2 k b a = 0) (h3 : err2 k b c = 0) (h4 : err2 k a n = 0) (h5 : err2 k b n = 0)
    (j1 : joinOf k a b = P) (j2 : joinOf k b a = P) (j3 : joinOf k b c = Q) (j4 : liftOf k a n = X) (j5 : liftOf k b n = Y)
    (h6 : err2 k P c = 0) (j6 : joinOf k P c = R) (h7 : err2 k a Q = 0) (j7 : joinOf k a Q = R) (h8 : err2 k a a = 0) (j8 : joinOf k a a = a) (h9 : err2 k a P = 0) (j9 : leq k a P = true)
    (h10 : err2 k a c = 0) (j10 : leq k a c = la) (j11 : leq k b c = lb) (j12 : leq k P c = (la && lb)) (j13 : leq k a b = less) (h14 : err2 k X Y = 0) (j14 : leq k X Y = raised) (d : (!less || raised) = true) :
    Calls Try.prog 5 #[.int .i64 k, .int .i64 a, .int .i64 b, .int .i64 c, .int .i64 n] w fun e w' => e = .returned (.bool true) ∧ Below w.heap.size w w' := by
  cases less <;> try (cases raised <;> first | (cases d; done) | skip)
  all_goals clear d
  all_goals (cases la <;> cases lb <;> simp only [Bool.and_true, Bool.and_false] at j12)
  all_goals
    go_enter Try.func5, Try.ntmps5
    go_wp2_with fail
    refine (Join_c _ _ _ _).mono ?_
    rintro e w1 ⟨rfl, b1⟩
    go_wp2_with fail
    refine (Join_c _ _ _ _).mono ?_
    rintro e w2 ⟨rfl, b2⟩
    go_wp2_with fail
    refine (Join_c _ _ _ _).mono ?_
    rintro e w3 ⟨rfl, b3⟩
    go_wp2_with fail
    refine (Lift_c _ _ _ _).mono ?_
    rintro e w4 ⟨rfl, b4⟩
    go_wp2_with fail
    refine (Lift_c _ _ _ _).mono ?_
    rintro e w5 ⟨rfl, b5⟩
    go_wp2_with fail
    refine (Join_c _ _ _ _).mono ?_
    rintro e w6 ⟨rfl, b6⟩
    go_wp2_with fail
    refine (Join_c _ _ _ _).mono ?_
    rintro e w7 ⟨rfl, b7⟩
    go_wp2_with fail
    refine (Join_c _ _ _ _).mono ?_
    rintro e w8 ⟨rfl, b8⟩
    go_wp2_with fail
    refine (Leq_c _ _ _ _).mono ?_
    rintro e w9 ⟨rfl, b9⟩
    go_wp2_with fail
    refine (Leq_c _ _ _ _).mono ?_
    rintro e w10 ⟨rfl, b10⟩
    go_wp2_with fail
    refine (Leq_c _ _ _ _).mono ?_
    rintro e w11 ⟨rfl, b11⟩
    go_wp2_with fail
    refine (Leq_c _ _ _ _).mono ?_
    rintro e w12 ⟨rfl, b12⟩
    go_wp2_with fail
    refine (Leq_c _ _ _ _).mono ?_
    rintro e w13 ⟨rfl, b13⟩
    go_wp2_with fail
    refine (Leq_c _ _ _ _).mono ?_
    rintro e w14 ⟨rfl, b14⟩
    go_wp2_with fail
    refine (latBegun_c _).mono ?_
    rintro e w15 ⟨rfl, b15⟩
    go_wp2_with fail
    go_ret
    exact ⟨rfl, below_trans b1 (below_trans b2 (below_trans b3 (below_trans b4 (below_trans b5 (below_trans b6 (below_trans b7 (below_trans b8 (below_trans b9 (below_trans b10 (below_trans b11 (below_trans b12 (below_trans b13 (below_trans b14 (b15))))))))))))))⟩

theorem true_walk (k a b c n : Int) (w : World) :
    Calls Try.prog 5 #[.int .i64 k, .int .i64 a, .int .i64 b, .int .i64 c, .int .i64 n] w fun e w' => e = .returned (.bool true) ∧ Below w.heap.size w w' := by
  by_cases ha : err k a = 0
  · by_cases hb : err k b = 0
    · by_cases hc : err k c = 0
      · by_cases hn : err k n = 0
        · have hab := err_join ha hb
          have hbc := err_join hb hc
          have hx := err_lift ha hn
          have hy := err_lift hb hn
          refine true_good k a b c n (join k a b) (join k b c) (lift k a n) (lift k b n) (join k (join k a b) c) (leq k a c) (leq k b c) (leq k a b) (leq k (lift k a n) (lift k b n)) w
            (e2_both ha hb) (e2_both hb ha) (e2_both hb hc) (e2_both ha hn) (e2_both hb hn) (joinOf_ok ha hb) (by rw [joinOf_ok hb ha, join_comm hb ha]) (joinOf_ok hb hc) (liftOf_ok ha hn) (liftOf_ok hb hn)
            (e2_both hab hc) (joinOf_ok hab hc) (e2_both ha hbc) (by rw [joinOf_ok ha hbc, join_assoc ha hb hc]) (e2_both ha ha) (by rw [joinOf_ok ha ha, join_self ha]) (e2_both ha hab) ((leq_iff ha hab).2 (le_join_left ha hb))
            (e2_both ha hc) rfl rfl ?_ rfl (e2_both hx hy) rfl ?_
          · rw [Bool.eq_iff_iff, Bool.and_eq_true, leq_iff hab hc, leq_iff ha hc, leq_iff hb hc]
            exact join_le ha hb hc
          · cases h1 : leq k a b
            · rfl
            · rw [leq_iff ha hb] at h1
              rw [(leq_iff hx hy).2 (le_lift ha hb hn h1)]
              rfl
        · exact true_bad4 k a b c n w (by rw [e2_both ha hb]; rfl) (by rw [e2_both hb ha]; rfl) (by rw [e2_both hb hc]; rfl) (by rw [e2_second ha]; simpa using hn)
      · exact true_bad3 k a b c n w (by rw [e2_both ha hb]; rfl) (by rw [e2_both hb ha]; rfl) (by rw [e2_second hb]; simpa using hc)
    · exact true_bad1 k a b c n w (by rw [e2_second ha]; simpa using hb)
  · exact true_bad1 k a b c n w (by rw [e2_first ha]; simpa using ha)

set_option maxRecDepth 100000 in
theorem true_lifted (os : Os) (started : os.Started) (H : Type) (enc : TypeId × Value → H) :
    ReturnsInHanded {} Try.checked os 5 .any (Rows.latTrueSpec.pre6 enc Try.prog Try.f5 Rows.latTrueRow.domain false) (Rows.latTrueSpec.post enc Try.prog Try.f5 false true false false) := by
  refine Kit.lifted_of (C := Try.checked) (t := 4) (by kernel_rfl) started (by kernel_rfl) Try.func5
    (ChangeSpec.witness6 (enc := enc) (C := Try.checked) false ⟨#[], #[.int .i64 0, .int .i64 0, .int .i64 0, .int .i64 0, .int .i64 0], []⟩ 8 (by kernel_rfl) (by kernel_rfl) (by kernel_rfl) (by kernel_rfl))
    (by kernel_rfl) (by kernel_rfl) (by kernel_rfl) Try.underlying4 rfl ?_ ?_
  · intro ds hds
    rw [show Try.f5.params.toList.length = 5 by kernel_rfl] at hds
    match ds, hds with
    | [d0, d1, d2, d3, d4], _ => rfl
  · intro W base args ds ps hval0 hA0 _
    have hval : ∀ (j : Nat) t v, Try.f5.params[j]? = some t → args[j]? = some v → Value.okWide Try.prog W .any base t v := hval0
    have hA : DataW.TrodAll enc Try.prog W 0 (fun _ => true) true Try.f5.params.toList args.toList ds ps := hA0
    rw [Try.params5] at hA hval
    obtain ⟨v0, vs0, d0, ds0, p0, q0, hargs, rfl, rfl, h0, r0⟩ := trodAll_cons hA
    obtain ⟨v1, vs1, d1, ds1, p1, q1, rfl, rfl, rfl, h1, r1⟩ := trodAll_cons r0
    obtain ⟨v2, vs2, d2, ds2, p2, q2, rfl, rfl, rfl, h2, r2⟩ := trodAll_cons r1
    obtain ⟨v3, vs3, d3, ds3, p3, q3, rfl, rfl, rfl, h3, r3⟩ := trodAll_cons r2
    obtain ⟨v4, vs4, d4, ds4, p4, q4, rfl, rfl, rfl, h4, r4⟩ := trodAll_cons r3
    obtain ⟨rfl, rfl, rfl⟩ := trodAll_nil r4
    obtain rfl : args = #[v0, v1, v2, v3, v4] := by cases args; simp_all
    obtain ⟨a0, rfl, rfl, rfl, w0⟩ := open_int Try.underlying3 (hval 0 3 v0 rfl rfl) h0
    obtain ⟨a1, rfl, rfl, rfl, w1⟩ := open_int Try.underlying3 (hval 1 3 v1 rfl rfl) h1
    obtain ⟨a2, rfl, rfl, rfl, w2⟩ := open_int Try.underlying3 (hval 2 3 v2 rfl rfl) h2
    obtain ⟨a3, rfl, rfl, rfl, w3⟩ := open_int Try.underlying3 (hval 3 3 v3 rfl rfl) h3
    obtain ⟨a4, rfl, rfl, rfl, w4⟩ := open_int Try.underlying3 (hval 4 3 v4 rfl rfl) h4
    exact true_walk a0 a1 a2 a3 a4 W

end Go.Proofs.Ytchmdijkmfilfaa.Lat
namespace Go.Proofs.Ytchmdijkmfilfaa
/-- THE STATEMENT -/
theorem latTrue_proved : Rows.LatTrueSaid :=
  OpenClaim.holds_of_wide 5 Try.f5 rfl rfl rfl rfl rfl rfl rfl ⟨rfl, rfl, rfl, rfl, rfl⟩ rfl rfl rfl rfl rfl (by kernel_rfl) Try.func5 (by kernel_rfl)
    (of_decide_eq_true (by kernel_rfl)) (by unfold Func.isWrapper; first | (rw [if_pos (by decide +kernel)]; kernel_rfl) | (rw [if_neg (by decide +kernel)]; exact ⟨rfl, rfl⟩))
    (fun os started H enc _ => Lat.true_lifted os started H enc)
#print axioms latTrue_proved
end Go.Proofs.Ytchmdijkmfilfaa
