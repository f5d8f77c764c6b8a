/-
  What the four laws of values ask in any case (latBegun) is so.
-/
import Derived.Test.YtchmdijkmfilfaaLat
namespace Go.Proofs.Ytchmdijkmfilfaa.Lat
open Go.ChangeShapes Go.WideShapes Go.ChangeAt Go.RowKit

theorem below_trans {w w1 w2 : World} (h1 : Below w.heap.size w w1) (h2 : Below w1.heap.size w1 w2) : Below w.heap.size w w2 := h1.trans (h2.mono h1.size)

theorem latBegun_c (w : World) :
    Calls Try.prog 11 #[] w fun e w' => e = .returned (.bool true) ∧ Below w.heap.size w w' := by
  have j1 : joinOf 2 3 7 = 3 := rfl
  have j2 : err2 2 3 7 = 0 := rfl
  have j3 : liftOf 1 9 9 = 15 := rfl
  have j4 : err2 1 9 9 = 0 := rfl
  have j5 : joinOf 3 5 3 = 7 := rfl
  have j6 : err2 3 5 3 = 0 := rfl
  have j7 : leq 2 7 3 = true := rfl
  have j8 : err2 2 7 3 = 0 := rfl
  have j9 : err2 0 0 1 = 3 := rfl
  have j10 : err 4 0 = 4 := rfl
  have j11 : err 1 16 = 3 := rfl
  go_enter Try.func11, Try.ntmps11
  go_wp2_with fail
  refine (Join_c _ _ _ _).mono ?_
  rintro e w1 ⟨rfl, b1⟩
  go_wp2_with fail
  refine (Lift_c _ _ _ _).mono ?_
  rintro e w2 ⟨rfl, b2⟩
  go_wp2_with fail
  refine (Join_c _ _ _ _).mono ?_
  rintro e w3 ⟨rfl, b3⟩
  go_wp2_with fail
  refine (Leq_c _ _ _ _).mono ?_
  rintro e w4 ⟨rfl, b4⟩
  go_wp2_with fail
  refine (Join_c _ _ _ _).mono ?_
  rintro e w5 ⟨rfl, b5⟩
  go_wp2_with (go_at_call 12; refine (check_c _ _ _).mono ?_; rintro e w' ⟨rfl, rfl⟩)
  go_ret
  exact ⟨rfl, below_trans b1 (below_trans b2 (below_trans b3 (below_trans b4 b5)))⟩
end Go.Proofs.Ytchmdijkmfilfaa.Lat
