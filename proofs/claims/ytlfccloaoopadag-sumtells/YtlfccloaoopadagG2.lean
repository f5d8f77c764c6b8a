/-
  What package lat and the document's own reckoning of values answer, call by call: one contract for each function on the road of the four laws of values.
-/
import Derived.WalkKit
import Derived.WalkSpells
import Derived.WalkLawsBesides
import Derived.Outline
import Derived.ProofKit
import Derived.OpenShut
import Derived.Laws.EntriesVeiled
import Derived.Test.YtlfccloaoopadagRows
import Derived.Test.YtlfccloaoopadagG1
namespace Go.Proofs.Ytlfccloaoopadag.Lat
open Go.ChangeShapes Go.WideShapes Go.ChangeAt Go.RowKit


/-! ### The document's own reckoning -/
theorem within_c (n lo hi : Int) (w : World) :
    Calls Try.prog 14 #[.int .i64 n, .int .i64 lo, .int .i64 hi] w fun e w' => e = .returned (.bool (within n lo hi)) ∧ w' = w := by
  by_cases h1 : lo ≤ n
  · by_cases h2 : n ≤ hi
    · have e : within n lo hi = true := by simp [within, h1, h2]
      rw [e]
      go_enter Try.func14, Try.ntmps14
      go_wp2
      go_ret
      exact ⟨rfl, rfl⟩
    · have e : within n lo hi = false := by simp [within, h1, h2]
      rw [e]
      have h2' : decide (n ≤ hi) = false := by simpa using h2
      go_enter Try.func14, Try.ntmps14
      go_wp2
      go_ret
      exact ⟨rfl, rfl⟩
  · have e : within n lo hi = false := by simp [within, h1]
    rw [e]
    have h1' : decide (lo ≤ n) = false := by simpa using h1
    go_enter Try.func14, Try.ntmps14
    go_wp2
    go_ret
    exact ⟨rfl, rfl⟩

end Go.Proofs.Ytlfccloaoopadag.Lat
