/-
  The document's own texts: digits.
-/
import Derived.Laws.BytesArg
import Derived.Test.YtlfccloaoopadafGreatDoorG5
import Derived.Test.YtlfccloaoopadafGreatDoorG1
import Derived.Test.YtlfccloaoopadafGreatDoorG6
namespace Go.Proofs.YtlfccloaoopadafGreatDoor.Text
open Go.ChangeShapes Go.WideShapes Go.ChangeAt Go.RowKit

/-- the text of one byte -/
def oneB (m : Int) : ByteArray := strOfNums [m]
theorem conv_one (w : World) (m : Int) : (convert 100 9 (.slice (some ⟨w.heap.size, 0, none⟩) 1 1)).run Tryz.prog (w.alloc (.cells #[.int .u8 m] 5)) = .ok (.string (oneB m)) (w.alloc (.cells #[.int .u8 m] 5)) :=
  run_convert_bytes_arg (w.alloc (.cells #[.int .u8 m] 5)) 100 5 Tryz.underlying100 Tryz.underlying5 w.heap.size 0 1 1 [m] rfl (fun i hi => by
    obtain rfl : i = 0 := by omega
    simp [go_sem]) 9 Tryz.underlying9

set_option maxRecDepth 100000 in
set_option maxHeartbeats 1000000 in
theorem digits_one (w : World) (n : Int) (h0 : 0 ≤ n) (h9 : n ≤ 9) : Calls Tryz.prog 27 #[.int .i64 n] w fun e w' => e = .returned (.string (oneB (48 + n % 10))) ∧ Below w.heap.size w w' := by
  have h10 : n < 10 := by omega
  have hcv := conv_one w (48 + n % 10)
  go_enter Tryz.func27, Tryz.ntmps27
  go_wp2_with fail
  go_ret
  exact ⟨rfl, below_alloc _ _⟩
def dig (n : Int) : ByteArray := if n < 10 then oneB (48 + n % 10) else oneB (48 + n / 10 % 10) ++ oneB (48 + n % 10)
set_option maxRecDepth 100000 in
set_option maxHeartbeats 1000000 in
theorem digits_c (w : World) (n : Int) (h0 : 0 ≤ n) (h9 : n ≤ 99) : Calls Tryz.prog 27 #[.int .i64 n] w fun e w' => e = .returned (.string (dig n)) ∧ Below w.heap.size w w' := by
  by_cases h10 : n < 10
  · rw [dig, if_pos h10]
    exact digits_one w n h0 (by omega)
  · rw [dig, if_neg h10]
    have hcv := conv_one w (48 + n % 10)
    have hd := digits_one (w.alloc (.cells #[.int .u8 (48 + n % 10)] 5)) (n / 10) (by omega) (by omega)
    go_enter Tryz.func27, Tryz.ntmps27
    go_wp2_with fail
    refine hd.mono ?_
    rintro e W1 ⟨rfl, hb1⟩
    go_wp2_with fail
    go_ret
    exact ⟨rfl, (below_alloc _ _).trans (hb1.mono (below_alloc _ _).size)⟩
theorem oneB_size (m : Int) : (oneB m).size = 1 := by
  unfold oneB strOfNums
  rfl
theorem dig_size (n : Int) : (dig n).size ≤ 2 := by
  unfold dig
  split
  · rw [oneB_size]; omega
  · rw [ByteArray.size_append, oneB_size, oneB_size]
    omega
end Go.Proofs.YtlfccloaoopadafGreatDoor.Text
