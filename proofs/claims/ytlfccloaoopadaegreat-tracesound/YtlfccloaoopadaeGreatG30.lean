/-
  From what the rows say of arguments that can be read: lists of steps.
-/
import Derived.Test.YtlfccloaoopadaeGreatG26
import Derived.Test.YtlfccloaoopadaeGreatG9
namespace Go.Proofs.YtlfccloaoopadaeGreat.Open
open Go.ChangeShapes Go.WideShapes Go.ChangeAt Go.RowKit Go.Deep Go.Joins
open Fire (Stp stepsAt stepAt)

section
variable {H : Type} {enc : TypeId × Value → H} {w : World}

theorem cellsStep : Tryz.prog.cellsOf 64 = 4 := by kernel_rfl
set_option maxRecDepth 100000 in
theorem step_of {n : Nat} {cs : List Value} {y : DataW H × List MemPlace} (h : DataW.trod enc Tryz.prog w 0 (fun _ => true) true n 64 cs = some y) : ∃ x : Stp, cs = [.int .i64 x.rule, .int .i64 x.x, .int .i64 x.y, .int .i64 x.z] := by
  obtain ⟨y0, y1, m, rfl, hl, h0, h1⟩ := trod_struct2 Tryz.underlying64 h
  rw [cellsStep] at hl
  match cs, hl with
  | [c0, c1, c2, c3], _ =>
    rw [cellsInt] at h0
    rw [cellsVars] at h1
    obtain ⟨k0, e0, _⟩ := DataW.trod_int Tryz.underlying3 h0
    obtain ⟨a, b, c, e1⟩ := vars_of h1
    simp at e0 e1
    exact ⟨⟨k0, a, b, c⟩, by rw [e0, e1.1, e1.2.1, e1.2.2]⟩
set_option maxRecDepth 100000 in
theorem steps_of {n : Nat} {cs : List Value} {y : DataW H × List MemPlace} (h : DataW.trod enc Tryz.prog w 0 (fun _ => true) true n 38 cs = some y) (hw : Light (y.1.weights Tryz.prog 38)) : ∃ v l, cs = [v] ∧ stepsAt w v l :=
  open_sliceAt (At := stepAt) (bytes := 32) (sz := 4) ⟨0, 0, 0, 0⟩ Tryz.underlying38 cellsStep (by omega) (by kernel_rfl) (by omega) h hw (by
    intro n b off cs' y _ hlen hcell ht _
    obtain ⟨x, rfl⟩ := step_of ht
    exact ⟨x, (hcell 0 (by omega)).trans rfl, (hcell 1 (by omega)).trans rfl, (hcell 2 (by omega)).trans rfl, (hcell 3 (by omega)).trans rfl⟩)
end
end Go.Proofs.YtlfccloaoopadaeGreat.Open
