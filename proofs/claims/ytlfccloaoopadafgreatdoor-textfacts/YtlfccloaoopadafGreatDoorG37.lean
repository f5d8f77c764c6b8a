/-
  From what the rows say of arguments that can be read: facts, lists of facts, and that a slice keeps within its room.
-/
import Derived.Test.YtlfccloaoopadafGreatDoorG35
import Derived.Test.YtlfccloaoopadafGreatDoorG27
namespace Go.Proofs.YtlfccloaoopadafGreatDoor.Open
open Go.ChangeShapes Go.WideShapes Go.ChangeAt Go.RowKit Go.Deep Go.Joins
open Base (capOk)

section
variable {H : Type} {enc : TypeId × Value → H} {w : World}

theorem cellsFact : Tryz.prog.cellsOf 82 = 4 := by kernel_rfl
set_option maxRecDepth 100000 in
theorem fact_of {n : Nat} {cs : List Value} {y : DataW H × List MemPlace} (h : DataW.trod enc Tryz.prog w 0 (fun _ => true) true n 82 cs = some y) : ∃ x : Fct, cs = [.int .i64 x.pred, .int .i64 x.a, .int .i64 x.b, .int .i64 x.val] := by
  obtain ⟨x0, x1, x2, x3, m, rfl, hl, h0, h1, h2, h3⟩ := trod_struct4 Tryz.underlying82 h
  rw [cellsFact] at hl
  match cs, hl with
  | [c0, c1, c2, c3], _ =>
    simp only [cellsInt] at h0 h1 h2 h3
    obtain ⟨k0, e0, _⟩ := DataW.trod_int Tryz.underlying3 h0
    obtain ⟨k1, e1, _⟩ := DataW.trod_int Tryz.underlying3 h1
    obtain ⟨k2, e2, _⟩ := DataW.trod_int Tryz.underlying3 h2
    obtain ⟨k3, e3, _⟩ := DataW.trod_int Tryz.underlying3 h3
    simp at e0 e1 e2 e3
    exact ⟨⟨k0, k1, k2, k3⟩, by rw [e0, e1, e2, e3]⟩
set_option maxRecDepth 100000 in
theorem facts_of {n : Nat} {cs : List Value} {y : DataW H × List MemPlace} (h : DataW.trod enc Tryz.prog w 0 (fun _ => true) true n 38 cs = some y) (hw : Light (y.1.weights Tryz.prog 38)) : ∃ v f, cs = [v] ∧ factsAt w v f ∧ capOk v := by
  have hcap : ∀ v, cs = [v] → capOk v := by
    intro v hv
    rcases open_slice Tryz.underlying38 h with ⟨hc, _⟩ | ⟨a, len, cap, m, n, D, Pl, hc, _, hl, _⟩
    · rw [hv] at hc
      obtain rfl := (List.cons.inj hc).1
      exact ⟨none, 0, 0, rfl, Nat.le_refl _, fun _ => rfl⟩
    · rw [hv] at hc
      obtain rfl := (List.cons.inj hc).1
      exact ⟨_, len, cap, rfl, hl, fun h => by cases h⟩
  obtain ⟨v, f, e, hf⟩ := open_sliceAt (At := factAt) (bytes := 32) (sz := 4) ⟨0, 0, 0, 0⟩ Tryz.underlying38 cellsFact (by omega) (by kernel_rfl) (by omega) h hw (by
    intro n b off cs' y _ hlen hcell ht _
    obtain ⟨x, rfl⟩ := fact_of ht
    exact ⟨x, (hcell 0 (by omega)).trans rfl, (hcell 1 (by omega)).trans rfl, (hcell 2 (by omega)).trans rfl, (hcell 3 (by omega)).trans rfl⟩)
  exact ⟨v, f, e, hf, hcap v e⟩
end
end Go.Proofs.YtlfccloaoopadafGreatDoor.Open
