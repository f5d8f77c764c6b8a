/-
  From what the rows say of arguments that can be read: programs, whose rules keep within their room.
-/
import Derived.Test.YtlfccloaoopadagGreatG32
import Derived.Test.YtlfccloaoopadagGreatG18
namespace Go.Proofs.YtlfccloaoopadagGreat.Open
open Go.ChangeShapes Go.WideShapes Go.ChangeAt Go.RowKit Go.Deep Go.Joins
open Prog (small)

section
variable {H : Type} {enc : TypeId × Value → H} {w : World}

set_option maxRecDepth 100000 in
theorem progC_of {n : Nat} {cs : List Value} {y : DataW H × List MemPlace} (h : DataW.trod enc Tryz.prog w 0 (fun _ => true) true n 25 cs = some y) (hw : Light (y.1.weights Tryz.prog 25)) :
    ∃ (pv rv : Value) (ps : List Prd) (rs : List Rul), cs = [pv, rv] ∧ predsAt w pv ps ∧ small ps ∧ rulesAt w rv rs ∧ Sum.capLe rv := by
  obtain ⟨y0, y1, m, rfl, hl, h0, h1⟩ := trod_struct2 Tryz.underlying25 h
  rw [cellsProg] at hl
  simp only [DataW.weights, Tryz.underlying25, DataW.weightsEach, List.map_cons, List.map_nil] at hw
  match cs, hl with
  | [c0, c1], _ =>
    rw [cellsPreds] at h0
    rw [cellsRules] at h1
    obtain ⟨pv, ps, e0, hp, hs⟩ := predsN_of h0 (light_left hw)
    obtain ⟨rv, rs, e1, hr⟩ := rules_of h1 (light_left (light_right hw))
    have hcap : Sum.capLe rv := by
      rcases open_slice Tryz.underlying23 h1 with ⟨hc, _⟩ | ⟨a, len, cap, m, n, D, Pl, hc, _, hl, _⟩
      · rw [e1] at hc
        obtain rfl := (List.cons.inj hc).1
        exact ⟨none, 0, 0, rfl, Nat.le_refl _⟩
      · rw [e1] at hc
        obtain rfl := (List.cons.inj hc).1
        exact ⟨_, len, cap, rfl, hl⟩
    simp at e0 e1
    exact ⟨pv, rv, ps, rs, by rw [e0, e1], hp, hs, hr, hcap⟩
end
end Go.Proofs.YtlfccloaoopadagGreat.Open
