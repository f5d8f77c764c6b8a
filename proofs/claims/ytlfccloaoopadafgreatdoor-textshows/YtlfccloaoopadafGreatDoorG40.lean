/-
  From what the rows say of arguments that can be read: programs, and strings.
-/
import Derived.Test.YtlfccloaoopadafGreatDoorG39
import Derived.Test.YtlfccloaoopadafGreatDoorG9
namespace Go.Proofs.YtlfccloaoopadafGreatDoor.Open
open Go.ChangeShapes Go.WideShapes Go.ChangeAt Go.RowKit Go.Deep Go.Joins
open Prog (small)

section
variable {H : Type} {enc : TypeId × Value → H} {w : World}

set_option maxRecDepth 100000 in
theorem predsN_of {n : Nat} {cs : List Value} {y : DataW H × List MemPlace} (h : DataW.trod enc Tryz.prog w 0 (fun _ => true) true n 22 cs = some y) (hw : Light (y.1.weights Tryz.prog 22)) : ∃ v ps, cs = [v] ∧ predsAt w v ps ∧ small ps := by
  obtain ⟨v, ps, e, a, cap, hv, hl, hx⟩ := open_sliceAt (At := fun w b o p => predAt w b o p ∧ p.name.size ≤ 9223372036854775807) (sz := 3) (bytes := 32) ⟨ByteArray.empty, 0, 0⟩ Tryz.underlying22 cellsPred (by omega) (by kernel_rfl) (by omega) h hw (by
    intro n b off cs' y _ hlen hcell ht _
    obtain ⟨x0, x1, x2, m, h0, h1, h2⟩ := struct3 Tryz.underlying47 ht
    match cs', hlen with
    | [c0, c1, c2], _ =>
      simp only [cellsString, cellsInt] at h0 h1 h2
      obtain ⟨s, e0, _, hs⟩ := DataW.trod_string Tryz.underlying9 h0
      obtain ⟨k, e1, _⟩ := DataW.trod_int Tryz.underlying3 h1
      obtain ⟨l, e2, _⟩ := DataW.trod_int Tryz.underlying3 h2
      simp at e0 e1 e2
      exact ⟨⟨s, k, l⟩, ⟨(hcell 0 (by omega)).trans (by rw [e0]; rfl), (hcell 1 (by omega)).trans (by rw [e1]; rfl), (hcell 2 (by omega)).trans (by rw [e2]; rfl)⟩, by unfold maxLen at hs; exact hs⟩)
  refine ⟨v, ps, e, ⟨a, cap, hv, hl, hx.imp id fun ⟨b, off, h1, h2, h3⟩ => ⟨b, off, h1, h2, fun i x hi => (h3 i x hi).1⟩⟩, ?_⟩
  intro q hq
  rcases hx with rfl | ⟨b, off, _, _, h3⟩
  · cases hq
  · obtain ⟨i, hi, rfl⟩ := List.getElem_of_mem hq
    exact (h3 i _ (List.getElem?_eq_getElem hi)).2
set_option maxRecDepth 100000 in
theorem rules_of {n : Nat} {cs : List Value} {y : DataW H × List MemPlace} (h : DataW.trod enc Tryz.prog w 0 (fun _ => true) true n 23 cs = some y) (hw : Light (y.1.weights Tryz.prog 23)) : ∃ v rs, cs = [v] ∧ rulesAt w v rs := by
  refine open_sliceAt (bytes := 72) ⟨⟨0, []⟩, 0, 0, []⟩ Tryz.underlying23 cellsRule (by omega) (by kernel_rfl) (by omega) h hw ?_
  intro n b off cs' y _ hlen hcell ht hw'
  obtain ⟨r, hv, bv, rfl, h1, h2⟩ := rule_of ht hw'
  exact ⟨r, (hcell 0 (by omega)).trans rfl, ⟨hv, (hcell 1 (by omega)).trans rfl, h1⟩, (hcell 2 (by omega)).trans rfl, (hcell 3 (by omega)).trans rfl, bv, (hcell 4 (by omega)).trans rfl, h2⟩
theorem cellsPreds : Tryz.prog.cellsOf 22 = 1 := by kernel_rfl
theorem cellsRules : Tryz.prog.cellsOf 23 = 1 := by kernel_rfl
theorem cellsProg : Tryz.prog.cellsOf 25 = 2 := by kernel_rfl
set_option maxRecDepth 100000 in
theorem prog_of {n : Nat} {cs : List Value} {y : DataW H × List MemPlace} (h : DataW.trod enc Tryz.prog w 0 (fun _ => true) true n 25 cs = some y) (hw : Light (y.1.weights Tryz.prog 25)) :
    ∃ (pv rv : Value) (ps : List Prd) (rs : List Rul), cs = [pv, rv] ∧ predsAt w pv ps ∧ small ps ∧ rulesAt w rv rs := by
  obtain ⟨y0, y1, m, rfl, hl, h0, h1⟩ := trod_struct2 Tryz.underlying25 h
  rw [cellsProg] at hl
  simp only [DataW.weights, Tryz.underlying25, DataW.weightsEach, List.map_cons, List.map_nil] at hw
  match cs, hl with
  | [c0, c1], _ =>
    rw [cellsPreds] at h0
    rw [cellsRules] at h1
    obtain ⟨pv, ps, e0, hp, hs⟩ := predsN_of h0 (light_left hw)
    obtain ⟨rv, rs, e1, hr⟩ := rules_of h1 (light_left (light_right hw))
    simp at e0 e1
    exact ⟨pv, rv, ps, rs, by rw [e0, e1], hp, hs, hr⟩
theorem string_of {P : Program} {r : Reach} {base : Nat} {t : TypeId} {v u : Value} (ht : P.underlying t = some .string) (hv : Value.okWide P w r base t v) (he : v.cells.toList = [u]) : v = u := by
  obtain ⟨s, rfl⟩ := okWide_string ht hv
  simpa [Value.cells] using he
theorem int_of {P : Program} {r : Reach} {base : Nat} {t : TypeId} {k : IntKind} {v u : Value} (ht : P.underlying t = some (.int k)) (hv : Value.okWide P w r base t v) (he : v.cells.toList = [u]) : v = u := by
  obtain ⟨s, rfl⟩ := okWide_int ht hv
  simpa [Value.cells] using he
end
end Go.Proofs.YtlfccloaoopadafGreatDoor.Open
