/-
  No cell of these rows narrows 'for every input' (looked for: loops, veiled, ifaces, maps, wideKeys, modest, calm, conditions, laid).
  DERIVED. THE GIVEN ROWS OF THIS SEAT. 6 by the template 'for every input the law returns true; each argument reads behind the call as it read before'; 0 by the template 'total and deterministic' (their statements: YtgbacodellfacabTotals.lean).
  GIVEN WITH THE SEED: the statements are not yours to turn. If you find one false, say at which input.
  Laid BY PROGRAM, IN A SANDBOX (cutbox-rows.mjs): the forced cells as the released guide's own fill.sh prints them over the translation 8c0e268b35efb24c… (all of the seat's roots in one cut). By AI agents, Wed Nov 11 2026. No macro, syntax, notation, axiom, sorry.
-/
import Derived.Test.YtgbacodellfacabChecked
import GoSem.Claim
import GoSem.ClaimJoined
import GoSem.ClaimMapViews
import Derived.JoinedTies
import Derived.KernelRfl
namespace Go.Proofs.Ytgbacodellfacab
/- THE CELL 'sum', in the pinned program and in every row, IS THE sha256 OF THE DUMP (.gsa) THAT YtgbacodellfacabProg.lean LOADS. Nothing in Lean hashes anything: it is a label: what it is worth is what the hold of that sum in a sandbox is worth. -/
noncomputable def Try.pinned : Pinned := { name := "ytgbacodellfacab", sum := "8c0e268b35efb24c838d6c5225d6014e8ec8c7f892df7b4c2d9a12ab22a95a7a", checked := Try.checked }
namespace Rows
def none {H : Type} : Left H := { results := [], args := [] }

/-- 'treillagelaw.ProgChecks': WHATEVER THE INPUT: true; the input reads as it did. -/
def progChecksSpec : ChangeSpec := { name := "progChecks", fn := fun _ => fun
  | [d1, d2] => { results := [.lit (.bool true)], args := [d1, d2] }
  | _ => none }
def progChecksRow : OpenClaim := { program := "ytgbacodellfacab", sum := "8c0e268b35efb24c838d6c5225d6014e8ec8c7f892df7b4c2d9a12ab22a95a7a", func := "treillage/treillagelaw.ProgChecks", spec := "progChecks", unfollowed := true, recurses := true, apart := false }
def ProgChecksSaid : Prop := progChecksRow.holds Try.pinned (OpenSpec.ofChange progChecksSpec)

/-- ITS FALSE NEIGHBOUR: 'it returns false'. Refute it at one input. -/
def progChecksWrong : ChangeSpec := { name := "progChecks", fn := fun _ => fun
  | [d1, d2] => { results := [.lit (.bool false)], args := [d1, d2] }
  | _ => none }
def ProgChecksWrongFalsely : Prop := progChecksRow.holds Try.pinned (OpenSpec.ofChange progChecksWrong)

/-- 'treillagelaw.ProgStrata': WHATEVER THE INPUT: true; the input reads as it did. -/
def progStrataSpec : ChangeSpec := { name := "progStrata", fn := fun _ => fun
  | [d1, d2] => { results := [.lit (.bool true)], args := [d1, d2] }
  | _ => none }
def progStrataRow : OpenClaim := { program := "ytgbacodellfacab", sum := "8c0e268b35efb24c838d6c5225d6014e8ec8c7f892df7b4c2d9a12ab22a95a7a", func := "treillage/treillagelaw.ProgStrata", spec := "progStrata", unfollowed := true, recurses := true, apart := false }
def ProgStrataSaid : Prop := progStrataRow.holds Try.pinned (OpenSpec.ofChange progStrataSpec)

/-- ITS FALSE NEIGHBOUR: 'it returns false'. Refute it at one input. -/
def progStrataWrong : ChangeSpec := { name := "progStrata", fn := fun _ => fun
  | [d1, d2] => { results := [.lit (.bool false)], args := [d1, d2] }
  | _ => none }
def ProgStrataWrongFalsely : Prop := progStrataRow.holds Try.pinned (OpenSpec.ofChange progStrataWrong)

/-- 'treillagelaw.ProgTrue': WHATEVER THE INPUT: true; the input reads as it did. -/
def progTrueSpec : ChangeSpec := { name := "progTrue", fn := fun _ => fun
  | [d1, d2] => { results := [.lit (.bool true)], args := [d1, d2] }
  | _ => none }
def progTrueRow : OpenClaim := { program := "ytgbacodellfacab", sum := "8c0e268b35efb24c838d6c5225d6014e8ec8c7f892df7b4c2d9a12ab22a95a7a", func := "treillage/treillagelaw.ProgTrue", spec := "progTrue", unfollowed := true, recurses := true, apart := false }
def ProgTrueSaid : Prop := progTrueRow.holds Try.pinned (OpenSpec.ofChange progTrueSpec)

/-- ITS FALSE NEIGHBOUR: 'it returns false'. Refute it at one input. -/
def progTrueWrong : ChangeSpec := { name := "progTrue", fn := fun _ => fun
  | [d1, d2] => { results := [.lit (.bool false)], args := [d1, d2] }
  | _ => none }
def ProgTrueWrongFalsely : Prop := progTrueRow.holds Try.pinned (OpenSpec.ofChange progTrueWrong)

/-- 'treillagelaw.ProgNeeds': WHATEVER THE INPUT: true; the input reads as it did. -/
def progNeedsSpec : ChangeSpec := { name := "progNeeds", fn := fun _ => fun
  | [d1, d2, d3] => { results := [.lit (.bool true)], args := [d1, d2, d3] }
  | _ => none }
def progNeedsRow : OpenClaim := { program := "ytgbacodellfacab", sum := "8c0e268b35efb24c838d6c5225d6014e8ec8c7f892df7b4c2d9a12ab22a95a7a", func := "treillage/treillagelaw.ProgNeeds", spec := "progNeeds", unfollowed := true, recurses := true, apart := false }
def ProgNeedsSaid : Prop := progNeedsRow.holds Try.pinned (OpenSpec.ofChange progNeedsSpec)

/-- ITS FALSE NEIGHBOUR: 'it returns false'. Refute it at one input. -/
def progNeedsWrong : ChangeSpec := { name := "progNeeds", fn := fun _ => fun
  | [d1, d2, d3] => { results := [.lit (.bool false)], args := [d1, d2, d3] }
  | _ => none }
def ProgNeedsWrongFalsely : Prop := progNeedsRow.holds Try.pinned (OpenSpec.ofChange progNeedsWrong)

/-- 'treillagelaw.BaseTells': WHATEVER THE INPUT: true; the input reads as it did. -/
def baseTellsSpec : ChangeSpec := { name := "baseTells", fn := fun _ => fun
  | [d1, d2, d3] => { results := [.lit (.bool true)], args := [d1, d2, d3] }
  | _ => none }
def baseTellsRow : OpenClaim := { program := "ytgbacodellfacab", sum := "8c0e268b35efb24c838d6c5225d6014e8ec8c7f892df7b4c2d9a12ab22a95a7a", func := "treillage/treillagelaw.BaseTells", spec := "baseTells", unfollowed := true, recurses := true, apart := false }
def BaseTellsSaid : Prop := baseTellsRow.holds Try.pinned (OpenSpec.ofChange baseTellsSpec)

/-- ITS FALSE NEIGHBOUR: 'it returns false'. Refute it at one input. -/
def baseTellsWrong : ChangeSpec := { name := "baseTells", fn := fun _ => fun
  | [d1, d2, d3] => { results := [.lit (.bool false)], args := [d1, d2, d3] }
  | _ => none }
def BaseTellsWrongFalsely : Prop := baseTellsRow.holds Try.pinned (OpenSpec.ofChange baseTellsWrong)

/-- 'treillagelaw.BaseAdds': WHATEVER THE INPUT: true; the input reads as it did. -/
def baseAddsSpec : ChangeSpec := { name := "baseAdds", fn := fun _ => fun
  | [d1, d2, d3, d4] => { results := [.lit (.bool true)], args := [d1, d2, d3, d4] }
  | _ => none }
def baseAddsRow : OpenClaim := { program := "ytgbacodellfacab", sum := "8c0e268b35efb24c838d6c5225d6014e8ec8c7f892df7b4c2d9a12ab22a95a7a", func := "treillage/treillagelaw.BaseAdds", spec := "baseAdds", unfollowed := true, recurses := true, apart := false }
def BaseAddsSaid : Prop := baseAddsRow.holds Try.pinned (OpenSpec.ofChange baseAddsSpec)

/-- ITS FALSE NEIGHBOUR: 'it returns false'. Refute it at one input. -/
def baseAddsWrong : ChangeSpec := { name := "baseAdds", fn := fun _ => fun
  | [d1, d2, d3, d4] => { results := [.lit (.bool false)], args := [d1, d2, d3, d4] }
  | _ => none }
def BaseAddsWrongFalsely : Prop := baseAddsRow.holds Try.pinned (OpenSpec.ofChange baseAddsWrong)

/- THE SECOND FORM. 'bulk': how many values and letters a reading holds, each counted each time it is reached (what is shared counts as often as it is met; a slice's spare places count too). A statement '..UptoSaid' is the law's where the arguments, and the package variables that the reading takes, are together of bulk at most 1048576: NARROWER than '..Said'. Prove '..Said' where nothing that the law and all that it calls make is longer than what came in: it says more and counts as full. Else prove '..UptoSaid'. A law counts once. -/
mutual
def uptoBulk {H : Type} : DataW H → Nat
  | .lit (.string bytes) => bytes.length + 1
  | .lit _ => 1
  | .nil => 1
  | .ptr d => uptoBulk d + 1
  | .slice elems spare => uptoBulkAll elems + uptoBulkAll spare + 1
  | .agg parts => uptoBulkAll parts + 1
  | .iface _ d => uptoBulk d + 1
  | .map entries => uptoBulkEntries entries + 1
  | .held _ => 1
def uptoBulkAll {H : Type} : List (DataW H) → Nat
  | [] => 0
  | d :: r => uptoBulk d + uptoBulkAll r
def uptoBulkEntries {H : Type} : List (Lit × DataW H) → Nat
  | [] => 0
  | x :: r => uptoBulkEntry x + uptoBulkEntries r
def uptoBulkEntry {H : Type} : Lit × DataW H → Nat
  | (.string bytes, d) => bytes.length + uptoBulk d + 1
  | (_, d) => uptoBulk d + 1
 end
def uptoSmall : (H : Type) → List (DataW H) → Bool := fun _ ds => decide (uptoBulkAll ds ≤ 1048576)
def OpenSpec.upto (s : _root_.Go.ChangeSpec) : _root_.Go.OpenSpec := { _root_.Go.OpenSpec.ofChange s with cond := some uptoSmall }

/-- 'treillagelaw.ProgChecks', WHERE WHAT IT READS IS OF BULK AT MOST 1048576: true; the input reads as it did. -/
def progChecksUptoRow : OpenClaim := { program := "ytgbacodellfacab", sum := "8c0e268b35efb24c838d6c5225d6014e8ec8c7f892df7b4c2d9a12ab22a95a7a", func := "treillage/treillagelaw.ProgChecks", spec := "progChecks", unfollowed := true, recurses := true, apart := false, narrowed := true }
def ProgChecksUptoSaid : Prop := progChecksUptoRow.holds Try.pinned (OpenSpec.upto progChecksSpec)

/-- 'treillagelaw.ProgStrata', WHERE WHAT IT READS IS OF BULK AT MOST 1048576: true; the input reads as it did. -/
def progStrataUptoRow : OpenClaim := { program := "ytgbacodellfacab", sum := "8c0e268b35efb24c838d6c5225d6014e8ec8c7f892df7b4c2d9a12ab22a95a7a", func := "treillage/treillagelaw.ProgStrata", spec := "progStrata", unfollowed := true, recurses := true, apart := false, narrowed := true }
def ProgStrataUptoSaid : Prop := progStrataUptoRow.holds Try.pinned (OpenSpec.upto progStrataSpec)

/-- 'treillagelaw.ProgTrue', WHERE WHAT IT READS IS OF BULK AT MOST 1048576: true; the input reads as it did. -/
def progTrueUptoRow : OpenClaim := { program := "ytgbacodellfacab", sum := "8c0e268b35efb24c838d6c5225d6014e8ec8c7f892df7b4c2d9a12ab22a95a7a", func := "treillage/treillagelaw.ProgTrue", spec := "progTrue", unfollowed := true, recurses := true, apart := false, narrowed := true }
def ProgTrueUptoSaid : Prop := progTrueUptoRow.holds Try.pinned (OpenSpec.upto progTrueSpec)

/-- 'treillagelaw.ProgNeeds', WHERE WHAT IT READS IS OF BULK AT MOST 1048576: true; the input reads as it did. -/
def progNeedsUptoRow : OpenClaim := { program := "ytgbacodellfacab", sum := "8c0e268b35efb24c838d6c5225d6014e8ec8c7f892df7b4c2d9a12ab22a95a7a", func := "treillage/treillagelaw.ProgNeeds", spec := "progNeeds", unfollowed := true, recurses := true, apart := false, narrowed := true }
def ProgNeedsUptoSaid : Prop := progNeedsUptoRow.holds Try.pinned (OpenSpec.upto progNeedsSpec)

/-- 'treillagelaw.BaseTells', WHERE WHAT IT READS IS OF BULK AT MOST 1048576: true; the input reads as it did. -/
def baseTellsUptoRow : OpenClaim := { program := "ytgbacodellfacab", sum := "8c0e268b35efb24c838d6c5225d6014e8ec8c7f892df7b4c2d9a12ab22a95a7a", func := "treillage/treillagelaw.BaseTells", spec := "baseTells", unfollowed := true, recurses := true, apart := false, narrowed := true }
def BaseTellsUptoSaid : Prop := baseTellsUptoRow.holds Try.pinned (OpenSpec.upto baseTellsSpec)

/-- 'treillagelaw.BaseAdds', WHERE WHAT IT READS IS OF BULK AT MOST 1048576: true; the input reads as it did. -/
def baseAddsUptoRow : OpenClaim := { program := "ytgbacodellfacab", sum := "8c0e268b35efb24c838d6c5225d6014e8ec8c7f892df7b4c2d9a12ab22a95a7a", func := "treillage/treillagelaw.BaseAdds", spec := "baseAdds", unfollowed := true, recurses := true, apart := false, narrowed := true }
def BaseAddsUptoSaid : Prop := baseAddsUptoRow.holds Try.pinned (OpenSpec.upto baseAddsSpec)

end Rows
end Go.Proofs.Ytgbacodellfacab
