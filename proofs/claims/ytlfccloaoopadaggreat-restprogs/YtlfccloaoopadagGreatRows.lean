/-
  No cell of these rows narrows 'for every input' (looked for: loops, veiled, ifaces, maps, wideKeys, modest, calm, conditions, laid).
  DERIVED. THE GIVEN ROWS OF THIS SEAT. 3 by the template 'for every input the law returns true; each argument reads behind the call as it read before'; 0 by the template 'total and deterministic' (their statements: YtlfccloaoopadagGreatTotals.lean).
  GIVEN WITH THE SEED: the statements are not yours to turn. If you find one false, say at which input.
  Laid BY PROGRAM, IN A SANDBOX (cutbox-rows.mjs): the forced cells as the released guide's own fill.sh prints them over the translation da05744c4be5c016… (all of the seat's roots in one cut). By AI agents, Wed Nov 11 2026. No macro, syntax, notation, axiom, sorry.
-/
import Derived.Test.YtlfccloaoopadagGreatChecked
import GoSem.Claim
import GoSem.ClaimJoined
import GoSem.ClaimMapViews
import Derived.JoinedTies
import Derived.KernelRfl
namespace Go.Proofs.YtlfccloaoopadagGreat
/- THE CELL 'sum', in the pinned program and in every row, IS THE sha256 OF THE DUMP (.gsa) THAT YtlfccloaoopadagGreatProg.lean LOADS. Nothing in Lean hashes anything: it is a label: what it is worth is what the hold of that sum in a sandbox is worth. -/
noncomputable def Tryz.pinned : Pinned := { name := "ytlfccloaoopadaggreat", sum := "da05744c4be5c016a52280011eb597eb47cf24ee4b76ae571b80d38fca4ca991", checked := Tryz.checked }
namespace Rows
def none {H : Type} : Left H := { results := [], args := [] }

/-- 'treillagelaw.SumMore': WHATEVER THE INPUT: true; the input reads as it did. -/
def sumMoreSpec : ChangeSpec := { name := "sumMore", fn := fun _ => fun
  | [d1, d2] => { results := [.lit (.bool true)], args := [d1, d2] }
  | _ => none }
def sumMoreRow : OpenClaim := { program := "ytlfccloaoopadaggreat", sum := "da05744c4be5c016a52280011eb597eb47cf24ee4b76ae571b80d38fca4ca991", func := "treillage/treillagelaw.SumMore", spec := "sumMore", unfollowed := true, recurses := true, apart := false }
def SumMoreSaid : Prop := sumMoreRow.holds Tryz.pinned (OpenSpec.ofChange sumMoreSpec)

/-- ITS FALSE NEIGHBOUR: 'it returns false'. Refute it at one input. -/
def sumMoreWrong : ChangeSpec := { name := "sumMore", fn := fun _ => fun
  | [d1, d2] => { results := [.lit (.bool false)], args := [d1, d2] }
  | _ => none }
def SumMoreWrongFalsely : Prop := sumMoreRow.holds Tryz.pinned (OpenSpec.ofChange sumMoreWrong)

/-- 'treillagelaw.SumLess': WHATEVER THE INPUT: true; the input reads as it did. -/
def sumLessSpec : ChangeSpec := { name := "sumLess", fn := fun _ => fun
  | [d1, d2] => { results := [.lit (.bool true)], args := [d1, d2] }
  | _ => none }
def sumLessRow : OpenClaim := { program := "ytlfccloaoopadaggreat", sum := "da05744c4be5c016a52280011eb597eb47cf24ee4b76ae571b80d38fca4ca991", func := "treillage/treillagelaw.SumLess", spec := "sumLess", unfollowed := true, recurses := true, apart := false }
def SumLessSaid : Prop := sumLessRow.holds Tryz.pinned (OpenSpec.ofChange sumLessSpec)

/-- ITS FALSE NEIGHBOUR: 'it returns false'. Refute it at one input. -/
def sumLessWrong : ChangeSpec := { name := "sumLess", fn := fun _ => fun
  | [d1, d2] => { results := [.lit (.bool false)], args := [d1, d2] }
  | _ => none }
def SumLessWrongFalsely : Prop := sumLessRow.holds Tryz.pinned (OpenSpec.ofChange sumLessWrong)

/-- 'treillagelaw.RestProgs': WHATEVER THE INPUT: true; the input reads as it did. -/
def restProgsSpec : ChangeSpec := { name := "restProgs", fn := fun _ => fun
  | [d1, d2, d3] => { results := [.lit (.bool true)], args := [d1, d2, d3] }
  | _ => none }
def restProgsRow : OpenClaim := { program := "ytlfccloaoopadaggreat", sum := "da05744c4be5c016a52280011eb597eb47cf24ee4b76ae571b80d38fca4ca991", func := "treillage/treillagelaw.RestProgs", spec := "restProgs", unfollowed := true, recurses := true, apart := false }
def RestProgsSaid : Prop := restProgsRow.holds Tryz.pinned (OpenSpec.ofChange restProgsSpec)

/-- ITS FALSE NEIGHBOUR: 'it returns false'. Refute it at one input. -/
def restProgsWrong : ChangeSpec := { name := "restProgs", fn := fun _ => fun
  | [d1, d2, d3] => { results := [.lit (.bool false)], args := [d1, d2, d3] }
  | _ => none }
def RestProgsWrongFalsely : Prop := restProgsRow.holds Tryz.pinned (OpenSpec.ofChange restProgsWrong)

/- THE SECOND FORM. 'bulk': how many values and letters a reading holds, each counted each time it is reached (what is shared counts as often as it is met; a slice's spare places count too). A statement '..UptoSaid' is the law's where the arguments, and the package variables that the reading takes, are together of bulk at most 1048576: NARROWER than '..Said'. Prove '..Said' where nothing that the law and all that it calls make is longer than what came in: it says more and counts as full. Else prove '..UptoSaid'. A law counts once. -/
mutual
def uptoBulk {H : Type} : DataW H → Nat
  | .lit (.string bytes) => bytes.length + 1
  | .lit _ => 1
  | .nil => 1
  | .ptr d => uptoBulk d + 1
  | .slice elems spare => uptoBulkAll elems + uptoBulkAll spare + 1
  | .agg parts => uptoBulkAll parts + 1
  | .iface _ d => uptoBulk d + 1
  | .map entries => uptoBulkEntries entries + 1
  | .held _ => 1
def uptoBulkAll {H : Type} : List (DataW H) → Nat
  | [] => 0
  | d :: r => uptoBulk d + uptoBulkAll r
def uptoBulkEntries {H : Type} : List (Lit × DataW H) → Nat
  | [] => 0
  | x :: r => uptoBulkEntry x + uptoBulkEntries r
def uptoBulkEntry {H : Type} : Lit × DataW H → Nat
  | (.string bytes, d) => bytes.length + uptoBulk d + 1
  | (_, d) => uptoBulk d + 1
 end
def uptoSmall : (H : Type) → List (DataW H) → Bool := fun _ ds => decide (uptoBulkAll ds ≤ 1048576)
def OpenSpec.upto (s : _root_.Go.ChangeSpec) : _root_.Go.OpenSpec := { _root_.Go.OpenSpec.ofChange s with cond := some uptoSmall }

/-- 'treillagelaw.SumMore', WHERE WHAT IT READS IS OF BULK AT MOST 1048576: true; the input reads as it did. -/
def sumMoreUptoRow : OpenClaim := { program := "ytlfccloaoopadaggreat", sum := "da05744c4be5c016a52280011eb597eb47cf24ee4b76ae571b80d38fca4ca991", func := "treillage/treillagelaw.SumMore", spec := "sumMore", unfollowed := true, recurses := true, apart := false, narrowed := true }
def SumMoreUptoSaid : Prop := sumMoreUptoRow.holds Tryz.pinned (OpenSpec.upto sumMoreSpec)

/-- 'treillagelaw.SumLess', WHERE WHAT IT READS IS OF BULK AT MOST 1048576: true; the input reads as it did. -/
def sumLessUptoRow : OpenClaim := { program := "ytlfccloaoopadaggreat", sum := "da05744c4be5c016a52280011eb597eb47cf24ee4b76ae571b80d38fca4ca991", func := "treillage/treillagelaw.SumLess", spec := "sumLess", unfollowed := true, recurses := true, apart := false, narrowed := true }
def SumLessUptoSaid : Prop := sumLessUptoRow.holds Tryz.pinned (OpenSpec.upto sumLessSpec)

/-- 'treillagelaw.RestProgs', WHERE WHAT IT READS IS OF BULK AT MOST 1048576: true; the input reads as it did. -/
def restProgsUptoRow : OpenClaim := { program := "ytlfccloaoopadaggreat", sum := "da05744c4be5c016a52280011eb597eb47cf24ee4b76ae571b80d38fca4ca991", func := "treillage/treillagelaw.RestProgs", spec := "restProgs", unfollowed := true, recurses := true, apart := false, narrowed := true }
def RestProgsUptoSaid : Prop := restProgsUptoRow.holds Tryz.pinned (OpenSpec.upto restProgsSpec)

end Rows
end Go.Proofs.YtlfccloaoopadagGreat
