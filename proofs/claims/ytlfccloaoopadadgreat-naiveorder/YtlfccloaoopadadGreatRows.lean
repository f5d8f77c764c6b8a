/-
  No cell of these rows narrows 'for every input' (looked for: loops, veiled, ifaces, maps, wideKeys, modest, calm, conditions, laid).
  DERIVED. THE GIVEN ROWS OF THIS SEAT. 6 by the template 'for every input the law returns true; each argument reads behind the call as it read before'; 0 by the template 'total and deterministic' (their statements: YtlfccloaoopadadGreatTotals.lean).
  GIVEN WITH THE SEED: the statements are not yours to turn. If you find one false, say at which input.
  Laid BY PROGRAM, IN A SANDBOX (cutbox-rows.mjs): the forced cells as the released guide's own fill.sh prints them over the translation d676929d7f3b95e1… (all of the seat's roots in one cut). By AI agents, Wed Nov 11 2026. No macro, syntax, notation, axiom, sorry.
-/
import Derived.Test.YtlfccloaoopadadGreatChecked
import GoSem.Claim
import GoSem.ClaimJoined
import GoSem.ClaimMapViews
import Derived.JoinedTies
import Derived.KernelRfl
namespace Go.Proofs.YtlfccloaoopadadGreat
/- THE CELL 'sum', in the pinned program and in every row, IS THE sha256 OF THE DUMP (.gsa) THAT YtlfccloaoopadadGreatProg.lean LOADS. Nothing in Lean hashes anything: it is a label: what it is worth is what the hold of that sum in a sandbox is worth. -/
noncomputable def Tryz.pinned : Pinned := { name := "ytlfccloaoopadadgreat", sum := "d676929d7f3b95e197da1c9f177ab863de7869ac897e44fd14955ca89c25a5fc", checked := Tryz.checked }
namespace Rows
def none {H : Type} : Left H := { results := [], args := [] }

/-- 'treillagelaw.RoundLevel': WHATEVER THE INPUT: true; the input reads as it did. -/
def roundLevelSpec : ChangeSpec := { name := "roundLevel", fn := fun _ => fun
  | [d1, d2, d3] => { results := [.lit (.bool true)], args := [d1, d2, d3] }
  | _ => none }
def roundLevelRow : OpenClaim := { program := "ytlfccloaoopadadgreat", sum := "d676929d7f3b95e197da1c9f177ab863de7869ac897e44fd14955ca89c25a5fc", func := "treillage/treillagelaw.RoundLevel", spec := "roundLevel", unfollowed := true, recurses := true, apart := false }
def RoundLevelSaid : Prop := roundLevelRow.holds Tryz.pinned (OpenSpec.ofChange roundLevelSpec)

/-- ITS FALSE NEIGHBOUR: 'it returns false'. Refute it at one input. -/
def roundLevelWrong : ChangeSpec := { name := "roundLevel", fn := fun _ => fun
  | [d1, d2, d3] => { results := [.lit (.bool false)], args := [d1, d2, d3] }
  | _ => none }
def RoundLevelWrongFalsely : Prop := roundLevelRow.holds Tryz.pinned (OpenSpec.ofChange roundLevelWrong)

/-- 'treillagelaw.RoundMore': WHATEVER THE INPUT: true; the input reads as it did. -/
def roundMoreSpec : ChangeSpec := { name := "roundMore", fn := fun _ => fun
  | [d1, d2, d3, d4] => { results := [.lit (.bool true)], args := [d1, d2, d3, d4] }
  | _ => none }
def roundMoreRow : OpenClaim := { program := "ytlfccloaoopadadgreat", sum := "d676929d7f3b95e197da1c9f177ab863de7869ac897e44fd14955ca89c25a5fc", func := "treillage/treillagelaw.RoundMore", spec := "roundMore", unfollowed := true, recurses := true, apart := false }
def RoundMoreSaid : Prop := roundMoreRow.holds Tryz.pinned (OpenSpec.ofChange roundMoreSpec)

/-- ITS FALSE NEIGHBOUR: 'it returns false'. Refute it at one input. -/
def roundMoreWrong : ChangeSpec := { name := "roundMore", fn := fun _ => fun
  | [d1, d2, d3, d4] => { results := [.lit (.bool false)], args := [d1, d2, d3, d4] }
  | _ => none }
def RoundMoreWrongFalsely : Prop := roundMoreRow.holds Tryz.pinned (OpenSpec.ofChange roundMoreWrong)

/-- 'treillagelaw.NaiveTells': WHATEVER THE INPUT: true; the input reads as it did. -/
def naiveTellsSpec : ChangeSpec := { name := "naiveTells", fn := fun _ => fun
  | [d] => { results := [.lit (.bool true)], args := [d] }
  | _ => none }
def naiveTellsRow : OpenClaim := { program := "ytlfccloaoopadadgreat", sum := "d676929d7f3b95e197da1c9f177ab863de7869ac897e44fd14955ca89c25a5fc", func := "treillage/treillagelaw.NaiveTells", spec := "naiveTells", unfollowed := true, recurses := true, apart := false }
def NaiveTellsSaid : Prop := naiveTellsRow.holds Tryz.pinned (OpenSpec.ofChange naiveTellsSpec)

/-- ITS FALSE NEIGHBOUR: 'it returns false'. Refute it at one input. -/
def naiveTellsWrong : ChangeSpec := { name := "naiveTells", fn := fun _ => fun
  | [d] => { results := [.lit (.bool false)], args := [d] }
  | _ => none }
def NaiveTellsWrongFalsely : Prop := naiveTellsRow.holds Tryz.pinned (OpenSpec.ofChange naiveTellsWrong)

/-- 'treillagelaw.NaiveClosed': WHATEVER THE INPUT: true; the input reads as it did. -/
def naiveClosedSpec : ChangeSpec := { name := "naiveClosed", fn := fun _ => fun
  | [d1, d2] => { results := [.lit (.bool true)], args := [d1, d2] }
  | _ => none }
def naiveClosedRow : OpenClaim := { program := "ytlfccloaoopadadgreat", sum := "d676929d7f3b95e197da1c9f177ab863de7869ac897e44fd14955ca89c25a5fc", func := "treillage/treillagelaw.NaiveClosed", spec := "naiveClosed", unfollowed := true, recurses := true, apart := false }
def NaiveClosedSaid : Prop := naiveClosedRow.holds Tryz.pinned (OpenSpec.ofChange naiveClosedSpec)

/-- ITS FALSE NEIGHBOUR: 'it returns false'. Refute it at one input. -/
def naiveClosedWrong : ChangeSpec := { name := "naiveClosed", fn := fun _ => fun
  | [d1, d2] => { results := [.lit (.bool false)], args := [d1, d2] }
  | _ => none }
def NaiveClosedWrongFalsely : Prop := naiveClosedRow.holds Tryz.pinned (OpenSpec.ofChange naiveClosedWrong)

/-- 'treillagelaw.NaiveLeast': WHATEVER THE INPUT: true; the input reads as it did. -/
def naiveLeastSpec : ChangeSpec := { name := "naiveLeast", fn := fun _ => fun
  | [d1, d2] => { results := [.lit (.bool true)], args := [d1, d2] }
  | _ => none }
def naiveLeastRow : OpenClaim := { program := "ytlfccloaoopadadgreat", sum := "d676929d7f3b95e197da1c9f177ab863de7869ac897e44fd14955ca89c25a5fc", func := "treillage/treillagelaw.NaiveLeast", spec := "naiveLeast", unfollowed := true, recurses := true, apart := false }
def NaiveLeastSaid : Prop := naiveLeastRow.holds Tryz.pinned (OpenSpec.ofChange naiveLeastSpec)

/-- ITS FALSE NEIGHBOUR: 'it returns false'. Refute it at one input. -/
def naiveLeastWrong : ChangeSpec := { name := "naiveLeast", fn := fun _ => fun
  | [d1, d2] => { results := [.lit (.bool false)], args := [d1, d2] }
  | _ => none }
def NaiveLeastWrongFalsely : Prop := naiveLeastRow.holds Tryz.pinned (OpenSpec.ofChange naiveLeastWrong)

/-- 'treillagelaw.NaiveOrder': WHATEVER THE INPUT: true; the input reads as it did. -/
def naiveOrderSpec : ChangeSpec := { name := "naiveOrder", fn := fun _ => fun
  | [d1, d2, d3] => { results := [.lit (.bool true)], args := [d1, d2, d3] }
  | _ => none }
def naiveOrderRow : OpenClaim := { program := "ytlfccloaoopadadgreat", sum := "d676929d7f3b95e197da1c9f177ab863de7869ac897e44fd14955ca89c25a5fc", func := "treillage/treillagelaw.NaiveOrder", spec := "naiveOrder", unfollowed := true, recurses := true, apart := false }
def NaiveOrderSaid : Prop := naiveOrderRow.holds Tryz.pinned (OpenSpec.ofChange naiveOrderSpec)

/-- ITS FALSE NEIGHBOUR: 'it returns false'. Refute it at one input. -/
def naiveOrderWrong : ChangeSpec := { name := "naiveOrder", fn := fun _ => fun
  | [d1, d2, d3] => { results := [.lit (.bool false)], args := [d1, d2, d3] }
  | _ => none }
def NaiveOrderWrongFalsely : Prop := naiveOrderRow.holds Tryz.pinned (OpenSpec.ofChange naiveOrderWrong)

/- THE SECOND FORM. 'bulk': how many values and letters a reading holds, each counted each time it is reached (what is shared counts as often as it is met; a slice's spare places count too). A statement '..UptoSaid' is the law's where the arguments, and the package variables that the reading takes, are together of bulk at most 1048576: NARROWER than '..Said'. Prove '..Said' where nothing that the law and all that it calls make is longer than what came in: it says more and counts as full. Else prove '..UptoSaid'. A law counts once. -/
mutual
def uptoBulk {H : Type} : DataW H → Nat
  | .lit (.string bytes) => bytes.length + 1
  | .lit _ => 1
  | .nil => 1
  | .ptr d => uptoBulk d + 1
  | .slice elems spare => uptoBulkAll elems + uptoBulkAll spare + 1
  | .agg parts => uptoBulkAll parts + 1
  | .iface _ d => uptoBulk d + 1
  | .map entries => uptoBulkEntries entries + 1
  | .held _ => 1
def uptoBulkAll {H : Type} : List (DataW H) → Nat
  | [] => 0
  | d :: r => uptoBulk d + uptoBulkAll r
def uptoBulkEntries {H : Type} : List (Lit × DataW H) → Nat
  | [] => 0
  | x :: r => uptoBulkEntry x + uptoBulkEntries r
def uptoBulkEntry {H : Type} : Lit × DataW H → Nat
  | (.string bytes, d) => bytes.length + uptoBulk d + 1
  | (_, d) => uptoBulk d + 1
 end
def uptoSmall : (H : Type) → List (DataW H) → Bool := fun _ ds => decide (uptoBulkAll ds ≤ 1048576)
def OpenSpec.upto (s : _root_.Go.ChangeSpec) : _root_.Go.OpenSpec := { _root_.Go.OpenSpec.ofChange s with cond := some uptoSmall }

/-- 'treillagelaw.RoundLevel', WHERE WHAT IT READS IS OF BULK AT MOST 1048576: true; the input reads as it did. -/
def roundLevelUptoRow : OpenClaim := { program := "ytlfccloaoopadadgreat", sum := "d676929d7f3b95e197da1c9f177ab863de7869ac897e44fd14955ca89c25a5fc", func := "treillage/treillagelaw.RoundLevel", spec := "roundLevel", unfollowed := true, recurses := true, apart := false, narrowed := true }
def RoundLevelUptoSaid : Prop := roundLevelUptoRow.holds Tryz.pinned (OpenSpec.upto roundLevelSpec)

/-- 'treillagelaw.RoundMore', WHERE WHAT IT READS IS OF BULK AT MOST 1048576: true; the input reads as it did. -/
def roundMoreUptoRow : OpenClaim := { program := "ytlfccloaoopadadgreat", sum := "d676929d7f3b95e197da1c9f177ab863de7869ac897e44fd14955ca89c25a5fc", func := "treillage/treillagelaw.RoundMore", spec := "roundMore", unfollowed := true, recurses := true, apart := false, narrowed := true }
def RoundMoreUptoSaid : Prop := roundMoreUptoRow.holds Tryz.pinned (OpenSpec.upto roundMoreSpec)

/-- 'treillagelaw.NaiveTells', WHERE WHAT IT READS IS OF BULK AT MOST 1048576: true; the input reads as it did. -/
def naiveTellsUptoRow : OpenClaim := { program := "ytlfccloaoopadadgreat", sum := "d676929d7f3b95e197da1c9f177ab863de7869ac897e44fd14955ca89c25a5fc", func := "treillage/treillagelaw.NaiveTells", spec := "naiveTells", unfollowed := true, recurses := true, apart := false, narrowed := true }
def NaiveTellsUptoSaid : Prop := naiveTellsUptoRow.holds Tryz.pinned (OpenSpec.upto naiveTellsSpec)

/-- 'treillagelaw.NaiveClosed', WHERE WHAT IT READS IS OF BULK AT MOST 1048576: true; the input reads as it did. -/
def naiveClosedUptoRow : OpenClaim := { program := "ytlfccloaoopadadgreat", sum := "d676929d7f3b95e197da1c9f177ab863de7869ac897e44fd14955ca89c25a5fc", func := "treillage/treillagelaw.NaiveClosed", spec := "naiveClosed", unfollowed := true, recurses := true, apart := false, narrowed := true }
def NaiveClosedUptoSaid : Prop := naiveClosedUptoRow.holds Tryz.pinned (OpenSpec.upto naiveClosedSpec)

/-- 'treillagelaw.NaiveLeast', WHERE WHAT IT READS IS OF BULK AT MOST 1048576: true; the input reads as it did. -/
def naiveLeastUptoRow : OpenClaim := { program := "ytlfccloaoopadadgreat", sum := "d676929d7f3b95e197da1c9f177ab863de7869ac897e44fd14955ca89c25a5fc", func := "treillage/treillagelaw.NaiveLeast", spec := "naiveLeast", unfollowed := true, recurses := true, apart := false, narrowed := true }
def NaiveLeastUptoSaid : Prop := naiveLeastUptoRow.holds Tryz.pinned (OpenSpec.upto naiveLeastSpec)

/-- 'treillagelaw.NaiveOrder', WHERE WHAT IT READS IS OF BULK AT MOST 1048576: true; the input reads as it did. -/
def naiveOrderUptoRow : OpenClaim := { program := "ytlfccloaoopadadgreat", sum := "d676929d7f3b95e197da1c9f177ab863de7869ac897e44fd14955ca89c25a5fc", func := "treillage/treillagelaw.NaiveOrder", spec := "naiveOrder", unfollowed := true, recurses := true, apart := false, narrowed := true }
def NaiveOrderUptoSaid : Prop := naiveOrderUptoRow.holds Tryz.pinned (OpenSpec.upto naiveOrderSpec)

end Rows
end Go.Proofs.YtlfccloaoopadadGreat
