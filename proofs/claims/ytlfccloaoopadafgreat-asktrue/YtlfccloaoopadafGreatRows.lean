/-
  No cell of these rows narrows 'for every input' (looked for: loops, veiled, ifaces, maps, wideKeys, modest, calm, conditions, laid).
  DERIVED. THE GIVEN ROWS OF THIS SEAT. 3 by the template 'for every input the law returns true; each argument reads behind the call as it read before'; 0 by the template 'total and deterministic' (their statements: YtlfccloaoopadafGreatTotals.lean).
  GIVEN WITH THE SEED: the statements are not yours to turn. If you find one false, say at which input.
  Laid BY PROGRAM, IN A SANDBOX (cutbox-rows.mjs): the forced cells as the released guide's own fill.sh prints them over the translation 04d17acffc831dd4… (all of the seat's roots in one cut). By AI agents, Wed Nov 11 2026. No macro, syntax, notation, axiom, sorry.
-/
import Derived.Test.YtlfccloaoopadafGreatChecked
import GoSem.Claim
import GoSem.ClaimJoined
import GoSem.ClaimMapViews
import Derived.JoinedTies
import Derived.KernelRfl
namespace Go.Proofs.YtlfccloaoopadafGreat
/- THE CELL 'sum', in the pinned program and in every row, IS THE sha256 OF THE DUMP (.gsa) THAT YtlfccloaoopadafGreatProg.lean LOADS. Nothing in Lean hashes anything: it is a label: what it is worth is what the hold of that sum in a sandbox is worth. -/
noncomputable def Tryz.pinned : Pinned := { name := "ytlfccloaoopadafgreat", sum := "04d17acffc831dd4bb924bd1da1077b6634ac7a32aa57c304b3f7b063aeed5c6", checked := Tryz.checked }
namespace Rows
def none {H : Type} : Left H := { results := [], args := [] }

/-- 'treillagelaw.AskMatches': WHATEVER THE INPUT: true; the input reads as it did. -/
def askMatchesSpec : ChangeSpec := { name := "askMatches", fn := fun _ => fun
  | [d1, d2, d3] => { results := [.lit (.bool true)], args := [d1, d2, d3] }
  | _ => none }
def askMatchesRow : OpenClaim := { program := "ytlfccloaoopadafgreat", sum := "04d17acffc831dd4bb924bd1da1077b6634ac7a32aa57c304b3f7b063aeed5c6", func := "treillage/treillagelaw.AskMatches", spec := "askMatches", unfollowed := true, recurses := true, apart := false }
def AskMatchesSaid : Prop := askMatchesRow.holds Tryz.pinned (OpenSpec.ofChange askMatchesSpec)

/-- ITS FALSE NEIGHBOUR: 'it returns false'. Refute it at one input. -/
def askMatchesWrong : ChangeSpec := { name := "askMatches", fn := fun _ => fun
  | [d1, d2, d3] => { results := [.lit (.bool false)], args := [d1, d2, d3] }
  | _ => none }
def AskMatchesWrongFalsely : Prop := askMatchesRow.holds Tryz.pinned (OpenSpec.ofChange askMatchesWrong)

/-- 'treillagelaw.AskOnly': WHATEVER THE INPUT: true; the input reads as it did. -/
def askOnlySpec : ChangeSpec := { name := "askOnly", fn := fun _ => fun
  | [d1, d2] => { results := [.lit (.bool true)], args := [d1, d2] }
  | _ => none }
def askOnlyRow : OpenClaim := { program := "ytlfccloaoopadafgreat", sum := "04d17acffc831dd4bb924bd1da1077b6634ac7a32aa57c304b3f7b063aeed5c6", func := "treillage/treillagelaw.AskOnly", spec := "askOnly", unfollowed := true, recurses := true, apart := false }
def AskOnlySaid : Prop := askOnlyRow.holds Tryz.pinned (OpenSpec.ofChange askOnlySpec)

/-- ITS FALSE NEIGHBOUR: 'it returns false'. Refute it at one input. -/
def askOnlyWrong : ChangeSpec := { name := "askOnly", fn := fun _ => fun
  | [d1, d2] => { results := [.lit (.bool false)], args := [d1, d2] }
  | _ => none }
def AskOnlyWrongFalsely : Prop := askOnlyRow.holds Tryz.pinned (OpenSpec.ofChange askOnlyWrong)

/-- 'treillagelaw.AskTrue': WHATEVER THE INPUT: true; the input reads as it did. -/
def askTrueSpec : ChangeSpec := { name := "askTrue", fn := fun _ => fun
  | [d1, d2, d3, d4] => { results := [.lit (.bool true)], args := [d1, d2, d3, d4] }
  | _ => none }
def askTrueRow : OpenClaim := { program := "ytlfccloaoopadafgreat", sum := "04d17acffc831dd4bb924bd1da1077b6634ac7a32aa57c304b3f7b063aeed5c6", func := "treillage/treillagelaw.AskTrue", spec := "askTrue", unfollowed := true, recurses := true, apart := false }
def AskTrueSaid : Prop := askTrueRow.holds Tryz.pinned (OpenSpec.ofChange askTrueSpec)

/-- ITS FALSE NEIGHBOUR: 'it returns false'. Refute it at one input. -/
def askTrueWrong : ChangeSpec := { name := "askTrue", fn := fun _ => fun
  | [d1, d2, d3, d4] => { results := [.lit (.bool false)], args := [d1, d2, d3, d4] }
  | _ => none }
def AskTrueWrongFalsely : Prop := askTrueRow.holds Tryz.pinned (OpenSpec.ofChange askTrueWrong)

/- THE SECOND FORM. 'bulk': how many values and letters a reading holds, each counted each time it is reached (what is shared counts as often as it is met; a slice's spare places count too). A statement '..UptoSaid' is the law's where the arguments, and the package variables that the reading takes, are together of bulk at most 1048576: NARROWER than '..Said'. Prove '..Said' where nothing that the law and all that it calls make is longer than what came in: it says more and counts as full. Else prove '..UptoSaid'. A law counts once. -/
mutual
def uptoBulk {H : Type} : DataW H → Nat
  | .lit (.string bytes) => bytes.length + 1
  | .lit _ => 1
  | .nil => 1
  | .ptr d => uptoBulk d + 1
  | .slice elems spare => uptoBulkAll elems + uptoBulkAll spare + 1
  | .agg parts => uptoBulkAll parts + 1
  | .iface _ d => uptoBulk d + 1
  | .map entries => uptoBulkEntries entries + 1
  | .held _ => 1
def uptoBulkAll {H : Type} : List (DataW H) → Nat
  | [] => 0
  | d :: r => uptoBulk d + uptoBulkAll r
def uptoBulkEntries {H : Type} : List (Lit × DataW H) → Nat
  | [] => 0
  | x :: r => uptoBulkEntry x + uptoBulkEntries r
def uptoBulkEntry {H : Type} : Lit × DataW H → Nat
  | (.string bytes, d) => bytes.length + uptoBulk d + 1
  | (_, d) => uptoBulk d + 1
 end
def uptoSmall : (H : Type) → List (DataW H) → Bool := fun _ ds => decide (uptoBulkAll ds ≤ 1048576)
def OpenSpec.upto (s : _root_.Go.ChangeSpec) : _root_.Go.OpenSpec := { _root_.Go.OpenSpec.ofChange s with cond := some uptoSmall }

/-- 'treillagelaw.AskMatches', WHERE WHAT IT READS IS OF BULK AT MOST 1048576: true; the input reads as it did. -/
def askMatchesUptoRow : OpenClaim := { program := "ytlfccloaoopadafgreat", sum := "04d17acffc831dd4bb924bd1da1077b6634ac7a32aa57c304b3f7b063aeed5c6", func := "treillage/treillagelaw.AskMatches", spec := "askMatches", unfollowed := true, recurses := true, apart := false, narrowed := true }
def AskMatchesUptoSaid : Prop := askMatchesUptoRow.holds Tryz.pinned (OpenSpec.upto askMatchesSpec)

/-- 'treillagelaw.AskOnly', WHERE WHAT IT READS IS OF BULK AT MOST 1048576: true; the input reads as it did. -/
def askOnlyUptoRow : OpenClaim := { program := "ytlfccloaoopadafgreat", sum := "04d17acffc831dd4bb924bd1da1077b6634ac7a32aa57c304b3f7b063aeed5c6", func := "treillage/treillagelaw.AskOnly", spec := "askOnly", unfollowed := true, recurses := true, apart := false, narrowed := true }
def AskOnlyUptoSaid : Prop := askOnlyUptoRow.holds Tryz.pinned (OpenSpec.upto askOnlySpec)

/-- 'treillagelaw.AskTrue', WHERE WHAT IT READS IS OF BULK AT MOST 1048576: true; the input reads as it did. -/
def askTrueUptoRow : OpenClaim := { program := "ytlfccloaoopadafgreat", sum := "04d17acffc831dd4bb924bd1da1077b6634ac7a32aa57c304b3f7b063aeed5c6", func := "treillage/treillagelaw.AskTrue", spec := "askTrue", unfollowed := true, recurses := true, apart := false, narrowed := true }
def AskTrueUptoSaid : Prop := askTrueUptoRow.holds Tryz.pinned (OpenSpec.upto askTrueSpec)

end Rows
end Go.Proofs.YtlfccloaoopadafGreat
