/-
  No cell of these rows narrows 'for every input' (looked for: loops, veiled, ifaces, maps, wideKeys, modest, calm, conditions, laid).
  DERIVED. THE GIVEN ROWS OF THIS SEAT. 6 by the template 'for every input the law returns true; each argument reads behind the call as it read before'; 0 by the template 'total and deterministic' (their statements: YtlfccloaoopadaeGreatTotals.lean).
  GIVEN WITH THE SEED: the statements are not yours to turn. If you find one false, say at which input.
  Laid BY PROGRAM, IN A SANDBOX (cutbox-rows.mjs): the forced cells as the released guide's own fill.sh prints them over the translation 8331b9537e800e2c… (all of the seat's roots in one cut). By AI agents, Wed Nov 11 2026. No macro, syntax, notation, axiom, sorry.
-/
import Derived.Test.YtlfccloaoopadaeGreatChecked
import GoSem.Claim
import GoSem.ClaimJoined
import GoSem.ClaimMapViews
import Derived.JoinedTies
import Derived.KernelRfl
namespace Go.Proofs.YtlfccloaoopadaeGreat
/- THE CELL 'sum', in the pinned program and in every row, IS THE sha256 OF THE DUMP (.gsa) THAT YtlfccloaoopadaeGreatProg.lean LOADS. Nothing in Lean hashes anything: it is a label: what it is worth is what the hold of that sum in a sandbox is worth. -/
noncomputable def Tryz.pinned : Pinned := { name := "ytlfccloaoopadaegreat", sum := "8331b9537e800e2c5d1718b94990eecb227df5f0b72d7d2614d1126b1fb12315", checked := Tryz.checked }
namespace Rows
def none {H : Type} : Left H := { results := [], args := [] }

/-- 'treillagelaw.SemiTells': WHATEVER THE INPUT: true; the input reads as it did. -/
def semiTellsSpec : ChangeSpec := { name := "semiTells", fn := fun _ => fun
  | [d] => { results := [.lit (.bool true)], args := [d] }
  | _ => none }
def semiTellsRow : OpenClaim := { program := "ytlfccloaoopadaegreat", sum := "8331b9537e800e2c5d1718b94990eecb227df5f0b72d7d2614d1126b1fb12315", func := "treillage/treillagelaw.SemiTells", spec := "semiTells", unfollowed := true, recurses := true, apart := false }
def SemiTellsSaid : Prop := semiTellsRow.holds Tryz.pinned (OpenSpec.ofChange semiTellsSpec)

/-- ITS FALSE NEIGHBOUR: 'it returns false'. Refute it at one input. -/
def semiTellsWrong : ChangeSpec := { name := "semiTells", fn := fun _ => fun
  | [d] => { results := [.lit (.bool false)], args := [d] }
  | _ => none }
def SemiTellsWrongFalsely : Prop := semiTellsRow.holds Tryz.pinned (OpenSpec.ofChange semiTellsWrong)

/-- 'treillagelaw.SemiSame': WHATEVER THE INPUT: true; the input reads as it did. -/
def semiSameSpec : ChangeSpec := { name := "semiSame", fn := fun _ => fun
  | [d] => { results := [.lit (.bool true)], args := [d] }
  | _ => none }
def semiSameRow : OpenClaim := { program := "ytlfccloaoopadaegreat", sum := "8331b9537e800e2c5d1718b94990eecb227df5f0b72d7d2614d1126b1fb12315", func := "treillage/treillagelaw.SemiSame", spec := "semiSame", unfollowed := true, recurses := true, apart := false }
def SemiSameSaid : Prop := semiSameRow.holds Tryz.pinned (OpenSpec.ofChange semiSameSpec)

/-- ITS FALSE NEIGHBOUR: 'it returns false'. Refute it at one input. -/
def semiSameWrong : ChangeSpec := { name := "semiSame", fn := fun _ => fun
  | [d] => { results := [.lit (.bool false)], args := [d] }
  | _ => none }
def SemiSameWrongFalsely : Prop := semiSameRow.holds Tryz.pinned (OpenSpec.ofChange semiSameWrong)

/-- 'treillagelaw.TraceTells': WHATEVER THE INPUT: true; the input reads as it did. -/
def traceTellsSpec : ChangeSpec := { name := "traceTells", fn := fun _ => fun
  | [d] => { results := [.lit (.bool true)], args := [d] }
  | _ => none }
def traceTellsRow : OpenClaim := { program := "ytlfccloaoopadaegreat", sum := "8331b9537e800e2c5d1718b94990eecb227df5f0b72d7d2614d1126b1fb12315", func := "treillage/treillagelaw.TraceTells", spec := "traceTells", unfollowed := true, recurses := true, apart := false }
def TraceTellsSaid : Prop := traceTellsRow.holds Tryz.pinned (OpenSpec.ofChange traceTellsSpec)

/-- ITS FALSE NEIGHBOUR: 'it returns false'. Refute it at one input. -/
def traceTellsWrong : ChangeSpec := { name := "traceTells", fn := fun _ => fun
  | [d] => { results := [.lit (.bool false)], args := [d] }
  | _ => none }
def TraceTellsWrongFalsely : Prop := traceTellsRow.holds Tryz.pinned (OpenSpec.ofChange traceTellsWrong)

/-- 'treillagelaw.TraceReplays': WHATEVER THE INPUT: true; the input reads as it did. -/
def traceReplaysSpec : ChangeSpec := { name := "traceReplays", fn := fun _ => fun
  | [d1, d2] => { results := [.lit (.bool true)], args := [d1, d2] }
  | _ => none }
def traceReplaysRow : OpenClaim := { program := "ytlfccloaoopadaegreat", sum := "8331b9537e800e2c5d1718b94990eecb227df5f0b72d7d2614d1126b1fb12315", func := "treillage/treillagelaw.TraceReplays", spec := "traceReplays", unfollowed := true, recurses := true, apart := false }
def TraceReplaysSaid : Prop := traceReplaysRow.holds Tryz.pinned (OpenSpec.ofChange traceReplaysSpec)

/-- ITS FALSE NEIGHBOUR: 'it returns false'. Refute it at one input. -/
def traceReplaysWrong : ChangeSpec := { name := "traceReplays", fn := fun _ => fun
  | [d1, d2] => { results := [.lit (.bool false)], args := [d1, d2] }
  | _ => none }
def TraceReplaysWrongFalsely : Prop := traceReplaysRow.holds Tryz.pinned (OpenSpec.ofChange traceReplaysWrong)

/-- 'treillagelaw.TraceSame': WHATEVER THE INPUT: true; the input reads as it did. -/
def traceSameSpec : ChangeSpec := { name := "traceSame", fn := fun _ => fun
  | [d1, d2] => { results := [.lit (.bool true)], args := [d1, d2] }
  | _ => none }
def traceSameRow : OpenClaim := { program := "ytlfccloaoopadaegreat", sum := "8331b9537e800e2c5d1718b94990eecb227df5f0b72d7d2614d1126b1fb12315", func := "treillage/treillagelaw.TraceSame", spec := "traceSame", unfollowed := true, recurses := true, apart := false }
def TraceSameSaid : Prop := traceSameRow.holds Tryz.pinned (OpenSpec.ofChange traceSameSpec)

/-- ITS FALSE NEIGHBOUR: 'it returns false'. Refute it at one input. -/
def traceSameWrong : ChangeSpec := { name := "traceSame", fn := fun _ => fun
  | [d1, d2] => { results := [.lit (.bool false)], args := [d1, d2] }
  | _ => none }
def TraceSameWrongFalsely : Prop := traceSameRow.holds Tryz.pinned (OpenSpec.ofChange traceSameWrong)

/-- 'treillagelaw.TraceSound': WHATEVER THE INPUT: true; the input reads as it did. -/
def traceSoundSpec : ChangeSpec := { name := "traceSound", fn := fun _ => fun
  | [d1, d2] => { results := [.lit (.bool true)], args := [d1, d2] }
  | _ => none }
def traceSoundRow : OpenClaim := { program := "ytlfccloaoopadaegreat", sum := "8331b9537e800e2c5d1718b94990eecb227df5f0b72d7d2614d1126b1fb12315", func := "treillage/treillagelaw.TraceSound", spec := "traceSound", unfollowed := true, recurses := true, apart := false }
def TraceSoundSaid : Prop := traceSoundRow.holds Tryz.pinned (OpenSpec.ofChange traceSoundSpec)

/-- ITS FALSE NEIGHBOUR: 'it returns false'. Refute it at one input. -/
def traceSoundWrong : ChangeSpec := { name := "traceSound", fn := fun _ => fun
  | [d1, d2] => { results := [.lit (.bool false)], args := [d1, d2] }
  | _ => none }
def TraceSoundWrongFalsely : Prop := traceSoundRow.holds Tryz.pinned (OpenSpec.ofChange traceSoundWrong)

/- THE SECOND FORM. 'bulk': how many values and letters a reading holds, each counted each time it is reached (what is shared counts as often as it is met; a slice's spare places count too). A statement '..UptoSaid' is the law's where the arguments, and the package variables that the reading takes, are together of bulk at most 1048576: NARROWER than '..Said'. Prove '..Said' where nothing that the law and all that it calls make is longer than what came in: it says more and counts as full. Else prove '..UptoSaid'. A law counts once. -/
mutual
def uptoBulk {H : Type} : DataW H → Nat
  | .lit (.string bytes) => bytes.length + 1
  | .lit _ => 1
  | .nil => 1
  | .ptr d => uptoBulk d + 1
  | .slice elems spare => uptoBulkAll elems + uptoBulkAll spare + 1
  | .agg parts => uptoBulkAll parts + 1
  | .iface _ d => uptoBulk d + 1
  | .map entries => uptoBulkEntries entries + 1
  | .held _ => 1
def uptoBulkAll {H : Type} : List (DataW H) → Nat
  | [] => 0
  | d :: r => uptoBulk d + uptoBulkAll r
def uptoBulkEntries {H : Type} : List (Lit × DataW H) → Nat
  | [] => 0
  | x :: r => uptoBulkEntry x + uptoBulkEntries r
def uptoBulkEntry {H : Type} : Lit × DataW H → Nat
  | (.string bytes, d) => bytes.length + uptoBulk d + 1
  | (_, d) => uptoBulk d + 1
 end
def uptoSmall : (H : Type) → List (DataW H) → Bool := fun _ ds => decide (uptoBulkAll ds ≤ 1048576)
def OpenSpec.upto (s : _root_.Go.ChangeSpec) : _root_.Go.OpenSpec := { _root_.Go.OpenSpec.ofChange s with cond := some uptoSmall }

/-- 'treillagelaw.SemiTells', WHERE WHAT IT READS IS OF BULK AT MOST 1048576: true; the input reads as it did. -/
def semiTellsUptoRow : OpenClaim := { program := "ytlfccloaoopadaegreat", sum := "8331b9537e800e2c5d1718b94990eecb227df5f0b72d7d2614d1126b1fb12315", func := "treillage/treillagelaw.SemiTells", spec := "semiTells", unfollowed := true, recurses := true, apart := false, narrowed := true }
def SemiTellsUptoSaid : Prop := semiTellsUptoRow.holds Tryz.pinned (OpenSpec.upto semiTellsSpec)

/-- 'treillagelaw.SemiSame', WHERE WHAT IT READS IS OF BULK AT MOST 1048576: true; the input reads as it did. -/
def semiSameUptoRow : OpenClaim := { program := "ytlfccloaoopadaegreat", sum := "8331b9537e800e2c5d1718b94990eecb227df5f0b72d7d2614d1126b1fb12315", func := "treillage/treillagelaw.SemiSame", spec := "semiSame", unfollowed := true, recurses := true, apart := false, narrowed := true }
def SemiSameUptoSaid : Prop := semiSameUptoRow.holds Tryz.pinned (OpenSpec.upto semiSameSpec)

/-- 'treillagelaw.TraceTells', WHERE WHAT IT READS IS OF BULK AT MOST 1048576: true; the input reads as it did. -/
def traceTellsUptoRow : OpenClaim := { program := "ytlfccloaoopadaegreat", sum := "8331b9537e800e2c5d1718b94990eecb227df5f0b72d7d2614d1126b1fb12315", func := "treillage/treillagelaw.TraceTells", spec := "traceTells", unfollowed := true, recurses := true, apart := false, narrowed := true }
def TraceTellsUptoSaid : Prop := traceTellsUptoRow.holds Tryz.pinned (OpenSpec.upto traceTellsSpec)

/-- 'treillagelaw.TraceReplays', WHERE WHAT IT READS IS OF BULK AT MOST 1048576: true; the input reads as it did. -/
def traceReplaysUptoRow : OpenClaim := { program := "ytlfccloaoopadaegreat", sum := "8331b9537e800e2c5d1718b94990eecb227df5f0b72d7d2614d1126b1fb12315", func := "treillage/treillagelaw.TraceReplays", spec := "traceReplays", unfollowed := true, recurses := true, apart := false, narrowed := true }
def TraceReplaysUptoSaid : Prop := traceReplaysUptoRow.holds Tryz.pinned (OpenSpec.upto traceReplaysSpec)

/-- 'treillagelaw.TraceSame', WHERE WHAT IT READS IS OF BULK AT MOST 1048576: true; the input reads as it did. -/
def traceSameUptoRow : OpenClaim := { program := "ytlfccloaoopadaegreat", sum := "8331b9537e800e2c5d1718b94990eecb227df5f0b72d7d2614d1126b1fb12315", func := "treillage/treillagelaw.TraceSame", spec := "traceSame", unfollowed := true, recurses := true, apart := false, narrowed := true }
def TraceSameUptoSaid : Prop := traceSameUptoRow.holds Tryz.pinned (OpenSpec.upto traceSameSpec)

/-- 'treillagelaw.TraceSound', WHERE WHAT IT READS IS OF BULK AT MOST 1048576: true; the input reads as it did. -/
def traceSoundUptoRow : OpenClaim := { program := "ytlfccloaoopadaegreat", sum := "8331b9537e800e2c5d1718b94990eecb227df5f0b72d7d2614d1126b1fb12315", func := "treillage/treillagelaw.TraceSound", spec := "traceSound", unfollowed := true, recurses := true, apart := false, narrowed := true }
def TraceSoundUptoSaid : Prop := traceSoundUptoRow.holds Tryz.pinned (OpenSpec.upto traceSoundSpec)

end Rows
end Go.Proofs.YtlfccloaoopadaeGreat
