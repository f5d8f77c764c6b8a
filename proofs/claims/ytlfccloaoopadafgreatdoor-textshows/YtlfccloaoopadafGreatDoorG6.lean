/-
  A region that draws its order, whose operations read and whose calls lay new blocks alone: one walk, in the order of the text, in 'some world that is as w below n' (the library's quiet walk, at that class of worlds).
-/
import Derived.BigQuiet
import Derived.Test.YtlfccloaoopadafGreatDoorG1
namespace Go.Proofs.YtlfccloaoopadafGreatDoor
open Go.ChangeShapes Go.WideShapes Go.ChangeAt Go.RowKit

/-- a world that is as w below n -/
structure Low (n : Nat) (w : World) where
  wd : World
  low : Below n w wd

instance (n : Nat) (w : World) : Nonempty (Low n w) := ⟨⟨w, Below.refl _ _⟩⟩

theorem wp_region_low {P : Program} {id : Nat} {Q : Exit → Act → World → Prop} {a : Act} {w : World} {l : List Oper} (n : Nat) (hm : P.follows .mixedOrders = true) (hB : Region.lexB .any l.toArray = true)
    (h : wpQuiet P l.toArray (fun w' => ∃ x : Low n w, w' = x.wd) (fun a' => ∀ w', (∃ x : Low n w, w' = x.wd) → Q .normal a' w') l a) : (Code.region id l.toArray true).wp P Q a w :=
  wp_region_quiet (C := fun w' => ∃ x : Low n w, w' = x.wd) hm hB ⟨⟨w.drew, (Below.refl _ _).drew⟩, rfl⟩ (by simpa using h)

theorem low_of {P : Program} {f : FuncId} {args : Array Value} {w : World} {x : Low w.heap.size w} {v : Value}
    (h : Calls P f args x.wd fun e w' => e = .returned v ∧ Below x.wd.heap.size x.wd w') : Calls P f args x.wd fun e w'' => e = .returned v ∧ ∃ y : Low w.heap.size w, w'' = y.wd :=
  h.mono fun _ w' ⟨he, hb⟩ => ⟨he, ⟨w', x.low.trans (hb.mono x.low.size)⟩, rfl⟩
theorem low_same {P : Program} {f : FuncId} {args : Array Value} {n : Nat} {w : World} {x : Low n w} {v : Value}
    (h : Calls P f args x.wd fun e w' => e = .returned v ∧ w' = x.wd) : Calls P f args x.wd fun e w'' => e = .returned v ∧ ∃ y : Low n w, w'' = y.wd :=
  h.mono fun _ _ ⟨he, hb⟩ => ⟨he, x, hb⟩
end Go.Proofs.YtlfccloaoopadafGreatDoor
