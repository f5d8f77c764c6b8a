/-
  The laws' own program 'roads': what it is, and that the call lays just that into new memory.
-/
import Derived.Test.YtlfccloaoopadafGreatDoorG1
import Derived.Test.YtlfccloaoopadafGreatDoorRows
namespace Go.Proofs.YtlfccloaoopadafGreatDoor.Roads
open Go.ChangeShapes Go.WideShapes Go.ChangeAt Go.RowKit

def preds : List Prd := [⟨ByteArray.mk #[101, 100, 103, 101], 2, 0⟩, ⟨ByteArray.mk #[102, 97, 114], 2, 2⟩, ⟨ByteArray.mk #[108, 111, 110, 101], 1, 0⟩]
def rules : List Rul := [
  ⟨⟨0, [⟨false, 0⟩, ⟨false, 1⟩]⟩, -1, 0, []⟩,
  ⟨⟨0, [⟨false, 1⟩, ⟨false, 2⟩]⟩, -1, 0, []⟩,
  ⟨⟨0, [⟨false, 2⟩, ⟨false, 0⟩]⟩, -1, 0, []⟩,
  ⟨⟨0, [⟨false, 3⟩, ⟨false, 0⟩]⟩, -1, 0, []⟩,
  ⟨⟨1, [⟨true, 0⟩, ⟨true, 1⟩]⟩, -1, 1, [⟨false, ⟨0, [⟨true, 0⟩, ⟨true, 1⟩]⟩⟩]⟩,
  ⟨⟨1, [⟨true, 0⟩, ⟨true, 2⟩]⟩, 0, 1, [⟨false, ⟨1, [⟨true, 0⟩, ⟨true, 1⟩]⟩⟩, ⟨false, ⟨0, [⟨true, 1⟩, ⟨true, 2⟩]⟩⟩]⟩,
  ⟨⟨2, [⟨true, 0⟩]⟩, -1, 0, [⟨false, ⟨0, [⟨true, 0⟩, ⟨true, 1⟩]⟩⟩, ⟨true, ⟨1, [⟨true, 0⟩, ⟨true, 0⟩]⟩⟩]⟩]

/-- new blocks, one behind the other -/
def allocs (w : World) : List Obj → World
  | [] => w
  | o :: l => allocs (w.alloc o) l
theorem allocs_size : ∀ (l : List Obj) (w : World), (allocs w l).heap.size = w.heap.size + l.length
  | [], w => rfl
  | o :: l, w => by rw [allocs, allocs_size l]; simp; omega
theorem allocs_below : ∀ (l : List Obj) (w : World), Below w.heap.size w (allocs w l)
  | [], w => Below.refl _ _
  | o :: l, w => (below_alloc w o).trans ((allocs_below l (w.alloc o)).mono (by simp))
theorem allocs_heap : ∀ (l : List Obj) (w : World) (i : Nat) (o : Obj), l[i]? = some o → (allocs w l).heap[w.heap.size + i]? = some o
  | [], w, i, o, h => by simp at h
  | x :: l, w, 0, o, h => by
    obtain rfl : x = o := by simpa using h
    have := (allocs_below l (w.alloc x)).block w.heap.size (by simp)
    rw [allocs, Nat.add_zero, this]
    show (w.heap.push x)[w.heap.size]? = _
    simp
  | x :: l, w, i + 1, o, h => by
    have := allocs_heap l (w.alloc x) i o (by simpa using h)
    rw [allocs, ← this]
    congr 1
    simp; omega
theorem allocs_cell {w : World} {l : List Obj} (i j : Nat) {c : Array Value} {t : TypeId} {v : Value} (h : l[i]? = some (.cells c t)) (hv : c[j]? = some v) : (allocs w l).cell? ⟨w.heap.size + i, j, none⟩ = some v := by
  have := allocs_heap l w i _ h
  simp [World.cell?, this, hv]
theorem allocs_frozen {w : World} {l : List Obj} (i j : Nat) {c : Array Value} {t : TypeId} (h : l[i]? = some (.cells c t)) : (allocs w l).frozen? ⟨w.heap.size + i, j, none⟩ = false := by
  have := allocs_heap l w i _ h
  simp [World.frozen?, this]

/-- all that a call of roads lays, the first at block B -/
def blocks (B : Nat) : List Obj := [
  .cells #[.slice (some ⟨B + 1, 0, none⟩) 3 3, .slice (some ⟨B + 62, 0, none⟩) 7 7] 25,
  .cells #[.string (ByteArray.mk #[101, 100, 103, 101]), .int .i64 2, .int .i64 0, .string (ByteArray.mk #[102, 97, 114]), .int .i64 2, .int .i64 2, .string (ByteArray.mk #[108, 111, 110, 101]), .int .i64 1, .int .i64 0] 47,
  .cells #[.bool false, .int .i64 0] 94,
  .cells #[.bool false, .int .i64 1] 94,
  .cells #[.bool false, .int .i64 0, .bool false, .int .i64 1] 94,
  .cells #[.int .i64 0, .slice (some ⟨B + 4, 0, none⟩) 2 2] 51,
  .cells #[.bool false, .int .i64 1] 94,
  .cells #[.bool false, .int .i64 2] 94,
  .cells #[.bool false, .int .i64 1, .bool false, .int .i64 2] 94,
  .cells #[.int .i64 0, .slice (some ⟨B + 8, 0, none⟩) 2 2] 51,
  .cells #[.bool false, .int .i64 2] 94,
  .cells #[.bool false, .int .i64 0] 94,
  .cells #[.bool false, .int .i64 2, .bool false, .int .i64 0] 94,
  .cells #[.int .i64 0, .slice (some ⟨B + 12, 0, none⟩) 2 2] 51,
  .cells #[.bool false, .int .i64 3] 94,
  .cells #[.bool false, .int .i64 0] 94,
  .cells #[.bool false, .int .i64 3, .bool false, .int .i64 0] 94,
  .cells #[.int .i64 0, .slice (some ⟨B + 16, 0, none⟩) 2 2] 51,
  .cells #[.bool true, .int .i64 0] 94,
  .cells #[.bool true, .int .i64 1] 94,
  .cells #[.bool true, .int .i64 0, .bool true, .int .i64 1] 94,
  .cells #[.int .i64 1, .slice (some ⟨B + 20, 0, none⟩) 2 2] 51,
  .cells #[.bool true, .int .i64 0] 94,
  .cells #[.bool true, .int .i64 1] 94,
  .cells #[.bool true, .int .i64 0, .bool true, .int .i64 1] 94,
  .cells #[.int .i64 0, .slice (some ⟨B + 24, 0, none⟩) 2 2] 51,
  .cells #[.int .i64 0, .slice (some ⟨B + 24, 0, none⟩) 2 2] 51,
  .cells #[.bool false, .int .i64 0, .slice (some ⟨B + 24, 0, none⟩) 2 2] 66,
  .cells #[.bool false, .int .i64 0, .slice (some ⟨B + 24, 0, none⟩) 2 2] 66,
  .cells #[.bool true, .int .i64 0] 94,
  .cells #[.bool true, .int .i64 2] 94,
  .cells #[.bool true, .int .i64 0, .bool true, .int .i64 2] 94,
  .cells #[.int .i64 1, .slice (some ⟨B + 31, 0, none⟩) 2 2] 51,
  .cells #[.bool true, .int .i64 0] 94,
  .cells #[.bool true, .int .i64 1] 94,
  .cells #[.bool true, .int .i64 0, .bool true, .int .i64 1] 94,
  .cells #[.int .i64 1, .slice (some ⟨B + 35, 0, none⟩) 2 2] 51,
  .cells #[.int .i64 1, .slice (some ⟨B + 35, 0, none⟩) 2 2] 51,
  .cells #[.bool false, .int .i64 1, .slice (some ⟨B + 35, 0, none⟩) 2 2] 66,
  .cells #[.bool true, .int .i64 1] 94,
  .cells #[.bool true, .int .i64 2] 94,
  .cells #[.bool true, .int .i64 1, .bool true, .int .i64 2] 94,
  .cells #[.int .i64 0, .slice (some ⟨B + 41, 0, none⟩) 2 2] 51,
  .cells #[.int .i64 0, .slice (some ⟨B + 41, 0, none⟩) 2 2] 51,
  .cells #[.bool false, .int .i64 0, .slice (some ⟨B + 41, 0, none⟩) 2 2] 66,
  .cells #[.bool false, .int .i64 1, .slice (some ⟨B + 35, 0, none⟩) 2 2, .bool false, .int .i64 0, .slice (some ⟨B + 41, 0, none⟩) 2 2] 66,
  .cells #[.bool true, .int .i64 0] 94,
  .cells #[.bool true, .int .i64 0] 94,
  .cells #[.int .i64 2, .slice (some ⟨B + 47, 0, none⟩) 1 1] 51,
  .cells #[.bool true, .int .i64 0] 94,
  .cells #[.bool true, .int .i64 1] 94,
  .cells #[.bool true, .int .i64 0, .bool true, .int .i64 1] 94,
  .cells #[.int .i64 0, .slice (some ⟨B + 51, 0, none⟩) 2 2] 51,
  .cells #[.int .i64 0, .slice (some ⟨B + 51, 0, none⟩) 2 2] 51,
  .cells #[.bool false, .int .i64 0, .slice (some ⟨B + 51, 0, none⟩) 2 2] 66,
  .cells #[.bool true, .int .i64 0] 94,
  .cells #[.bool true, .int .i64 0] 94,
  .cells #[.bool true, .int .i64 0, .bool true, .int .i64 0] 94,
  .cells #[.int .i64 1, .slice (some ⟨B + 57, 0, none⟩) 2 2] 51,
  .cells #[.int .i64 1, .slice (some ⟨B + 57, 0, none⟩) 2 2] 51,
  .cells #[.bool true, .int .i64 1, .slice (some ⟨B + 57, 0, none⟩) 2 2] 66,
  .cells #[.bool false, .int .i64 0, .slice (some ⟨B + 51, 0, none⟩) 2 2, .bool true, .int .i64 1, .slice (some ⟨B + 57, 0, none⟩) 2 2] 66,
  .cells #[.int .i64 0, .slice (some ⟨B + 4, 0, none⟩) 2 2, .int .i64 (-1), .int .i64 0, .slice none 0 0, .int .i64 0, .slice (some ⟨B + 8, 0, none⟩) 2 2, .int .i64 (-1), .int .i64 0, .slice none 0 0, .int .i64 0, .slice (some ⟨B + 12, 0, none⟩) 2 2, .int .i64 (-1), .int .i64 0, .slice none 0 0, .int .i64 0, .slice (some ⟨B + 16, 0, none⟩) 2 2, .int .i64 (-1), .int .i64 0, .slice none 0 0, .int .i64 1, .slice (some ⟨B + 20, 0, none⟩) 2 2, .int .i64 (-1), .int .i64 1, .slice (some ⟨B + 28, 0, none⟩) 1 1, .int .i64 1, .slice (some ⟨B + 31, 0, none⟩) 2 2, .int .i64 0, .int .i64 1, .slice (some ⟨B + 45, 0, none⟩) 2 2, .int .i64 2, .slice (some ⟨B + 47, 0, none⟩) 1 1, .int .i64 (-1), .int .i64 0, .slice (some ⟨B + 61, 0, none⟩) 2 2] 54]
theorem blocks_length (B : Nat) : (blocks B).length = 63 := rfl

theorem heap_lt (w : World) (i : Nat) (h : i < 63) : w.heap.size + i < (allocs w (blocks w.heap.size)).heap.size := by rw [allocs_size, blocks_length]; omega

theorem predsAt_roads (w : World) : predsAt (allocs w (blocks w.heap.size)) (.slice (some ⟨w.heap.size + 1, 0, none⟩) 3 3) preds := by
  refine ⟨some ⟨w.heap.size + 1, 0, none⟩, 3, rfl, by decide, .inr ⟨w.heap.size + 1, 0, rfl, heap_lt w 1 (by omega), ?_⟩⟩
  intro i x hi
  match i, hi with
  | 0, hi => obtain rfl := (Option.some.inj hi); exact ⟨allocs_cell 1 0 rfl rfl, allocs_cell 1 1 rfl rfl, allocs_cell 1 2 rfl rfl⟩
  | 1, hi => obtain rfl := (Option.some.inj hi); exact ⟨allocs_cell 1 3 rfl rfl, allocs_cell 1 4 rfl rfl, allocs_cell 1 5 rfl rfl⟩
  | 2, hi => obtain rfl := (Option.some.inj hi); exact ⟨allocs_cell 1 6 rfl rfl, allocs_cell 1 7 rfl rfl, allocs_cell 1 8 rfl rfl⟩
  | n + 3, hi => exact absurd hi (by simp [preds])

theorem terms4 (w : World) : termsAt (allocs w (blocks w.heap.size)) (.slice (some ⟨w.heap.size + 4, 0, none⟩) 2 2) [⟨false, 0⟩, ⟨false, 1⟩] := by
  refine ⟨some ⟨w.heap.size + 4, 0, none⟩, 2, rfl, by simp, .inr ⟨w.heap.size + 4, 0, rfl, heap_lt w 4 (by omega), ?_⟩⟩
  intro i x hi
  match i, hi with
  | 0, hi => obtain rfl := (Option.some.inj hi); exact ⟨allocs_cell 4 0 rfl rfl, allocs_cell 4 1 rfl rfl⟩
  | 1, hi => obtain rfl := (Option.some.inj hi); exact ⟨allocs_cell 4 2 rfl rfl, allocs_cell 4 3 rfl rfl⟩
  | n + 2, hi => exact absurd hi (by simp)
theorem terms8 (w : World) : termsAt (allocs w (blocks w.heap.size)) (.slice (some ⟨w.heap.size + 8, 0, none⟩) 2 2) [⟨false, 1⟩, ⟨false, 2⟩] := by
  refine ⟨some ⟨w.heap.size + 8, 0, none⟩, 2, rfl, by simp, .inr ⟨w.heap.size + 8, 0, rfl, heap_lt w 8 (by omega), ?_⟩⟩
  intro i x hi
  match i, hi with
  | 0, hi => obtain rfl := (Option.some.inj hi); exact ⟨allocs_cell 8 0 rfl rfl, allocs_cell 8 1 rfl rfl⟩
  | 1, hi => obtain rfl := (Option.some.inj hi); exact ⟨allocs_cell 8 2 rfl rfl, allocs_cell 8 3 rfl rfl⟩
  | n + 2, hi => exact absurd hi (by simp)
theorem terms12 (w : World) : termsAt (allocs w (blocks w.heap.size)) (.slice (some ⟨w.heap.size + 12, 0, none⟩) 2 2) [⟨false, 2⟩, ⟨false, 0⟩] := by
  refine ⟨some ⟨w.heap.size + 12, 0, none⟩, 2, rfl, by simp, .inr ⟨w.heap.size + 12, 0, rfl, heap_lt w 12 (by omega), ?_⟩⟩
  intro i x hi
  match i, hi with
  | 0, hi => obtain rfl := (Option.some.inj hi); exact ⟨allocs_cell 12 0 rfl rfl, allocs_cell 12 1 rfl rfl⟩
  | 1, hi => obtain rfl := (Option.some.inj hi); exact ⟨allocs_cell 12 2 rfl rfl, allocs_cell 12 3 rfl rfl⟩
  | n + 2, hi => exact absurd hi (by simp)
theorem terms16 (w : World) : termsAt (allocs w (blocks w.heap.size)) (.slice (some ⟨w.heap.size + 16, 0, none⟩) 2 2) [⟨false, 3⟩, ⟨false, 0⟩] := by
  refine ⟨some ⟨w.heap.size + 16, 0, none⟩, 2, rfl, by simp, .inr ⟨w.heap.size + 16, 0, rfl, heap_lt w 16 (by omega), ?_⟩⟩
  intro i x hi
  match i, hi with
  | 0, hi => obtain rfl := (Option.some.inj hi); exact ⟨allocs_cell 16 0 rfl rfl, allocs_cell 16 1 rfl rfl⟩
  | 1, hi => obtain rfl := (Option.some.inj hi); exact ⟨allocs_cell 16 2 rfl rfl, allocs_cell 16 3 rfl rfl⟩
  | n + 2, hi => exact absurd hi (by simp)
theorem terms20 (w : World) : termsAt (allocs w (blocks w.heap.size)) (.slice (some ⟨w.heap.size + 20, 0, none⟩) 2 2) [⟨true, 0⟩, ⟨true, 1⟩] := by
  refine ⟨some ⟨w.heap.size + 20, 0, none⟩, 2, rfl, by simp, .inr ⟨w.heap.size + 20, 0, rfl, heap_lt w 20 (by omega), ?_⟩⟩
  intro i x hi
  match i, hi with
  | 0, hi => obtain rfl := (Option.some.inj hi); exact ⟨allocs_cell 20 0 rfl rfl, allocs_cell 20 1 rfl rfl⟩
  | 1, hi => obtain rfl := (Option.some.inj hi); exact ⟨allocs_cell 20 2 rfl rfl, allocs_cell 20 3 rfl rfl⟩
  | n + 2, hi => exact absurd hi (by simp)
theorem terms24 (w : World) : termsAt (allocs w (blocks w.heap.size)) (.slice (some ⟨w.heap.size + 24, 0, none⟩) 2 2) [⟨true, 0⟩, ⟨true, 1⟩] := by
  refine ⟨some ⟨w.heap.size + 24, 0, none⟩, 2, rfl, by simp, .inr ⟨w.heap.size + 24, 0, rfl, heap_lt w 24 (by omega), ?_⟩⟩
  intro i x hi
  match i, hi with
  | 0, hi => obtain rfl := (Option.some.inj hi); exact ⟨allocs_cell 24 0 rfl rfl, allocs_cell 24 1 rfl rfl⟩
  | 1, hi => obtain rfl := (Option.some.inj hi); exact ⟨allocs_cell 24 2 rfl rfl, allocs_cell 24 3 rfl rfl⟩
  | n + 2, hi => exact absurd hi (by simp)
theorem terms31 (w : World) : termsAt (allocs w (blocks w.heap.size)) (.slice (some ⟨w.heap.size + 31, 0, none⟩) 2 2) [⟨true, 0⟩, ⟨true, 2⟩] := by
  refine ⟨some ⟨w.heap.size + 31, 0, none⟩, 2, rfl, by simp, .inr ⟨w.heap.size + 31, 0, rfl, heap_lt w 31 (by omega), ?_⟩⟩
  intro i x hi
  match i, hi with
  | 0, hi => obtain rfl := (Option.some.inj hi); exact ⟨allocs_cell 31 0 rfl rfl, allocs_cell 31 1 rfl rfl⟩
  | 1, hi => obtain rfl := (Option.some.inj hi); exact ⟨allocs_cell 31 2 rfl rfl, allocs_cell 31 3 rfl rfl⟩
  | n + 2, hi => exact absurd hi (by simp)
theorem terms35 (w : World) : termsAt (allocs w (blocks w.heap.size)) (.slice (some ⟨w.heap.size + 35, 0, none⟩) 2 2) [⟨true, 0⟩, ⟨true, 1⟩] := by
  refine ⟨some ⟨w.heap.size + 35, 0, none⟩, 2, rfl, by simp, .inr ⟨w.heap.size + 35, 0, rfl, heap_lt w 35 (by omega), ?_⟩⟩
  intro i x hi
  match i, hi with
  | 0, hi => obtain rfl := (Option.some.inj hi); exact ⟨allocs_cell 35 0 rfl rfl, allocs_cell 35 1 rfl rfl⟩
  | 1, hi => obtain rfl := (Option.some.inj hi); exact ⟨allocs_cell 35 2 rfl rfl, allocs_cell 35 3 rfl rfl⟩
  | n + 2, hi => exact absurd hi (by simp)
theorem terms41 (w : World) : termsAt (allocs w (blocks w.heap.size)) (.slice (some ⟨w.heap.size + 41, 0, none⟩) 2 2) [⟨true, 1⟩, ⟨true, 2⟩] := by
  refine ⟨some ⟨w.heap.size + 41, 0, none⟩, 2, rfl, by simp, .inr ⟨w.heap.size + 41, 0, rfl, heap_lt w 41 (by omega), ?_⟩⟩
  intro i x hi
  match i, hi with
  | 0, hi => obtain rfl := (Option.some.inj hi); exact ⟨allocs_cell 41 0 rfl rfl, allocs_cell 41 1 rfl rfl⟩
  | 1, hi => obtain rfl := (Option.some.inj hi); exact ⟨allocs_cell 41 2 rfl rfl, allocs_cell 41 3 rfl rfl⟩
  | n + 2, hi => exact absurd hi (by simp)
theorem terms47 (w : World) : termsAt (allocs w (blocks w.heap.size)) (.slice (some ⟨w.heap.size + 47, 0, none⟩) 1 1) [⟨true, 0⟩] := by
  refine ⟨some ⟨w.heap.size + 47, 0, none⟩, 1, rfl, by simp, .inr ⟨w.heap.size + 47, 0, rfl, heap_lt w 47 (by omega), ?_⟩⟩
  intro i x hi
  match i, hi with
  | 0, hi => obtain rfl := (Option.some.inj hi); exact ⟨allocs_cell 47 0 rfl rfl, allocs_cell 47 1 rfl rfl⟩
  | n + 1, hi => exact absurd hi (by simp)
theorem terms51 (w : World) : termsAt (allocs w (blocks w.heap.size)) (.slice (some ⟨w.heap.size + 51, 0, none⟩) 2 2) [⟨true, 0⟩, ⟨true, 1⟩] := by
  refine ⟨some ⟨w.heap.size + 51, 0, none⟩, 2, rfl, by simp, .inr ⟨w.heap.size + 51, 0, rfl, heap_lt w 51 (by omega), ?_⟩⟩
  intro i x hi
  match i, hi with
  | 0, hi => obtain rfl := (Option.some.inj hi); exact ⟨allocs_cell 51 0 rfl rfl, allocs_cell 51 1 rfl rfl⟩
  | 1, hi => obtain rfl := (Option.some.inj hi); exact ⟨allocs_cell 51 2 rfl rfl, allocs_cell 51 3 rfl rfl⟩
  | n + 2, hi => exact absurd hi (by simp)
theorem terms57 (w : World) : termsAt (allocs w (blocks w.heap.size)) (.slice (some ⟨w.heap.size + 57, 0, none⟩) 2 2) [⟨true, 0⟩, ⟨true, 0⟩] := by
  refine ⟨some ⟨w.heap.size + 57, 0, none⟩, 2, rfl, by simp, .inr ⟨w.heap.size + 57, 0, rfl, heap_lt w 57 (by omega), ?_⟩⟩
  intro i x hi
  match i, hi with
  | 0, hi => obtain rfl := (Option.some.inj hi); exact ⟨allocs_cell 57 0 rfl rfl, allocs_cell 57 1 rfl rfl⟩
  | 1, hi => obtain rfl := (Option.some.inj hi); exact ⟨allocs_cell 57 2 rfl rfl, allocs_cell 57 3 rfl rfl⟩
  | n + 2, hi => exact absurd hi (by simp)
theorem nilLits (w : World) : litsAt w (.slice none 0 0) [] := ⟨none, 0, rfl, by simp, .inl rfl⟩
theorem lits28 (w : World) : litsAt (allocs w (blocks w.heap.size)) (.slice (some ⟨w.heap.size + 28, 0, none⟩) 1 1) [⟨false, ⟨0, [⟨true, 0⟩, ⟨true, 1⟩]⟩⟩] := by
  refine ⟨some ⟨w.heap.size + 28, 0, none⟩, 1, rfl, by simp, .inr ⟨w.heap.size + 28, 0, rfl, heap_lt w 28 (by omega), ?_⟩⟩
  intro i x hi
  match i, hi with
  | 0, hi => obtain rfl := (Option.some.inj hi); exact ⟨allocs_cell 28 0 rfl rfl, allocs_cell 28 1 rfl rfl, _, allocs_cell 28 2 rfl rfl, terms24 w⟩
  | n + 1, hi => exact absurd hi (by simp)
theorem lits45 (w : World) : litsAt (allocs w (blocks w.heap.size)) (.slice (some ⟨w.heap.size + 45, 0, none⟩) 2 2) [⟨false, ⟨1, [⟨true, 0⟩, ⟨true, 1⟩]⟩⟩, ⟨false, ⟨0, [⟨true, 1⟩, ⟨true, 2⟩]⟩⟩] := by
  refine ⟨some ⟨w.heap.size + 45, 0, none⟩, 2, rfl, by simp, .inr ⟨w.heap.size + 45, 0, rfl, heap_lt w 45 (by omega), ?_⟩⟩
  intro i x hi
  match i, hi with
  | 0, hi => obtain rfl := (Option.some.inj hi); exact ⟨allocs_cell 45 0 rfl rfl, allocs_cell 45 1 rfl rfl, _, allocs_cell 45 2 rfl rfl, terms35 w⟩
  | 1, hi => obtain rfl := (Option.some.inj hi); exact ⟨allocs_cell 45 3 rfl rfl, allocs_cell 45 4 rfl rfl, _, allocs_cell 45 5 rfl rfl, terms41 w⟩
  | n + 2, hi => exact absurd hi (by simp)
theorem lits61 (w : World) : litsAt (allocs w (blocks w.heap.size)) (.slice (some ⟨w.heap.size + 61, 0, none⟩) 2 2) [⟨false, ⟨0, [⟨true, 0⟩, ⟨true, 1⟩]⟩⟩, ⟨true, ⟨1, [⟨true, 0⟩, ⟨true, 0⟩]⟩⟩] := by
  refine ⟨some ⟨w.heap.size + 61, 0, none⟩, 2, rfl, by simp, .inr ⟨w.heap.size + 61, 0, rfl, heap_lt w 61 (by omega), ?_⟩⟩
  intro i x hi
  match i, hi with
  | 0, hi => obtain rfl := (Option.some.inj hi); exact ⟨allocs_cell 61 0 rfl rfl, allocs_cell 61 1 rfl rfl, _, allocs_cell 61 2 rfl rfl, terms51 w⟩
  | 1, hi => obtain rfl := (Option.some.inj hi); exact ⟨allocs_cell 61 3 rfl rfl, allocs_cell 61 4 rfl rfl, _, allocs_cell 61 5 rfl rfl, terms57 w⟩
  | n + 2, hi => exact absurd hi (by simp)
theorem rulesAt_roads (w : World) : rulesAt (allocs w (blocks w.heap.size)) (.slice (some ⟨w.heap.size + 62, 0, none⟩) 7 7) rules := by
  refine ⟨some ⟨w.heap.size + 62, 0, none⟩, 7, rfl, by decide, .inr ⟨w.heap.size + 62, 0, rfl, heap_lt w 62 (by omega), ?_⟩⟩
  intro i x hi
  match i, hi with
  | 0, hi => obtain rfl := (Option.some.inj hi); exact ⟨allocs_cell 62 0 rfl rfl, ⟨_, allocs_cell 62 1 rfl rfl, terms4 w⟩, allocs_cell 62 2 rfl rfl, allocs_cell 62 3 rfl rfl, _, allocs_cell 62 4 rfl rfl, nilLits _⟩
  | 1, hi => obtain rfl := (Option.some.inj hi); exact ⟨allocs_cell 62 5 rfl rfl, ⟨_, allocs_cell 62 6 rfl rfl, terms8 w⟩, allocs_cell 62 7 rfl rfl, allocs_cell 62 8 rfl rfl, _, allocs_cell 62 9 rfl rfl, nilLits _⟩
  | 2, hi => obtain rfl := (Option.some.inj hi); exact ⟨allocs_cell 62 10 rfl rfl, ⟨_, allocs_cell 62 11 rfl rfl, terms12 w⟩, allocs_cell 62 12 rfl rfl, allocs_cell 62 13 rfl rfl, _, allocs_cell 62 14 rfl rfl, nilLits _⟩
  | 3, hi => obtain rfl := (Option.some.inj hi); exact ⟨allocs_cell 62 15 rfl rfl, ⟨_, allocs_cell 62 16 rfl rfl, terms16 w⟩, allocs_cell 62 17 rfl rfl, allocs_cell 62 18 rfl rfl, _, allocs_cell 62 19 rfl rfl, nilLits _⟩
  | 4, hi => obtain rfl := (Option.some.inj hi); exact ⟨allocs_cell 62 20 rfl rfl, ⟨_, allocs_cell 62 21 rfl rfl, terms20 w⟩, allocs_cell 62 22 rfl rfl, allocs_cell 62 23 rfl rfl, _, allocs_cell 62 24 rfl rfl, lits28 w⟩
  | 5, hi => obtain rfl := (Option.some.inj hi); exact ⟨allocs_cell 62 25 rfl rfl, ⟨_, allocs_cell 62 26 rfl rfl, terms31 w⟩, allocs_cell 62 27 rfl rfl, allocs_cell 62 28 rfl rfl, _, allocs_cell 62 29 rfl rfl, lits45 w⟩
  | 6, hi => obtain rfl := (Option.some.inj hi); exact ⟨allocs_cell 62 30 rfl rfl, ⟨_, allocs_cell 62 31 rfl rfl, terms47 w⟩, allocs_cell 62 32 rfl rfl, allocs_cell 62 33 rfl rfl, _, allocs_cell 62 34 rfl rfl, lits61 w⟩
  | n + 7, hi => exact absurd hi (by simp [rules])

theorem v_c (n : Int) (w : World) : Calls Tryz.prog 64 #[.int .i64 n] w fun e w' => e = .returned (.agg #[.bool true, .int .i64 n]) ∧ w' = w.alloc (.cells #[.bool true, .int .i64 n] 94) := by
  go_enter Tryz.func64, Tryz.ntmps64
  go_wp2
  exact bodyPost_ret (v := .agg #[.bool true, .int .i64 n]) (by simp [results, Tryz.results64, go_sem]) rfl ⟨rfl, rfl⟩
theorem c_c (n : Int) (w : World) : Calls Tryz.prog 63 #[.int .i64 n] w fun e w' => e = .returned (.agg #[.bool false, .int .i64 n]) ∧ w' = w.alloc (.cells #[.bool false, .int .i64 n] 94) := by
  go_enter Tryz.func63, Tryz.ntmps63
  go_wp2
  exact bodyPost_ret (v := .agg #[.bool false, .int .i64 n]) (by simp [results, Tryz.results63, go_sem]) rfl ⟨rfl, rfl⟩
theorem at_c (p : Int) (a : Option Addr) (l c : Nat) (w : World) : Calls Tryz.prog 62 #[.int .i64 p, .slice a l c] w fun e w' => e = .returned (.agg #[.int .i64 p, .slice a l c]) ∧ w' = w.alloc (.cells #[.int .i64 p, .slice a l c] 51) := by
  go_enter Tryz.func62, Tryz.ntmps62
  go_wp2
  exact bodyPost_ret (v := .agg #[.int .i64 p, .slice a l c]) (by simp [results, Tryz.results62, go_sem]) rfl ⟨rfl, rfl⟩
theorem is_c (p : Int) (a : Option Addr) (l c : Nat) (w : World) : Calls Tryz.prog 65 #[.agg #[.int .i64 p, .slice a l c]] w fun e w' => e = .returned (.agg #[.bool false, .int .i64 p, .slice a l c]) ∧ w' = (w.alloc (.cells #[.int .i64 p, .slice a l c] 51)).alloc (.cells #[.bool false, .int .i64 p, .slice a l c] 66) := by
  go_enter Tryz.func65, Tryz.ntmps65
  go_wp2
  exact bodyPost_ret (v := .agg #[.bool false, .int .i64 p, .slice a l c]) (by simp [results, Tryz.results65, go_sem]) rfl ⟨rfl, rfl⟩
theorem not_c (p : Int) (a : Option Addr) (l c : Nat) (w : World) : Calls Tryz.prog 66 #[.agg #[.int .i64 p, .slice a l c]] w fun e w' => e = .returned (.agg #[.bool true, .int .i64 p, .slice a l c]) ∧ w' = (w.alloc (.cells #[.int .i64 p, .slice a l c] 51)).alloc (.cells #[.bool true, .int .i64 p, .slice a l c] 66) := by
  go_enter Tryz.func66, Tryz.ntmps66
  go_wp2
  exact bodyPost_ret (v := .agg #[.bool true, .int .i64 p, .slice a l c]) (by simp [results, Tryz.results66, go_sem]) rfl ⟨rfl, rfl⟩

set_option maxRecDepth 100000 in
set_option maxHeartbeats 8000000 in
theorem roads_exact (w : World) : Calls Tryz.prog 35 #[] w fun e w' => e = .returned (.agg #[.slice (some ⟨w.heap.size + 1, 0, none⟩) 3 3, .slice (some ⟨w.heap.size + 62, 0, none⟩) 7 7]) ∧ w' = allocs w (blocks w.heap.size) := by
  go_enter Tryz.func35, Tryz.ntmps35
  go_wp2_with (first
    | (go_at_call 64; refine (v_c _ _).mono ?_; rintro e w' ⟨rfl, rfl⟩)
    | (go_at_call 63; refine (c_c _ _).mono ?_; rintro e w' ⟨rfl, rfl⟩)
    | (go_at_call 62; refine (at_c _ _ _ _ _).mono ?_; rintro e w' ⟨rfl, rfl⟩)
    | (go_at_call 65; refine (is_c _ _ _ _ _).mono ?_; rintro e w' ⟨rfl, rfl⟩)
    | (go_at_call 66; refine (not_c _ _ _ _ _).mono ?_; rintro e w' ⟨rfl, rfl⟩))
  refine bodyPost_ret (v := .agg #[.slice (some ⟨w.heap.size + 1, 0, none⟩) 3 3, .slice (some ⟨w.heap.size + 62, 0, none⟩) 7 7]) ?_ rfl ⟨rfl, ?_⟩
  · simp [results, Tryz.results35, go_sem]
  · rfl

/-- a call of roads: the program lies in new memory -/
theorem roads_c (w : World) : Calls Tryz.prog 35 #[] w fun e w' => ∃ bp br : Nat, e = .returned (.agg #[.slice (some ⟨bp, 0, none⟩) 3 3, .slice (some ⟨br, 0, none⟩) 7 7]) ∧
    w.heap.size ≤ bp ∧ bp < br ∧ br < w'.heap.size ∧ predsAt w' (.slice (some ⟨bp, 0, none⟩) 3 3) preds ∧ rulesAt w' (.slice (some ⟨br, 0, none⟩) 7 7) rules ∧
    (∀ o, w'.frozen? ⟨bp, o, none⟩ = false) ∧ (∀ o, w'.frozen? ⟨br, o, none⟩ = false) ∧ (∃ b6, w'.cell? ⟨br, 34, none⟩ = some (.slice (some ⟨b6, 0, none⟩) 2 2)) ∧ Below w.heap.size w w' := by
  refine (roads_exact w).mono ?_
  rintro e w' ⟨rfl, rfl⟩
  exact ⟨_, _, rfl, by omega, by omega, heap_lt w 62 (by omega), predsAt_roads w, rulesAt_roads w, fun o => allocs_frozen 1 o rfl, fun o => allocs_frozen 62 o rfl, ⟨_, allocs_cell 62 34 rfl rfl⟩, allocs_below _ _⟩
end Go.Proofs.YtlfccloaoopadafGreatDoor.Roads
