/-
  The developers' reading of texts: what is left of a text lies in a block of its own; IsEmpty, Begins, Takes, Must, run, Name, Number.
-/
import Derived.Test.YtlfccloaoopadafGreatDoorG11
import Derived.Test.YtlfccloaoopadafGreatDoorG12
import Derived.Test.YtlfccloaoopadafGreatDoorG9
import Derived.Test.YtlfccloaoopadafGreatDoorG2
namespace Go.Proofs.YtlfccloaoopadafGreatDoor.Text
open Go.ChangeShapes Go.WideShapes Go.ChangeAt Go.RowKit
open Go.Proofs.YtlfccloaoopadafGreatDoor.Sum (KeepsFrom)

/-- a text of these bytes -/
def mk (s : List UInt8) : ByteArray := ⟨s.toArray⟩
theorem bl_mk (s : List UInt8) : bl (mk s) = s := by unfold bl mk; simp
theorem mk_bl (b : ByteArray) : mk (bl b) = b := bl_inj (bl_mk _)
theorem mk_size (s : List UInt8) : (mk s).size = s.length := by rw [← bl_size, bl_mk]
/-- what is still to be read -/
def restAt (w : World) (B : Nat) (s : List UInt8) : Prop := w.heap[B]? = some (.cells #[.string (mk s)] 102 (0, 0))
/-- all blocks but one are kept -/
structure Ate (B : Nat) (w w' : World) : Prop where
  below : Below B w w'
  behind : KeepsFrom (B + 1) w w'
theorem Ate.refl (B : Nat) (w : World) : Ate B w w := ⟨Below.refl _ _, KeepsFrom.refl _ _⟩
theorem Ate.trans {B : Nat} {w w1 w2 : World} (h : Ate B w w1) (k : Ate B w1 w2) : Ate B w w2 := ⟨h.below.trans k.below, h.behind.trans k.behind⟩
theorem Ate.of {B : Nat} {w w' : World} (h : Below w.heap.size w w') (hB : B ≤ w.heap.size) : Ate B w w' := ⟨h.mono hB, KeepsFrom.below h⟩
theorem Ate.size {B : Nat} {w w' : World} (h : Ate B w w') : w.heap.size ≤ w'.heap.size := h.below.size
theorem rest_lt {w : World} {B : Nat} {s : List UInt8} (h : restAt w B s) : B < w.heap.size := (Array.getElem?_eq_some_iff.1 h).1
theorem rest_cell {w : World} {B : Nat} {s : List UInt8} (h : restAt w B s) : w.cell? ⟨B, 0, none⟩ = some (.string (mk s)) := by
  unfold restAt at h
  simp [World.cell?, h]
theorem rest_warm {w : World} {B : Nat} {s : List UInt8} (h : restAt w B s) : w.frozen? ⟨B, 0, none⟩ = false := by
  unfold restAt at h
  simp [World.frozen?, h]
theorem rest_set {w : World} {B : Nat} {s : List UInt8} (h : restAt w B s) (t : List UInt8) : restAt (w.setCell ⟨B, 0, none⟩ (.string (mk t))) B t := by
  have := heap_setCell_same w B 0 _ _ (.string (mk t)) h
  simpa [restAt] using this
theorem ate_set (w : World) (B : Nat) (v : Value) : Ate B w (w.setCell ⟨B, 0, none⟩ v) := by
  refine ⟨?_, KeepsFrom.set (Nat.lt_succ_self _)⟩
  refine ⟨rfl, rfl, rfl, ?_, fun k hk => Sum.heap_other (by omega)⟩
  rw [size_set]
  exact Nat.le_refl _
theorem rest_lasts {w w' : World} {B : Nat} {s : List UInt8} (h : restAt w B s) (hb : Below w.heap.size w w') : restAt w' B s := (hb.block B (rest_lt h)).trans h
/-- how a text is left that is not as it must be -/
def formPanic : Ending := .panicked [{ v := .iface 26 (.int .i64 1), recovered := false }]
/-- a piece of what is left is read: its value, and what is left then -/
def ReadsTo {α : Type} (B : Nat) (w : World) (R : Option (α × List UInt8)) (V : α → Value → World → Prop) (e : Ending) (w' : World) : Prop :=
  Ate B w w' ∧ match R with
    | none => e = formPanic
    | some (a, t) => ∃ v, e = .returned v ∧ V a v w' ∧ restAt w' B t
theorem reads_none {α : Type} {B : Nat} {w w' : World} {R : Option (α × List UInt8)} {V : α → Value → World → Prop} (h : R = none) (ha : Ate B w w') : ReadsTo B w R V formPanic w' := by
  subst h
  exact ⟨ha, rfl⟩
theorem reads_some {α : Type} {B : Nat} {w w' : World} {R : Option (α × List UInt8)} {V : α → Value → World → Prop} {a : α} {t : List UInt8} {v : Value} (h : R = some (a, t)) (ha : Ate B w w') (hv : V a v w') (hr : restAt w' B t) : ReadsTo B w R V (.returned v) w' := by
  subst h
  exact ⟨ha, v, rfl, hv, hr⟩
theorem ReadsTo.no {α : Type} {B : Nat} {w w' : World} {V : α → Value → World → Prop} {e : Ending} (h : ReadsTo B w none V e w') : e = .panicked [{ v := .iface 26 (.int .i64 1), recovered := false }] ∧ Hid (Ate B w w') := ⟨h.2, h.1⟩
theorem ReadsTo.yes {α : Type} {B : Nat} {w w' : World} {V : α → Value → World → Prop} {e : Ending} {a : α} {t : List UInt8} (h : ReadsTo B w (some (a, t)) V e w') : ∃ v, e = .returned v ∧ V a v w' ∧ Hid (restAt w' B t ∧ Ate B w w') := by
  obtain ⟨ha, v, h1, h2, h3⟩ := h
  exact ⟨v, h1, h2, h3, ha⟩
theorem isEmpty_c (w : World) (B : Nat) (s : List UInt8) (h : restAt w B s) : Calls Tryz.prog 33 #[.pointer (some ⟨B, 0, none⟩)] w fun e w' => e = .returned (.bool (decide (s = []))) ∧ w' = w := by
  have hc := rest_cell h
  have he : (mk s).toList.isEmpty = decide (s = []) := by
    rw [ByteArray.toList_eq]
    show (bl (mk s)).isEmpty = _
    rw [bl_mk]
    cases s <;> rfl
  generalize mk s = T at *
  go_enter Tryz.func33, Tryz.ntmps33
  go_wp2_with fail
  go_ret
  exact ⟨rfl, rfl⟩
theorem begins_c (w : World) (B : Nat) (s : List UInt8) (p : ByteArray) (h : restAt w B s) : Calls Tryz.prog 56 #[.pointer (some ⟨B, 0, none⟩), .string p] w fun e w' => e = .returned (.bool (eatL (bl p) s).isSome) ∧ w' = w := by
  have hc := rest_cell h
  have hp := hasPrefix_c (mk s) p w
  rw [bl_mk] at hp
  generalize mk s = T at *
  go_enter Tryz.func56, Tryz.ntmps56
  go_wp2_with (go_at_call 84; refine hp.mono ?_; rintro e w1 ⟨rfl, rfl⟩)
  go_ret
  exact ⟨rfl, rfl⟩
theorem takes_c (w : World) (B : Nat) (s : List UInt8) (p : ByteArray) (h : restAt w B s) : Calls Tryz.prog 61 #[.pointer (some ⟨B, 0, none⟩), .string p] w fun e w' => e = .returned (.bool (eatL (bl p) s).isSome) ∧ w' = w.setCell ⟨B, 0, none⟩ (.string (mk ((eatL (bl p) s).getD s))) := by
  have hc := rest_cell h
  have hz := rest_warm h
  have hp := cutPrefix_c (mk s) p w
  rw [bl_mk] at hp
  change Calls _ _ _ _ fun e w' => e = .returned (.tuple #[.string (mk ((eatL (bl p) s).getD s)), _]) ∧ _ at hp
  generalize mk s = T at *
  generalize mk ((eatL (bl p) s).getD s) = T' at *
  go_enter Tryz.func61, Tryz.ntmps61
  go_wp2_with (go_at_call 90; refine hp.mono ?_; rintro e w1 ⟨rfl, rfl⟩)
  go_ret
  exact ⟨rfl, rfl⟩
theorem must_c (w : World) (B : Nat) (s : List UInt8) (p : ByteArray) (h : restAt w B s) : Calls Tryz.prog 57 #[.pointer (some ⟨B, 0, none⟩), .string p] w (ReadsTo B w ((eatL (bl p) s).map fun t => ((), t)) fun _ v _ => v = .tuple #[]) := by
  have ht := takes_c w B s p h
  have HA : Hid (Ate B w (w.setCell ⟨B, 0, none⟩ (.string (mk ((eatL (bl p) s).getD s))))) := ate_set _ _ _
  have HR : Hid (restAt (w.setCell ⟨B, 0, none⟩ (.string (mk ((eatL (bl p) s).getD s)))) B ((eatL (bl p) s).getD s)) := rest_set h _
  cases he : eatL (bl p) s with
  | none =>
    rw [he] at ht HA HR
    simp only [Option.isSome_none, Option.getD_none] at ht HA HR
    go_enter Tryz.func57, Tryz.ntmps57
    go_wp2_with (go_at_call 61; refine ht.mono ?_; rintro e w1 ⟨rfl, rfl⟩)
    exact ⟨rfl, HA.out, rfl⟩
  | some t =>
    rw [he] at ht HA HR
    simp only [Option.isSome_some, Option.getD_some] at ht HA HR
    go_enter Tryz.func57, Tryz.ntmps57
    go_wp2_with (go_at_call 61; refine ht.mono ?_; rintro e w1 ⟨rfl, rfl⟩)
    go_end0
    exact ⟨HA.out, _, rfl, rfl, HR.out⟩
end Go.Proofs.YtlfccloaoopadafGreatDoor.Text

/-
  The developers' reading of texts: run, Name, Number.
-/
namespace Go.Proofs.YtlfccloaoopadafGreatDoor.Text
open Go.ChangeShapes Go.WideShapes Go.ChangeAt Go.RowKit

def inRun (lo hi : Nat) (b : UInt8) : Bool := decide (lo ≤ b.toNat) && decide (b.toNat ≤ hi)
theorem take_run {p : UInt8 → Bool} {s : List UInt8} {j : Nat} (h1 : (s.take j).all p = true) (h2 : ((s.drop j).head?.map p).getD false = false) : s.takeWhile p = s.take j ∧ s.dropWhile p = s.drop j := by
  by_cases h0 : s.take j = []
  · have hd : s.drop j = s := by
      have := List.take_append_drop j s
      rw [h0, List.nil_append] at this
      exact this
    rw [h0]
    rw [hd] at h2 ⊢
    cases s with
    | nil => exact ⟨rfl, rfl⟩
    | cons y s =>
      have hy : p y = false := by simpa using h2
      simp [hy]
  · have h := runL_of h0 h1 h2
    rw [List.take_append_drop] at h
    unfold runL at h
    split at h
    · cases h
    · simp only [Option.some.injEq, Prod.mk.injEq] at h
      exact h
theorem run_take {p : UInt8 → Bool} {s : List UInt8} {j : Nat} (hj : j ≤ s.length) (h1 : (s.take j).all p = true) (h2 : ((s.drop j).head?.map p).getD false = false) : runL p s = if j = 0 then none else some (s.take j, s.drop j) := by
  obtain ⟨e1, e2⟩ := take_run h1 h2
  unfold runL
  rw [e1, e2]
  by_cases h0 : j = 0
  · subst h0
    rfl
  · rw [if_neg h0]
    split
    · rename_i e
      have := congrArg List.length e
      rw [List.length_take, List.length_nil] at this
      omega
    · rfl
theorem bl_at {T : ByteArray} {j : Nat} (h : j < T.size) : (bl T)[j]'(by rw [bl_size]; exact h) = T[j] := rfl
theorem bl_take (T : ByteArray) (j : Nat) : bl (T.extract 0 j) = (bl T).take j := by
  unfold bl
  rw [ByteArray.data_extract]
  simp
theorem bl_drop (T : ByteArray) (j : Nat) : bl (T.extract j T.size) = (bl T).drop j := by
  unfold bl
  rw [ByteArray.data_extract, Array.toList_extract, List.extract_eq_take_drop]
  have : (List.drop j T.data.toList).length ≤ T.size - j := by simp
  exact List.take_of_length_le this
set_option maxRecDepth 100000 in
set_option maxHeartbeats 4000000 in
theorem run_c (w : World) (B : Nat) (s : List UInt8) (lo hi : Nat) (h : restAt w B s) (hs : s.length ≤ 140737488355328) : Calls Tryz.prog 85 #[.pointer (some ⟨B, 0, none⟩), .int .u8 (lo : Int), .int .u8 (hi : Int)] w (ReadsTo B w (runL (inRun lo hi) s) fun r v _ => v = .string (mk r)) := by
  have hc := rest_cell h
  have hz := rest_warm h
  obtain ⟨T, rfl⟩ : ∃ T, s = bl T := ⟨mk s, (bl_mk s).symm⟩
  rw [mk_bl] at hc
  rw [bl_size] at hs
  have HR : Hid (restAt w B (bl T)) := h
  clear h
  go_enter Tryz.func85, Tryz.ntmps85
  go_wp2_with fail
  go_loop [7] (fun i => ∃ j : Nat, j ≤ T.size ∧ i = .int .i64 j ∧ ((bl T).take j).all (inRun lo hi) = true) (fun i => T.size - (intOf i).toNat)
  case atStart => exact ⟨0, Nat.zero_le _, rfl, rfl⟩
  case round =>
    obtain ⟨j, hj, rfl, hall⟩ := hrel
    have HE : Hid ((((bl T).drop j).head?.map (inRun lo hi)).getD false = false → runL (inRun lo hi) (bl T) = if j = 0 then none else some ((bl T).take j, (bl T).drop j)) := fun h2 => run_take (by rw [bl_size]; exact hj) hall h2
    by_cases hlt : j < T.size
    · have HT : Hid (inRun lo hi T[j] = true → ((bl T).take (j + 1)).all (inRun lo hi) = true) := fun h => by rw [all_take (by rw [bl_size]; exact hlt), hall, bl_at hlt, h]; rfl
      have HN : Hid (inRun lo hi T[j] = false → (((bl T).drop j).head?.map (inRun lo hi)).getD false = false) := fun h => by
        rw [List.head?_drop, List.getElem?_eq_getElem (by rw [bl_size]; exact hlt), bl_at hlt]
        exact h
      have HI : Hid (inRun lo hi T[j] = (decide (lo ≤ T[j].toNat) && decide (T[j].toNat ≤ hi))) := rfl
      clear hall
      by_cases h1 : lo ≤ T[j].toNat
      · by_cases h2 : T[j].toNat ≤ hi
        · go_wp2_with fail
          case roundEnd =>
            refine ⟨⟨j + 1, by omega, by go_num, HT.out (by rw [HI.out]; simp [h1, h2])⟩, ?_⟩
            simp [intOf]; omega
        · have HX := HE.out (HN.out (by rw [HI.out]; simp [h2]))
          replace HX : Hid (runL (inRun lo hi) (bl T) = if j = 0 then none else some ((bl T).take j, (bl T).drop j)) := HX
          clear HT HN HI HE
          by_cases h0 : j = 0
          · subst h0
            go_wp2_with fail
            exact ⟨rfl, reads_none HX.out (Ate.refl _ _)⟩
          · go_wp2_with fail
            go_ret
            refine reads_some (HX.out.trans (if_neg h0)) (ate_set _ _ _) ?_ ?_
            · show Value.string (T.extract 0 j) = _
              rw [← bl_take, mk_bl]
            · have := rest_set HR.out ((bl T).drop j)
              rw [← bl_drop, mk_bl] at this
              rw [← bl_drop]
              exact this
      · have HX := HE.out (HN.out (by rw [HI.out]; simp [h1]))
        replace HX : Hid (runL (inRun lo hi) (bl T) = if j = 0 then none else some ((bl T).take j, (bl T).drop j)) := HX
        clear HT HN HI HE
        by_cases h0 : j = 0
        · subst h0
          go_wp2_with fail
          exact ⟨rfl, reads_none HX.out (Ate.refl _ _)⟩
        · go_wp2_with fail
          go_ret
          refine reads_some (HX.out.trans (if_neg h0)) (ate_set _ _ _) ?_ ?_
          · show Value.string (T.extract 0 j) = _
            rw [← bl_take, mk_bl]
          · have := rest_set HR.out ((bl T).drop j)
            rw [← bl_drop, mk_bl] at this
            rw [← bl_drop]
            exact this
    · have HX := HE.out (by rw [List.head?_drop, List.getElem?_eq_none (by rw [bl_size]; omega)]; rfl)
      replace HX : Hid (runL (inRun lo hi) (bl T) = if j = 0 then none else some ((bl T).take j, (bl T).drop j)) := HX
      clear HE hall
      by_cases h0 : j = 0
      · subst h0
        go_wp2_with fail
        exact ⟨rfl, reads_none HX.out (Ate.refl _ _)⟩
      · go_wp2_with fail
        go_ret
        refine reads_some (HX.out.trans (if_neg h0)) (ate_set _ _ _) ?_ ?_
        · show Value.string (T.extract 0 j) = _
          rw [← bl_take, mk_bl]
        · have := rest_set HR.out ((bl T).drop j)
          rw [← bl_drop, mk_bl] at this
          rw [← bl_drop]
          exact this
theorem name_c (w : World) (B : Nat) (s : List UInt8) (h : restAt w B s) (hs : s.length ≤ 140737488355328) : Calls Tryz.prog 58 #[.pointer (some ⟨B, 0, none⟩)] w (ReadsTo B w (runL isLow s) fun r v _ => v = .string (mk r)) := by
  have hr : Calls Tryz.prog 85 #[.pointer (some ⟨B, 0, none⟩), .int .u8 97, .int .u8 122] w (ReadsTo B w (runL isLow s) fun r v _ => v = .string (mk r)) := run_c w B s 97 122 h hs
  cases he : runL isLow s with
  | none =>
    rw [he] at hr
    go_enter Tryz.func58, Tryz.ntmps58
    go_wp2_with (go_at_call 85; refine hr.mono ?_; intro e w1 h1; obtain ⟨rfl, ha⟩ := h1.no)
    exact ⟨rfl, reads_none rfl ha.out⟩
  | some x =>
    obtain ⟨r, t⟩ := x
    rw [he] at hr
    go_enter Tryz.func58, Tryz.ntmps58
    go_wp2_with (go_at_call 85; refine hr.mono ?_; intro e w1 h1; obtain ⟨v, rfl, rfl, ha⟩ := h1.yes)
    go_ret
    exact reads_some rfl ha.out.2 rfl ha.out.1
theorem dig_zero (T : ByteArray) (h : 0 < T.size) : ((bl T).head? = some 48) = (T[0] = 48) := by
  rw [List.head?_eq_getElem?, List.getElem?_eq_getElem (by rw [bl_size]; exact h), bl_at h]
  simp
set_option maxRecDepth 100000 in
set_option maxHeartbeats 4000000 in
theorem number_c (w : World) (B : Nat) (s : List UInt8) (h : restAt w B s) (hs : s.length ≤ 140737488355328) : Calls Tryz.prog 59 #[.pointer (some ⟨B, 0, none⟩)] w (ReadsTo B w (numL s) fun n v _ => v = .int .i64 n) := by
  have hr : Calls Tryz.prog 85 #[.pointer (some ⟨B, 0, none⟩), .int .u8 48, .int .u8 57] w (ReadsTo B w (runL isDig s) fun r v _ => v = .string (mk r)) := run_c w B s 48 57 h hs
  have hB := rest_lt h
  cases he : runL isDig s with
  | none =>
    have HN : Hid (numL s = none) := by show _ = _; unfold numL; rw [he]
    rw [he] at hr
    clear he
    go_enter Tryz.func59, Tryz.ntmps59
    go_wp2_with (go_at_call 85; refine hr.mono ?_; intro e w1 h1; obtain ⟨rfl, ha⟩ := h1.no)
    exact ⟨rfl, reads_none HN.out ha.out⟩
  | some x =>
    obtain ⟨r, t⟩ := x
    obtain ⟨T, rfl⟩ : ∃ T, r = bl T := ⟨mk r, (bl_mk r).symm⟩
    obtain ⟨e1, e2, e3, _⟩ := runL_some he
    have hl : T.size ≤ 140737488355328 := by rw [e1, List.length_append, bl_size] at hs; omega
    have h1 : 0 < T.size := by rw [← bl_size]; exact List.length_pos_iff.2 e2
    have HN : Hid (numL s = if 6 < T.size ∨ (1 < T.size ∧ T[0] = 48) then none else some (sayL (bl T) 0, t)) := by
      show _ = _
      unfold numL
      rw [he]
      simp only [bl_size, dig_zero T h1]
    have HA : Hid (T.size ≤ 6 → ∀ W : World, Calls Tryz.prog 86 #[.string T] W fun e w' => e = .returned (.tuple #[.int .i64 (sayL (bl T) 0), .nilIface]) ∧ Below W.heap.size W w') := fun h6 W => by
      have := atoi_c (bl T) e2 e3 (by rw [bl_size]; exact h6) W
      rw [show (⟨(bl T).toArray⟩ : ByteArray) = T from mk_bl T] at this
      exact this
    rw [he] at hr
    clear he e1 e2 e3
    by_cases h6 : 6 < T.size
    · clear HA
      go_enter Tryz.func59, Tryz.ntmps59
      go_wp2_with (go_at_call 85; refine hr.mono ?_; intro e w1 h1; obtain ⟨v, rfl, hv, ha⟩ := h1.yes; rw [mk_bl] at hv; subst hv)
      exact ⟨rfl, reads_none (HN.out.trans (if_pos (.inl h6))) ha.out.2⟩
    · replace HA := HA.out (by omega)
      by_cases h2 : 1 < T.size
      · by_cases h0 : T[0] = 48
        · have h0' : T[0].toNat = 48 := by rw [h0]; rfl
          clear HA
          go_enter Tryz.func59, Tryz.ntmps59
          go_wp2_with (go_at_call 85; refine hr.mono ?_; intro e w1 h1; obtain ⟨v, rfl, hv, ha⟩ := h1.yes; rw [mk_bl] at hv; subst hv)
          exact ⟨rfl, reads_none (HN.out.trans (if_pos (.inr ⟨h2, h0⟩))) ha.out.2⟩
        · have h0' : ((T[0].toNat : Int) == 48) = false := by
            rw [beq_eq_false_iff_ne]
            intro e
            exact h0 (UInt8.toNat_inj.1 (by show T[0].toNat = 48; omega))
          replace HN : Hid (numL s = some (sayL (bl T) 0, t)) := HN.out.trans (if_neg (by rintro (h | ⟨_, h⟩); exact h6 h; exact h0 h))
          go_enter Tryz.func59, Tryz.ntmps59
          go_wp2_with (first | (go_at_call 85; refine hr.mono ?_; intro e w1 h1; obtain ⟨v, rfl, hv, ha⟩ := h1.yes; rw [mk_bl] at hv; subst hv) | (go_at_call 86; refine (HA _).mono ?_; rintro e w2 ⟨rfl, hb⟩; replace hb : Hid _ := hb))
          go_ret
          exact reads_some HN.out (ha.out.2.trans (Ate.of hb.out (by have := ha.out.2.size; omega))) rfl (rest_lasts ha.out.1 hb.out)
      · replace HN : Hid (numL s = some (sayL (bl T) 0, t)) := HN.out.trans (if_neg (by rintro (h | ⟨h, _⟩); exact h6 h; exact h2 h))
        go_enter Tryz.func59, Tryz.ntmps59
        go_wp2_with (first | (go_at_call 85; refine hr.mono ?_; intro e w1 h1; obtain ⟨v, rfl, hv, ha⟩ := h1.yes; rw [mk_bl] at hv; subst hv) | (go_at_call 86; refine (HA _).mono ?_; rintro e w2 ⟨rfl, hb⟩; replace hb : Hid _ := hb))
        go_ret
        exact reads_some HN.out (ha.out.2.trans (Ate.of hb.out (by have := ha.out.2.size; omega))) rfl (rest_lasts ha.out.1 hb.out)
end Go.Proofs.YtlfccloaoopadafGreatDoor.Text

/-
  The developers' pieces of lines: Numbers, term, and the term that is read.
-/
namespace Go.Proofs.YtlfccloaoopadafGreatDoor.Text
open Go.ChangeShapes Go.WideShapes Go.ChangeAt Go.RowKit
open Prog (intsAt slice_cells)
open Rule (termOk)

def strV (b : ByteArray) : Value := .string b
/-- texts, with another one between each two -/
def joinB (sep : ByteArray) (xs : List ByteArray) : ByteArray := mk ((bl sep).intercalate (xs.map bl))
theorem make_strs {n : Nat} (h : n ≤ 5) (w : World) : (Instr.makeSlice 91 (.int .i64 (n : Int)) (.int .i64 (n : Int))).run Tryz.prog w = .ok (.slice (some ⟨w.heap.size, 0, none⟩) n n) (w.alloc (.cells (Array.replicate n (.string ⟨#[]⟩)) 9)) := by
  obtain rfl | rfl | rfl | rfl | rfl | rfl : n = 0 ∨ n = 1 ∨ n = 2 ∨ n = 3 ∨ n = 4 ∨ n = 5 := by omega
  all_goals kernel_rfl
theorem inter_len (sep : List UInt8) : ∀ xs : List (List UInt8), (sep.intercalate xs).length ≤ (xs.map List.length).sum + xs.length * sep.length
  | [] => by simp [List.intercalate]
  | [x] => by simp [List.intercalate]
  | x :: y :: xs => by
    have ih := inter_len sep (y :: xs)
    have e : sep.intercalate (x :: y :: xs) = x ++ sep ++ sep.intercalate (y :: xs) := by simp [List.intercalate, List.intersperse]
    rw [e]
    simp only [List.length_append, List.map_cons, List.sum_cons, List.length_cons] at ih ⊢
    have : (xs.length + 1 + 1) * sep.length = sep.length + (xs.length + 1) * sep.length := by rw [Nat.add_mul]; omega
    omega
theorem sum_le (f : ByteArray → Nat) (m : Nat) : ∀ xs : List ByteArray, (∀ x ∈ xs, f x ≤ m) → (xs.map f).sum ≤ xs.length * m
  | [], _ => by simp
  | x :: xs, h => by
    have ih := sum_le f m xs (fun y hy => h y (by simp [hy]))
    have := h x (by simp)
    simp only [List.map_cons, List.sum_cons, List.length_cons, Nat.add_mul]
    omega
/-- a row whose first k texts are told -/
theorem strs_row {w : World} {B n : Nat} {xs : List ByteArray} (h : Prog.rowAt w B ((xs.map strV).take n)) (hn : n = xs.length) : ∀ (j : Nat) x, xs[j]? = some x → w.cell? ⟨B, 0 + j, none⟩ = some (.string x) := by
  subst hn
  intro j x hj
  rw [Nat.zero_add]
  refine (h j (strV x) ?_).1
  have hl : xs.length = (xs.map strV).length := by simp
  rw [hl, List.take_length, List.getElem?_map, hj]
  rfl
theorem row_put {w : World} {B : Nat} {xs : List ByteArray} {j : Nat} (hj : j < xs.length) (h : Prog.rowAt w B ((xs.map strV).take j ++ List.replicate (xs.length - j) (.string ⟨#[]⟩))) : w.cell? ⟨B, j, none⟩ = some (.string ⟨#[]⟩) ∧ w.frozen? ⟨B, j, none⟩ = false ∧ Prog.rowAt (w.setCell ⟨B, j, none⟩ (.string xs[j])) B ((xs.map strV).take (j + 1) ++ List.replicate (xs.length - (j + 1)) (.string ⟨#[]⟩)) := by
  have hl : ((xs.map strV).take j).length = j := by rw [List.length_take, List.length_map]; omega
  have h1 := h j (.string ⟨#[]⟩) (by rw [List.getElem?_append_right (by omega), hl, Nat.sub_self, List.getElem?_replicate, if_pos (by omega)])
  refine ⟨h1.1, h1.2, ?_⟩
  have h2 := h.set (k := j) (by rw [List.length_append, hl, List.length_replicate]; omega) (.string xs[j])
  have e : ((xs.map strV).take j ++ List.replicate (xs.length - j) (Value.string ⟨#[]⟩)).set j (.string xs[j]) = (xs.map strV).take (j + 1) ++ List.replicate (xs.length - (j + 1)) (.string ⟨#[]⟩) := by
    rw [List.set_append_right _ _ (by omega), hl, Nat.sub_self, show xs.length - j = (xs.length - (j + 1)) + 1 by omega, List.replicate_succ, List.set_cons_zero, List.take_succ_eq_append_getElem (by simpa using hj)]
    simp [strV]
  rwa [e] at h2
set_option maxRecDepth 100000 in
set_option maxHeartbeats 4000000 in
theorem numbers_c (w : World) (sep : ByteArray) (lv : Value) (l : List Nat) (D : Nat → ByteArray) (hl : intsAt w lv l) (h5 : l.length ≤ 5) (hsep : sep.size ≤ 100) (hD : ∀ n ∈ l, (D n).size ≤ 100) (hI : ∀ n ∈ l, ∀ W : World, Below w.heap.size w W → Calls Tryz.prog 48 #[.int .i64 (n : Int)] W fun e w' => e = .returned (.string (D n)) ∧ Below W.heap.size W w') :
    Calls Tryz.prog 19 #[.string sep, lv] w fun e w' => e = .returned (.string (joinB sep (l.map D))) ∧ Below w.heap.size w w' := by
  have HL : Hid (∀ x, Below w.heap.size w x → intsAt x lv l) := fun x hx => intsAt.lasts hx hl
  have HI : Hid (∀ n ∈ l, ∀ W : World, Below w.heap.size w W → Calls Tryz.prog 48 #[.int .i64 (n : Int)] W fun e w' => e = .returned (.string (D n)) ∧ Below W.heap.size W w') := hI
  obtain ⟨xs, hxs⟩ : ∃ xs, l.map D = xs := ⟨_, rfl⟩
  have hxl : xs.length = l.length := by rw [← hxs, List.length_map]
  have HZ : Hid (((bl sep).intercalate (xs.map bl)).length ≤ 140737488355328) := by
    show _ ≤ _
    have h1 := inter_len (bl sep) (xs.map bl)
    have h2 : ((xs.map bl).map List.length).sum ≤ xs.length * 100 := by
      rw [List.map_map]
      refine sum_le _ 100 xs fun x hx => ?_
      rw [← hxs] at hx
      obtain ⟨n, hn, rfl⟩ := List.mem_map.1 hx
      show (bl (D n)).length ≤ 100
      rw [bl_size]
      exact hD n hn
    rw [List.length_map, bl_size] at h1
    have h3 : xs.length * sep.size ≤ 5 * 100 := Nat.mul_le_mul (by omega) hsep
    omega
  have hmk := @make_strs _ h5
  obtain ⟨la, lc, rfl, _⟩ := hl
  obtain ⟨W1, hW1⟩ : ∃ W1, w.alloc (.cells (Array.replicate l.length (.string ⟨#[]⟩)) 9) = W1 := ⟨_, rfl⟩
  have hb1 : Below w.heap.size w W1 := by rw [← hW1]; exact below_alloc _ _
  have hs1 : w.heap.size < W1.heap.size := by rw [← hW1]; simp
  have HR1 : Hid (Prog.rowAt W1 w.heap.size ((xs.map strV).take 0 ++ List.replicate (xs.length - 0) (.string ⟨#[]⟩))) := by
    show Prog.rowAt _ _ _
    rw [← hW1, List.take_zero, List.nil_append, hxl, Nat.sub_zero, ← List.toArray_replicate]
    exact Prog.rowAt_new
  clear hI hD
  go_enter Tryz.func19, Tryz.ntmps19
  go_wp2_with fail
  clear hW1 hmk
  go_loopw [13] (fun i wr => ∃ j : Nat, j ≤ l.length ∧ i = .int .i64 j ∧ Hid (Prog.rowAt wr w.heap.size ((xs.map strV).take j ++ List.replicate (xs.length - j) (.string ⟨#[]⟩)) ∧ Below w.heap.size w wr ∧ w.heap.size < wr.heap.size)) (fun i _ => l.length - (intOf i).toNat)
  case atStart => exact ⟨0, Nat.zero_le _, rfl, HR1.out, hb1, hs1⟩
  case round =>
    clear HR1 hb1 hs1
    obtain ⟨j, hj, rfl, hin⟩ := hrel
    by_cases hlt : j < l.length
    · obtain ⟨lb, lo, lc', hv, hlb, l0⟩ := slice_cells (HL.out wr hin.out.2.1) hlt
      obtain ⟨rfl, rfl⟩ : la = some ⟨lb, lo, none⟩ ∧ lc = lc' := by simpa using hv
      have hjl : (j : Int) < (l.length : Int) := by omega
      have hj0 : (0 : Int) ≤ (j : Int) := by omega
      have HN := HI.out _ (List.getElem_mem hlt) wr hin.out.2.1
      have HX : Hid (∀ W', Below wr.heap.size wr W' → W'.cell? ⟨w.heap.size, j, none⟩ = some (.string ⟨#[]⟩) ∧ W'.frozen? ⟨w.heap.size, j, none⟩ = false ∧ Hid (Prog.rowAt (W'.setCell ⟨w.heap.size, j, none⟩ (.string (D l[j]))) w.heap.size ((xs.map strV).take (j + 1) ++ List.replicate (xs.length - (j + 1)) (.string ⟨#[]⟩)) ∧ Below w.heap.size w (W'.setCell ⟨w.heap.size, j, none⟩ (.string (D l[j]))) ∧ w.heap.size < (W'.setCell ⟨w.heap.size, j, none⟩ (.string (D l[j]))).heap.size)) := fun W' hb => by
        have hr := row_put (j := j) (by omega) (hin.out.1.below hb hin.out.2.2)
        have e : xs[j]'(by omega) = D l[j] := by subst hxs; simp
        rw [e] at hr
        have hb' := hin.out.2.1.trans (hb.mono hin.out.2.1.size)
        refine ⟨hr.1, hr.2.1, hr.2.2, hb'.setCell (p := ⟨w.heap.size, j, none⟩) (Nat.le_refl _) _, ?_⟩
        rw [size_set]
        have := hb.size
        have := hin.out.2.2
        omega
      clear hv
      unfold Prog.intAt at l0
      rw [Nat.mul_one] at l0
      generalize l[j] = y at *
      go_wp2_with (go_at_call 48; refine HN.mono ?_; rintro e w1 ⟨rfl, hb⟩; obtain ⟨q0, q1, q2⟩ := HX.out _ hb)
      go_roundw
      case rel => exact ⟨j + 1, by omega, by go_num, q2⟩
      case measure => simp [intOf]; omega
    · have HJ := join_c w.heap.size 0 l.length xs sep wr (strs_row (n := xs.length) (by have := hin.out.1; rwa [show xs.length - j = 0 by omega, List.replicate_zero, List.append_nil, show j = xs.length by omega] at this) rfl) hin.out.2.2 (by omega) (by omega) HZ.out
      rw [hxl] at HJ
      obtain rfl : j = l.length := by omega
      have HE : Hid (joinB sep xs = (⟨((bl sep).intercalate (xs.map bl)).toArray⟩ : ByteArray)) := rfl
      go_wp2_with (go_at_call 49; refine HJ.mono ?_; rintro e w1 ⟨rfl, hb⟩; replace hb : Hid _ := hb)
      go_ret
      exact ⟨by rw [hxs, HE.out]; rfl, hin.out.2.1.trans (hb.out.mono hin.out.2.1.size)⟩
theorem join_one (sep : ByteArray) (x : ByteArray) : joinB sep [x] = x := by
  unfold joinB
  simp [List.intercalate, mk_bl]
theorem one_int (w : World) (n : Nat) : intsAt (w.alloc (.cells #[.int .i64 (n : Int)] 3)) (.slice (some ⟨w.heap.size, 0, none⟩) 1 1) [n] :=
  Prog.intsAt_of (B := w.heap.size) (cap := 1) (l := [n]) (Prog.rowAt_new (w := w) (vs := [.int .i64 (n : Int)]) (t := 3)) (by simp) (by simp)
/-- a number alone -/
theorem number1_c (w : World) (lv : Value) (n : Nat) (sep : ByteArray) (hl : intsAt w lv [n]) (h9 : n ≤ 99) (hsep : sep.size ≤ 100) : Calls Tryz.prog 19 #[.string sep, lv] w fun e w' => e = .returned (.string (dig n)) ∧ Below w.heap.size w w' := by
  have h := numbers_c w sep lv [n] (fun m => dig m) hl (by simp) hsep (fun m hm => by have := dig_size m; omega) (fun m hm W _ => by
    obtain rfl : m = n := by simpa using hm
    refine (itoa_c m (by omega) (by omega) W).mono ?_
    rintro e w' ⟨rfl, rfl⟩
    exact ⟨rfl, Below.refl _ _⟩)
  rw [List.map_cons, List.map_nil, join_one] at h
  exact h
set_option maxRecDepth 100000 in
set_option maxHeartbeats 1000000 in
theorem term_c (w : World) (t : Tm) (n : Nat) (hn : t.n = (n : Int)) (h9 : n ≤ 25) : Calls Tryz.prog 50 #[.agg #[.bool t.var, .int .i64 (n : Int)]] w fun e w' => e = .returned (.string (argB t)) ∧ Below w.heap.size w w' := by
  obtain ⟨b, m⟩ := t
  simp only at hn
  subst hn
  have h0 : (0 : Int) ≤ (n : Int) := by omega
  have h1 : (n : Int) ≤ 25 := by omega
  cases b with
  | true =>
    have hcv := conv_one (w.alloc (.cells #[.bool true, .int .i64 (n : Int)] 94)) (65 + (n : Int))
    rw [World.size_alloc] at hcv
    go_enter Tryz.func50, Tryz.ntmps50
    go_wp2_with fail
    go_ret
    exact ⟨rfl, (below_alloc _ _).alloc (by simp) _⟩
  | false =>
    have HN := number1_c ((w.alloc (.cells #[.bool false, .int .i64 (n : Int)] 94)).alloc (.cells #[.int .i64 (n : Int)] 3)) _ n ⟨#[]⟩ (one_int _ n) (by omega) (by decide)
    rw [World.size_alloc] at HN
    have HB : Hid (Below w.heap.size w ((w.alloc (.cells #[.bool false, .int .i64 (n : Int)] 94)).alloc (.cells #[.int .i64 (n : Int)] 3))) := (below_alloc _ _).alloc (by simp) _
    go_enter Tryz.func50, Tryz.ntmps50
    go_wp2_with (go_at_call 19; refine HN.mono ?_; rintro e w1 ⟨rfl, hb⟩; replace hb : Hid _ := hb)
    go_ret
    exact ⟨rfl, HB.out.trans (hb.out.mono HB.out.size)⟩
end Go.Proofs.YtlfccloaoopadafGreatDoor.Text

/-
  The developers' reading of a term.
-/
namespace Go.Proofs.YtlfccloaoopadafGreatDoor.Text
open Go.ChangeShapes Go.WideShapes Go.ChangeAt Go.RowKit
open Rule (termOk)
open Go.Proofs.YtlfccloaoopadafGreatDoor.Sum (KeepsFrom)

theorem takes_r (w : World) (B : Nat) (s : List UInt8) (p : ByteArray) (h : restAt w B s) : Calls Tryz.prog 61 #[.pointer (some ⟨B, 0, none⟩), .string p] w fun e w' => e = .returned (.bool (eatL (bl p) s).isSome) ∧ Hid (restAt w' B ((eatL (bl p) s).getD s) ∧ Ate B w w') := by
  refine (takes_c w B s p h).mono ?_
  rintro e w' ⟨rfl, rfl⟩
  exact ⟨rfl, rest_set h _, ate_set _ _ _⟩
theorem argB_var (n : Nat) (h : n < 3) : bl (argB ⟨true, (n : Int)⟩) = [UInt8.ofNat (65 + n)] := var_fin ⟨n, h⟩
theorem argB_const (n : Nat) (h : n < 5) : bl (argB ⟨false, (n : Int)⟩) = [UInt8.ofNat (48 + n)] := const_fin ⟨n, h⟩
theorem eat_one {c : UInt8} : ∀ (s : List UInt8), eatL [c] s = match s with | [] => none | b :: t => if c = b then some t else none
  | [] => rfl
  | b :: t => by simp [eatL]
theorem termR_var {s t : List UInt8} {n : Nat} (h : n < 3) (he : eatL (bl (argB ⟨true, (n : Int)⟩)) s = some t) : termR s = some (⟨true, (n : Int)⟩, t) := by
  rw [eat_iff.1 he]
  exact term_of (by simp [termOk, Lat.within]; omega) t
theorem termR_const {s t : List UInt8} {n : Nat} (h : n < 5) (he : eatL (bl (argB ⟨false, (n : Int)⟩)) s = some t) : termR s = some (⟨false, (n : Int)⟩, t) := by
  rw [eat_iff.1 he]
  exact term_of (by simp [termOk, Lat.within]; omega) t
theorem termR_no {s : List UInt8} (h1 : ∀ n : Nat, n < 3 → eatL (bl (argB ⟨true, (n : Int)⟩)) s = none) (h2 : ∀ n : Nat, n < 5 → eatL (bl (argB ⟨false, (n : Int)⟩)) s = none) : termR s = none := by
  cases h : termR s with
  | none => rfl
  | some x =>
    obtain ⟨⟨v, n⟩, u⟩ := x
    obtain ⟨e, ok⟩ := term_some h
    simp only [termOk, Lat.within, Bool.and_eq_true, decide_eq_true_eq] at ok
    obtain ⟨k, rfl⟩ : ∃ k : Nat, n = (k : Int) := ⟨n.toNat, by omega⟩
    cases v with
    | true =>
      simp only [if_true] at ok
      have := h1 k (by omega)
      rw [e, eat_of] at this
      cases this
    | false =>
      simp only [Bool.false_eq_true, if_false] at ok
      have := h2 k (by omega)
      rw [e, eat_of] at this
      cases this
theorem Ate.block {B b : Nat} {w w' : World} (h : Ate B w w') (hb : b ≠ B) (hl : b < w.heap.size) : w'.heap[b]? = w.heap[b]? := by
  rcases Nat.lt_or_gt_of_ne hb with h1 | h1
  · exact h.below.block b h1
  · exact h.behind.2 b h1 hl
theorem ate_far {B g k : Nat} {w w' : World} {v : Value} (h : Ate B w w') (hg : w.heap.size ≤ g) (hB : B < w.heap.size) : Ate B w (w'.setCell ⟨g, k, none⟩ v) := by
  refine ⟨h.below.setCell (p := ⟨g, k, none⟩) (by show B ≤ g; omega) _, by rw [size_set]; exact h.behind.1, fun b h1 h2 => ?_⟩
  rw [Sum.heap_other (by omega)]
  exact h.behind.2 b h1 h2
theorem rest_far {B g k : Nat} {w : World} {s : List UInt8} {v : Value} (h : restAt w B s) (hg : g ≠ B) : restAt (w.setCell ⟨g, k, none⟩ v) B s := by
  unfold restAt
  rw [Sum.heap_other hg]
  exact h
/-- the box of the answer, still empty -/
def boxT (w : World) (b : Nat) (x y : Value) : Prop := w.heap[b]? = some (.cells #[x, y] 94 (0, 0))
theorem boxT.ate {B b : Nat} {w w' : World} {x y : Value} (h : boxT w b x y) (ha : Ate B w w') (hb : b ≠ B) : boxT w' b x y := (ha.block hb (Array.getElem?_eq_some_iff.1 h).1).trans h
theorem boxT.cells {b : Nat} {w : World} {x y : Value} (h : boxT w b x y) : w.cell? ⟨b, 0, none⟩ = some x ∧ w.cell? ⟨b, 1, none⟩ = some y ∧ w.frozen? ⟨b, 0, none⟩ = false ∧ w.frozen? ⟨b, 1, none⟩ = false := by
  unfold boxT at h
  simp [World.cell?, World.frozen?, h]
set_option maxRecDepth 100000 in
set_option maxHeartbeats 4000000 in
theorem restTerm_c (w : World) (B : Nat) (s : List UInt8) (h : restAt w B s) : Calls Tryz.prog 89 #[.pointer (some ⟨B, 0, none⟩)] w (ReadsTo B w (termR s) fun t v _ => v = .agg #[.bool t.var, .int .i64 t.n]) := by
  have hB := rest_lt h
  obtain ⟨W1, hW1⟩ : ∃ W1, w.alloc (.cells #[.bool false, .int .i64 0] 94) = W1 := ⟨_, rfl⟩
  have HA1 : Hid (Ate B w W1) := by rw [← hW1]; exact Ate.of (below_alloc _ _) (by omega)
  have HR1 : Hid (restAt W1 B s) := by rw [← hW1]; exact rest_lasts h (below_alloc _ _)
  have HX1 : Hid (boxT W1 w.heap.size (.bool false) (.int .i64 0)) := by rw [← hW1]; exact heap_alloc_new w _
  go_enter Tryz.func89, Tryz.ntmps89
  go_wp2_with fail
  clear hW1
  go_loopw [7] (fun i wr => ∃ j : Nat, j ≤ 3 ∧ i = .int .i64 j ∧ Hid ((restAt wr B s ∧ Ate B w wr ∧ boxT wr w.heap.size (.bool false) (.int .i64 0)) ∧ ∀ n : Nat, n < j → eatL (bl (argB ⟨true, (n : Int)⟩)) s = none)) (fun i _ => 3 - (intOf i).toNat)
  case atStart => exact ⟨0, Nat.zero_le _, rfl, ⟨HR1.out, HA1.out, HX1.out⟩, fun n hn => by omega⟩
  case round =>
    clear HA1 HR1 HX1
    obtain ⟨j, hj, rfl, hin⟩ := hrel
    by_cases hlt : j < 3
    · have hjl : (j : Int) < 3 := by omega
      have hj0 : (0 : Int) ≤ (j : Int) := by omega
      have HT := term_c (wr.alloc (.cells #[.bool true, .int .i64 (j : Int)] 94)) ⟨true, (j : Int)⟩ j rfl (by omega)
      have HBa : Hid (Ate B wr (wr.alloc (.cells #[.bool true, .int .i64 (j : Int)] 94)) ∧ restAt (wr.alloc (.cells #[.bool true, .int .i64 (j : Int)] 94)) B s ∧ boxT (wr.alloc (.cells #[.bool true, .int .i64 (j : Int)] 94)) wr.heap.size (.bool true) (.int .i64 (j : Int))) := ⟨Ate.of (below_alloc _ _) (Nat.le_of_lt (rest_lt hin.out.1.1)), rest_lasts hin.out.1.1 (below_alloc _ _), heap_alloc_new wr _⟩
      have HBr : B < wr.heap.size := rest_lt hin.out.1.1
      have HWr : w.heap.size ≤ wr.heap.size := hin.out.1.2.1.size
      go_wp2_with fail
      generalize hWa : wr.alloc (.cells #[.bool true, .int .i64 (j : Int)] 94) = Wa at *
      clear hWa
      refine HT.mono ?_
      rintro e w1 ⟨rfl, hb1⟩
      have HA1 : Hid (Ate B Wa w1) := Ate.of hb1 (Nat.le_of_lt (rest_lt HBa.out.2.1))
      have HR1 : Hid (restAt w1 B s) := rest_lasts HBa.out.2.1 hb1
      have HK := takes_r w1 B s (argB ⟨true, (j : Int)⟩) HR1.out
      clear hb1
      go_wp2_with fail
      refine HK.mono ?_
      rintro e w2 ⟨rfl, hin2⟩
      have HA2 : Hid (Ate B w w2) := hin.out.1.2.1.trans (HBa.out.1.trans (HA1.out.trans hin2.out.2))
      have HX2 : Hid (boxT w2 w.heap.size (.bool false) (.int .i64 0)) := hin.out.1.2.2.ate (HBa.out.1.trans (HA1.out.trans hin2.out.2)) (by omega)
      have HY2 : Hid (boxT w2 wr.heap.size (.bool true) (.int .i64 (j : Int))) := HBa.out.2.2.ate (HA1.out.trans hin2.out.2) (by omega)
      cases he : eatL (bl (argB ⟨true, (j : Int)⟩)) s with
      | some t =>
        have HE : Hid (termR s = some (⟨true, (j : Int)⟩, t)) := termR_var hlt he
        rw [he] at hin2
        simp only [Option.isSome_some, Option.getD_some] at hin2 ⊢
        obtain ⟨x0, x1, x2, x3⟩ := HX2.out.cells
        obtain ⟨y0, y1, _, _⟩ := HY2.out.cells
        clear he
        go_wp2_with fail
        exact bodyPost_ret (v := .agg #[.bool true, .int .i64 (j : Int)]) (by simp [results, Tryz.results89, go_sem, x0, x1]) rfl (reads_some HE.out (ate_far (ate_far HA2.out (Nat.le_refl _) hB) (Nat.le_refl _) hB) rfl (rest_far (rest_far hin2.out.1 (by omega)) (by omega)))
      | none =>
        rw [he] at hin2
        simp only [Option.isSome_none, Option.getD_none] at hin2 ⊢
        have HNN : Hid (∀ n : Nat, n < j + 1 → eatL (bl (argB ⟨true, (n : Int)⟩)) s = none) := fun n hn => by
          by_cases e : n = j
          · subst e; exact he
          · exact hin.out.2 n (by omega)
        clear he
        go_wp2_with fail
        go_roundw
        case rel => exact ⟨j + 1, by omega, by go_num, ⟨hin2.out.1, HA2.out, HX2.out⟩, HNN.out⟩
        case measure => simp [intOf]; omega
    · obtain rfl : j = 3 := by omega
      have HV : Hid (∀ n : Nat, n < 3 → eatL (bl (argB ⟨true, (n : Int)⟩)) s = none) := hin.out.2
      go_wp2_with fail
      go_loopw [18] (fun i wr => ∃ j : Nat, j ≤ 5 ∧ i = .int .i64 j ∧ Hid ((restAt wr B s ∧ Ate B w wr ∧ boxT wr w.heap.size (.bool false) (.int .i64 0)) ∧ ∀ n : Nat, n < j → eatL (bl (argB ⟨false, (n : Int)⟩)) s = none)) (fun i _ => 5 - (intOf i).toNat)
      case atStart => exact ⟨0, Nat.zero_le _, rfl, hin.out.1, fun n hn => by omega⟩
      case round =>
        clear hin
        obtain ⟨j, hj, rfl, hin⟩ := hrel
        by_cases hlt : j < 5
        · have hjl : (j : Int) < 5 := by omega
          have hj0 : (0 : Int) ≤ (j : Int) := by omega
          have HT := term_c (wr.alloc (.cells #[.bool false, .int .i64 (j : Int)] 94)) ⟨false, (j : Int)⟩ j rfl (by omega)
          have HBa : Hid (Ate B wr (wr.alloc (.cells #[.bool false, .int .i64 (j : Int)] 94)) ∧ restAt (wr.alloc (.cells #[.bool false, .int .i64 (j : Int)] 94)) B s ∧ boxT (wr.alloc (.cells #[.bool false, .int .i64 (j : Int)] 94)) wr.heap.size (.bool false) (.int .i64 (j : Int))) := ⟨Ate.of (below_alloc _ _) (Nat.le_of_lt (rest_lt hin.out.1.1)), rest_lasts hin.out.1.1 (below_alloc _ _), heap_alloc_new wr _⟩
          have HBr : B < wr.heap.size := rest_lt hin.out.1.1
          have HWr : w.heap.size ≤ wr.heap.size := hin.out.1.2.1.size
          go_wp2_with fail
          generalize hWa : wr.alloc (.cells #[.bool false, .int .i64 (j : Int)] 94) = Wa at *
          clear hWa
          refine HT.mono ?_
          rintro e w1 ⟨rfl, hb1⟩
          have HA1 : Hid (Ate B Wa w1) := Ate.of hb1 (Nat.le_of_lt (rest_lt HBa.out.2.1))
          have HR1 : Hid (restAt w1 B s) := rest_lasts HBa.out.2.1 hb1
          have HK := takes_r w1 B s (argB ⟨false, (j : Int)⟩) HR1.out
          clear hb1
          go_wp2_with fail
          refine HK.mono ?_
          rintro e w2 ⟨rfl, hin2⟩
          have HA2 : Hid (Ate B w w2) := hin.out.1.2.1.trans (HBa.out.1.trans (HA1.out.trans hin2.out.2))
          have HX2 : Hid (boxT w2 w.heap.size (.bool false) (.int .i64 0)) := hin.out.1.2.2.ate (HBa.out.1.trans (HA1.out.trans hin2.out.2)) (by omega)
          have HY2 : Hid (boxT w2 wr.heap.size (.bool false) (.int .i64 (j : Int))) := HBa.out.2.2.ate (HA1.out.trans hin2.out.2) (by omega)
          cases he : eatL (bl (argB ⟨false, (j : Int)⟩)) s with
          | some t =>
            have HE : Hid (termR s = some (⟨false, (j : Int)⟩, t)) := termR_const hlt he
            rw [he] at hin2
            simp only [Option.isSome_some, Option.getD_some] at hin2 ⊢
            obtain ⟨x0, x1, x2, x3⟩ := HX2.out.cells
            obtain ⟨y0, y1, _, _⟩ := HY2.out.cells
            clear he
            go_wp2_with fail
            exact bodyPost_ret (v := .agg #[.bool false, .int .i64 (j : Int)]) (by simp [results, Tryz.results89, go_sem, x0, x1]) rfl (reads_some HE.out (ate_far (ate_far HA2.out (Nat.le_refl _) hB) (Nat.le_refl _) hB) rfl (rest_far (rest_far hin2.out.1 (by omega)) (by omega)))
          | none =>
            rw [he] at hin2
            simp only [Option.isSome_none, Option.getD_none] at hin2 ⊢
            have HNN : Hid (∀ n : Nat, n < j + 1 → eatL (bl (argB ⟨false, (n : Int)⟩)) s = none) := fun n hn => by
              by_cases e : n = j
              · subst e; exact he
              · exact hin.out.2 n (by omega)
            clear he
            go_wp2_with fail
            go_roundw
            case rel => exact ⟨_, _, _, _, _, _, _, _, _, _, _, _, _, ⟨j + 1, by omega, by go_num, ⟨hin2.out.1, HA2.out, HX2.out⟩, HNN.out⟩, rfl⟩
            case measure => simp [intOf]; omega
        · obtain rfl : j = 5 := by omega
          have HE : Hid (termR s = none) := termR_no HV.out hin.out.2
          go_wp2_with fail
          exact ⟨rfl, reads_none HE.out hin.out.1.2.1⟩
end Go.Proofs.YtlfccloaoopadafGreatDoor.Text

/-
  The library's slices.IndexFunc at predicates: the number that it tells. And the predicate whose name is read.
-/
namespace Go.Proofs.YtlfccloaoopadafGreatDoor.Text
open Go.ChangeShapes Go.WideShapes Go.ChangeAt Go.RowKit
open Base (Asks predV)

/-- the number of the first one that is so, or -1 -/
def idxOf (p : Prd → Bool) (xs : List Prd) : Int := match xs.findIdx? p with
  | some k => (k : Int)
  | none => -1
theorem idxOf_at {p : Prd → Bool} {xs : List Prd} {j : Nat} (hj : j < xs.length) (hn : (xs.take j).any p = false) (h : p xs[j] = true) : idxOf p xs = (j : Int) := by
  unfold idxOf
  have e : xs.findIdx? p = some j := List.findIdx?_eq_some_iff_getElem.2 ⟨hj, h, fun i hi => by
    have := List.any_eq_false.1 hn xs[i] (by rw [List.mem_take_iff_getElem]; exact ⟨i, by omega, rfl⟩)
    simpa using this⟩
  rw [e]
theorem idxOf_no {p : Prd → Bool} {xs : List Prd} (h : xs.any p = false) : idxOf p xs = -1 := by
  unfold idxOf
  have e : xs.findIdx? p = none := by
    rw [List.findIdx?_eq_none_iff]
    exact fun x hx => by have := List.any_eq_false.1 h x hx; simpa using this
  rw [e]
set_option maxRecDepth 100000 in
set_option maxHeartbeats 4000000 in
theorem indexPredN_c (w : World) (xv : Value) (xs : List Prd) (g : Nat) (lb : Array Value) (eg : ∀ args w, (callFunc g args).run Tryz.prog w = .ok (.enter g args) w) (p : Prd → Bool) (hx : predsAt w xv xs) (hp : Asks predV g lb p xs w) :
    Calls Tryz.prog 87 #[xv, .func (.func g) #[] lb] w fun e w' => e = .returned (.int .i64 (idxOf p xs)) ∧ Below w.heap.size w w' := by
  obtain ⟨xa, xc, rfl, hm, hx⟩ := hx
  have HX : Hid (xs = [] ∨ ∃ b off, xa = some ⟨b, off, none⟩ ∧ b < w.heap.size ∧ ∀ i x, xs[i]? = some x → predAt w b (off + i * 3) x) := hx
  have HP : Hid (Asks predV g lb p xs w) := hp
  clear hx hp
  go_enter Tryz.func87, Tryz.ntmps87
  go_wp2_with fail
  go_loopw [8] (fun i wr => ∃ j : Nat, j ≤ xs.length ∧ i = .int .i64 j ∧ (xs.take j).any p = false ∧ Below w.heap.size w wr) (fun i _ => xs.length - (intOf i).toNat)
  case atStart => exact ⟨0, Nat.zero_le _, rfl, rfl, Below.refl _ _⟩
  case round =>
    obtain ⟨j, hj, rfl, hno, hbw⟩ := hrel
    by_cases hlt : j < xs.length
    · obtain ⟨b, off, rfl, hbl, hx⟩ := HX.out.resolve_left (by rintro rfl; simp at hlt)
      have hcall := HP.out wr xs[j] hbw (List.getElem_mem hlt)
      have HT : Hid ((xs.take (j + 1)).any p = p xs[j]) := by show _ = _; rw [any_take hlt, hno, Bool.false_or]
      have HY : Hid (p xs[j] = true → idxOf p xs = (j : Int)) := fun h => idxOf_at hlt hno h
      have hcell := hx j xs[j] (by simp [hlt])
      have hjl : (j : Int) < (xs.length : Int) := by omega
      have hj0 : (0 : Int) ≤ (j : Int) := by omega
      clear hx hno HP HX
      generalize xs[j] = q at *
      obtain ⟨qn, qa, qk⟩ := q
      obtain ⟨t0, t1, t2⟩ := hcell
      replace t0 := (cell_lasts hbw hbl).trans t0
      replace t1 := (cell_lasts hbw hbl).trans t1
      replace t2 := (cell_lasts hbw hbl).trans t2
      simp only [predV] at hcall
      dsimp only at t0 t1 t2
      cases hq : p ⟨qn, qa, qk⟩
      · rw [hq] at hcall HT
        clear HY
        go_wp2_with (go_at_fn g; refine hcall.mono ?_; rintro e w1 ⟨rfl, hb1⟩)
        go_roundw
        case rel => exact ⟨j + 1, by omega, by go_num, HT.out, hbw.trans (hb1.mono hbw.size)⟩
        case measure => simp [intOf]; omega
      · rw [hq] at hcall HY
        have HY' : Hid (idxOf p xs = (j : Int)) := HY.out rfl
        clear HT HY
        go_wp2_with (go_at_fn g; refine hcall.mono ?_; rintro e w1 ⟨rfl, hb1⟩)
        go_ret
        exact ⟨by rw [HY'.out]; rfl, hbw.trans (hb1.mono hbw.size)⟩
    · have HE : Hid (idxOf p xs = -1) := idxOf_no (any_take_end hlt hno)
      clear hno HP HX
      go_wp2_with fail
      go_ret
      exact ⟨by rw [HE.out]; rfl, hbw⟩
theorem str_eq (a b : ByteArray) : (a.toList == b.toList) = decide (bl a = bl b) := by
  rw [ByteArray.toList_eq, ByteArray.toList_eq]
  show (bl a == bl b) = _
  rw [Bool.eq_iff_iff]
  simp
/-- the question that Atom asks: is it of this name? -/
theorem atom1_c (w : World) (q : Prd) (N : Nat) (T : ByteArray) (h : w.cell? ⟨N, 0, none⟩ = some (.string T)) (hN : N < w.heap.size) : Calls Tryz.prog 88 #[predV q, .pointer (some ⟨N, 0, none⟩)] w fun e w' => e = .returned (.bool (decide (bl q.name = bl T))) ∧ Below w.heap.size w w' := by
  have hc : (w.alloc (.cells #[.string q.name, .int .i64 q.arity, .int .i64 q.kind] 47)).cell? ⟨N, 0, none⟩ = some (.string T) := (cell_lasts (below_alloc _ _) hN).trans h
  unfold predV
  go_enter Tryz.func88, Tryz.ntmps88
  go_wp2_with fail
  go_ret
  exact ⟨ret_bool (str_eq q.name T), below_alloc _ _⟩
theorem enter_atom1 : ∀ args w, (callFunc 88 args).run Tryz.prog w = .ok (.enter 88 args) w := enters_of Tryz.func88 (by kernel_rfl) rfl
theorem index_name (w : World) (pv : Value) (ps : List Prd) (N : Nat) (r : List UInt8) (hp : predsAt w pv ps) (h : w.cell? ⟨N, 0, none⟩ = some (.string (mk r))) (hN : N < w.heap.size) : Calls Tryz.prog 87 #[pv, .func (.func 88) #[] #[.pointer (some ⟨N, 0, none⟩)]] w fun e w' => e = .returned (.int .i64 (match idxR ps r with | some k => (k : Int) | none => -1)) ∧ Below w.heap.size w w' := by
  have := indexPredN_c w pv ps 88 #[.pointer (some ⟨N, 0, none⟩)] enter_atom1 (fun q => decide (bl q.name = r)) hp (fun w1 q hb _ => by
    have h2 := atom1_c w1 q N (mk r) ((cell_lasts hb hN).trans h) (Nat.lt_of_lt_of_le hN hb.size)
    rw [bl_mk] at h2
    exact h2)
  exact this
end Go.Proofs.YtlfccloaoopadafGreatDoor.Text
