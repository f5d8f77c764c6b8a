/-
  The developers' reading of a predicate's line.
-/
import Derived.Test.YtlfccloaoopadafGreatDoorG13
import Derived.Test.YtlfccloaoopadafGreatDoorG15
import Derived.Deep.RegionHeld3
import Derived.Deep.AppendLies
import Derived.Test.YtlfccloaoopadafGreatDoorG32
namespace Go.Proofs.YtlfccloaoopadafGreatDoor.Text
open Go.ChangeShapes Go.WideShapes Go.ChangeAt Go.RowKit
open Go.Proofs.YtlfccloaoopadafGreatDoor.Sum (KeepsFrom)
open Base (predV)

theorem isPred_c (w : World) (B : Nat) (s : List UInt8) (h : restAt w B s) : Calls Tryz.prog 31 #[.pointer (some ⟨B, 0, none⟩)] w fun e w' => e = .returned (.bool (isPredR s)) ∧ w' = w := by
  have h1 := begins_c w B s ⟨#[112, 114, 101, 100, 32]⟩ h
  have h2 := begins_c w B s ⟨#[112, 114, 101, 100, 32, 61]⟩ h
  have h3 := begins_c w B s ⟨#[112, 114, 101, 100, 32, 58]⟩ h
  have HE : Hid (isPredR s = ((eatL (bl ⟨#[112, 114, 101, 100, 32]⟩) s).isSome && !(eatL (bl ⟨#[112, 114, 101, 100, 32, 61]⟩) s).isSome && !(eatL (bl ⟨#[112, 114, 101, 100, 32, 58]⟩) s).isSome)) := rfl
  generalize (eatL (bl ⟨#[112, 114, 101, 100, 32]⟩) s).isSome = b1 at *
  generalize (eatL (bl ⟨#[112, 114, 101, 100, 32, 61]⟩) s).isSome = b2 at *
  generalize (eatL (bl ⟨#[112, 114, 101, 100, 32, 58]⟩) s).isSome = b3 at *
  cases b1 <;> cases b2 <;> cases b3
  all_goals
    go_enter Tryz.func31, Tryz.ntmps31
    go_wp2_with (go_at_call 56; first | (with_reducible refine h1.mono ?_; rintro e w1 ⟨rfl, rfl⟩) | (with_reducible refine h2.mono ?_; rintro e w1 ⟨rfl, rfl⟩) | (with_reducible refine h3.mono ?_; rintro e w1 ⟨rfl, rfl⟩))
    go_ret
    exact ⟨by rw [HE.out]; rfl, rfl⟩
/-- a box of a predicate -/
def boxP (w : World) (b : Nat) (x y z : Value) : Prop := w.heap[b]? = some (.cells #[x, y, z] 47 (0, 0))
theorem boxP.ate {B b : Nat} {w w' : World} {x y z : Value} (h : boxP w b x y z) (ha : Ate B w w') (hb : b ≠ B) : boxP w' b x y z := (ha.block hb (Array.getElem?_eq_some_iff.1 h).1).trans h
theorem boxP.cells {b : Nat} {w : World} {x y z : Value} (h : boxP w b x y z) : w.cell? ⟨b, 0, none⟩ = some x ∧ w.cell? ⟨b, 1, none⟩ = some y ∧ w.cell? ⟨b, 2, none⟩ = some z ∧ w.frozen? ⟨b, 0, none⟩ = false ∧ w.frozen? ⟨b, 1, none⟩ = false ∧ w.frozen? ⟨b, 2, none⟩ = false := by
  unfold boxP at h
  simp [World.cell?, World.frozen?, h]
theorem boxP.set0 {b : Nat} {w : World} {x y z : Value} (h : boxP w b x y z) (u : Value) : boxP (w.setCell ⟨b, 0, none⟩ u) b u y z := heap_setCell_same w b 0 _ _ u h
theorem boxP.set1 {b : Nat} {w : World} {x y z : Value} (h : boxP w b x y z) (u : Value) : boxP (w.setCell ⟨b, 1, none⟩ u) b x u z := heap_setCell_same w b 1 _ _ u h
theorem boxP.set2 {b : Nat} {w : World} {x y z : Value} (h : boxP w b x y z) (u : Value) : boxP (w.setCell ⟨b, 2, none⟩ u) b x y u := heap_setCell_same w b 2 _ _ u h
theorem boxP.far {b g k : Nat} {w : World} {x y z u : Value} (h : boxP w b x y z) (hg : g ≠ b) : boxP (w.setCell ⟨g, k, none⟩ u) b x y z := by
  unfold boxP
  rw [Sum.heap_other hg]
  exact h
theorem hid {p : Prop} (h : p) : Hid p := h
theorem mustP (w : World) (B : Nat) (s p : List UInt8) (h : restAt w B s) : Calls Tryz.prog 57 #[.pointer (some ⟨B, 0, none⟩), .string ⟨p.toArray⟩] w (ReadsTo B w ((eatL p s).map fun t => ((), t)) fun _ v _ => v = .tuple #[]) := by
  have := must_c w B s (mk p) h
  rw [bl_mk] at this
  exact this
set_option maxRecDepth 100000 in
set_option maxHeartbeats 4000000 in
theorem readPred_c (w : World) (B : Nat) (s : List UInt8) (h : restAt w B s) (hs : s.length ≤ 140737488355328) : Calls Tryz.prog 32 #[.pointer (some ⟨B, 0, none⟩)] w (ReadsTo B w (predR s) fun q v _ => v = predV q) := by
  have hB := rest_lt h
  have HL : Hid (s.length ≤ 140737488355328) := hs
  obtain ⟨W1, hW1⟩ : ∃ W1, (w.alloc (.cells #[.string ⟨#[]⟩, .int .i64 0, .int .i64 0] 47)).alloc (.cells #[.string ⟨#[]⟩, .int .i64 0, .int .i64 0] 47) = W1 := ⟨_, rfl⟩
  have HB1 : Hid (Below w.heap.size w W1) := by rw [← hW1]; exact (below_alloc _ _).alloc (by simp) _
  have HA : Hid (Ate B w W1) := Ate.of HB1.out (by omega)
  have HR : Hid (restAt W1 B s) := rest_lasts h HB1.out
  have HX : Hid (boxP W1 w.heap.size (.string ⟨#[]⟩) (.int .i64 0) (.int .i64 0)) := by
    rw [← hW1]
    exact (Below.block (below_alloc _ _) _ (by simp)).trans (heap_alloc_new w _)
  have HY : Hid (boxP W1 (w.heap.size + 1) (.string ⟨#[]⟩) (.int .i64 0) (.int .i64 0)) := by
    have := heap_alloc_new (w.alloc (.cells #[.string ⟨#[]⟩, .int .i64 0, .int .i64 0] 47)) (.cells #[.string ⟨#[]⟩, .int .i64 0, .int .i64 0] 47)
    rw [World.size_alloc, hW1] at this
    exact this
  clear HB1 hs
  go_enter Tryz.func32, Tryz.ntmps32
  have HC := mustP W1 B s predW HR.out
  go_wp2_with fail
  refine HC.mono ?_
  clear HC
  intro e w1 h1
  cases he : eatL predW s with
  | none =>
    rw [he] at h1
    rw [Option.map_none] at h1
    obtain ⟨rfl, ha⟩ := h1.no
    have HN : Hid (predR s = none) := (by show _ = _; simp only [predR, he, Option.bind_none])
    clear he
    go_wp2_with fail
    exact ⟨rfl, reads_none HN.out (HA.out.trans ha.out)⟩
  | some x1 =>
    rw [he, Option.map_some] at h1
    obtain ⟨v, rfl, rfl, hx⟩ := h1.yes
    clear h1
    have K1 : Hid (eatL predW s = some x1) := he
    clear he
    have HL' : Hid (x1.length ≤ 140737488355328) := by show _ ≤ _; have := eat_len K1.out; have := HL.out; omega
    clear HL
    rename Hid (x1.length ≤ 140737488355328) => HL
    replace HX := hid (HX.out.ate hx.out.2 (by omega))
    replace HY := hid (HY.out.ate hx.out.2 (by omega))
    replace HA := hid (HA.out.trans hx.out.2)
    clear HR
    have HR : Hid (restAt w1 B x1) := hx.out.1
    clear hx
    have HC := name_c w1 B x1 HR.out HL.out
    go_wp2_with fail
    refine HC.mono ?_
    clear HC
    intro e w2 h1
    cases he : runL isLow x1 with
    | none =>
      rw [he] at h1
      obtain ⟨rfl, ha⟩ := h1.no
      have HN : Hid (predR s = none) := (by show _ = _; simp only [predR, K1.out, he, Option.bind_some, Option.bind_none])
      clear he
      go_wp2_with fail
      exact ⟨rfl, reads_none HN.out (HA.out.trans ha.out)⟩
    | some x2 =>
      obtain ⟨r2, s2⟩ := x2
      rw [he] at h1
      obtain ⟨v, rfl, rfl, hx⟩ := h1.yes
      clear h1
      have K2 : Hid (runL isLow x1 = some (r2, s2)) := he
      clear he
      have HL' : Hid (s2.length ≤ 140737488355328) := by show _ ≤ _; have := congrArg List.length (runL_some K2.out).1; rw [List.length_append] at this; have := HL.out; omega
      clear HL
      rename Hid (s2.length ≤ 140737488355328) => HL
      replace HX := hid (HX.out.ate hx.out.2 (by omega))
      replace HY := hid (HY.out.ate hx.out.2 (by omega))
      replace HA := hid (HA.out.trans hx.out.2)
      clear HR
      have HR : Hid (restAt w2 B s2) := hx.out.1
      clear hx
      obtain ⟨y0, y1, y2, z0, z1, z2⟩ := HY.out.cells
      obtain ⟨V2, hV2⟩ : ∃ V, w2.setCell ⟨w.heap.size + 1, 0, none⟩ (.string (mk r2)) = V := ⟨_, rfl⟩
      replace HX : Hid (boxP V2 w.heap.size (.string ⟨#[]⟩) (.int .i64 0) (.int .i64 0)) := by rw [← hV2]; exact HX.out.far (by omega)
      replace HY := hid (HY.out.set0 (.string (mk r2)))
      rw [hV2] at HY
      replace HA : Hid (Ate B w V2) := by rw [← hV2]; exact ate_far HA.out (by omega) hB
      replace HR : Hid (restAt V2 B s2) := by rw [← hV2]; exact rest_far HR.out (by omega)
      have HC := mustP V2 B s2 [32] HR.out
      go_wp2_with fail
      refine HC.mono ?_
      clear HC
      intro e w3 h1
      cases he : eatL [32] s2 with
      | none =>
        rw [he] at h1
        rw [Option.map_none] at h1
        obtain ⟨rfl, ha⟩ := h1.no
        have HN : Hid (predR s = none) := (by show _ = _; simp only [predR, K1.out, K2.out, he, Option.bind_some, Option.bind_none])
        clear he
        go_wp2_with fail
        exact ⟨rfl, reads_none HN.out (HA.out.trans ha.out)⟩
      | some x3 =>
        rw [he, Option.map_some] at h1
        obtain ⟨v, rfl, rfl, hx⟩ := h1.yes
        clear h1
        have K3 : Hid (eatL [32] s2 = some x3) := he
        clear he
        have HL' : Hid (x3.length ≤ 140737488355328) := by show _ ≤ _; have := eat_len K3.out; have := HL.out; omega
        clear HL
        rename Hid (x3.length ≤ 140737488355328) => HL
        replace HX := hid (HX.out.ate hx.out.2 (by omega))
        replace HY := hid (HY.out.ate hx.out.2 (by omega))
        replace HA := hid (HA.out.trans hx.out.2)
        clear HR
        have HR : Hid (restAt w3 B x3) := hx.out.1
        clear hx
        have HC := number_c w3 B x3 HR.out HL.out
        go_wp2_with fail
        refine HC.mono ?_
        clear HC
        intro e w4 h1
        cases he : numL x3 with
        | none =>
          rw [he] at h1
          obtain ⟨rfl, ha⟩ := h1.no
          have HN : Hid (predR s = none) := (by show _ = _; simp only [predR, K1.out, K2.out, K3.out, he, Option.bind_some, Option.bind_none])
          clear he
          go_wp2_with fail
          exact ⟨rfl, reads_none HN.out (HA.out.trans ha.out)⟩
        | some x4 =>
          obtain ⟨r4, s4⟩ := x4
          rw [he] at h1
          obtain ⟨v, rfl, rfl, hx⟩ := h1.yes
          clear h1
          have K4 : Hid (numL x3 = some (r4, s4)) := he
          clear he
          have HL' : Hid (s4.length ≤ 140737488355328) := by show _ ≤ _; obtain ⟨_, hh, _⟩ := num_some K4.out; have := congrArg List.length (runL_some hh).1; rw [List.length_append] at this; have := HL.out; omega
          clear HL
          rename Hid (s4.length ≤ 140737488355328) => HL
          replace HX := hid (HX.out.ate hx.out.2 (by omega))
          replace HY := hid (HY.out.ate hx.out.2 (by omega))
          replace HA := hid (HA.out.trans hx.out.2)
          clear HR
          have HR : Hid (restAt w4 B s4) := hx.out.1
          clear hx
          obtain ⟨y0, y1, y2, z0, z1, z2⟩ := HY.out.cells
          obtain ⟨V4, hV4⟩ : ∃ V, w4.setCell ⟨w.heap.size + 1, 1, none⟩ (.int .i64 r4) = V := ⟨_, rfl⟩
          replace HX : Hid (boxP V4 w.heap.size (.string ⟨#[]⟩) (.int .i64 0) (.int .i64 0)) := by rw [← hV4]; exact HX.out.far (by omega)
          replace HY := hid (HY.out.set1 (.int .i64 r4))
          rw [hV4] at HY
          replace HA : Hid (Ate B w V4) := by rw [← hV4]; exact ate_far HA.out (by omega) hB
          replace HR : Hid (restAt V4 B s4) := by rw [← hV4]; exact rest_far HR.out (by omega)
          have HC := mustP V4 B s4 [32] HR.out
          go_wp2_with fail
          refine HC.mono ?_
          clear HC
          intro e w5 h1
          cases he : eatL [32] s4 with
          | none =>
            rw [he] at h1
            rw [Option.map_none] at h1
            obtain ⟨rfl, ha⟩ := h1.no
            have HN : Hid (predR s = none) := (by show _ = _; simp only [predR, K1.out, K2.out, K3.out, K4.out, he, Option.bind_some, Option.bind_none])
            clear he
            go_wp2_with fail
            exact ⟨rfl, reads_none HN.out (HA.out.trans ha.out)⟩
          | some x5 =>
            rw [he, Option.map_some] at h1
            obtain ⟨v, rfl, rfl, hx⟩ := h1.yes
            clear h1
            have K5 : Hid (eatL [32] s4 = some x5) := he
            clear he
            have HL' : Hid (x5.length ≤ 140737488355328) := by show _ ≤ _; have := eat_len K5.out; have := HL.out; omega
            clear HL
            rename Hid (x5.length ≤ 140737488355328) => HL
            replace HX := hid (HX.out.ate hx.out.2 (by omega))
            replace HY := hid (HY.out.ate hx.out.2 (by omega))
            replace HA := hid (HA.out.trans hx.out.2)
            clear HR
            have HR : Hid (restAt w5 B x5) := hx.out.1
            clear hx
            have HC := number_c w5 B x5 HR.out HL.out
            go_wp2_with fail
            refine HC.mono ?_
            clear HC
            intro e w6 h1
            cases he : numL x5 with
            | none =>
              rw [he] at h1
              obtain ⟨rfl, ha⟩ := h1.no
              have HN : Hid (predR s = none) := (by show _ = _; simp only [predR, K1.out, K2.out, K3.out, K4.out, K5.out, he, Option.bind_some, Option.bind_none])
              clear he
              go_wp2_with fail
              exact ⟨rfl, reads_none HN.out (HA.out.trans ha.out)⟩
            | some x6 =>
              obtain ⟨r6, s6⟩ := x6
              rw [he] at h1
              obtain ⟨v, rfl, rfl, hx⟩ := h1.yes
              clear h1
              have K6 : Hid (numL x5 = some (r6, s6)) := he
              clear he
              have HL' : Hid (s6.length ≤ 140737488355328) := by show _ ≤ _; obtain ⟨_, hh, _⟩ := num_some K6.out; have := congrArg List.length (runL_some hh).1; rw [List.length_append] at this; have := HL.out; omega
              clear HL
              rename Hid (s6.length ≤ 140737488355328) => HL
              replace HX := hid (HX.out.ate hx.out.2 (by omega))
              replace HY := hid (HY.out.ate hx.out.2 (by omega))
              replace HA := hid (HA.out.trans hx.out.2)
              clear HR
              have HR : Hid (restAt w6 B s6) := hx.out.1
              clear hx
              obtain ⟨y0, y1, y2, z0, z1, z2⟩ := HY.out.cells
              obtain ⟨V6, hV6⟩ : ∃ V, w6.setCell ⟨w.heap.size + 1, 2, none⟩ (.int .i64 r6) = V := ⟨_, rfl⟩
              replace HX : Hid (boxP V6 w.heap.size (.string ⟨#[]⟩) (.int .i64 0) (.int .i64 0)) := by rw [← hV6]; exact HX.out.far (by omega)
              replace HY := hid (HY.out.set2 (.int .i64 r6))
              rw [hV6] at HY
              replace HA : Hid (Ate B w V6) := by rw [← hV6]; exact ate_far HA.out (by omega) hB
              replace HR : Hid (restAt V6 B s6) := by rw [← hV6]; exact rest_far HR.out (by omega)
              have HC := mustP V6 B s6 [10] HR.out
              go_wp2_with fail
              refine HC.mono ?_
              clear HC
              intro e w7 h1
              cases he : eatL [10] s6 with
              | none =>
                rw [he] at h1
                rw [Option.map_none] at h1
                obtain ⟨rfl, ha⟩ := h1.no
                have HN : Hid (predR s = none) := (by show _ = _; simp only [predR, K1.out, K2.out, K3.out, K4.out, K5.out, K6.out, he, Option.bind_some, Option.bind_none])
                clear he
                go_wp2_with fail
                exact ⟨rfl, reads_none HN.out (HA.out.trans ha.out)⟩
              | some x7 =>
                rw [he, Option.map_some] at h1
                obtain ⟨v, rfl, rfl, hx⟩ := h1.yes
                clear h1
                have K7 : Hid (eatL [10] s6 = some x7) := he
                clear he
                have HL' : Hid (x7.length ≤ 140737488355328) := by show _ ≤ _; have := eat_len K7.out; have := HL.out; omega
                clear HL
                rename Hid (x7.length ≤ 140737488355328) => HL
                replace HX := hid (HX.out.ate hx.out.2 (by omega))
                replace HY := hid (HY.out.ate hx.out.2 (by omega))
                replace HA := hid (HA.out.trans hx.out.2)
                clear HR
                have HR : Hid (restAt w7 B x7) := hx.out.1
                clear hx
                have HN : Hid (predR s = some (⟨mk r2, r4, r6⟩, x7)) := (by show _ = _; simp only [predR, K1.out, K2.out, K3.out, K4.out, K5.out, K6.out, K7.out, Option.bind_some]; rfl)
                obtain ⟨x0, x1, x2, q0, q1, q2⟩ := HX.out.cells
                obtain ⟨y0, y1, y2, z0, z1, z2⟩ := HY.out.cells
                go_wp2_with fail
                exact bodyPost_ret (v := predV ⟨mk r2, r4, r6⟩) (by simp [results, Tryz.results32, go_sem, x0, x1, x2, predV]) rfl (reads_some HN.out (ate_far (ate_far (ate_far HA.out (Nat.le_refl _) hB) (Nat.le_refl _) hB) (Nat.le_refl _) hB) rfl (rest_far (rest_far (rest_far HR.out (by omega)) (by omega)) (by omega)))
end Go.Proofs.YtlfccloaoopadafGreatDoor.Text

/-
  What lasts where a text is read, and where a row of the call's own grows.
-/
namespace Go.Proofs.YtlfccloaoopadafGreatDoor.Text
open Go.ChangeShapes Go.WideShapes Go.ChangeAt Go.RowKit
open Go.Proofs.YtlfccloaoopadafGreatDoor.Sum (KeepsFrom Fresh cellsT own_keeps)

theorem Ate.drew (B : Nat) (w : World) : Ate B w w.drew := ⟨(Below.refl _ _).drew, KeepsFrom.below ((Below.refl _ _).drew)⟩
theorem rest_drew {w : World} {B : Nat} {s : List UInt8} (h : restAt w B s) : restAt w.drew B s := h
theorem grown_ate {B : Nat} {w W W9 : World} {row : Option Nat} (h : Ate B w W) (hg : W.grownBy W9 row) (hr : ∀ r, row = some r → w.heap.size ≤ r) (hB : B < w.heap.size) : Ate B w W9 := by
  refine ⟨h.below.grown hg (by have := h.size; omega) (fun r e => by have := hr r e; omega), ?_, fun b h1 h2 => ?_⟩
  · have h3 := h.size
    have h4 := hg.size
    omega
  · have h3 := h.size
    refine (hg.block b (by omega) (fun e => ?_)).trans (h.behind.2 b h1 h2)
    have := hr b e.symm
    omega
theorem obj_grown {W W9 : World} {row : Option Nat} {b : Nat} {o : Obj} (hg : W.grownBy W9 row) (h : W.heap[b]? = some o) (hr : some b ≠ row) : W9.heap[b]? = some o := (hg.block b (Array.getElem?_eq_some_iff.1 h).1 hr).trans h
theorem own_ate {B : Nat} {w w' : World} {base sz n : Nat} {e : TypeId} {v : Value} {xs : List Value} (h : w.ownsRow base e sz v n xs) (ha : Ate B w w') (hb : B < base) : w'.ownsRow base e sz v n xs := own_keeps h ha.behind hb
theorem fresh_ate {B n : Nat} {Φ : World → Prop} {w w' : World} (h : Fresh n Φ w) (ha : Ate B w w') (hb : B < n) : Fresh n Φ w' := h.keeps ha.behind hb
/-- predicates lie in no block of a rest -/
theorem preds_ate {B : Nat} {w w' : World} {s : List UInt8} {pv : Value} {ps : List Prd} (hr : restAt w B s) (hp : predsAt w pv ps) (ha : Ate B w w') : predsAt w' pv ps := by
  obtain ⟨a, cap, rfl, hl, hx⟩ := hp
  refine ⟨a, cap, rfl, hl, ?_⟩
  rcases hx with hx | ⟨b, off, ra, hb, hx⟩
  · exact .inl hx
  · refine .inr ⟨b, off, ra, Nat.lt_of_lt_of_le hb ha.size, fun i x hi => ?_⟩
    have h0 := hx i x hi
    have hne : b ≠ B := by
      rintro rfl
      have := h0.2.1
      unfold restAt at hr
      simp [World.cell?, hr] at this
    have hc : ∀ o, w'.cell? ⟨b, o, none⟩ = w.cell? ⟨b, o, none⟩ := fun o => World.cell?_of_block (a := ⟨b, o, none⟩) (ha.block hne hb)
    exact ⟨(hc _).trans h0.1, (hc _).trans h0.2.1, (hc _).trans h0.2.2⟩
/-- a box of an atom -/
def boxA (w : World) (b : Nat) (x y : Value) : Prop := w.heap[b]? = some (.cells #[x, y] 51 (0, 0))
theorem boxA.ate {B b : Nat} {w w' : World} {x y : Value} (h : boxA w b x y) (ha : Ate B w w') (hb : b ≠ B) : boxA w' b x y := (ha.block hb (Array.getElem?_eq_some_iff.1 h).1).trans h
theorem boxA.cells {b : Nat} {w : World} {x y : Value} (h : boxA w b x y) : w.cell? ⟨b, 0, none⟩ = some x ∧ w.cell? ⟨b, 1, none⟩ = some y ∧ w.frozen? ⟨b, 0, none⟩ = false ∧ w.frozen? ⟨b, 1, none⟩ = false := by
  unfold boxA at h
  simp [World.cell?, World.frozen?, h]
theorem boxA.lt {b : Nat} {w : World} {x y : Value} (h : boxA w b x y) : b < w.heap.size := (Array.getElem?_eq_some_iff.1 h).1
theorem boxA.set1 {b : Nat} {w : World} {x y : Value} (h : boxA w b x y) (u : Value) : boxA (w.setCell ⟨b, 1, none⟩ u) b x u := heap_setCell_same w b 1 _ _ u h
theorem boxA.far {b g k : Nat} {w : World} {x y u : Value} (h : boxA w b x y) (hg : g ≠ b) : boxA (w.setCell ⟨g, k, none⟩ u) b x y := by
  unfold boxA
  rw [Sum.heap_other hg]
  exact h
theorem own_block {w : World} {base sz n : Nat} {e : TypeId} {v : Value} {xs : List Value} (h : w.ownsRow base e sz v n xs) : ∀ r, v.ownBlock = some r → base ≤ r := fun r hr => (h.lt r hr).1
theorem own_not {w : World} {base sz n N : Nat} {e e' : TypeId} {v : Value} {xs : List Value} {c : Array Value} {f : Nat × Nat} (h : w.ownsRow base e sz v n xs) (hN : w.heap[N]? = some (.cells c e' f)) (he : e ≠ e') : some N ≠ v.ownBlock := by
  rcases h.2 with ⟨rfl, _⟩ | ⟨g, cap, cur, rfl, _, hg, _⟩
  · intro h; cases h
  · intro h
    have h' : N = g := Option.some.inj h
    subst h'
    rw [hg] at hN
    cases hN
    exact he rfl
theorem own_far {w : World} {base sz n N k : Nat} {e e' : TypeId} {v u : Value} {xs : List Value} {c : Array Value} {f : Nat × Nat} (h : w.ownsRow base e sz v n xs) (hN : w.heap[N]? = some (.cells c e' f)) (he : e ≠ e') : (w.setCell ⟨N, k, none⟩ u).ownsRow base e sz v n xs := by
  have ha := own_not h hN he
  obtain ⟨h0, h1⟩ := h
  refine ⟨h0, ?_⟩
  rcases h1 with h1 | ⟨g, cap, cur, rfl, h2, h3, h4⟩
  · exact .inl h1
  · refine .inr ⟨g, cap, cur, rfl, h2, ?_, h4⟩
    rw [Sum.heap_other (fun x => ha (by subst x; rfl))]
    exact h3
theorem cellsT_more : ∀ (l : List Tm) (t : Tm), cellsT (l ++ [t]) = cellsT l ++ [.bool t.var, .int .i64 t.n]
  | [], t => rfl
  | x :: l, t => by simp only [List.cons_append, cellsT, cellsT_more l t]
theorem new_cells2 {w : World} {x y : Value} {t : TypeId} : ∀ (i : Nat) (v : Value), [x, y][i]? = some v → (w.alloc (.cells #[x, y] t)).cell? ((⟨w.heap.size, 0, none⟩ : Addr).add i) = some v := by
  intro i v hv
  match i, hv with
  | 0, hv => obtain rfl : x = v := by simpa using hv
             simp [go_sem]
  | 1, hv => obtain rfl : y = v := by simpa using hv
             simp [go_sem]
  | i + 2, hv => simp at hv
theorem own_val {w : World} {base sz n : Nat} {e : TypeId} {v : Value} {xs : List Value} (h : w.ownsRow base e sz v n xs) : ∃ a c, v = .slice a n c := by
  rcases h.2 with ⟨rfl, h0⟩ | ⟨g, cap, cur, rfl, _⟩
  · subst h0
    exact ⟨none, 0, rfl⟩
  · exact ⟨_, cap, rfl⟩
/-! ### Rows of one type are kept -/
def KeepsTy (e : TypeId) (n : Nat) (w w' : World) : Prop := ∀ b c f, n ≤ b → w.heap[b]? = some (.cells c e f) → w'.heap[b]? = w.heap[b]?
theorem KeepsTy.trans {e : TypeId} {n : Nat} {w w1 w2 : World} (h : KeepsTy e n w w1) (k : KeepsTy e n w1 w2) : KeepsTy e n w w2 := fun b c f hb hc => (k b c f hb ((h b c f hb hc).trans hc)).trans (h b c f hb hc)
theorem KeepsTy.below {e : TypeId} {n : Nat} {w w' : World} (h : Below w.heap.size w w') : KeepsTy e n w w' := fun b _ _ _ hc => h.block b (Array.getElem?_eq_some_iff.1 hc).1
theorem KeepsTy.ate {B n : Nat} {e : TypeId} {w w' : World} (h : Ate B w w') (hB : B < n) : KeepsTy e n w w' := fun b _ _ hb hc => h.block (by omega) (Array.getElem?_eq_some_iff.1 hc).1
theorem KeepsTy.grown {e e' : TypeId} {n base sz k : Nat} {w w' : World} {v : Value} {xs : List Value} (hg : w.grownBy w' v.ownBlock) (h : w.ownsRow base e' sz v k xs) (he : e' ≠ e) : KeepsTy e n w w' := fun b _ _ _ hc => hg.block b (Array.getElem?_eq_some_iff.1 hc).1 (own_not h hc he)
theorem KeepsTy.set {e e' : TypeId} {n N k : Nat} {w : World} {v : Value} {c : Array Value} {f : Nat × Nat} (hN : w.heap[N]? = some (.cells c e' f)) (he : e' ≠ e) : KeepsTy e n w (w.setCell ⟨N, k, none⟩ v) := fun b c' f' _ hc => by
  refine Sum.heap_other (fun x => ?_)
  subst x
  rw [hN] at hc
  cases hc
  exact he rfl
theorem own_ty {w w' : World} {base sz n : Nat} {e : TypeId} {v : Value} {xs : List Value} (h : w.ownsRow base e sz v n xs) (k : KeepsTy e base w w') : w'.ownsRow base e sz v n xs := by
  obtain ⟨h0, h1⟩ := h
  refine ⟨h0, ?_⟩
  rcases h1 with h1 | ⟨g, cap, cur, h1, h2, h3, h4⟩
  · exact .inl h1
  · exact .inr ⟨g, cap, cur, h1, h2, (k g _ _ h2 h3).trans h3, h4⟩
/-- the terms of an atom, in a row of the call's own -/
def OwnA (n : Nat) (w : World) (av : Value) (ts : List Tm) : Prop := ts.length ≤ 4096 ∧ w.ownsRow n 94 2 av ts.length (cellsT ts)
theorem OwnA.ty {n : Nat} {w w' : World} {av : Value} {ts : List Tm} (h : OwnA n w av ts) (k : KeepsTy 94 n w w') : OwnA n w' av ts := ⟨h.1, own_ty h.2 k⟩
theorem OwnA.at {n : Nat} {w : World} {av : Value} {ts : List Tm} (h : OwnA n w av ts) : termsAt w av ts := Sum.termsAt_own h.2 (by have := h.1; omega)
theorem OwnA.mono {n m : Nat} {w : World} {av : Value} {ts : List Tm} (h : OwnA n w av ts) (hm : m ≤ n) : OwnA m w av ts := ⟨h.1, Sum.own_base h.2 hm⟩
/-- the literals of a body, in rows of the call's own -/
def OwnB (n : Nat) (w : World) (bv : Value) (ls : List Ltr) : Prop := ∃ lvs : List Sum.LV, lvs.map Sum.LV.l = ls ∧ lvs.length ≤ 4096 ∧ w.ownsRow n 66 3 bv lvs.length (Sum.cellsL lvs) ∧ ∀ x ∈ lvs, OwnA n w x.av x.l.atom.args
theorem OwnB.ty {n : Nat} {w w' : World} {bv : Value} {ls : List Ltr} (h : OwnB n w bv ls) (k : KeepsTy 94 n w w') (k2 : KeepsTy 66 n w w') : OwnB n w' bv ls := by
  obtain ⟨lvs, h1, h2, h3, h4⟩ := h
  exact ⟨lvs, h1, h2, own_ty h3 k2, fun x hx => (h4 x hx).ty k⟩
theorem OwnB.at {n : Nat} {w : World} {bv : Value} {ls : List Ltr} (h : OwnB n w bv ls) : litsAt w bv ls := by
  obtain ⟨lvs, rfl, h2, h3, h4⟩ := h
  exact Sum.litsAt_own h3 (by omega) (fun x hx => (h4 x hx).at)
theorem OwnB.mono {n m : Nat} {w : World} {bv : Value} {ls : List Ltr} (h : OwnB n w bv ls) (hm : m ≤ n) : OwnB m w bv ls := by
  obtain ⟨lvs, h1, h2, h3, h4⟩ := h
  exact ⟨lvs, h1, h2, Sum.own_base h3 hm, fun x hx => (h4 x hx).mono hm⟩
end Go.Proofs.YtlfccloaoopadafGreatDoor.Text

/-
  The developers' reading of an atom.
-/
namespace Go.Proofs.YtlfccloaoopadafGreatDoor.Text
open Go.ChangeShapes Go.WideShapes Go.ChangeAt Go.RowKit
open Go.Proofs.YtlfccloaoopadafGreatDoor.Sum (KeepsFrom Fresh cellsT cellsT_length fresh_terms infoTerm)
open Rule (arityOf)
open Prog (slice_cells)

theorem arg_len {t : Tm} (h : Rule.termOk t = true) : 1 ≤ (bl (argB t)).length := by
  have h1 := term_of h []
  rw [List.append_nil] at h1
  cases hb : bl (argB t) with
  | nil => rw [hb] at h1; cases h1
  | cons b l => simp
/-- what an atom that was read is: a value, and its terms in new blocks -/
def AtomV (n : Nat) (a : Atm) (v : Value) (w' : World) : Prop := ∃ av, v = .agg #[.int .i64 a.pred, av] ∧ OwnA n w' av a.args
/-- behind j terms -/
structure AtomInv (w : World) (B N k A : Nat) (s1 : List UInt8) (wr : World) (j : Nat) (ts : List Tm) (u : Value) (sj : List UInt8) : Prop where
  many : ts.length = j
  box : boxA wr N (.int .i64 (k : Int)) u
  out : boxA wr w.heap.size (.int .i64 0) (.slice none 0 0)
  own : wr.ownsRow w.heap.size 94 2 u j (cellsT ts)
  rest : restAt wr B sj
  ate : Ate B w wr
  len : sj.length + j ≤ s1.length
  args : argsR A 0 s1 = (argsR (A - j) j sj).bind fun y => some (ts ++ y.1, y.2)
theorem AtomInv.on {w : World} {B N k A : Nat} {s1 : List UInt8} {wr w' : World} {j : Nat} {ts : List Tm} {u : Value} {sj s' : List UInt8} (h : AtomInv w B N k A s1 wr j ts u sj) (ha : Ate B wr w') (hB : B < w.heap.size) (hN : w.heap.size ≤ N) (hr : restAt w' B s') : boxA w' N (.int .i64 (k : Int)) u ∧ boxA w' w.heap.size (.int .i64 0) (.slice none 0 0) ∧ w'.ownsRow w.heap.size 94 2 u j (cellsT ts) ∧ restAt w' B s' ∧ Ate B w w' :=
  ⟨h.box.ate ha (by omega), h.out.ate ha (by omega), own_ate h.own ha hB, hr, h.ate.trans ha⟩
theorem fresh_box {w wr : World} {j : Nat} {ts : List Tm} {u x y x0 y0 : Value} (hb : boxA wr w.heap.size x0 y0) (h : wr.ownsRow w.heap.size 94 2 u j (cellsT ts)) (hm : ts.length = j) (hl : j ≤ 4096) : OwnA w.heap.size ((wr.setCell ⟨w.heap.size, 0, none⟩ x).setCell ⟨w.heap.size, 1, none⟩ y) u ts := by
  subst hm
  exact ⟨hl, own_far (own_far h hb (by decide)) (heap_setCell_same wr w.heap.size 0 _ _ x hb) (by decide)⟩
/-- a term more -/
theorem atom_next {w : World} {B N k A : Nat} {s1 : List UInt8} {j : Nat} {ts : List Tm} {u : Value} {sj s2 s3 : List UInt8} {t : Tm} {V W9 : World} {g cap : Nat}
    (hm : ts.length = j) (hl : sj.length + j ≤ s1.length) (ha : argsR A 0 s1 = (argsR (A - j) j sj).bind fun y => some (ts ++ y.1, y.2)) (hj : j < A) (e1 : eatL [if j = 0 then 40 else 44] sj = some s2) (e2 : termR s2 = some (t, s3))
    (hB : B < w.heap.size) (hN : w.heap.size < N)
    (hV : boxA V N (.int .i64 (k : Int)) u ∧ boxA V w.heap.size (.int .i64 0) (.slice none 0 0) ∧ V.ownsRow w.heap.size 94 2 u j (cellsT ts) ∧ restAt V B s3 ∧ Ate B w V)
    (hg : V.grownBy W9 u.ownBlock) (h9 : W9.ownsRow w.heap.size 94 2 (.slice (some ⟨g, 0, none⟩) (j + 1) cap) (j + 1) (cellsT ts ++ [.bool t.var, .int .i64 t.n])) :
    W9.cell? ⟨N, 1, none⟩ = some u ∧ W9.frozen? ⟨N, 1, none⟩ = false ∧ Hid (AtomInv w B N k A s1 (W9.setCell ⟨N, 1, none⟩ (.slice (some ⟨g, 0, none⟩) (j + 1) cap)) (j + 1) (ts ++ [t]) (.slice (some ⟨g, 0, none⟩) (j + 1) cap) s3) := by
  obtain ⟨v1, v2, v3, v4, v5⟩ := hV
  have b1 : boxA W9 N (.int .i64 (k : Int)) u := obj_grown hg v1 (own_not v3 v1 (by decide))
  have b2 : boxA W9 w.heap.size (.int .i64 0) (.slice none 0 0) := obj_grown hg v2 (own_not v3 v2 (by decide))
  have b3 : restAt W9 B s3 := obj_grown hg v4 (own_not v3 v4 (by decide))
  have b4 : Ate B w W9 := grown_ate v5 hg (own_block v3) hB
  have hs := v5.size
  obtain ⟨c0, c1, f0, f1⟩ := b1.cells
  have e3 := eat_len e1
  have e4 : s3.length < s2.length := by
    have := congrArg List.length (term_some e2).1
    rw [List.length_append] at this
    have := arg_len (term_some e2).2
    omega
  refine ⟨c1, f1, ?_, b1.set1 _, b2.far (by omega), ?_, rest_far b3 (by omega), ate_far b4 (by omega) hB, ?_, ?_⟩
  · simp [hm]
  · rw [cellsT_more]
    exact own_far h9 b1 (by decide)
  · simp at e3; omega
  · rw [ha, show A - j = (A - (j + 1)) + 1 by omega, argsR, e1]
    simp only [Option.bind_some]
    rw [e2]
    simp only [Option.bind_some]
    cases argsR (A - (j + 1)) (j + 1) s3 with
    | none => rfl
    | some y => simp
set_option maxRecDepth 100000 in
set_option maxHeartbeats 8000000 in
theorem atom_c (w : World) (B : Nat) (s : List UInt8) (h : restAt w B s) (hs : s.length ≤ 4096) (pv : Value) (ps : List Prd) (hp : predsAt w pv ps) : Calls Tryz.prog 60 #[.pointer (some ⟨B, 0, none⟩), pv] w (ReadsTo B w (atomR ps s) fun a v w' => AtomV w.heap.size a v w') := by
  have hB := rest_lt h
  have HP : Hid (∀ x, Ate B w x → predsAt x pv ps) := fun x hx => preds_ate h hp hx
  have HS : Hid (s.length ≤ 4096) := hs
  obtain ⟨pa, pc, rfl, hpl, _⟩ := hp
  obtain ⟨W1, hW1⟩ : ∃ W1, w.alloc (.cells #[.int .i64 0, .slice none 0 0] 51) = W1 := ⟨_, rfl⟩
  have HA1 : Hid (Ate B w W1) := by rw [← hW1]; exact Ate.of (below_alloc _ _) (by omega)
  have HR1 : Hid (restAt W1 B s) := by rw [← hW1]; exact rest_lasts h (below_alloc _ _)
  have HX1 : Hid (boxA W1 w.heap.size (.int .i64 0) (.slice none 0 0)) := by rw [← hW1]; exact heap_alloc_new w _
  have hw1 : w.heap.size < W1.heap.size := by rw [← hW1]; simp
  have HC := name_c W1 B s HR1.out (by omega)
  clear hs h
  go_enter Tryz.func60, Tryz.ntmps60
  go_wp2_with fail
  clear hW1
  refine HC.mono ?_
  clear HC
  intro e w1 h1
  cases he : runL isLow s with
  | none =>
    rw [he] at h1
    obtain ⟨rfl, ha⟩ := h1.no
    have HNO : Hid (atomR ps s = none) := by show _ = _; unfold atomR; rw [he]; rfl
    clear he
    go_wp2_with fail
    exact ⟨rfl, reads_none HNO.out (HA1.out.trans ha.out)⟩
  | some x =>
    obtain ⟨r, s1⟩ := x
    rw [he] at h1
    obtain ⟨v, rfl, rfl, hx1⟩ := h1.yes
    clear h1
    have K0 : Hid (runL isLow s = some (r, s1)) := he
    clear he
    have HS1 : Hid (s1.length ≤ 4096) := by show _ ≤ _; have := congrArg List.length (runL_some K0.out).1; rw [List.length_append] at this; have := HS.out; omega
    have ha2 : Ate B w1 (w1.alloc (.cells #[.string (mk r)] 9)) := Ate.of (below_alloc _ _) (Nat.le_of_lt (rest_lt hx1.out.1))
    have HA2 : Hid (Ate B w (w1.alloc (.cells #[.string (mk r)] 9))) := HA1.out.trans (hx1.out.2.trans ha2)
    have HR2 : Hid (restAt (w1.alloc (.cells #[.string (mk r)] 9)) B s1) := rest_lasts hx1.out.1 (below_alloc _ _)
    have HX2 : Hid (boxA (w1.alloc (.cells #[.string (mk r)] 9)) w.heap.size (.int .i64 0) (.slice none 0 0)) := HX1.out.ate (hx1.out.2.trans ha2) (by omega)
    have HC := index_name (w1.alloc (.cells #[.string (mk r)] 9)) (.slice pa ps.length pc) ps w1.heap.size r (HP.out _ HA2.out) (by simp [go_sem]) (by simp)
    have hw2 : w.heap.size < (w1.alloc (.cells #[.string (mk r)] 9)).heap.size := HX2.out.lt
    clear ha2 hx1 HR1 HX1 HA1 hw1
    go_wp2_with fail
    refine HC.mono ?_
    clear HC
    rintro e w2 ⟨rfl, hb2⟩
    have ha2 : Ate B (w1.alloc (.cells #[.string (mk r)] 9)) w2 := Ate.of hb2 (by omega)
    have HA3 : Hid (Ate B w w2) := HA2.out.trans ha2
    have HR3 : Hid (restAt w2 B s1) := rest_lasts HR2.out hb2
    have HX3 : Hid (boxA w2 w.heap.size (.int .i64 0) (.slice none 0 0)) := HX2.out.ate ha2 (by omega)
    have hw3 : w.heap.size < w2.heap.size := HX3.out.lt
    clear ha2 hb2 HA2 HR2 HX2 hw2
    cases hi : idxR ps r with
    | none =>
      have HNO : Hid (atomR ps s = none) := by show _ = _; unfold atomR; rw [K0.out]; simp only [Option.bind_some]; rw [hi]; rfl
      clear hi
      have HAE : Hid (Ate B w (w2.alloc (.cells #[.int .i64 (-1), .slice none 0 0] 51))) := HA3.out.trans (Ate.of (below_alloc _ _) (Nat.le_of_lt (rest_lt HR3.out)))
      go_wp2_with fail
      exact ⟨rfl, reads_none HNO.out HAE.out⟩
    | some k =>
      have K1 : Hid (idxR ps r = some k) := hi
      have hk := (idx_some hi).1
      clear hi
      simp only
      obtain ⟨N, hN⟩ : ∃ N, w2.heap.size = N := ⟨_, rfl⟩
      have hN1 : w.heap.size < N := by omega
      have ha4 : Ate B w2 (w2.alloc (.cells #[.int .i64 (k : Int), .slice none 0 0] 51)) := Ate.of (below_alloc _ _) (by omega)
      have HB4 : Hid (boxA (w2.alloc (.cells #[.int .i64 (k : Int), .slice none 0 0] 51)) N (.int .i64 (k : Int)) (.slice none 0 0)) := by rw [← hN]; exact heap_alloc_new w2 _
      have HX4 : Hid (boxA (w2.alloc (.cells #[.int .i64 (k : Int), .slice none 0 0] 51)) w.heap.size (.int .i64 0) (.slice none 0 0)) := HX3.out.ate ha4 (by omega)
      have HA4 : Hid (Ate B w (w2.alloc (.cells #[.int .i64 (k : Int), .slice none 0 0] 51))) := HA3.out.trans ha4
      have HR4 : Hid (restAt (w2.alloc (.cells #[.int .i64 (k : Int), .slice none 0 0] 51)) B s1) := rest_lasts HR3.out (below_alloc _ _)
      obtain ⟨pb, po, pc', hpv, hpb, p0, p1, p2⟩ := slice_cells (HP.out _ HA4.out) hk
      obtain ⟨rfl, rfl⟩ : pa = some ⟨pb, po, none⟩ ∧ pc = pc' := by simpa using hpv
      have hkl : (k : Int) < (ps.length : Int) := by omega
      have hk0 : (0 : Int) ≤ (k : Int) := by omega
      obtain ⟨A, hA⟩ : ∃ A, (arityOf ps (k : Int)).toNat = A := ⟨_, rfl⟩
      have HAR : Hid ((arityOf ps (k : Int)).toNat = A) := hA
      have hAe : arityOf ps (k : Int) = ps[k].arity := by unfold arityOf; simp [hk]
      rw [hAe] at hA
      obtain ⟨c0, c1, f0, f1⟩ := HB4.out.cells
      clear hpv ha4 HA3 HR3 HX3 hw3 hAe
      generalize ps[k].arity = ar at *
      go_wp2_with fail
      clear p0 p1 p2 c0 c1 f0 f1
      generalize (w2.alloc (.cells #[.int .i64 (k : Int), .slice none 0 0] 51)) = W3 at *
      go_loopw [7, 24] (fun ah i wr => ∃ (j : Nat) (ts : List Tm) (u : Value) (sj : List UInt8) (T : ByteArray), j ≤ A ∧ i = .int .i64 j ∧ ah = .string T ∧ Hid (bl T = [if j = 0 then 40 else 44]) ∧ Hid (AtomInv w B N k A s1 wr j ts u sj)) (fun _ i _ => A - (intOf i).toNat)
      case atStart => exact ⟨0, [], _, s1, _, Nat.zero_le _, rfl, rfl, rfl, rfl, HB4.out, HX4.out, ⟨rfl, .inl ⟨rfl, rfl⟩⟩, HR4.out, HA4.out, by simp, by simp only [Nat.sub_zero]; cases argsR A 0 s1 <;> rfl⟩
      case round =>
        clear HB4 HX4 HR4 HA4
        obtain ⟨j, ts, u, sj, T, hj, rfl, rfl, HTT, HI⟩ := hrel
        by_cases hjA : j < A
        · have hjl : (j : Int) < ar := by omega
          have HC := must_c wr B sj T HI.out.rest
          rw [HTT.out] at HC
          go_wp2_with fail
          refine HC.mono ?_
          clear HC
          intro e w5 h5
          cases he : eatL [if j = 0 then 40 else 44] sj with
          | none =>
            rw [he, Option.map_none] at h5
            obtain ⟨rfl, ha⟩ := h5.no
            have HNO : Hid (atomR ps s = none) := by
              show _ = _
              have : argsR A 0 s1 = none := by
                rw [HI.out.args, show A - j = (A - (j + 1)) + 1 by omega, argsR, he]
                rfl
              unfold atomR
              rw [K0.out]
              simp only [Option.bind_some]
              rw [K1.out]
              simp only [Option.bind_some]
              rw [HAR.out, this]
              rfl
            clear he
            go_wp2_with fail
            exact ⟨rfl, reads_none HNO.out (HI.out.ate.trans ha.out)⟩
          | some s2 =>
            rw [he, Option.map_some] at h5
            obtain ⟨v, rfl, rfl, hx5⟩ := h5.yes
            clear h5
            have K2 : Hid (eatL [if j = 0 then 40 else 44] sj = some s2) := he
            clear he
            have HA5 : Hid (Ate B wr w5) := hx5.out.2
            have HR5 : Hid (restAt w5 B s2) := hx5.out.1
            have q5 : w5.drew.cell? ⟨N, 1, none⟩ = some u := (HI.out.box.ate HA5.out (by omega)).cells.2.1
            clear hx5
            go_wp2_with fail
            cases ht : termR s2 with
            | none =>
              have K3 : Hid (termR s2 = none) := ht
              clear ht
              have HT : Hid (Calls Tryz.prog 89 #[.pointer (some ⟨B, 0, none⟩)] w5.drew (ReadsTo B w5.drew none fun t v _ => v = .agg #[.bool (Tm.var t), .int .i64 t.n])) := by
                have := restTerm_c w5.drew B s2 (rest_drew HR5.out)
                rw [K3.out] at this
                exact this
              have HNO : Hid (atomR ps s = none) := by
                show _ = _
                have : argsR A 0 s1 = none := by
                  rw [HI.out.args, show A - j = (A - (j + 1)) + 1 by omega, argsR, K2.out]
                  simp only [Option.bind_some]
                  rw [K3.out]
                  rfl
                unfold atomR
                rw [K0.out]
                simp only [Option.bind_some]
                rw [K1.out]
                simp only [Option.bind_some]
                rw [HAR.out, this]
                rfl
              refine wp_region_held_drew (S := (fun _ : World => True)) (by kernel_rfl) trivial (fun hHeld => ?_)
              refine wpAnyH_take (i := 0) (v := ?_) rfl (by kernel_rfl) (by kernel_rfl) (by kernel_rfl) (fun _ _ _ h => h) (Or.inl ⟨by rfl, ?_⟩) (by assumption) ?_
              rotate_left
              · (intro w hSw; go_simp; try with_reducible rfl)
              simp only [Act.put]
              refine wpAnyH_take (i := 2) (v := ?_) rfl (by kernel_rfl) (by kernel_rfl) (by kernel_rfl) (fun _ _ _ h => h) (Or.inl ⟨by rfl, ?_⟩) (by assumption) ?_
              rotate_left
              · (intro w hSw; go_simp; try with_reducible rfl)
              simp only [Act.put]
              refine wpAnyH_ready (rs := [1, 3]) (by kernel_rfl) (by simp) ?_
              refine AllReadyH.cons rfl (fun K hK => ?_) ?_
              · go_simp
                refine hK.out _ _ trivial (fun hHeld => ?_)
                clear hK K
                try simp only [Act.put, List.setIfInBounds_toArray, List.set_cons_zero, List.set_cons_succ]
                refine wpAnyH_ready (rs := [3]) (by kernel_rfl) (by simp) ?_
                refine AllReadyH.cons rfl (fun K hK => ?_) AllReadyH.nil
                go_simp
                refine HT.out.mono ?_
                intro e w6 h6
                obtain ⟨rfl, hx6⟩ := h6.no
                clear h6
                exact ⟨rfl, reads_none HNO.out (HI.out.ate.trans (HA5.out.trans ((Ate.drew B w5).trans hx6.out)))⟩
              · refine AllReadyH.cons rfl (fun K hK => ?_) AllReadyH.nil
                go_simp
                refine HT.out.mono ?_
                intro e w6 h6
                obtain ⟨rfl, hx6⟩ := h6.no
                clear h6
                exact ⟨rfl, reads_none HNO.out (HI.out.ate.trans (HA5.out.trans ((Ate.drew B w5).trans hx6.out)))⟩
            | some x =>
              obtain ⟨t, s3⟩ := x
              have K3 : Hid (termR s2 = some (t, s3)) := ht
              clear ht
              obtain ⟨i0, hi0, hz0, hz1, hz2⟩ := info_parts infoTerm
              have HAFT : Hid (∀ w6, restAt w6 B s3 → Ate B w5.drew w6 → w6.cell? ⟨N, 1, none⟩ = some u ∧ (w6.alloc (.cells #[.bool t.var, .int .i64 t.n] 94)).cell? ⟨N, 1, none⟩ = some u ∧ Hid (boxA (w6.alloc (.cells #[.bool t.var, .int .i64 t.n] 94)) N (.int .i64 (k : Int)) u ∧ boxA (w6.alloc (.cells #[.bool t.var, .int .i64 t.n] 94)) w.heap.size (.int .i64 0) (.slice none 0 0) ∧ (w6.alloc (.cells #[.bool t.var, .int .i64 t.n] 94)).ownsRow w.heap.size 94 2 u j (cellsT ts) ∧ restAt (w6.alloc (.cells #[.bool t.var, .int .i64 t.n] 94)) B s3 ∧ Ate B w (w6.alloc (.cells #[.bool t.var, .int .i64 t.n] 94))) ∧ Hid (w.heap.size ≤ w6.heap.size + 1 ∧ (w6.alloc (.cells #[.bool t.var, .int .i64 t.n] 94)).heap.size = w6.heap.size + 1)) := fun w6 hr ha => by
                have h1 := HI.out.on (HA5.out.trans ((Ate.drew B w5).trans ha)) hB (by omega) hr
                have ha2 : Ate B w6 (w6.alloc (.cells #[.bool t.var, .int .i64 t.n] 94)) := Ate.of (below_alloc _ _) (Nat.le_of_lt (rest_lt hr))
                have h2 := HI.out.on (HA5.out.trans ((Ate.drew B w5).trans (ha.trans ha2))) hB (by omega) (rest_lasts hr (below_alloc w6 (.cells #[.bool t.var, .int .i64 t.n] 94)))
                refine ⟨h1.1.cells.2.1, h2.1.cells.2.1, h2, ?_, World.size_alloc _ _⟩
                have := h1.2.2.2.2.size
                omega
              have hj9 : j ≤ 4096 := by have := HI.out.len; have := HS1.out; omega
              have hSZ : True := trivial
              have HT : Hid (Calls Tryz.prog 89 #[.pointer (some ⟨B, 0, none⟩)] w5.drew (ReadsTo B w5.drew (some (t, s3)) fun t v _ => v = .agg #[.bool t.var, .int .i64 t.n])) := by
                have := restTerm_c w5.drew B s2 (rest_drew HR5.out)
                rw [K3.out] at this
                exact this
              refine wp_region_noPanic ?_
              refine wp_region_held_drew (S := (fun _ : World => True)) (by kernel_rfl) trivial (fun hHeld => ?_)
              refine wpAnyH_take (i := 0) (v := ?_) rfl (by kernel_rfl) (by kernel_rfl) (by kernel_rfl) (fun _ _ _ h => h) (Or.inl ⟨by rfl, ?_⟩) (by assumption) ?_
              rotate_left
              · (intro w hSw; go_simp; try with_reducible rfl)
              simp only [Act.put]
              refine wpAnyH_take (i := 2) (v := ?_) rfl (by kernel_rfl) (by kernel_rfl) (by kernel_rfl) (fun _ _ _ h => h) (Or.inl ⟨by rfl, ?_⟩) (by assumption) ?_
              rotate_left
              · (intro w hSw; go_simp; try with_reducible rfl)
              simp only [Act.put]
              refine wpAnyH_ready (rs := [1, 3]) (by kernel_rfl) (by simp) ?_
              refine AllReadyH.cons rfl (fun K hK => ?_) ?_
              · go_simp
                refine hK.out _ _ trivial (fun hHeld => ?_)
                clear hK K
                try simp only [Act.put, List.setIfInBounds_toArray, List.set_cons_zero, List.set_cons_succ]
                refine wpAnyH_ready (rs := [3]) (by kernel_rfl) (by simp) ?_
                refine AllReadyH.cons rfl (fun K hK => ?_) AllReadyH.nil
                go_simp
                refine HT.out.mono ?_
                intro e w6 h6
                obtain ⟨v, rfl, rfl, hx6⟩ := h6.yes
                clear h6
                obtain ⟨q6, qV, HV, HSE⟩ := HAFT.out w6 hx6.out.1 hx6.out.2
                refine hK.out _ _ trivial (fun hHeld => ?_)
                clear hK K
                try simp only [Act.put, List.setIfInBounds_toArray, List.set_cons_zero, List.set_cons_succ]
                refine wpAnyH_ready (rs := [4]) (by kernel_rfl) (by simp) ?_
                refine AllReadyH.cons rfl (fun K hK => ?_) AllReadyH.nil
                go_simp
                refine hK.out _ _ trivial (fun hHeld => ?_)
                clear hK K
                try simp only [Act.put, List.setIfInBounds_toArray, List.set_cons_zero, List.set_cons_succ]
                refine wpAnyH_ready (rs := [5]) (by kernel_rfl) (by simp) ?_
                refine AllReadyH.cons rfl (fun K hK => ?_) AllReadyH.nil
                refine step_append_lies _ (by rfl) _ _ 49 (by rfl) w.heap.size 94 i0 (.agg #[.bool false, .int .i64 0]) 2 16 Tryz.underlying49 hi0 hz0 hz1 hz2 (by rfl) (by omega) u j (cellsT ts) (by rfl) HV.out.2.2.1 ⟨w6.heap.size, 0, none⟩ 1 1 [.bool t.var, .int .i64 t.n] (by rfl) (by rfl) new_cells2 (by intro u hu; simp at hu; rcases hu with rfl | rfl <;> rfl) (by omega) (by unfold maxLen; omega) (by omega) (by have := HSE.out; omega) (w6.heap.size + 1) (World.size_alloc _ _) ?_
                intro g9 cap9 W9 hown9 hgrow9 hat9 hlt9
                obtain ⟨n1, n2, HN9⟩ := atom_next HI.out.many HI.out.len HI.out.args hjA K2.out K3.out hB hN1 HV.out (by exact hgrow9) (by exact hown9)
                clear hat9 hlt9 hown9 hgrow9
                refine hK.out _ _ trivial (fun hHeld => ?_)
                clear hK K
                try simp only [Act.put, List.setIfInBounds_toArray]
                refine wpAnyH_take (i := 6) (v := ?_) rfl (by kernel_rfl) (by kernel_rfl) (by kernel_rfl) (fun _ _ _ h => h) (Or.inl ⟨by rfl, ?_⟩) (by assumption) ?_
                rotate_left
                · (intro w hSw; go_simp; try with_reducible rfl)
                simp only [Act.put]
                refine wpAnyH_ready (rs := [7]) (by kernel_rfl) (by simp) ?_
                refine AllReadyH.cons rfl (fun K hK => ?_) AllReadyH.nil
                go_simp
                refine hK.out _ _ trivial (fun hHeld => ?_)
                clear hK K
                try simp only [Act.put, List.setIfInBounds_toArray, List.set_cons_zero, List.set_cons_succ]
                refine wpAnyH_done (by kernel_rfl) ?_ _
                refine NoPanic.normal ?_
                clear n1 n2 q5 q6 qV
                go_wp2_with fail
                go_roundw
                case rel => exact ⟨j + 1, ts ++ [t], _, s3, _, by omega, by go_num, rfl, rfl, HN9⟩
                case measure => simp [intOf]; omega
              · refine AllReadyH.cons rfl (fun K hK => ?_) AllReadyH.nil
                go_simp
                refine HT.out.mono ?_
                intro e w6 h6
                obtain ⟨v, rfl, rfl, hx6⟩ := h6.yes
                clear h6
                obtain ⟨q6, qV, HV, HSE⟩ := HAFT.out w6 hx6.out.1 hx6.out.2
                refine hK.out _ _ trivial (fun hHeld => ?_)
                clear hK K
                try simp only [Act.put, List.setIfInBounds_toArray, List.set_cons_zero, List.set_cons_succ]
                refine wpAnyH_ready (rs := [1, 4]) (by kernel_rfl) (by simp) ?_
                refine AllReadyH.cons rfl (fun K hK => ?_) ?_
                · go_simp
                  refine hK.out _ _ trivial (fun hHeld => ?_)
                  clear hK K
                  try simp only [Act.put, List.setIfInBounds_toArray, List.set_cons_zero, List.set_cons_succ]
                  refine wpAnyH_ready (rs := [4]) (by kernel_rfl) (by simp) ?_
                  refine AllReadyH.cons rfl (fun K hK => ?_) AllReadyH.nil
                  go_simp
                  refine hK.out _ _ trivial (fun hHeld => ?_)
                  clear hK K
                  try simp only [Act.put, List.setIfInBounds_toArray, List.set_cons_zero, List.set_cons_succ]
                  refine wpAnyH_ready (rs := [5]) (by kernel_rfl) (by simp) ?_
                  refine AllReadyH.cons rfl (fun K hK => ?_) AllReadyH.nil
                  refine step_append_lies _ (by rfl) _ _ 49 (by rfl) w.heap.size 94 i0 (.agg #[.bool false, .int .i64 0]) 2 16 Tryz.underlying49 hi0 hz0 hz1 hz2 (by rfl) (by omega) u j (cellsT ts) (by rfl) HV.out.2.2.1 ⟨w6.heap.size, 0, none⟩ 1 1 [.bool t.var, .int .i64 t.n] (by rfl) (by rfl) new_cells2 (by intro u hu; simp at hu; rcases hu with rfl | rfl <;> rfl) (by omega) (by unfold maxLen; omega) (by omega) (by have := HSE.out; omega) (w6.heap.size + 1) (World.size_alloc _ _) ?_
                  intro g9 cap9 W9 hown9 hgrow9 hat9 hlt9
                  obtain ⟨n1, n2, HN9⟩ := atom_next HI.out.many HI.out.len HI.out.args hjA K2.out K3.out hB hN1 HV.out (by exact hgrow9) (by exact hown9)
                  clear hat9 hlt9 hown9 hgrow9
                  refine hK.out _ _ trivial (fun hHeld => ?_)
                  clear hK K
                  try simp only [Act.put, List.setIfInBounds_toArray]
                  refine wpAnyH_take (i := 6) (v := ?_) rfl (by kernel_rfl) (by kernel_rfl) (by kernel_rfl) (fun _ _ _ h => h) (Or.inl ⟨by rfl, ?_⟩) (by assumption) ?_
                  rotate_left
                  · (intro w hSw; go_simp; try with_reducible rfl)
                  simp only [Act.put]
                  refine wpAnyH_ready (rs := [7]) (by kernel_rfl) (by simp) ?_
                  refine AllReadyH.cons rfl (fun K hK => ?_) AllReadyH.nil
                  go_simp
                  refine hK.out _ _ trivial (fun hHeld => ?_)
                  clear hK K
                  try simp only [Act.put, List.setIfInBounds_toArray, List.set_cons_zero, List.set_cons_succ]
                  refine wpAnyH_done (by kernel_rfl) ?_ _
                  refine NoPanic.normal ?_
                  clear n1 n2 q5 q6 qV
                  go_wp2_with fail
                  go_roundw
                  case rel => exact ⟨j + 1, ts ++ [t], _, s3, _, by omega, by go_num, rfl, rfl, HN9⟩
                  case measure => simp [intOf]; omega
                · refine AllReadyH.cons rfl (fun K hK => ?_) AllReadyH.nil
                  go_simp
                  refine hK.out _ _ trivial (fun hHeld => ?_)
                  clear hK K
                  try simp only [Act.put, List.setIfInBounds_toArray, List.set_cons_zero, List.set_cons_succ]
                  refine wpAnyH_ready (rs := [1]) (by kernel_rfl) (by simp) ?_
                  refine AllReadyH.cons rfl (fun K hK => ?_) AllReadyH.nil
                  go_simp
                  refine hK.out _ _ trivial (fun hHeld => ?_)
                  clear hK K
                  try simp only [Act.put, List.setIfInBounds_toArray, List.set_cons_zero, List.set_cons_succ]
                  refine wpAnyH_ready (rs := [5]) (by kernel_rfl) (by simp) ?_
                  refine AllReadyH.cons rfl (fun K hK => ?_) AllReadyH.nil
                  refine step_append_lies _ (by rfl) _ _ 49 (by rfl) w.heap.size 94 i0 (.agg #[.bool false, .int .i64 0]) 2 16 Tryz.underlying49 hi0 hz0 hz1 hz2 (by rfl) (by omega) u j (cellsT ts) (by rfl) HV.out.2.2.1 ⟨w6.heap.size, 0, none⟩ 1 1 [.bool t.var, .int .i64 t.n] (by rfl) (by rfl) new_cells2 (by intro u hu; simp at hu; rcases hu with rfl | rfl <;> rfl) (by omega) (by unfold maxLen; omega) (by omega) (by have := HSE.out; omega) (w6.heap.size + 1) (World.size_alloc _ _) ?_
                  intro g9 cap9 W9 hown9 hgrow9 hat9 hlt9
                  obtain ⟨n1, n2, HN9⟩ := atom_next HI.out.many HI.out.len HI.out.args hjA K2.out K3.out hB hN1 HV.out (by exact hgrow9) (by exact hown9)
                  clear hat9 hlt9 hown9 hgrow9
                  refine hK.out _ _ trivial (fun hHeld => ?_)
                  clear hK K
                  try simp only [Act.put, List.setIfInBounds_toArray]
                  refine wpAnyH_take (i := 6) (v := ?_) rfl (by kernel_rfl) (by kernel_rfl) (by kernel_rfl) (fun _ _ _ h => h) (Or.inl ⟨by rfl, ?_⟩) (by assumption) ?_
                  rotate_left
                  · (intro w hSw; go_simp; try with_reducible rfl)
                  simp only [Act.put]
                  refine wpAnyH_ready (rs := [7]) (by kernel_rfl) (by simp) ?_
                  refine AllReadyH.cons rfl (fun K hK => ?_) AllReadyH.nil
                  go_simp
                  refine hK.out _ _ trivial (fun hHeld => ?_)
                  clear hK K
                  try simp only [Act.put, List.setIfInBounds_toArray, List.set_cons_zero, List.set_cons_succ]
                  refine wpAnyH_done (by kernel_rfl) ?_ _
                  refine NoPanic.normal ?_
                  clear n1 n2 q5 q6 qV
                  go_wp2_with fail
                  go_roundw
                  case rel => exact ⟨j + 1, ts ++ [t], _, s3, _, by omega, by go_num, rfl, rfl, HN9⟩
                  case measure => simp [intOf]; omega
        · obtain rfl : j = A := by omega
          have hjl : ¬ (j : Int) < ar := by omega
          have HARG : Hid (argsR j 0 s1 = some (ts, sj)) := by
            show _ = _
            rw [HI.out.args, Nat.sub_self]
            simp [argsR]
          have HATOM : Hid (∀ u, closeR ts sj = some u → atomR ps s = some (⟨(k : Int), ts⟩, u)) := fun u hc => by
            unfold atomR
            rw [K0.out]
            simp only [Option.bind_some]
            rw [K1.out]
            simp only [Option.bind_some]
            rw [HAR.out, HARG.out]
            simp only [Option.bind_some]
            rw [hc]
            rfl
          have hwN : w.heap.size < wr.heap.size := HI.out.out.lt
          obtain ⟨ua, uc, rfl⟩ := own_val HI.out.own
          by_cases h0 : j = 0
          · have hz : ¬ (0 : Int) < (j : Int) := by omega
            obtain ⟨c0, c1, f0, f1⟩ := HI.out.box.cells
            obtain ⟨d0, d1, g0, g1⟩ := HI.out.out.cells
            have HAT := hid (HATOM.out sj (by unfold closeR; rw [if_pos (List.eq_nil_of_length_eq_zero (by rw [HI.out.many]; exact h0))]))
            have HFR2 : Hid (OwnA w.heap.size ((wr.setCell ⟨w.heap.size, 0, none⟩ (.int .i64 (k : Int))).setCell ⟨w.heap.size, 1, none⟩ (.slice ua j uc)) (.slice ua j uc) ts) := fresh_box HI.out.out HI.out.own HI.out.many (by have := HI.out.len; have := HS1.out; omega)
            clear h0
            go_wp2_with fail
            exact bodyPost_ret (v := .agg #[.int .i64 (k : Int), .slice ua j uc]) (by simp [results, Tryz.results60, go_sem, d0, d1]) rfl (reads_some HAT.out (ate_far (ate_far HI.out.ate (Nat.le_refl _) hB) (Nat.le_refl _) hB) ⟨_, rfl, HFR2.out⟩ (rest_far (rest_far HI.out.rest (by omega)) (by omega)))
          · have hz : (0 : Int) < (j : Int) := by omega
            have hzn : 0 < j := by omega
            obtain ⟨c0, c1, f0, f1⟩ := HI.out.box.cells
            have HC := mustP wr B sj [41] HI.out.rest
            go_wp2_with fail
            refine HC.mono ?_
            clear HC
            intro e w5 h5
            have hne : ts ≠ [] := by intro e; have := HI.out.many; rw [e] at this; exact h0 this.symm
            cases he : eatL [41] sj with
            | none =>
              rw [he, Option.map_none] at h5
              obtain ⟨rfl, ha⟩ := h5.no
              have HNO : Hid (atomR ps s = none) := by
                show _ = _
                unfold atomR
                rw [K0.out]
                simp only [Option.bind_some]
                rw [K1.out]
                simp only [Option.bind_some]
                rw [HAR.out, HARG.out]
                simp only [Option.bind_some]
                unfold closeR
                rw [if_neg hne, he]
                rfl
              clear he hne
              go_wp2_with fail
              exact ⟨rfl, reads_none HNO.out (HI.out.ate.trans ha.out)⟩
            | some s4 =>
              rw [he, Option.map_some] at h5
              obtain ⟨v, rfl, rfl, hx5⟩ := h5.yes
              clear h5
              have HAT := hid (HATOM.out s4 (by unfold closeR; rw [if_neg hne, he]))
              clear he hne c0 c1 f0 f1
              obtain ⟨i1, i2, i3, i4, i5⟩ := HI.out.on hx5.out.2 hB (by omega) hx5.out.1
              obtain ⟨c0, c1, f0, f1⟩ := i1.cells
              obtain ⟨d0, d1, g0, g1⟩ := i2.cells
              have HR5 := hid i4
              have HA5 := hid i5
              have HFR2 : Hid (OwnA w.heap.size ((w5.setCell ⟨w.heap.size, 0, none⟩ (.int .i64 (k : Int))).setCell ⟨w.heap.size, 1, none⟩ (.slice ua j uc)) (.slice ua j uc) ts) := fresh_box i2 i3 HI.out.many (by have := HI.out.len; have := HS1.out; omega)
              clear i1 i2 i3 i4 i5 hx5
              go_wp2_with fail
              exact bodyPost_ret (v := .agg #[.int .i64 (k : Int), .slice ua j uc]) (by simp [results, Tryz.results60, go_sem, d0, d1]) rfl (reads_some HAT.out (ate_far (ate_far HA5.out (Nat.le_refl _) hB) (Nat.le_refl _) hB) ⟨_, rfl, HFR2.out⟩ (rest_far (rest_far HR5.out (by omega)) (by omega)))
end Go.Proofs.YtlfccloaoopadafGreatDoor.Text

/-
  The developers' hasValues; the box of a rule that is read; what a literal more does to it.
-/
namespace Go.Proofs.YtlfccloaoopadafGreatDoor.Text
open Go.ChangeShapes Go.WideShapes Go.ChangeAt Go.RowKit
open Go.Proofs.YtlfccloaoopadafGreatDoor.Sum (KeepsFrom cellsT cellsL LV)
open Rule (kindOf)
open Prog (slice_cells)

theorem hasValues_c (w : World) (pv : Value) (ps : List Prd) (k : Nat) (hp : predsAt w pv ps) (hk : k < ps.length) : Calls Tryz.prog 51 #[pv, .int .i64 (k : Int)] w fun e w' => e = .returned (.bool (!decide (kindOf ps (k : Int) = 0))) ∧ w' = w := by
  obtain ⟨pb, po, pc, rfl, hpb, p0, p1, p2⟩ := slice_cells hp hk
  have hkl : (k : Int) < (ps.length : Int) := by omega
  have hk0 : (0 : Int) ≤ (k : Int) := by omega
  have hq : Hid (kindOf ps (k : Int) = ps[k].kind) := by show _ = _; unfold kindOf; simp [hk]
  clear hp
  generalize ps[k].kind = y at *
  go_enter Tryz.func51, Tryz.ntmps51
  go_wp2_with fail
  go_ret
  exact ⟨by rw [hq.out]; rfl, rfl⟩
/-- a box of a rule -/
def boxR (w : World) (b : Nat) (x0 x1 x2 x3 x4 : Value) : Prop := w.heap[b]? = some (.cells #[x0, x1, x2, x3, x4] 54 (0, 0))
theorem boxR.ate {B b : Nat} {w w' : World} {x0 x1 x2 x3 x4 : Value} (h : boxR w b x0 x1 x2 x3 x4) (ha : Ate B w w') (hb : b ≠ B) : boxR w' b x0 x1 x2 x3 x4 := (ha.block hb (Array.getElem?_eq_some_iff.1 h).1).trans h
theorem boxR.cells {b : Nat} {w : World} {x0 x1 x2 x3 x4 : Value} (h : boxR w b x0 x1 x2 x3 x4) : w.cell? ⟨b, 0, none⟩ = some x0 ∧ w.cell? ⟨b, 1, none⟩ = some x1 ∧ w.cell? ⟨b, 2, none⟩ = some x2 ∧ w.cell? ⟨b, 3, none⟩ = some x3 ∧ w.cell? ⟨b, 4, none⟩ = some x4 ∧ ∀ k, w.frozen? ⟨b, k, none⟩ = false := by
  unfold boxR at h
  simp [World.cell?, World.frozen?, h]
theorem boxR.lt {b : Nat} {w : World} {x0 x1 x2 x3 x4 : Value} (h : boxR w b x0 x1 x2 x3 x4) : b < w.heap.size := (Array.getElem?_eq_some_iff.1 h).1
theorem boxR.set2 {b : Nat} {w : World} {x0 x1 x2 x3 x4 : Value} (h : boxR w b x0 x1 x2 x3 x4) (u : Value) : boxR (w.setCell ⟨b, 2, none⟩ u) b x0 x1 u x3 x4 := heap_setCell_same w b 2 _ _ u h
theorem boxR.set3 {b : Nat} {w : World} {x0 x1 x2 x3 x4 : Value} (h : boxR w b x0 x1 x2 x3 x4) (u : Value) : boxR (w.setCell ⟨b, 3, none⟩ u) b x0 x1 x2 u x4 := heap_setCell_same w b 3 _ _ u h
theorem boxR.set4 {b : Nat} {w : World} {x0 x1 x2 x3 x4 : Value} (h : boxR w b x0 x1 x2 x3 x4) (u : Value) : boxR (w.setCell ⟨b, 4, none⟩ u) b x0 x1 x2 x3 u := heap_setCell_same w b 4 _ _ u h
theorem boxR.far {b g k : Nat} {w : World} {x0 x1 x2 x3 x4 u : Value} (h : boxR w b x0 x1 x2 x3 x4) (hg : g ≠ b) : boxR (w.setCell ⟨g, k, none⟩ u) b x0 x1 x2 x3 x4 := by
  unfold boxR
  rw [Sum.heap_other hg]
  exact h
/-- all five cells are written -/
theorem boxR.all {b : Nat} {w : World} {x0 x1 x2 x3 x4 : Value} (h : boxR w b x0 x1 x2 x3 x4) (y0 y1 y2 y3 y4 : Value) : boxR (((((w.setCell ⟨b, 0, none⟩ y0).setCell ⟨b, 1, none⟩ y1).setCell ⟨b, 2, none⟩ y2).setCell ⟨b, 3, none⟩ y3).setCell ⟨b, 4, none⟩ y4) b y0 y1 y2 y3 y4 :=
  heap_setCell_same _ b 4 _ _ y4 (heap_setCell_same _ b 3 _ _ y3 (heap_setCell_same _ b 2 _ _ y2 (heap_setCell_same _ b 1 _ _ y1 (heap_setCell_same w b 0 _ _ y0 h))))
theorem KeepsTy.all5 {b n : Nat} {e : TypeId} {w : World} {x0 x1 x2 x3 x4 : Value} (h : boxR w b x0 x1 x2 x3 x4) (he : 54 ≠ e) (y0 y1 y2 y3 y4 : Value) : KeepsTy e n w (((((w.setCell ⟨b, 0, none⟩ y0).setCell ⟨b, 1, none⟩ y1).setCell ⟨b, 2, none⟩ y2).setCell ⟨b, 3, none⟩ y3).setCell ⟨b, 4, none⟩ y4) := by
  have h0 := heap_setCell_same w b 0 _ _ y0 h
  have h1 := heap_setCell_same _ b 1 _ _ y1 h0
  have h2 := heap_setCell_same _ b 2 _ _ y2 h1
  have h3 := heap_setCell_same _ b 3 _ _ y3 h2
  exact (KeepsTy.set h he).trans ((KeepsTy.set h0 he).trans ((KeepsTy.set h1 he).trans ((KeepsTy.set h2 he).trans (KeepsTy.set h3 he))))
/-- what a rule that was read is -/
def RuleV (n : Nat) (r : Rul) (v : Value) (w' : World) : Prop := ∃ hv bv, v = .agg #[.int .i64 r.head.pred, hv, .int .i64 r.src, .int .i64 r.n, bv] ∧ OwnA n w' hv r.head.args ∧ OwnB n w' bv r.body
/-- how long what is left is -/
def restLen (w : World) (B : Nat) : Nat := match w.cell? ⟨B, 0, none⟩ with
  | some (.string t) => t.size
  | _ => 0
theorem rest_len {w : World} {B : Nat} {s : List UInt8} (h : restAt w B s) : restLen w B = s.length := by
  unfold restLen
  rw [rest_cell h]
  simp only
  exact mk_size s
/-- behind j literals -/
structure BodyInv (w : World) (B N : Nat) (ps : List Prd) (s0 : List UInt8) (x0 x1 x2 x3 : Value) (hd : List Tm) (wr : World) (j : Nat) (ls : List LV) (u : Value) (sj : List UInt8) : Prop where
  many : ls.length = j
  box : boxR wr N x0 x1 x2 x3 u
  out : boxR wr w.heap.size (.int .i64 0) (.slice none 0 0) (.int .i64 0) (.int .i64 0) (.slice none 0 0)
  head : OwnA w.heap.size wr x1 hd
  own : wr.ownsRow w.heap.size 66 3 u j (cellsL ls)
  lits : ∀ x ∈ ls, OwnA w.heap.size wr x.av x.l.atom.args
  rest : restAt wr B sj
  ate : Ate B w wr
  len : sj.length + j ≤ s0.length
  body : bodyR ps s0.length 0 s0 = (bodyR ps sj.length j sj).bind fun y => some (ls.map LV.l ++ y.1, y.2)
structure BodyOn (w : World) (B N : Nat) (x0 x1 x2 x3 : Value) (hd : List Tm) (wr : World) (j : Nat) (ls : List LV) (u : Value) (s' : List UInt8) : Prop where
  box : boxR wr N x0 x1 x2 x3 u
  out : boxR wr w.heap.size (.int .i64 0) (.slice none 0 0) (.int .i64 0) (.int .i64 0) (.slice none 0 0)
  head : OwnA w.heap.size wr x1 hd
  own : wr.ownsRow w.heap.size 66 3 u j (cellsL ls)
  lits : ∀ x ∈ ls, OwnA w.heap.size wr x.av x.l.atom.args
  rest : restAt wr B s'
  ate : Ate B w wr
theorem BodyInv.on {w : World} {B N : Nat} {ps : List Prd} {s0 : List UInt8} {x0 x1 x2 x3 : Value} {hd : List Tm} {wr w' : World} {j : Nat} {ls : List LV} {u : Value} {sj s' : List UInt8} (h : BodyInv w B N ps s0 x0 x1 x2 x3 hd wr j ls u sj) (ha : Ate B wr w') (hB : B < w.heap.size) (hN : w.heap.size ≤ N) (hr : restAt w' B s') : BodyOn w B N x0 x1 x2 x3 hd w' j ls u s' :=
  ⟨h.box.ate ha (by omega), h.out.ate ha (by omega), h.head.ty (KeepsTy.ate ha hB), own_ate h.own ha hB, fun x hx => (h.lits x hx).ty (KeepsTy.ate ha hB), hr, h.ate.trans ha⟩
theorem cellsL_more : ∀ (l : List LV) (x : LV), cellsL (l ++ [x]) = cellsL l ++ [.bool x.l.neg, .int .i64 x.l.atom.pred, x.av]
  | [], x => rfl
  | y :: l, x => by simp only [List.cons_append, cellsL, cellsL_more l x]
theorem new_cells3 {w : World} {x y z : Value} {t : TypeId} : ∀ (i : Nat) (v : Value), [x, y, z][i]? = some v → (w.alloc (.cells #[x, y, z] t)).cell? ((⟨w.heap.size, 0, none⟩ : Addr).add i) = some v := by
  intro i v hv
  match i, hv with
  | 0, hv => obtain rfl : x = v := by simpa using hv
             simp [go_sem]
  | 1, hv => obtain rfl : y = v := by simpa using hv
             simp [go_sem]
  | 2, hv => obtain rfl : z = v := by simpa using hv
             simp [go_sem]
  | i + 3, hv => simp at hv
/-- a literal more -/
theorem lit_next {w : World} {B N : Nat} {ps : List Prd} {s0 : List UInt8} {x0 x1 x2 x3 : Value} {hd : List Tm} {j : Nat} {ls : List LV} {u : Value} {sj s1 s2 : List UInt8} {a : Atm} {av : Value} {ng : Bool} {V W9 : World} {g cap : Nat}
    (hm : ls.length = j) (hl : sj.length + j ≤ s0.length) (hb : bodyR ps s0.length 0 s0 = (bodyR ps sj.length j sj).bind fun y => some (ls.map LV.l ++ y.1, y.2))
    (e1 : eatL (aheadR j) sj = some s1) (en : (eatL [33] s1).isSome = ng) (e2 : atomR ps ((eatL [33] s1).getD s1) = some (a, s2))
    (hB : B < w.heap.size) (hN : w.heap.size < N) (hV : BodyOn w B N x0 x1 x2 x3 hd V j ls u s2) (hA : OwnA w.heap.size V av a.args)
    (hg : V.grownBy W9 u.ownBlock) (h9 : W9.ownsRow w.heap.size 66 3 (.slice (some ⟨g, 0, none⟩) (j + 1) cap) (j + 1) (cellsL ls ++ [.bool ng, .int .i64 a.pred, av])) :
    W9.cell? ⟨N, 4, none⟩ = some u ∧ W9.frozen? ⟨N, 4, none⟩ = false ∧ Hid (s2.length < sj.length ∧ BodyInv w B N ps s0 x0 x1 x2 x3 hd (W9.setCell ⟨N, 4, none⟩ (.slice (some ⟨g, 0, none⟩) (j + 1) cap)) (j + 1) (ls ++ [⟨⟨ng, a⟩, av⟩]) (.slice (some ⟨g, 0, none⟩) (j + 1) cap) s2) := by
  have b1 : boxR W9 N x0 x1 x2 x3 u := obj_grown hg hV.box (own_not hV.own hV.box (by decide))
  have b2 := obj_grown hg hV.out (own_not hV.own hV.out (by decide))
  have b3 : restAt W9 B s2 := obj_grown hg hV.rest (own_not hV.own hV.rest (by decide))
  have b4 : Ate B w W9 := grown_ate hV.ate hg (own_block hV.own) hB
  have hs := hV.ate.size
  obtain ⟨c0, c1, c2, c3, c4, hf⟩ := b1.cells
  have e3 := eat_len e1
  have e4 := ahead_len j
  have e5 := bang_len s1
  have e6 := atom_len e2
  have kt : KeepsTy 94 w.heap.size V (W9.setCell ⟨N, 4, none⟩ (.slice (some ⟨g, 0, none⟩) (j + 1) cap)) := (KeepsTy.grown hg hV.own (by decide)).trans (KeepsTy.set b1 (by decide))
  refine ⟨c4, hf 4, by omega, ?_, b1.set4 _, boxR.far b2 (by omega), hV.head.ty kt, ?_, ?_, rest_far b3 (by omega), ate_far b4 (by omega) hB, by omega, ?_⟩
  · simp [hm]
  · rw [cellsL_more]
    exact own_far h9 b1 (by decide)
  · intro x hx
    rcases List.mem_append.1 hx with hx | hx
    · exact (hV.lits x hx).ty kt
    · rw [List.mem_singleton] at hx
      subst hx
      exact hA.ty kt
  · rw [hb]
    obtain ⟨m, hm'⟩ : ∃ m, sj.length = m + 1 := ⟨sj.length - 1, by omega⟩
    rw [hm', bodyR, e1]
    simp only
    rw [e2, Option.bind_some]
    simp only
    rw [body_fuel ps m s2.length (j + 1) s2 (by omega) (by omega), en]
    cases bodyR ps s2.length (j + 1) s2 with
    | none => rfl
    | some y => simp
theorem body_end {ps : List Prd} {j : Nat} {sj : List UInt8} (h : eatL (aheadR j) sj = none) : bodyR ps sj.length j sj = some ([], sj) := by
  cases hl : sj.length with
  | zero => rfl
  | succ m => rw [bodyR, h]
theorem body_bad {ps : List Prd} {j : Nat} {sj s1 : List UInt8} (h : eatL (aheadR j) sj = some s1) (h2 : atomR ps ((eatL [33] s1).getD s1) = none) : bodyR ps sj.length j sj = none := by
  have e3 := eat_len h
  have e4 := ahead_len j
  obtain ⟨m, hm'⟩ : ∃ m, sj.length = m + 1 := ⟨sj.length - 1, by omega⟩
  rw [hm', bodyR, h]
  simp only
  rw [h2]
  rfl
end Go.Proofs.YtlfccloaoopadafGreatDoor.Text

/-
  The developers' telling of atoms.
-/
namespace Go.Proofs.YtlfccloaoopadafGreatDoor.Text
open Go.ChangeShapes Go.WideShapes Go.ChangeAt Go.RowKit
open Prog (slice_cells)

theorem inter_flat (c : UInt8) : ∀ (x : List UInt8) (xs : List (List UInt8)), [c].intercalate (x :: xs) = x ++ xs.flatMap fun y => c :: y
  | x, [] => by simp [List.intercalate]
  | x, y :: xs => by
    have ih := inter_flat c y xs
    have e : [c].intercalate (x :: y :: xs) = x ++ [c] ++ [c].intercalate (y :: xs) := by simp [List.intercalate, List.intersperse]
    rw [e, ih]
    simp
theorem argsL_flat : ∀ (ts : List Tm) (k : Nat), argsL ts (k + 1) = (ts.map fun t => bl (argB t)).flatMap fun y => 44 :: y
  | [], k => rfl
  | t :: ts, k => by
    rw [argsL, argsL_flat ts (k + 1)]
    simp
/-- what Atom tells -/
theorem atom_joined (ps : List Prd) (a : Atm) (h : a.args ≠ []) : nameOf ps a.pred ++ ⟨#[40]⟩ ++ joinB ⟨#[44]⟩ (a.args.map argB) ++ ⟨#[41]⟩ = atomB ps a := by
  apply bl_inj
  rw [bl_atom]
  obtain ⟨t, ts, hts⟩ := List.exists_cons_of_ne_nil h
  unfold atomL
  rw [hts]
  simp only [bl_append, joinB, bl_mk, List.map_cons]
  have e1 : bl (⟨#[44]⟩ : ByteArray) = [44] := rfl
  have e2 : bl (⟨#[40]⟩ : ByteArray) = [40] := rfl
  have e3 : bl (⟨#[41]⟩ : ByteArray) = [41] := rfl
  rw [e1, e2, e3, inter_flat, argsL]
  have e4 := argsL_flat ts 0
  rw [Nat.zero_add] at e4
  simp [e4, List.map_map, Function.comp_def]
theorem atom_alone (ps : List Prd) (a : Atm) (h : a.args = []) : nameOf ps a.pred = atomB ps a := by
  unfold atomB
  rw [h, if_neg (by simp)]
  rfl
set_option maxRecDepth 100000 in
set_option maxHeartbeats 4000000 in
theorem devAtom_c (w : World) (pv av : Value) (ps : List Prd) (a : Atm) (e : Nat) (hp : predsAt w pv ps) (ht : termsAt w av a.args) (he : a.pred = (e : Int)) (hel : e < ps.length) (hok : ∀ t ∈ a.args, 0 ≤ t.n ∧ t.n ≤ 25) (hnm : (nameOf ps a.pred).size ≤ 8) (han : a.args.length ≤ 5) :
    Calls Tryz.prog 20 #[pv, .agg #[.int .i64 a.pred, av]] w fun e w' => e = .returned (.string (atomB ps a)) ∧ Below w.heap.size w w' := by
  have HT : Hid (∀ x, Below w.heap.size w x → termsAt x av a.args) := fun x hx => termsAt.lasts hx ht
  obtain ⟨pb, po, pc, rfl, hpb, n0, n1, n2⟩ := slice_cells hp hel
  obtain ⟨aa, ac, rfl, hal, _⟩ := ht
  have HN : Hid (nameOf ps a.pred = ps[e].name) := by show _ = _; rw [nameOf, he, Int.toNat_natCast, List.getElem?_eq_getElem hel]; rfl
  have hnz : ps[e].name.size ≤ 8 := by rw [← HN.out]; exact hnm
  have hel' : (e : Int) < (ps.length : Int) := by omega
  have HOK : Hid (∀ t ∈ a.args, 0 ≤ t.n ∧ t.n ≤ 25) := hok
  rw [he]
  obtain ⟨W1, hW1⟩ : ∃ W1, w.alloc (.cells #[.int .i64 (e : Int), .slice aa a.args.length ac] 51) = W1 := ⟨_, rfl⟩
  have b1 : Below w.heap.size w W1 := by rw [← hW1]; exact below_alloc _ _
  have m0 := (cell_lasts b1 hpb).trans n0
  have c0 : W1.cell? ⟨w.heap.size, 0, none⟩ = some (.int .i64 (e : Int)) := by rw [← hW1]; simp [go_sem]
  have c1 : W1.cell? ⟨w.heap.size, 1, none⟩ = some (.slice aa a.args.length ac) := by rw [← hW1]; simp [go_sem]
  have hs : W1.heap.size = w.heap.size + 1 := by rw [← hW1]; simp
  by_cases h0 : a.args.length = 0
  · have HE : Hid (ps[e].name = atomB ps a) := by show _ = _; rw [← HN.out]; exact atom_alone ps a (List.eq_nil_of_length_eq_zero h0)
    have h0' : ((a.args.length : Int) == 0) = true := by rw [beq_iff_eq]; omega
    have HB := hid b1
    clear n0 n1 n2 hok h0 b1
    generalize ps[e].name = nm at *
    go_enter Tryz.func20, Tryz.ntmps20
    go_wp2_with fail
    go_ret
    exact ⟨by rw [← HE.out]; rfl, HB.out⟩
  · have h0' : ((a.args.length : Int) == 0) = false := by rw [beq_eq_false_iff_ne]; omega
    obtain ⟨xs, hxs⟩ : ∃ xs, a.args.map argB = xs := ⟨_, rfl⟩
    have hxl : xs.length = a.args.length := by rw [← hxs, List.length_map]
    have HJ2 : Hid (((bl ⟨#[44]⟩).intercalate (xs.map bl)).length ≤ 1000) := by
      show _ ≤ _
      have h1 := inter_len (bl ⟨#[44]⟩) (xs.map bl)
      have h2 : ((xs.map bl).map List.length).sum ≤ xs.length * 2 := by
        rw [List.map_map]
        refine sum_le _ 2 xs fun x hx => ?_
        rw [← hxs] at hx
        obtain ⟨t, _, rfl⟩ := List.mem_map.1 hx
        show (bl (argB t)).length ≤ 2
        rw [bl_size]
        exact argB_size t
      have e1 : (bl (⟨#[44]⟩ : ByteArray)).length = 1 := rfl
      rw [List.length_map, e1] at h1
      omega
    obtain ⟨J, hJ⟩ : ∃ J : ByteArray, (⟨((bl ⟨#[44]⟩).intercalate (xs.map bl)).toArray⟩ : ByteArray) = J := ⟨_, rfl⟩
    have hJz : J.size ≤ 1000 := by rw [← hJ]; show (mk _).size ≤ 1000; rw [mk_size]; exact HJ2.out
    have HE : Hid (ps[e].name ++ ⟨#[40]⟩ ++ J ++ ⟨#[41]⟩ = atomB ps a) := by
      show _ = _
      rw [← atom_joined ps a (by intro h; rw [h] at h0; exact h0 rfl), ← HN.out, ← hJ, hxs]
      rfl
    have hmk := @make_strs _ han
    have HB1 := hid b1
    obtain ⟨W2, hW2⟩ : ∃ W2, W1.alloc (.cells (Array.replicate a.args.length (.string ⟨#[]⟩)) 9) = W2 := ⟨_, rfl⟩
    have hb2 : Below W1.heap.size W1 W2 := by rw [← hW2]; exact below_alloc _ _
    have HB2 : Hid (Below w.heap.size w W2) := b1.trans (hb2.mono b1.size)
    have hs2 : w.heap.size + 1 < W2.heap.size := by rw [← hW2]; simp [hs]
    have HR1 : Hid (Prog.rowAt W2 (w.heap.size + 1) ((xs.map strV).take 0 ++ List.replicate (xs.length - 0) (.string ⟨#[]⟩))) := by
      show Prog.rowAt _ _ _
      rw [← hW2, List.take_zero, List.nil_append, hxl, Nat.sub_zero, ← List.toArray_replicate, ← hs]
      exact Prog.rowAt_new
    have c1' : W2.cell? ⟨w.heap.size, 1, none⟩ = some (.slice aa a.args.length ac) := (cell_lasts hb2 (by omega)).trans c1
    have hz1 : ¬ 9223372036854775807 < ps[e].name.size + 1 := by omega
    have hz2 : ¬ 9223372036854775807 < ps[e].name.size + 1 + J.size := by omega
    have hz3 : ¬ 9223372036854775807 < ps[e].name.size + 1 + J.size + 1 := by omega
    have HXS := hid hxs
    clear n0 n1 n2 hok hnz hnm b1 hb2 hJz h0 hxs
    generalize ps[e].name = nm at *
    go_enter Tryz.func20, Tryz.ntmps20
    go_wp2_with fail
    clear hW1 hW2 hmk c0 c1 m0 c1'
    go_loopw [27] (fun i wr => ∃ j : Nat, j ≤ a.args.length ∧ i = .int .i64 j ∧ Hid (Prog.rowAt wr (w.heap.size + 1) ((xs.map strV).take j ++ List.replicate (xs.length - j) (.string ⟨#[]⟩)) ∧ Below w.heap.size w wr ∧ w.heap.size + 1 < wr.heap.size)) (fun i _ => a.args.length - (intOf i).toNat)
    case atStart => exact ⟨0, Nat.zero_le _, rfl, HR1.out, HB2.out, hs2⟩
    case round =>
      clear HR1 HB2 hs2
      obtain ⟨j, hj, rfl, hin⟩ := hrel
      by_cases hlt : j < a.args.length
      · obtain ⟨tb, to_, tc, hv, htb, t0, t1⟩ := slice_cells (HT.out wr hin.out.2.1) hlt
        obtain ⟨rfl, rfl⟩ : aa = some ⟨tb, to_, none⟩ ∧ ac = tc := by simpa using hv
        have hjl : (j : Int) < (a.args.length : Int) := by omega
        have hj0 : (0 : Int) ≤ (j : Int) := by omega
        obtain ⟨o0, o1⟩ := HOK.out _ (List.getElem_mem hlt)
        obtain ⟨m, hm⟩ : ∃ m : Nat, a.args[j].n = (m : Int) := ⟨a.args[j].n.toNat, by omega⟩
        rw [hm] at t1
        have HTC : Hid (∀ W, Calls Tryz.prog 50 #[.agg #[.bool a.args[j].var, .int .i64 (m : Int)]] W fun e w' => e = .returned (.string (argB a.args[j])) ∧ Below W.heap.size W w') := fun W => term_c W a.args[j] m hm (by omega)
        have HX : Hid (∀ W', Below wr.heap.size wr W' → W'.cell? ⟨w.heap.size + 1, j, none⟩ = some (.string ⟨#[]⟩) ∧ W'.frozen? ⟨w.heap.size + 1, j, none⟩ = false ∧ Hid (Prog.rowAt (W'.setCell ⟨w.heap.size + 1, j, none⟩ (.string (argB a.args[j]))) (w.heap.size + 1) ((xs.map strV).take (j + 1) ++ List.replicate (xs.length - (j + 1)) (.string ⟨#[]⟩)) ∧ Below w.heap.size w (W'.setCell ⟨w.heap.size + 1, j, none⟩ (.string (argB a.args[j]))) ∧ w.heap.size + 1 < (W'.setCell ⟨w.heap.size + 1, j, none⟩ (.string (argB a.args[j]))).heap.size)) := fun W' hb => by
          have hr := row_put (j := j) (by omega) (hin.out.1.below hb hin.out.2.2)
          have e : xs[j]'(by omega) = argB a.args[j] := by have := HXS.out; subst this; simp
          rw [e] at hr
          have hb' := hin.out.2.1.trans (hb.mono hin.out.2.1.size)
          refine ⟨hr.1, hr.2.1, hr.2.2, hb'.setCell (p := ⟨w.heap.size + 1, j, none⟩) (by show w.heap.size ≤ w.heap.size + 1; omega) _, ?_⟩
          rw [size_set]
          have := hb.size
          have := hin.out.2.2
          omega
        clear hv hm o0 o1
        generalize a.args[j] = y at *
        go_wp2_with fail
        refine (HTC.out _).mono ?_
        rintro e w1 ⟨rfl, hb⟩
        obtain ⟨q0, q1, q2⟩ := HX.out w1 (below_trans (below_alloc _ _) hb)
        clear hb
        go_wp2_with fail
        go_roundw
        case rel => exact ⟨j + 1, by omega, by go_num, q2⟩
        case measure => simp [intOf]; omega
      · have HJ := join_c (w.heap.size + 1) 0 a.args.length xs ⟨#[44]⟩ wr (strs_row (n := xs.length) (by have := hin.out.1; rwa [show xs.length - j = 0 by omega, List.replicate_zero, List.append_nil, show j = xs.length by omega] at this) rfl) hin.out.2.2 (by omega) (by omega) (by have := HJ2.out; omega)
        rw [hxl, hJ] at HJ
        obtain rfl : j = a.args.length := by omega
        clear hJ
        go_wp2_with (go_at_call 49; refine HJ.mono ?_; rintro e w1 ⟨rfl, hb⟩; replace hb : Hid _ := hb)
        go_ret
        exact ⟨by rw [← HE.out]; rfl, hin.out.2.1.trans (hb.out.mono hin.out.2.1.size)⟩
end Go.Proofs.YtlfccloaoopadafGreatDoor.Text

/-
  The developers' telling of a rule's value and body.
-/
namespace Go.Proofs.YtlfccloaoopadafGreatDoor.Text
open Go.ChangeShapes Go.WideShapes Go.ChangeAt Go.RowKit
open Prog (intsAt slice_cells)
open Rule (kindOf)

theorem two_ints (w : World) (n m : Nat) : intsAt (w.alloc (.cells #[.int .i64 (n : Int), .int .i64 (m : Int)] 3)) (.slice (some ⟨w.heap.size, 0, none⟩) 2 2) [n, m] :=
  Prog.intsAt_of (B := w.heap.size) (cap := 2) (l := [n, m]) (Prog.rowAt_new (w := w) (vs := [.int .i64 (n : Int), .int .i64 (m : Int)]) (t := 3)) (by simp) (by simp)
/-- two numbers -/
theorem number2_c (w : World) (lv : Value) (n m : Nat) (sep : ByteArray) (hl : intsAt w lv [n, m]) (h9 : n ≤ 99) (h8 : m ≤ 99) (hsep : sep.size ≤ 100) : Calls Tryz.prog 19 #[.string sep, lv] w fun e w' => e = .returned (.string (dig n ++ sep ++ dig m)) ∧ Below w.heap.size w w' := by
  have h := numbers_c w sep lv [n, m] (fun m => dig m) hl (by simp) hsep (fun m hm => by have := dig_size m; omega) (fun k hk W _ => by
    have hk9 : k ≤ 99 := by
      simp only [List.mem_cons, List.not_mem_nil, or_false] at hk
      rcases hk with rfl | rfl <;> assumption
    refine (itoa_c k (by omega) (by omega) W).mono ?_
    rintro e w' ⟨rfl, rfl⟩
    exact ⟨rfl, Below.refl _ _⟩)
  have e : joinB sep ([n, m].map fun k : Nat => dig k) = dig n ++ sep ++ dig m := by
    apply bl_inj
    simp [joinB, bl_mk, bl_append, List.intercalate]
  rw [e] at h
  exact h
/-- a rule's value, as a text -/
def valB (ps : List Prd) (r : Rul) : ByteArray := mk (valL ps r)
set_option maxRecDepth 100000 in
set_option maxHeartbeats 4000000 in
theorem showValue_c (w : World) (pv hv bv : Value) (ps : List Prd) (r : Rul) (hp : predsAt w pv ps) (ht : ∃ e : Nat, r.head.pred = (e : Int) ∧ e < ps.length) (hs : -1 ≤ r.src ∧ r.src ≤ 99) (hn : 0 ≤ r.n ∧ r.n ≤ 99) :
    Calls Tryz.prog 21 #[pv, .agg #[.int .i64 r.head.pred, hv, .int .i64 r.src, .int .i64 r.n, bv]] w fun e w' => e = .returned (.string (valB ps r)) ∧ Below w.heap.size w w' := by
  obtain ⟨k, hk, hkl⟩ := ht
  obtain ⟨W1, hW1⟩ : ∃ W1, w.alloc (.cells #[.int .i64 r.head.pred, hv, .int .i64 r.src, .int .i64 r.n, bv] 54) = W1 := ⟨_, rfl⟩
  have b1 : Below w.heap.size w W1 := by rw [← hW1]; exact below_alloc _ _
  have HB1 := hid b1
  have HC := hasValues_c W1 pv ps k (predsAt.lasts b1 hp) hkl
  rw [← hk] at HC
  have c0 : W1.cell? ⟨w.heap.size, 0, none⟩ = some (.int .i64 r.head.pred) := by rw [← hW1]; simp [go_sem]
  have c2 : W1.cell? ⟨w.heap.size, 2, none⟩ = some (.int .i64 r.src) := by rw [← hW1]; simp [go_sem]
  have c3 : W1.cell? ⟨w.heap.size, 3, none⟩ = some (.int .i64 r.n) := by rw [← hW1]; simp [go_sem]
  have c0' := c0
  obtain ⟨n, hn'⟩ : ∃ n : Nat, r.n = (n : Int) := ⟨r.n.toNat, by omega⟩
  by_cases hkd : kindOf ps r.head.pred = 0
  · have HE : Hid (valB ps r = ⟨#[]⟩) := by show _ = _; unfold valB valL; rw [if_pos hkd]; rfl
    have hd : (!decide (kindOf ps r.head.pred = 0)) = false := by simp [hkd]
    rw [hd] at HC
    clear hd hkd hk hn'
    go_enter Tryz.func21, Tryz.ntmps21
    go_wp2_with (go_at_call 51; refine HC.mono ?_; rintro e w1 ⟨rfl, rfl⟩)
    go_ret
    exact ⟨by rw [HE.out]; rfl, HB1.out⟩
  · have hd : (!decide (kindOf ps r.head.pred = 0)) = true := by simp [hkd]
    rw [hd] at HC
    clear hd
    by_cases hsr : r.src < 0
    · have HE : Hid (valB ps r = ⟨#[32, 61, 32]⟩ ++ dig n) := by
        show _ = _
        apply bl_inj
        unfold valB valL
        rw [if_neg hkd, if_neg (by omega), bl_mk, bl_append, hn']
        rfl
      have HN := number1_c (W1.alloc (.cells #[.int .i64 (n : Int)] 3)) _ n ⟨#[]⟩ (one_int W1 n) (by omega) (by decide)
      have hz : ¬ 9223372036854775807 < 3 + (dig n).size := by have := dig_size n; omega
      rw [hn'] at c3 hW1 ⊢
      clear hkd hk hn'
      go_enter Tryz.func21, Tryz.ntmps21
      go_wp2_with (first | (go_at_call 51; refine HC.mono ?_; rintro e w1 ⟨rfl, hw1⟩; obtain rfl := hw1.symm) | (go_at_call 19; refine HN.mono ?_; rintro e w2 ⟨rfl, hb⟩; replace hb : Hid _ := hb))
      go_ret
      exact ⟨by rw [HE.out]; rfl, HB1.out.trans ((below_trans (below_alloc _ _) hb.out).mono HB1.out.size)⟩
    · obtain ⟨m, hm⟩ : ∃ m : Nat, r.src = (m : Int) := ⟨r.src.toNat, by omega⟩
      have HE : Hid (valB ps r = ⟨#[32, 61, 32, 35]⟩ ++ (dig m ++ ⟨#[43]⟩ ++ dig n)) := by
        show _ = _
        apply bl_inj
        unfold valB valL
        rw [if_neg hkd, if_pos (by omega), bl_mk, bl_append, bl_append, bl_append, hn', hm]
        have e1 : bl (⟨#[32, 61, 32, 35]⟩ : ByteArray) = [32, 61, 32, 35] := rfl
        have e2 : bl (⟨#[43]⟩ : ByteArray) = [43] := rfl
        rw [e1, e2]
        simp
      have HN := number2_c (W1.alloc (.cells #[.int .i64 (m : Int), .int .i64 (n : Int)] 3)) _ m n ⟨#[43]⟩ (two_ints W1 m n) (by omega) (by omega) (by decide)
      have hz : ¬ 9223372036854775807 < 4 + (dig m ++ ⟨#[43]⟩ ++ dig n).size := by
        have := dig_size m
        have := dig_size n
        have e2 : (⟨#[43]⟩ : ByteArray).size = 1 := rfl
        rw [ByteArray.size_append, ByteArray.size_append]
        omega
      have hsr' : ¬ (m : Int) < 0 := by omega
      generalize dig m ++ ⟨#[43]⟩ ++ dig n = D at *
      rw [hn'] at c3 hW1 ⊢
      rw [hm] at c2 hW1 ⊢
      clear hkd hk hn' hm hsr
      go_enter Tryz.func21, Tryz.ntmps21
      go_wp2_with (first | (go_at_call 51; refine HC.mono ?_; rintro e w1 ⟨rfl, hw1⟩; obtain rfl := hw1.symm) | (go_at_call 19; refine HN.mono ?_; rintro e w2 ⟨rfl, hb⟩; replace hb : Hid _ := hb))
      go_ret
      exact ⟨by rw [HE.out]; rfl, HB1.out.trans ((below_trans (below_alloc _ _) hb.out).mono HB1.out.size)⟩
end Go.Proofs.YtlfccloaoopadafGreatDoor.Text

/-
  The developers' telling of a rule's body.
-/
namespace Go.Proofs.YtlfccloaoopadafGreatDoor.Text
open Go.ChangeShapes Go.WideShapes Go.ChangeAt Go.RowKit
open Prog (slice_cells)
open Rule (kindOf)

theorem atomB_small {ps : List Prd} (h : ∀ q ∈ ps, q.name.size ≤ 8) {a : Atm} (ha : a.args.length ≤ 2) : (atomB ps a).size ≤ 15 := by
  have := atomB_size (name_size h a.pred)
  omega
theorem tellAtom_c (w : World) (pv av : Value) (ps : List Prd) (a : Atm) (hp : predsAt w pv ps) (ht : termsAt w av a.args) (hn : ∀ q ∈ ps, q.name.size ≤ 8) (h : TellA ps a) : Calls Tryz.prog 20 #[pv, .agg #[.int .i64 a.pred, av]] w fun e w' => e = .returned (.string (atomB ps a)) ∧ Below w.heap.size w w' := by
  obtain ⟨e, h1, h2⟩ := h.there
  exact devAtom_c w pv av ps a e hp ht h1 h2 h.terms (name_size hn _) (by have := h.few; omega)
/-- a body, as a text -/
def bodyB (ps : List Prd) (ls : List Ltr) : ByteArray := mk (litsL ps ls 0)
theorem body_take {ps : List Prd} {ls : List Ltr} {j : Nat} (hj : j < ls.length) : litsL ps (ls.take (j + 1)) 0 = litsL ps (ls.take j) 0 ++ (aheadR j ++ (if ls[j].neg then [33] else []) ++ atomL ps ls[j].atom) := by
  rw [List.take_succ_eq_append_getElem hj, lits_more, List.length_take, Nat.min_eq_left (by omega), Nat.zero_add]
  rfl
set_option maxRecDepth 100000 in
set_option maxHeartbeats 4000000 in
theorem showBody_c (w : World) (pv bv : Value) (ps : List Prd) (ls : List Ltr) (hp : predsAt w pv ps) (hb : litsAt w bv ls) (hn : ∀ q ∈ ps, q.name.size ≤ 8) (hl : ls.length ≤ 100) (ha : ∀ l ∈ ls, TellA ps l.atom) :
    Calls Tryz.prog 22 #[pv, bv] w fun e w' => e = .returned (.string (bodyB ps ls)) ∧ Below w.heap.size w w' := by
  have HP : Hid (∀ x, Below w.heap.size w x → predsAt x pv ps) := fun x hx => predsAt.lasts hx hp
  have HB : Hid (∀ x, Below w.heap.size w x → litsAt x bv ls) := fun x hx => litsAt.lasts hx hb
  have HN := hid hn
  have HA := hid ha
  obtain ⟨pa, pc, rfl, _⟩ := hp
  obtain ⟨ba, bc, rfl, _⟩ := hb
  clear hn ha
  go_enter Tryz.func22, Tryz.ntmps22
  go_wp2_with fail
  go_loopw [5, 6, 11] (fun o ah i wr => ∃ (j : Nat) (O T : ByteArray), j ≤ ls.length ∧ i = .int .i64 j ∧ o = .string O ∧ ah = .string T ∧ O.size ≤ j * 30 ∧ T.size ≤ 4 ∧ Hid (bl O = litsL ps (ls.take j) 0 ∧ bl T = aheadR j ∧ Below w.heap.size w wr)) (fun _ _ i _ => ls.length - (intOf i).toNat)
  case atStart => exact ⟨0, _, _, Nat.zero_le _, rfl, rfl, rfl, by decide, by decide, rfl, rfl, Below.refl _ _⟩
  case round =>
    obtain ⟨j, O, T, hj, rfl, rfl, rfl, hO, hT, hin⟩ := hrel
    by_cases hlt : j < ls.length
    · obtain ⟨lb, lo, lc, hv, hlb, hlit⟩ := slice_cells (HB.out wr hin.out.2.2) hlt
      obtain ⟨rfl, rfl⟩ : ba = some ⟨lb, lo, none⟩ ∧ bc = lc := by simpa using hv
      obtain ⟨l0, l1, aa, ac, l2, l3⟩ := hlit.open
      have hjl : (j : Int) < (ls.length : Int) := by omega
      have hj0 : (0 : Int) ≤ (j : Int) := by omega
      have HTA := HA.out _ (List.getElem_mem hlt)
      have HAC : Hid (∀ x, Below wr.heap.size wr x → Calls Tryz.prog 20 #[.slice pa ps.length pc, .agg #[.int .i64 ls[j].atom.pred, .slice aa ls[j].atom.args.length ac]] x fun e w' => e = .returned (.string (atomB ps ls[j].atom)) ∧ Below x.heap.size x w') := fun x hx => tellAtom_c x _ _ ps _ (HP.out x (hin.out.2.2.trans (hx.mono hin.out.2.2.size))) (termsAt.lasts hx l3) HN.out HTA
      have hAz := atomB_small HN.out HTA.few
      have HNX : Hid (litsL ps (ls.take (j + 1)) 0 = litsL ps (ls.take j) 0 ++ (aheadR j ++ (if ls[j].neg then [33] else []) ++ bl (atomB ps ls[j].atom))) := by
        show _ = _
        rw [body_take hlt, bl_atom]
      clear hv hlit l3 HTA
      generalize atomB ps ls[j].atom = A at *
      generalize ls[j] = y at *
      have hz1 : ¬ 9223372036854775807 < O.size + T.size := by omega
      have hz2 : ¬ 9223372036854775807 < O.size + T.size + 1 := by omega
      have hz3 : ¬ 9223372036854775807 < O.size + T.size + 1 + A.size := by omega
      have hz4 : ¬ 9223372036854775807 < O.size + T.size + A.size := by omega
      cases hy : y.neg with
      | true =>
        rw [hy] at l0 HNX
        go_wp2_with fail
        refine (HAC.out _ (below_alloc _ _)).mono ?_
        rintro e w1 ⟨rfl, hb1⟩
        have HB1 := hid (below_trans (below_alloc _ _) hb1)
        clear hb1
        go_wp2_with fail
        go_roundw
        case rel =>
          refine ⟨j + 1, _, _, by omega, by go_num, rfl, rfl, ?_, by decide, ?_, rfl, hin.out.2.2.trans (HB1.out.mono hin.out.2.2.size)⟩
          · simp only [ByteArray.size_append]
            have e2 : (⟨#[33]⟩ : ByteArray).size = 1 := rfl
            omega
          · rw [HNX.out, bl_append, bl_append, bl_append, hin.out.1, hin.out.2.1]
            have e1 : bl (⟨#[33]⟩ : ByteArray) = [33] := rfl
            rw [e1, if_pos trivial]
            simp
        case measure => simp [intOf]; omega
      | false =>
        rw [hy] at l0 HNX
        go_wp2_with fail
        refine (HAC.out _ (below_alloc _ _)).mono ?_
        rintro e w1 ⟨rfl, hb1⟩
        have HB1 := hid (below_trans (below_alloc _ _) hb1)
        clear hb1
        go_wp2_with fail
        go_roundw
        case rel =>
          refine ⟨j + 1, _, _, by omega, by go_num, rfl, rfl, ?_, by decide, ?_, rfl, hin.out.2.2.trans (HB1.out.mono hin.out.2.2.size)⟩
          · simp only [ByteArray.size_append]
            omega
          · rw [HNX.out, bl_append, bl_append, hin.out.1, hin.out.2.1]
            simp
        case measure => simp [intOf]; omega
    · obtain rfl : j = ls.length := by omega
      have HE : Hid (bodyB ps ls = O) := by
        show _ = _
        unfold bodyB
        have := hin.out.1
        rw [List.take_length] at this
        rw [← this, mk_bl]
      go_wp2_with fail
      go_ret
      exact ⟨by rw [HE.out]; rfl, hin.out.2.2⟩
theorem bodyB_size {ps : List Prd} (hn : ∀ q ∈ ps, q.name.size ≤ 8) : ∀ {ls : List Ltr}, (∀ l ∈ ls, TellA ps l.atom) → ∀ k, (litsL ps ls k).length ≤ ls.length * 30
  | [], _, k => by simp [litsL]
  | l :: ls, h, k => by
    have ih := bodyB_size hn (ls := ls) (fun x hx => h x (by simp [hx])) (k + 1)
    have h1 : (atomL ps l.atom).length ≤ 15 := by rw [← bl_atom, bl_size]; exact atomB_small hn (h l (by simp)).few
    have h2 : (if k = 0 then ([32, 58, 45, 32] : List UInt8) else [44, 32]).length ≤ 4 := by split <;> simp
    have h3 : (if l.neg then ([33] : List UInt8) else []).length ≤ 1 := by split <;> simp
    simp only [litsL, List.length_append, List.length_cons]
    omega
theorem valB_size (ps : List Prd) (r : Rul) : (valB ps r).size ≤ 20 := by
  unfold valB
  rw [mk_size]
  unfold valL
  have h1 := dig_size r.src
  have h2 := dig_size r.n
  split
  · simp
  · split <;> simp only [List.length_append, bl_size, List.length_cons, List.length_nil] <;> omega
end Go.Proofs.YtlfccloaoopadafGreatDoor.Text

/-
  The developers' reading of a rule.
-/
namespace Go.Proofs.YtlfccloaoopadafGreatDoor.Text
open Go.ChangeShapes Go.WideShapes Go.ChangeAt Go.RowKit
open Go.Proofs.YtlfccloaoopadafGreatDoor.Sum (KeepsFrom cellsT cellsL LV infoLit)
open Rule (kindOf)
open Prog (slice_cells)

theorem takesP (w : World) (B : Nat) (s p : List UInt8) (h : restAt w B s) : Calls Tryz.prog 61 #[.pointer (some ⟨B, 0, none⟩), .string ⟨p.toArray⟩] w fun e w' => e = .returned (.bool (eatL p s).isSome) ∧ Hid (restAt w' B ((eatL p s).getD s) ∧ Ate B w w') := by
  have := takes_r w B s (mk p) h
  rw [bl_mk] at this
  exact this
theorem num_len {s t : List UInt8} {n : Int} (h : numL s = some (n, t)) : t.length ≤ s.length := by
  obtain ⟨r, h1, _⟩ := num_some h
  rw [(runL_some h1).1, List.length_append]
  omega
/-- a rule that is read up to its body -/
structure RuleInv (w : World) (B N : Nat) (x0 x1 x2 x3 : Value) (hd : List Tm) (wr : World) (s' : List UInt8) : Prop where
  box : boxR wr N x0 x1 x2 x3 (.slice none 0 0)
  out : boxR wr w.heap.size (.int .i64 0) (.slice none 0 0) (.int .i64 0) (.int .i64 0) (.slice none 0 0)
  head : OwnA w.heap.size wr x1 hd
  rest : restAt wr B s'
  ate : Ate B w wr
theorem RuleInv.on {w : World} {B N : Nat} {x0 x1 x2 x3 : Value} {hd : List Tm} {wr w' : World} {s s' : List UInt8} (h : RuleInv w B N x0 x1 x2 x3 hd wr s) (ha : Ate B wr w') (hB : B < w.heap.size) (hN : w.heap.size ≤ N) (hr : restAt w' B s') : RuleInv w B N x0 x1 x2 x3 hd w' s' :=
  ⟨h.box.ate ha (by omega), h.out.ate ha (by omega), h.head.ty (KeepsTy.ate ha hB), hr, h.ate.trans ha⟩
theorem RuleInv.set2 {w : World} {B N : Nat} {x0 x1 x2 x3 : Value} {hd : List Tm} {wr : World} {s : List UInt8} (h : RuleInv w B N x0 x1 x2 x3 hd wr s) (hB : B < w.heap.size) (hN : w.heap.size < N) (u : Value) : RuleInv w B N x0 x1 u x3 hd (wr.setCell ⟨N, 2, none⟩ u) s :=
  ⟨h.box.set2 u, h.out.far (by omega), h.head.ty (KeepsTy.set h.box (by decide)), rest_far h.rest (by omega), ate_far h.ate (by omega) hB⟩
theorem RuleInv.set3 {w : World} {B N : Nat} {x0 x1 x2 x3 : Value} {hd : List Tm} {wr : World} {s : List UInt8} (h : RuleInv w B N x0 x1 x2 x3 hd wr s) (hB : B < w.heap.size) (hN : w.heap.size < N) (u : Value) : RuleInv w B N x0 x1 x2 u hd (wr.setCell ⟨N, 3, none⟩ u) s :=
  ⟨h.box.set3 u, h.out.far (by omega), h.head.ty (KeepsTy.set h.box (by decide)), rest_far h.rest (by omega), ate_far h.ate (by omega) hB⟩
theorem RuleInv.body {w : World} {B N : Nat} {ps : List Prd} {x0 x1 x2 x3 : Value} {hd : List Tm} {wr : World} {s : List UInt8} (h : RuleInv w B N x0 x1 x2 x3 hd wr s) : BodyInv w B N ps s x0 x1 x2 x3 hd wr 0 [] (.slice none 0 0) s :=
  ⟨rfl, h.box, h.out, h.head, ⟨rfl, .inl ⟨rfl, rfl⟩⟩, (fun x hx => absurd hx (List.not_mem_nil)), h.rest, h.ate, by simp, by cases bodyR ps s.length 0 s <;> rfl⟩
theorem body_out {w : World} {B N : Nat} {x0 x1 x2 x3 : Value} {hd : List Tm} {wr : World} {j : Nat} {ls : List LV} {u : Value} {s' : List UInt8} (h : BodyOn w B N x0 x1 x2 x3 hd wr j ls u s') (hm : ls.length = j) (hj : j ≤ 4096) (hB : B < w.heap.size) (y0 y1 y2 y3 y4 : Value) :
    OwnA w.heap.size (((((wr.setCell ⟨w.heap.size, 0, none⟩ y0).setCell ⟨w.heap.size, 1, none⟩ y1).setCell ⟨w.heap.size, 2, none⟩ y2).setCell ⟨w.heap.size, 3, none⟩ y3).setCell ⟨w.heap.size, 4, none⟩ y4) x1 hd ∧
    OwnB w.heap.size (((((wr.setCell ⟨w.heap.size, 0, none⟩ y0).setCell ⟨w.heap.size, 1, none⟩ y1).setCell ⟨w.heap.size, 2, none⟩ y2).setCell ⟨w.heap.size, 3, none⟩ y3).setCell ⟨w.heap.size, 4, none⟩ y4) u (ls.map LV.l) ∧
    restAt (((((wr.setCell ⟨w.heap.size, 0, none⟩ y0).setCell ⟨w.heap.size, 1, none⟩ y1).setCell ⟨w.heap.size, 2, none⟩ y2).setCell ⟨w.heap.size, 3, none⟩ y3).setCell ⟨w.heap.size, 4, none⟩ y4) B s' ∧
    Ate B w (((((wr.setCell ⟨w.heap.size, 0, none⟩ y0).setCell ⟨w.heap.size, 1, none⟩ y1).setCell ⟨w.heap.size, 2, none⟩ y2).setCell ⟨w.heap.size, 3, none⟩ y3).setCell ⟨w.heap.size, 4, none⟩ y4) := by
  subst hm
  have kt := KeepsTy.all5 (n := w.heap.size) (e := 94) h.out (by decide) y0 y1 y2 y3 y4
  have kl := KeepsTy.all5 (n := w.heap.size) (e := 66) h.out (by decide) y0 y1 y2 y3 y4
  refine ⟨h.head.ty kt, ⟨ls, rfl, hj, own_ty h.own kl, fun x hx => (h.lits x hx).ty kt⟩, ?_, ?_⟩
  · exact rest_far (rest_far (rest_far (rest_far (rest_far h.rest (by omega)) (by omega)) (by omega)) (by omega)) (by omega)
  · exact ate_far (ate_far (ate_far (ate_far (ate_far h.ate (Nat.le_refl _) hB) (Nat.le_refl _) hB) (Nat.le_refl _) hB) (Nat.le_refl _) hB) (Nat.le_refl _) hB
set_option maxRecDepth 100000 in
set_option maxHeartbeats 16000000 in
theorem readRule_c (w : World) (B : Nat) (s : List UInt8) (h : restAt w B s) (hs : s.length ≤ 4096) (pv : Value) (ps : List Prd) (hp : predsAt w pv ps) : Calls Tryz.prog 34 #[pv, .pointer (some ⟨B, 0, none⟩)] w (ReadsTo B w (ruleR ps s) fun r v w' => RuleV w.heap.size r v w') := by
  have hB := rest_lt h
  have HP : Hid (∀ x, Ate B w x → predsAt x pv ps) := fun x hx => preds_ate h hp hx
  have HS : Hid (s.length ≤ 4096) := hs
  obtain ⟨pa, pc, rfl, hpl, _⟩ := hp
  obtain ⟨W1, hW1⟩ : ∃ W1, w.alloc (.cells #[.int .i64 0, .slice none 0 0, .int .i64 0, .int .i64 0, .slice none 0 0] 54) = W1 := ⟨_, rfl⟩
  have HA1 : Hid (Ate B w W1) := by rw [← hW1]; exact Ate.of (below_alloc _ _) (by omega)
  have HR1 : Hid (restAt W1 B s) := by rw [← hW1]; exact rest_lasts h (below_alloc _ _)
  have HX1 : Hid (boxR W1 w.heap.size (.int .i64 0) (.slice none 0 0) (.int .i64 0) (.int .i64 0) (.slice none 0 0)) := by rw [← hW1]; exact heap_alloc_new w _
  have HC := atom_c W1 B s HR1.out hs (.slice pa ps.length pc) ps (HP.out _ HA1.out)
  clear hs h
  go_enter Tryz.func34, Tryz.ntmps34
  go_wp2_with fail
  clear hW1
  refine HC.mono ?_
  clear HC
  intro e w1 h1
  cases he : atomR ps s with
  | none =>
    rw [he] at h1
    obtain ⟨rfl, ha⟩ := h1.no
    have HNO : Hid (ruleR ps s = none) := by show _ = _; unfold ruleR; rw [he]; rfl
    clear he
    go_wp2_with fail
    exact ⟨rfl, reads_none HNO.out (HA1.out.trans ha.out)⟩
  | some x =>
    obtain ⟨a, s1⟩ := x
    rw [he] at h1
    obtain ⟨v, rfl, hv1, hx1⟩ := h1.yes
    clear h1
    have K0 : Hid (atomR ps s = some (a, s1)) := he
    obtain ⟨k, hk1, hk2⟩ := (atom_some he).2.there
    clear he
    obtain ⟨av, rfl, hoa⟩ := hv1
    have HL1 : Hid (s1.length ≤ 4096) := by show _ ≤ _; have := atom_len K0.out; have := HS.out; omega
    obtain ⟨N, hN⟩ : ∃ N, w1.heap.size = N := ⟨_, rfl⟩
    obtain ⟨hd, hhd⟩ : ∃ hd, a.args = hd := ⟨_, rfl⟩
    have HHD := hid hhd
    rw [hhd] at hoa
    obtain ⟨x1, hx1'⟩ : ∃ x1, av = x1 := ⟨_, rfl⟩
    subst hx1'
    have hN1 : w.heap.size < N := by
      have h1 := HX1.out.lt
      have h2 := hx1.out.2.size
      omega
    obtain ⟨x0, hx0⟩ : ∃ x0, Value.int .i64 a.pred = x0 := ⟨_, rfl⟩
    have HX0 := hid hx0
    have HI : Hid (RuleInv w B N x0 av (.int .i64 (-1)) (.int .i64 0) hd (w1.alloc (.cells #[.int .i64 a.pred, av, .int .i64 (-1), .int .i64 0, .slice none 0 0] 54)) s1) := by
      have ha2 : Ate B w1 (w1.alloc (.cells #[.int .i64 a.pred, av, .int .i64 (-1), .int .i64 0, .slice none 0 0] 54)) := Ate.of (below_alloc _ _) (Nat.le_of_lt (rest_lt hx1.out.1))
      refine ⟨?_, HX1.out.ate (hx1.out.2.trans ha2) (by omega), (hoa.mono HA1.out.size).ty (KeepsTy.below (below_alloc _ _)), rest_lasts hx1.out.1 (below_alloc _ _), HA1.out.trans (hx1.out.2.trans ha2)⟩
      rw [← hN, ← hx0]
      exact heap_alloc_new w1 _
    obtain ⟨aa, ac, rfl⟩ := own_val hoa.2
    have HKC := hasValues_c (w1.alloc (.cells #[.int .i64 a.pred, .slice aa hd.length ac, .int .i64 (-1), .int .i64 0, .slice none 0 0] 54)) (.slice pa ps.length pc) ps k (HP.out _ HI.out.ate) hk1
    rw [← hk2] at HKC
    clear hoa hx1 HA1 HR1 HX1 hk1 hk2 hhd hx0 k
    go_wp2_with fail
    refine HKC.mono ?_
    clear HKC
    rintro e W2 ⟨rfl, hW2⟩
    rw [← hW2] at HI
    clear hW2 hN
    obtain ⟨x1, hx1⟩ : ∃ x1, Value.slice aa hd.length ac = x1 := ⟨_, rfl⟩
    rw [hx1] at HI
    clear hx1
    by_cases hk : kindOf ps a.pred = 0
    case' pos =>
      have hk' : (!decide (kindOf ps a.pred = 0)) = false := by simp [hk]
      rw [hk']
      clear hk'
      have HBI : Hid (∃ src n sv, valR (kindOf ps a.pred) s1 = some ((src, n), sv) ∧ RuleInv w B N x0 x1 (.int .i64 src) (.int .i64 n) hd W2 sv ∧ sv.length ≤ 4096) := ⟨-1, 0, s1, by unfold valR; rw [if_pos hk], HI.out, HL1.out⟩
      go_wp2_with fail
      clear hk HI
      generalize W2 = WW at *
    case' neg =>
      have hk' : (!decide (kindOf ps a.pred = 0)) = true := by simp [hk]
      rw [hk']
      clear hk'
      have HC := mustP W2 B s1 [32, 61, 32] HI.out.rest
      go_wp2_with fail
      refine HC.mono ?_
      clear HC
      intro e w2 h5
      cases he : eatL [32, 61, 32] s1
      case none =>
        rw [he, Option.map_none] at h5
        obtain ⟨rfl, ha⟩ := h5.no
        have HNO : Hid (ruleR ps s = none) := by
          show _ = _
          have hv : valR (kindOf ps a.pred) s1 = none := by
            unfold valR
            rw [if_neg hk]
            rw [he]
            rfl
          unfold ruleR
          rw [K0.out]
          simp only [Option.bind_some]
          rw [hv]
          rfl
        clear he
        go_wp2_with fail
        exact ⟨rfl, reads_none HNO.out (HI.out.ate.trans ha.out)⟩
      case' some t2 =>
        rw [he, Option.map_some] at h5
        obtain ⟨v, rfl, rfl, hx5⟩ := h5.yes
        clear h5
        have K2 : Hid (eatL [32, 61, 32] s1 = some t2) := he
        clear he
        replace HI := hid (HI.out.on hx5.out.2 hB (by omega) hx5.out.1)
        have HL2 : Hid (t2.length ≤ 4096) := by show _ ≤ _; have := eat_len K2.out; have := HL1.out; omega
        clear hx5
        have HC := takesP w2 B t2 [35] HI.out.rest
        go_wp2_with fail
        refine HC.mono ?_
        clear HC
        rintro e w3 ⟨rfl, hx3⟩
        cases he : eatL [35] t2
        case' some t3 =>
          rw [he] at hx3
          simp only [Option.isSome_some, Option.getD_some] at hx3 ⊢
          have K3 : Hid (eatL [35] t2 = some t3) := he
          clear he
          replace HI := hid (HI.out.on hx3.out.2 hB (by omega) hx3.out.1)
          have HL3 : Hid (t3.length ≤ 4096) := by show _ ≤ _; have := eat_len K3.out; have := HL2.out; omega
          clear hx3
          have HC := number_c w3 B t3 HI.out.rest (by have := HL3.out; omega)
          go_wp2_with fail
          refine HC.mono ?_
          clear HC
          intro e w5 h5
          cases he : numL t3
          case none =>
            rw [he] at h5
            obtain ⟨rfl, ha⟩ := h5.no
            have HNO : Hid (ruleR ps s = none) := by
              show _ = _
              have hv : valR (kindOf ps a.pred) s1 = none := by
                unfold valR
                rw [if_neg hk]
                rw [K2.out]
                simp only [Option.bind_some]
                rw [K3.out]
                simp only
                rw [he]
                rfl
              unfold ruleR
              rw [K0.out]
              simp only [Option.bind_some]
              rw [hv]
              rfl
            clear he
            go_wp2_with fail
            exact ⟨rfl, reads_none HNO.out (HI.out.ate.trans ha.out)⟩
          case' some x =>
            obtain ⟨r5, t5⟩ := x
            rw [he] at h5
            obtain ⟨v, rfl, rfl, hx5⟩ := h5.yes
            clear h5
            have K5 : Hid (numL t3 = some (r5, t5)) := he
            clear he
            replace HI := hid (HI.out.on hx5.out.2 hB (by omega) hx5.out.1)
            have HL5 : Hid (t5.length ≤ 4096) := by show _ ≤ _; have := num_len K5.out; have := HL3.out; omega
            clear hx5
            obtain ⟨c0, c1, c2, c3, c4, hf⟩ := HI.out.box.cells
            have hf2 := hf 2
            have hf3 := hf 3
            clear hf
            obtain ⟨V5, hV5⟩ : ∃ V, w5.setCell ⟨N, 2, none⟩ (.int .i64 r5) = V := ⟨_, rfl⟩
            replace HI := hid (HI.out.set2 hB hN1 (.int .i64 r5))
            rw [hV5] at HI
            have HC := mustP V5 B t5 [43] HI.out.rest
            go_wp2_with fail
            clear hV5 c0 c1 c2 c3 c4 hf2 hf3
            refine HC.mono ?_
            clear HC
            intro e w6 h5
            cases he : eatL [43] t5
            case none =>
              rw [he, Option.map_none] at h5
              obtain ⟨rfl, ha⟩ := h5.no
              have HNO : Hid (ruleR ps s = none) := by
                show _ = _
                have hv : valR (kindOf ps a.pred) s1 = none := by
                  unfold valR
                  rw [if_neg hk]
                  rw [K2.out]
                  simp only [Option.bind_some]
                  rw [K3.out]
                  simp only
                  rw [K5.out]
                  simp only [Option.bind_some]
                  rw [he]
                  rfl
                unfold ruleR
                rw [K0.out]
                simp only [Option.bind_some]
                rw [hv]
                rfl
              clear he
              go_wp2_with fail
              exact ⟨rfl, reads_none HNO.out (HI.out.ate.trans ha.out)⟩
            case' some t6 =>
              rw [he, Option.map_some] at h5
              obtain ⟨v, rfl, rfl, hx5⟩ := h5.yes
              clear h5
              have K6 : Hid (eatL [43] t5 = some t6) := he
              clear he
              replace HI := hid (HI.out.on hx5.out.2 hB (by omega) hx5.out.1)
              have HL6 : Hid (t6.length ≤ 4096) := by show _ ≤ _; have := eat_len K6.out; have := HL5.out; omega
              clear hx5
              have HC := number_c w6 B t6 HI.out.rest (by have := HL6.out; omega)
              go_wp2_with fail
              refine HC.mono ?_
              clear HC
              intro e w7 h5
              cases he : numL t6
              case none =>
                rw [he] at h5
                obtain ⟨rfl, ha⟩ := h5.no
                have HNO : Hid (ruleR ps s = none) := by
                  show _ = _
                  have hv : valR (kindOf ps a.pred) s1 = none := by
                    unfold valR
                    rw [if_neg hk]
                    rw [K2.out]
                    simp only [Option.bind_some]
                    rw [K3.out]
                    simp only
                    rw [K5.out]
                    simp only [Option.bind_some]
                    rw [K6.out]
                    simp only [Option.bind_some]
                    rw [he]
                    rfl
                  unfold ruleR
                  rw [K0.out]
                  simp only [Option.bind_some]
                  rw [hv]
                  rfl
                clear he
                go_wp2_with fail
                exact ⟨rfl, reads_none HNO.out (HI.out.ate.trans ha.out)⟩
              case' some x =>
                obtain ⟨r7, t7⟩ := x
                rw [he] at h5
                obtain ⟨v, rfl, rfl, hx5⟩ := h5.yes
                clear h5
                have K7 : Hid (numL t6 = some (r7, t7)) := he
                clear he
                replace HI := hid (HI.out.on hx5.out.2 hB (by omega) hx5.out.1)
                have HL7 : Hid (t7.length ≤ 4096) := by show _ ≤ _; have := num_len K7.out; have := HL6.out; omega
                clear hx5
                obtain ⟨c0, c1, c2, c3, c4, hf⟩ := HI.out.box.cells
                have hf2 := hf 2
                have hf3 := hf 3
                clear hf
                obtain ⟨V7, hV7⟩ : ∃ V, w7.setCell ⟨N, 3, none⟩ (.int .i64 r7) = V := ⟨_, rfl⟩
                replace HI := hid (HI.out.set3 hB hN1 (.int .i64 r7))
                rw [hV7] at HI
                have HBI : Hid (∃ src n sv, valR (kindOf ps a.pred) s1 = some ((src, n), sv) ∧ RuleInv w B N x0 x1 (.int .i64 src) (.int .i64 n) hd V7 sv ∧ sv.length ≤ 4096) := ⟨r5, r7, t7, by
                    unfold valR
                    rw [if_neg hk]
                    rw [K2.out]
                    simp only [Option.bind_some]
                    rw [K3.out]
                    simp only
                    rw [K5.out]
                    simp only [Option.bind_some]
                    rw [K6.out]
                    simp only [Option.bind_some]
                    rw [K7.out]
                    rfl, HI.out, HL7.out⟩
                go_wp2_with fail
                clear hk HI hV7 c0 c1 c2 c3 c4 hf2 hf3
                generalize V7 = WW at *
        case' none =>
          rw [he] at hx3
          simp only [Option.isSome_none, Option.getD_none] at hx3 ⊢
          have K3 : Hid (eatL [35] t2 = none) := he
          clear he
          replace HI := hid (HI.out.on hx3.out.2 hB (by omega) hx3.out.1)
          obtain ⟨t3, ht3⟩ : ∃ t3, t2 = t3 := ⟨_, rfl⟩
          have HL3 : Hid (t3.length ≤ 4096) := by rw [← ht3]; exact HL2.out
          rw [ht3] at HI K2 K3
          clear ht3 HL2 hx3
          have HC := number_c w3 B t3 HI.out.rest (by have := HL3.out; omega)
          go_wp2_with fail
          refine HC.mono ?_
          clear HC
          intro e w4 h5
          cases he : numL t3
          case none =>
            rw [he] at h5
            obtain ⟨rfl, ha⟩ := h5.no
            have HNO : Hid (ruleR ps s = none) := by
              show _ = _
              have hv : valR (kindOf ps a.pred) s1 = none := by
                unfold valR
                rw [if_neg hk]
                rw [K2.out]
                simp only [Option.bind_some]
                rw [K3.out]
                simp only
                rw [he]
                rfl
              unfold ruleR
              rw [K0.out]
              simp only [Option.bind_some]
              rw [hv]
              rfl
            clear he
            go_wp2_with fail
            exact ⟨rfl, reads_none HNO.out (HI.out.ate.trans ha.out)⟩
          case' some x =>
            obtain ⟨r4, t4⟩ := x
            rw [he] at h5
            obtain ⟨v, rfl, rfl, hx5⟩ := h5.yes
            clear h5
            have K4 : Hid (numL t3 = some (r4, t4)) := he
            clear he
            replace HI := hid (HI.out.on hx5.out.2 hB (by omega) hx5.out.1)
            have HL4 : Hid (t4.length ≤ 4096) := by show _ ≤ _; have := num_len K4.out; have := HL3.out; omega
            clear hx5
            obtain ⟨c0, c1, c2, c3, c4, hf⟩ := HI.out.box.cells
            have hf2 := hf 2
            have hf3 := hf 3
            clear hf
            obtain ⟨V4, hV4⟩ : ∃ V, w4.setCell ⟨N, 3, none⟩ (.int .i64 r4) = V := ⟨_, rfl⟩
            replace HI := hid (HI.out.set3 hB hN1 (.int .i64 r4))
            rw [hV4] at HI
            have HBI : Hid (∃ src n sv, valR (kindOf ps a.pred) s1 = some ((src, n), sv) ∧ RuleInv w B N x0 x1 (.int .i64 src) (.int .i64 n) hd V4 sv ∧ sv.length ≤ 4096) := ⟨-1, r4, t4, by
                unfold valR
                rw [if_neg hk]
                rw [K2.out]
                simp only [Option.bind_some]
                rw [K3.out]
                simp only
                rw [K4.out]
                rfl, HI.out, HL4.out⟩
            go_wp2_with fail
            clear hk HI hV4 c0 c1 c2 c3 c4 hf2 hf3
            generalize V4 = WW at *
    all_goals
      obtain ⟨src, n, sv, hV0, hI0, hL0⟩ := HBI.out
      have KV : Hid (valR (kindOf ps a.pred) s1 = some ((src, n), sv)) := hV0
      have HI0 := hid hI0
      have HSV : Hid (sv.length ≤ 4096) := hL0
      clear HBI hV0 hI0 hL0
      obtain ⟨x2, hx2⟩ : ∃ x2, Value.int .i64 src = x2 := ⟨_, rfl⟩
      obtain ⟨x3, hx3⟩ : ∃ x3, Value.int .i64 n = x3 := ⟨_, rfl⟩
      have HX2 := hid hx2
      have HX3 := hid hx3
      rw [hx2, hx3] at HI0
      clear hx2 hx3
      go_loopw [6] (fun ah wr => ∃ (j : Nat) (ls : List LV) (u : Value) (sj : List UInt8) (T : ByteArray), ah = .string T ∧ Hid (bl T = aheadR j) ∧ Hid (BodyInv w B N ps sv x0 x1 x2 x3 hd wr j ls u sj)) (fun _ wr => restLen wr B)
      case atStart => exact ⟨0, [], _, sv, _, rfl, rfl, HI0.out.body⟩
      case round =>
        clear HI0
        obtain ⟨j, ls, u, sj, T, rfl, HTT, HI⟩ := hrel
        have HC := takes_r wr B sj T HI.out.rest
        rw [HTT.out] at HC
        go_wp2_with fail
        refine HC.mono ?_
        clear HC
        rintro e w4 ⟨rfl, hx4⟩
        cases he : eatL (aheadR j) sj with
        | none =>
          rw [he] at hx4
          simp only [Option.isSome_none, Option.getD_none] at hx4 ⊢
          have HEND : Hid (bodyR ps sv.length 0 sv = some (ls.map LV.l, sj)) := by
            show _ = _
            rw [HI.out.body, body_end he]
            simp
          clear he
          have HON := hid (HI.out.on hx4.out.2 hB (by omega) hx4.out.1)
          have HC := mustP w4 B sj [46, 10] hx4.out.1
          go_wp2_with fail
          refine HC.mono ?_
          clear HC
          intro e w5 h5
          cases he : eatL [46, 10] sj with
          | none =>
            rw [he, Option.map_none] at h5
            obtain ⟨rfl, ha⟩ := h5.no
            have HNO : Hid (ruleR ps s = none) := by
              show _ = _
              unfold ruleR
              rw [K0.out]
              simp only [Option.bind_some]
              rw [KV.out]
              simp only [Option.bind_some]
              rw [HEND.out]
              simp only [Option.bind_some]
              rw [he]
              rfl
            clear he
            go_wp2_with fail
            exact ⟨rfl, reads_none HNO.out (HON.out.ate.trans ha.out)⟩
          | some s4 =>
            rw [he, Option.map_some] at h5
            obtain ⟨v, rfl, rfl, hx5⟩ := h5.yes
            clear h5
            have HYES : Hid (ruleR ps s = some (⟨a, src, n, ls.map LV.l⟩, s4)) := by
              show _ = _
              unfold ruleR
              rw [K0.out]
              simp only [Option.bind_some]
              rw [KV.out]
              simp only [Option.bind_some]
              rw [HEND.out]
              simp only [Option.bind_some]
              rw [he]
              rfl
            clear he
            have HO5 := hid (HI.out.on (hx4.out.2.trans hx5.out.2) hB (by omega) hx5.out.1)
            have HFIN := hid (body_out HO5.out HI.out.many (by have := HI.out.len; have := HSV.out; omega) hB x0 x1 x2 x3 u)
            obtain ⟨c0, c1, c2, c3, c4, hf⟩ := HO5.out.box.cells
            obtain ⟨d0, d1, d2, d3, d4, hg⟩ := HO5.out.out.cells
            obtain ⟨ua, uc, rfl⟩ := own_val HO5.out.own
            obtain ⟨ha, hc, rfl⟩ := own_val HO5.out.head.2
            have e0 := HX0.out
            have e2 := HX2.out
            have e3 := HX3.out
            subst e0 e2 e3
            clear hx4 hx5 HON
            go_wp2_with fail
            exact bodyPost_ret (v := .agg #[.int .i64 a.pred, .slice ha hd.length hc, .int .i64 src, .int .i64 n, .slice ua j uc]) (by simp [results, Tryz.results34, go_sem, d0, d1, d2, d3, d4]) rfl (reads_some HYES.out HFIN.out.2.2.2 ⟨_, _, rfl, by have := HFIN.out.1; have e := HHD.out; subst e; exact this, HFIN.out.2.1⟩ HFIN.out.2.2.1)
        | some s3 =>
          rw [he] at hx4
          simp only [Option.isSome_some, Option.getD_some] at hx4 ⊢
          have K2 : Hid (eatL (aheadR j) sj = some s3) := he
          clear he
          have HC := takesP w4 B s3 [33] hx4.out.1
          go_wp2_with fail
          refine HC.mono ?_
          clear HC
          rintro e w5 ⟨rfl, hx5⟩
          obtain ⟨ng, hng⟩ : ∃ ng, (eatL [33] s3).isSome = ng := ⟨_, rfl⟩
          have HNG := hid hng
          rw [hng]
          clear hng
          have HA5 : Hid (Ate B wr w5) := hx4.out.2.trans hx5.out.2
          have HR5 : Hid (restAt w5 B ((eatL [33] s3).getD s3)) := hx5.out.1
          have HL5 : Hid (((eatL [33] s3).getD s3).length ≤ 4096) := by
            show _ ≤ _
            have := bang_len s3
            have := eat_len K2.out
            have := HI.out.len
            have := HSV.out
            omega
          have q5 : w5.drew.cell? ⟨N, 4, none⟩ = some u := (HI.out.box.ate HA5.out (by omega)).cells.2.2.2.2.1
          clear hx4 hx5
          go_wp2_with fail
          cases ht : atomR ps ((eatL [33] s3).getD s3) with
          | none =>
            have K3 : Hid (atomR ps ((eatL [33] s3).getD s3) = none) := ht
            clear ht
            have HT : Hid (Calls Tryz.prog 60 #[.pointer (some ⟨B, 0, none⟩), .slice pa ps.length pc] w5.drew (ReadsTo B w5.drew none fun a v w' => AtomV w5.drew.heap.size a v w')) := by
              have := atom_c w5.drew B _ (rest_drew HR5.out) HL5.out (.slice pa ps.length pc) ps (HP.out _ (HI.out.ate.trans (HA5.out.trans (Ate.drew B w5))))
              rw [K3.out] at this
              exact this
            have HNO : Hid (ruleR ps s = none) := by
              show _ = _
              unfold ruleR
              rw [K0.out]
              simp only [Option.bind_some]
              rw [KV.out]
              simp only [Option.bind_some]
              rw [HI.out.body, body_bad K2.out K3.out]
              rfl
            refine wp_region_held_drew (S := (fun _ : World => True)) (by kernel_rfl) trivial (fun hHeld => ?_)
            refine wpAnyH_take (i := 0) (v := ?_) rfl (by kernel_rfl) (by kernel_rfl) (by kernel_rfl) (fun _ _ _ h => h) (Or.inl ⟨by rfl, ?_⟩) (by assumption) ?_
            rotate_left
            · (intro w hSw; go_simp; try with_reducible rfl)
            simp only [Act.put]
            refine wpAnyH_take (i := 2) (v := ?_) rfl (by kernel_rfl) (by kernel_rfl) (by kernel_rfl) (fun _ _ _ h => h) (Or.inl ⟨by rfl, ?_⟩) (by assumption) ?_
            rotate_left
            · (intro w hSw; go_simp; try with_reducible rfl)
            simp only [Act.put]
            refine wpAnyH_take (i := 3) (v := ?_) rfl (by kernel_rfl) (by kernel_rfl) (by kernel_rfl) (fun _ _ _ h => h) (Or.inl ⟨by rfl, ?_⟩) (by assumption) ?_
            rotate_left
            · (intro w hSw; go_simp; try with_reducible rfl)
            simp only [Act.put]
            refine wpAnyH_take (i := 4) (v := ?_) rfl (by kernel_rfl) (by kernel_rfl) (by kernel_rfl) (fun _ _ _ h => h) (Or.inl ⟨by rfl, ?_⟩) (by assumption) ?_
            rotate_left
            · (intro w hSw; go_simp; try with_reducible rfl)
            simp only [Act.put]
            refine wpAnyH_ready (rs := [1, 5]) (by kernel_rfl) (by simp) ?_
            refine AllReadyH.cons rfl (fun K hK => ?_) ?_
            · go_simp
              refine hK.out _ _ trivial (fun hHeld => ?_)
              clear hK K
              try simp only [Act.put, List.setIfInBounds_toArray, List.set_cons_zero, List.set_cons_succ]
              refine wpAnyH_ready (rs := [5]) (by kernel_rfl) (by simp) ?_
              refine AllReadyH.cons rfl (fun K hK => ?_) AllReadyH.nil
              go_simp
              refine HT.out.mono ?_
              intro e w6 h6
              obtain ⟨rfl, hx6⟩ := h6.no
              clear h6
              exact ⟨rfl, reads_none HNO.out (HI.out.ate.trans (HA5.out.trans ((Ate.drew B w5).trans hx6.out)))⟩
            · refine AllReadyH.cons rfl (fun K hK => ?_) AllReadyH.nil
              go_simp
              refine HT.out.mono ?_
              intro e w6 h6
              obtain ⟨rfl, hx6⟩ := h6.no
              clear h6
              exact ⟨rfl, reads_none HNO.out (HI.out.ate.trans (HA5.out.trans ((Ate.drew B w5).trans hx6.out)))⟩
          | some x =>
            obtain ⟨a2, s2⟩ := x
            have K3 : Hid (atomR ps ((eatL [33] s3).getD s3) = some (a2, s2)) := ht
            clear ht
            obtain ⟨i0, hi0, hz0, hz1, hz2⟩ := info_parts infoLit
            have HAFT : Hid (∀ w6 av, restAt w6 B s2 → Ate B w5.drew w6 → OwnA w5.drew.heap.size w6 av a2.args → w6.cell? ⟨N, 4, none⟩ = some u ∧ (w6.alloc (.cells #[.bool ng, .int .i64 a2.pred, av] 66)).cell? ⟨N, 4, none⟩ = some u ∧ Hid (BodyOn w B N x0 x1 x2 x3 hd (w6.alloc (.cells #[.bool ng, .int .i64 a2.pred, av] 66)) j ls u s2) ∧ Hid (OwnA w.heap.size (w6.alloc (.cells #[.bool ng, .int .i64 a2.pred, av] 66)) av a2.args) ∧ Hid (w.heap.size ≤ w6.heap.size + 1 ∧ (w6.alloc (.cells #[.bool ng, .int .i64 a2.pred, av] 66)).heap.size = w6.heap.size + 1)) := fun w6 av hr ha ho => by
              have h1 := HI.out.on (HA5.out.trans ((Ate.drew B w5).trans ha)) hB (by omega) hr
              have ha2 : Ate B w6 (w6.alloc (.cells #[.bool ng, .int .i64 a2.pred, av] 66)) := Ate.of (below_alloc _ _) (Nat.le_of_lt (rest_lt hr))
              have h2 := HI.out.on (HA5.out.trans ((Ate.drew B w5).trans (ha.trans ha2))) hB (by omega) (rest_lasts hr (below_alloc w6 (.cells #[.bool ng, .int .i64 a2.pred, av] 66)))
              have hle : w.heap.size ≤ w5.drew.heap.size := (HI.out.ate.trans (HA5.out.trans (Ate.drew B w5))).size
              refine ⟨h1.box.cells.2.2.2.2.1, h2.box.cells.2.2.2.2.1, h2, (ho.mono hle).ty (KeepsTy.below (below_alloc _ _)), ?_, World.size_alloc _ _⟩
              have := h1.ate.size
              omega
            have hj9 : j ≤ 4096 := by have := HI.out.len; have := HSV.out; omega
            have HT : Hid (Calls Tryz.prog 60 #[.pointer (some ⟨B, 0, none⟩), .slice pa ps.length pc] w5.drew (ReadsTo B w5.drew (some (a2, s2)) fun a v w' => AtomV w5.drew.heap.size a v w')) := by
              have := atom_c w5.drew B _ (rest_drew HR5.out) HL5.out (.slice pa ps.length pc) ps (HP.out _ (HI.out.ate.trans (HA5.out.trans (Ate.drew B w5))))
              rw [K3.out] at this
              exact this
            refine wp_region_noPanic ?_
            refine wp_region_held_drew (S := (fun _ : World => True)) (by kernel_rfl) trivial (fun hHeld => ?_)
            refine wpAnyH_take (i := 0) (v := ?_) rfl (by kernel_rfl) (by kernel_rfl) (by kernel_rfl) (fun _ _ _ h => h) (Or.inl ⟨by rfl, ?_⟩) (by assumption) ?_
            rotate_left
            · (intro w hSw; go_simp; try with_reducible rfl)
            simp only [Act.put]
            refine wpAnyH_take (i := 2) (v := ?_) rfl (by kernel_rfl) (by kernel_rfl) (by kernel_rfl) (fun _ _ _ h => h) (Or.inl ⟨by rfl, ?_⟩) (by assumption) ?_
            rotate_left
            · (intro w hSw; go_simp; try with_reducible rfl)
            simp only [Act.put]
            refine wpAnyH_take (i := 3) (v := ?_) rfl (by kernel_rfl) (by kernel_rfl) (by kernel_rfl) (fun _ _ _ h => h) (Or.inl ⟨by rfl, ?_⟩) (by assumption) ?_
            rotate_left
            · (intro w hSw; go_simp; try with_reducible rfl)
            simp only [Act.put]
            refine wpAnyH_take (i := 4) (v := ?_) rfl (by kernel_rfl) (by kernel_rfl) (by kernel_rfl) (fun _ _ _ h => h) (Or.inl ⟨by rfl, ?_⟩) (by assumption) ?_
            rotate_left
            · (intro w hSw; go_simp; try with_reducible rfl)
            simp only [Act.put]
            refine wpAnyH_ready (rs := [1, 5]) (by kernel_rfl) (by simp) ?_
            refine AllReadyH.cons rfl (fun K hK => ?_) ?_
            · go_simp
              refine hK.out _ _ trivial (fun hHeld => ?_)
              clear hK K
              try simp only [Act.put, List.setIfInBounds_toArray, List.set_cons_zero, List.set_cons_succ]
              refine wpAnyH_ready (rs := [5]) (by kernel_rfl) (by simp) ?_
              refine AllReadyH.cons rfl (fun K hK => ?_) AllReadyH.nil
              go_simp
              refine HT.out.mono ?_
              intro e w6 h6
              obtain ⟨v, rfl, hv6, hx6⟩ := h6.yes
              clear h6
              obtain ⟨a2v, rfl, hoa⟩ := hv6
              obtain ⟨a2a, a2c, rfl⟩ := own_val hoa.2
              obtain ⟨q6, qV, HV, HOA, HSE⟩ := HAFT.out w6 (.slice a2a a2.args.length a2c) hx6.out.1 hx6.out.2 hoa
              clear hoa
              refine hK.out _ _ trivial (fun hHeld => ?_)
              clear hK K
              try simp only [Act.put, List.setIfInBounds_toArray, List.set_cons_zero, List.set_cons_succ]
              refine wpAnyH_take (i := 6) (v := ?_) rfl (by kernel_rfl) (by kernel_rfl) (by kernel_rfl) (fun _ _ _ h => h) (Or.inl ⟨by rfl, ?_⟩) (by assumption) ?_
              rotate_left
              · (intro w hSw; go_simp; try with_reducible rfl)
              simp only [Act.put]
              refine wpAnyH_ready (rs := [7]) (by kernel_rfl) (by simp) ?_
              refine AllReadyH.cons rfl (fun K hK => ?_) AllReadyH.nil
              go_simp
              refine hK.out _ _ trivial (fun hHeld => ?_)
              clear hK K
              try simp only [Act.put, List.setIfInBounds_toArray, List.set_cons_zero, List.set_cons_succ]
              refine wpAnyH_ready (rs := [8]) (by kernel_rfl) (by simp) ?_
              refine AllReadyH.cons rfl (fun K hK => ?_) AllReadyH.nil
              refine step_append_lies _ (by rfl) _ _ 52 (by rfl) w.heap.size 66 i0 (.agg #[.bool false, .int .i64 0, .slice none 0 0]) 3 40 Tryz.underlying52 hi0 hz0 hz1 hz2 (by rfl) (by omega) u j (cellsL ls) (by rfl) HV.out.own ⟨w6.heap.size, 0, none⟩ 1 1 [.bool ng, .int .i64 a2.pred, .slice a2a a2.args.length a2c] (by rfl) (by rfl) new_cells3 (by intro u hu; simp at hu; rcases hu with rfl | rfl | rfl <;> rfl) (by omega) (by unfold maxLen; omega) (by omega) (by have := HSE.out; omega) (w6.heap.size + 1) (World.size_alloc _ _) ?_
              intro g9 cap9 W9 hown9 hgrow9 hat9 hlt9
              obtain ⟨n1, n2, HN9⟩ := lit_next HI.out.many HI.out.len HI.out.body K2.out HNG.out K3.out hB hN1 HV.out HOA.out (by exact hgrow9) (by exact hown9)
              clear hat9 hlt9 hown9 hgrow9
              refine hK.out _ _ trivial (fun hHeld => ?_)
              clear hK K
              try simp only [Act.put, List.setIfInBounds_toArray]
              refine wpAnyH_take (i := 9) (v := ?_) rfl (by kernel_rfl) (by kernel_rfl) (by kernel_rfl) (fun _ _ _ h => h) (Or.inl ⟨by rfl, ?_⟩) (by assumption) ?_
              rotate_left
              · (intro w hSw; go_simp; try with_reducible rfl)
              simp only [Act.put]
              refine wpAnyH_ready (rs := [10]) (by kernel_rfl) (by simp) ?_
              refine AllReadyH.cons rfl (fun K hK => ?_) AllReadyH.nil
              go_simp
              refine hK.out _ _ trivial (fun hHeld => ?_)
              clear hK K
              try simp only [Act.put, List.setIfInBounds_toArray, List.set_cons_zero, List.set_cons_succ]
              refine wpAnyH_done (by kernel_rfl) ?_ _
              refine NoPanic.normal ?_
              clear n1 n2 q5 q6 qV
              go_wp2_with fail
              go_roundw
              case rel => exact ⟨j + 1, _, _, _, _, rfl, rfl, HN9.out.2⟩
              case measure => have h1 := HN9.out; rw [rest_len h1.2.rest, rest_len HI.out.rest]; exact h1.1
            · refine AllReadyH.cons rfl (fun K hK => ?_) AllReadyH.nil
              go_simp
              refine HT.out.mono ?_
              intro e w6 h6
              obtain ⟨v, rfl, hv6, hx6⟩ := h6.yes
              clear h6
              obtain ⟨a2v, rfl, hoa⟩ := hv6
              obtain ⟨a2a, a2c, rfl⟩ := own_val hoa.2
              obtain ⟨q6, qV, HV, HOA, HSE⟩ := HAFT.out w6 (.slice a2a a2.args.length a2c) hx6.out.1 hx6.out.2 hoa
              clear hoa
              refine hK.out _ _ trivial (fun hHeld => ?_)
              clear hK K
              try simp only [Act.put, List.setIfInBounds_toArray, List.set_cons_zero, List.set_cons_succ]
              refine wpAnyH_take (i := 6) (v := ?_) rfl (by kernel_rfl) (by kernel_rfl) (by kernel_rfl) (fun _ _ _ h => h) (Or.inl ⟨by rfl, ?_⟩) (by assumption) ?_
              rotate_left
              · (intro w hSw; go_simp; try with_reducible rfl)
              simp only [Act.put]
              refine wpAnyH_ready (rs := [1, 7]) (by kernel_rfl) (by simp) ?_
              refine AllReadyH.cons rfl (fun K hK => ?_) ?_
              · go_simp
                refine hK.out _ _ trivial (fun hHeld => ?_)
                clear hK K
                try simp only [Act.put, List.setIfInBounds_toArray, List.set_cons_zero, List.set_cons_succ]
                refine wpAnyH_ready (rs := [7]) (by kernel_rfl) (by simp) ?_
                refine AllReadyH.cons rfl (fun K hK => ?_) AllReadyH.nil
                go_simp
                refine hK.out _ _ trivial (fun hHeld => ?_)
                clear hK K
                try simp only [Act.put, List.setIfInBounds_toArray, List.set_cons_zero, List.set_cons_succ]
                refine wpAnyH_ready (rs := [8]) (by kernel_rfl) (by simp) ?_
                refine AllReadyH.cons rfl (fun K hK => ?_) AllReadyH.nil
                refine step_append_lies _ (by rfl) _ _ 52 (by rfl) w.heap.size 66 i0 (.agg #[.bool false, .int .i64 0, .slice none 0 0]) 3 40 Tryz.underlying52 hi0 hz0 hz1 hz2 (by rfl) (by omega) u j (cellsL ls) (by rfl) HV.out.own ⟨w6.heap.size, 0, none⟩ 1 1 [.bool ng, .int .i64 a2.pred, .slice a2a a2.args.length a2c] (by rfl) (by rfl) new_cells3 (by intro u hu; simp at hu; rcases hu with rfl | rfl | rfl <;> rfl) (by omega) (by unfold maxLen; omega) (by omega) (by have := HSE.out; omega) (w6.heap.size + 1) (World.size_alloc _ _) ?_
                intro g9 cap9 W9 hown9 hgrow9 hat9 hlt9
                obtain ⟨n1, n2, HN9⟩ := lit_next HI.out.many HI.out.len HI.out.body K2.out HNG.out K3.out hB hN1 HV.out HOA.out (by exact hgrow9) (by exact hown9)
                clear hat9 hlt9 hown9 hgrow9
                refine hK.out _ _ trivial (fun hHeld => ?_)
                clear hK K
                try simp only [Act.put, List.setIfInBounds_toArray]
                refine wpAnyH_take (i := 9) (v := ?_) rfl (by kernel_rfl) (by kernel_rfl) (by kernel_rfl) (fun _ _ _ h => h) (Or.inl ⟨by rfl, ?_⟩) (by assumption) ?_
                rotate_left
                · (intro w hSw; go_simp; try with_reducible rfl)
                simp only [Act.put]
                refine wpAnyH_ready (rs := [10]) (by kernel_rfl) (by simp) ?_
                refine AllReadyH.cons rfl (fun K hK => ?_) AllReadyH.nil
                go_simp
                refine hK.out _ _ trivial (fun hHeld => ?_)
                clear hK K
                try simp only [Act.put, List.setIfInBounds_toArray, List.set_cons_zero, List.set_cons_succ]
                refine wpAnyH_done (by kernel_rfl) ?_ _
                refine NoPanic.normal ?_
                clear n1 n2 q5 q6 qV
                go_wp2_with fail
                go_roundw
                case rel => exact ⟨j + 1, _, _, _, _, rfl, rfl, HN9.out.2⟩
                case measure => have h1 := HN9.out; rw [rest_len h1.2.rest, rest_len HI.out.rest]; exact h1.1
              · refine AllReadyH.cons rfl (fun K hK => ?_) AllReadyH.nil
                go_simp
                refine hK.out _ _ trivial (fun hHeld => ?_)
                clear hK K
                try simp only [Act.put, List.setIfInBounds_toArray, List.set_cons_zero, List.set_cons_succ]
                refine wpAnyH_ready (rs := [1]) (by kernel_rfl) (by simp) ?_
                refine AllReadyH.cons rfl (fun K hK => ?_) AllReadyH.nil
                go_simp
                refine hK.out _ _ trivial (fun hHeld => ?_)
                clear hK K
                try simp only [Act.put, List.setIfInBounds_toArray, List.set_cons_zero, List.set_cons_succ]
                refine wpAnyH_ready (rs := [8]) (by kernel_rfl) (by simp) ?_
                refine AllReadyH.cons rfl (fun K hK => ?_) AllReadyH.nil
                refine step_append_lies _ (by rfl) _ _ 52 (by rfl) w.heap.size 66 i0 (.agg #[.bool false, .int .i64 0, .slice none 0 0]) 3 40 Tryz.underlying52 hi0 hz0 hz1 hz2 (by rfl) (by omega) u j (cellsL ls) (by rfl) HV.out.own ⟨w6.heap.size, 0, none⟩ 1 1 [.bool ng, .int .i64 a2.pred, .slice a2a a2.args.length a2c] (by rfl) (by rfl) new_cells3 (by intro u hu; simp at hu; rcases hu with rfl | rfl | rfl <;> rfl) (by omega) (by unfold maxLen; omega) (by omega) (by have := HSE.out; omega) (w6.heap.size + 1) (World.size_alloc _ _) ?_
                intro g9 cap9 W9 hown9 hgrow9 hat9 hlt9
                obtain ⟨n1, n2, HN9⟩ := lit_next HI.out.many HI.out.len HI.out.body K2.out HNG.out K3.out hB hN1 HV.out HOA.out (by exact hgrow9) (by exact hown9)
                clear hat9 hlt9 hown9 hgrow9
                refine hK.out _ _ trivial (fun hHeld => ?_)
                clear hK K
                try simp only [Act.put, List.setIfInBounds_toArray]
                refine wpAnyH_take (i := 9) (v := ?_) rfl (by kernel_rfl) (by kernel_rfl) (by kernel_rfl) (fun _ _ _ h => h) (Or.inl ⟨by rfl, ?_⟩) (by assumption) ?_
                rotate_left
                · (intro w hSw; go_simp; try with_reducible rfl)
                simp only [Act.put]
                refine wpAnyH_ready (rs := [10]) (by kernel_rfl) (by simp) ?_
                refine AllReadyH.cons rfl (fun K hK => ?_) AllReadyH.nil
                go_simp
                refine hK.out _ _ trivial (fun hHeld => ?_)
                clear hK K
                try simp only [Act.put, List.setIfInBounds_toArray, List.set_cons_zero, List.set_cons_succ]
                refine wpAnyH_done (by kernel_rfl) ?_ _
                refine NoPanic.normal ?_
                clear n1 n2 q5 q6 qV
                go_wp2_with fail
                go_roundw
                case rel => exact ⟨j + 1, _, _, _, _, rfl, rfl, HN9.out.2⟩
                case measure => have h1 := HN9.out; rw [rest_len h1.2.rest, rest_len HI.out.rest]; exact h1.1
end Go.Proofs.YtlfccloaoopadafGreatDoor.Text

/-
  A program that is read: the box in which it lies, the rows of its predicates and rules; one predicate, one rule more.
-/
namespace Go.Proofs.YtlfccloaoopadafGreatDoor.Text
open Go.ChangeShapes Go.WideShapes Go.ChangeAt Go.RowKit
open Go.Proofs.YtlfccloaoopadafGreatDoor.Sum (KeepsFrom cellsT cellsL cellsP cellsR LV RV)

/-- all blocks but two are kept -/
structure Kept2 (B P : Nat) (w w' : World) : Prop where
  low : Below P w w'
  rest : ∀ b, P < b → b ≠ B → b < w.heap.size → w'.heap[b]? = w.heap[b]?
theorem Kept2.refl (B P : Nat) (w : World) : Kept2 B P w w := ⟨Below.refl _ _, fun _ _ _ _ => rfl⟩
theorem Kept2.trans {B P : Nat} {w w1 w2 : World} (h : Kept2 B P w w1) (k : Kept2 B P w1 w2) : Kept2 B P w w2 := ⟨h.low.trans k.low, fun b h1 h2 h3 => (k.rest b h1 h2 (Nat.lt_of_lt_of_le h3 h.low.size)).trans (h.rest b h1 h2 h3)⟩
theorem Kept2.ate {B P : Nat} {w w' : World} (h : Ate B w w') (hP : P < B) : Kept2 B P w w' := ⟨h.below.mono (by omega), fun b _ h2 h3 => h.block h2 h3⟩
theorem Kept2.size {B P : Nat} {w w' : World} (h : Kept2 B P w w') : w.heap.size ≤ w'.heap.size := h.low.size
theorem Kept2.box {B P k : Nat} {w w' : World} {v : Value} (h : Kept2 B P w w') : Kept2 B P w (w'.setCell ⟨P, k, none⟩ v) := ⟨h.low.setCell (p := ⟨P, k, none⟩) (Nat.le_refl _) _, fun b h1 h2 h3 => by rw [Sum.heap_other (by omega)]; exact h.rest b h1 h2 h3⟩
theorem Kept2.grown {B P : Nat} {w W W9 : World} {row : Option Nat} (h : Kept2 B P w W) (hg : W.grownBy W9 row) (hr : ∀ r, row = some r → w.heap.size ≤ r) (hP : P < w.heap.size) : Kept2 B P w W9 := by
  have hs := h.size
  refine ⟨h.low.grown hg (by omega) (fun r e => by have := hr r e; omega), fun b h1 h2 h3 => ?_⟩
  refine (hg.block b (by omega) (fun e => ?_)).trans (h.rest b h1 h2 h3)
  have := hr b e.symm
  omega
/-- a box of a program -/
def boxQ (w : World) (b : Nat) (x y : Value) : Prop := w.heap[b]? = some (.cells #[x, y] 25 (0, 0))
theorem boxQ.ate {B b : Nat} {w w' : World} {x y : Value} (h : boxQ w b x y) (ha : Ate B w w') (hb : b ≠ B) : boxQ w' b x y := (ha.block hb (Array.getElem?_eq_some_iff.1 h).1).trans h
theorem boxQ.cells {b : Nat} {w : World} {x y : Value} (h : boxQ w b x y) : w.cell? ⟨b, 0, none⟩ = some x ∧ w.cell? ⟨b, 1, none⟩ = some y ∧ w.frozen? ⟨b, 0, none⟩ = false ∧ w.frozen? ⟨b, 1, none⟩ = false := by
  unfold boxQ at h
  simp [World.cell?, World.frozen?, h]
theorem boxQ.lt {b : Nat} {w : World} {x y : Value} (h : boxQ w b x y) : b < w.heap.size := (Array.getElem?_eq_some_iff.1 h).1
theorem boxQ.set0 {b : Nat} {w : World} {x y : Value} (h : boxQ w b x y) (u : Value) : boxQ (w.setCell ⟨b, 0, none⟩ u) b u y := heap_setCell_same w b 0 _ _ u h
theorem boxQ.set1 {b : Nat} {w : World} {x y : Value} (h : boxQ w b x y) (u : Value) : boxQ (w.setCell ⟨b, 1, none⟩ u) b x u := heap_setCell_same w b 1 _ _ u h
/-- predicates in a row of the call's own -/
def OwnP (n : Nat) (w : World) (pv : Value) (ps : List Prd) : Prop := ps.length ≤ 4096 ∧ w.ownsRow n 47 3 pv ps.length (cellsP ps)
theorem OwnP.ty {n : Nat} {w w' : World} {pv : Value} {ps : List Prd} (h : OwnP n w pv ps) (k : KeepsTy 47 n w w') : OwnP n w' pv ps := ⟨h.1, own_ty h.2 k⟩
theorem OwnP.at {n : Nat} {w : World} {pv : Value} {ps : List Prd} (h : OwnP n w pv ps) : predsAt w pv ps := Sum.predsAt_own h.2 (by have := h.1; omega)
/-- rules in rows of the call's own -/
def OwnRs (n : Nat) (w : World) (rv : Value) (rs : List Rul) : Prop := ∃ rvs : List RV, rvs.map RV.r = rs ∧ rvs.length ≤ 4096 ∧ w.ownsRow n 54 5 rv rvs.length (cellsR rvs) ∧ ∀ x ∈ rvs, OwnA n w x.hv x.r.head.args ∧ OwnB n w x.bv x.r.body
theorem OwnRs.ty {n : Nat} {w w' : World} {rv : Value} {rs : List Rul} (h : OwnRs n w rv rs) (k1 : KeepsTy 94 n w w') (k2 : KeepsTy 66 n w w') (k3 : KeepsTy 54 n w w') : OwnRs n w' rv rs := by
  obtain ⟨rvs, h1, h2, h3, h4⟩ := h
  exact ⟨rvs, h1, h2, own_ty h3 k3, fun x hx => ⟨(h4 x hx).1.ty k1, (h4 x hx).2.ty k1 k2⟩⟩
theorem OwnRs.at {n : Nat} {w : World} {rv : Value} {rs : List Rul} (h : OwnRs n w rv rs) : rulesAt w rv rs := by
  obtain ⟨rvs, rfl, h2, h3, h4⟩ := h
  exact Sum.rulesAt_own h3 (by omega) (fun x hx => ⟨(h4 x hx).1.at, (h4 x hx).2.at⟩)
theorem cellsP_more : ∀ (l : List Prd) (q : Prd), cellsP (l ++ [q]) = cellsP l ++ [.string q.name, .int .i64 q.arity, .int .i64 q.kind]
  | [], q => rfl
  | x :: l, q => by simp only [List.cons_append, cellsP, cellsP_more l q]
theorem preds_fuel : ∀ (n m : Nat) (s : List UInt8), s.length ≤ n → s.length ≤ m → predsR n s = predsR m s := by
  have nil0 : ∀ n, predsR n [] = some ([], []) := by intro n; cases n <;> rfl
  intro n
  induction n with
  | zero =>
    intro m s h1 h2
    have : s = [] := List.length_eq_zero_iff.1 (by omega)
    subst this
    rw [nil0, nil0]
  | succ n ih =>
    intro m s h1 h2
    cases m with
    | zero =>
      have : s = [] := List.length_eq_zero_iff.1 (by omega)
      subst this
      rw [nil0, nil0]
    | succ m =>
      rw [predsR, predsR]
      cases h : predR s with
      | none => rfl
      | some x =>
        have := pred_len (u := x.2) (q := x.1) h
        simp only [Option.bind_some]
        rw [ih m x.2 (by omega) (by omega)]
theorem rules_fuel (ps : List Prd) : ∀ (n m : Nat) (s : List UInt8), s.length ≤ n → s.length ≤ m → rulesR ps n s = rulesR ps m s := by
  have nil0 : ∀ n, rulesR ps n [] = some [] := by intro n; cases n <;> rfl
  intro n
  induction n with
  | zero =>
    intro m s h1 h2
    have : s = [] := List.length_eq_zero_iff.1 (by omega)
    subst this
    rw [nil0, nil0]
  | succ n ih =>
    intro m s h1 h2
    cases m with
    | zero =>
      have : s = [] := List.length_eq_zero_iff.1 (by omega)
      subst this
      rw [nil0, nil0]
    | succ m =>
      rw [rulesR, rulesR]
      cases h : ruleR ps s with
      | none => rfl
      | some x =>
        have := (rule_some (u := x.2) (r := x.1) h).1
        simp only [Option.bind_some]
        rw [ih m x.2 (by omega) (by omega)]
structure PredInv (w : World) (B P : Nat) (s : List UInt8) (wr : World) (ps : List Prd) (u : Value) (sj : List UInt8) : Prop where
  box : boxQ wr P u (.slice none 0 0)
  own : wr.ownsRow w.heap.size 47 3 u ps.length (cellsP ps)
  rest : restAt wr B sj
  kept : Kept2 B P w wr
  len : sj.length + ps.length ≤ s.length
  eq : predsR s.length s = (predsR sj.length sj).bind fun y => some (ps ++ y.1, y.2)
structure PredOn (w : World) (B P : Nat) (wr : World) (ps : List Prd) (u : Value) (s' : List UInt8) : Prop where
  box : boxQ wr P u (.slice none 0 0)
  own : wr.ownsRow w.heap.size 47 3 u ps.length (cellsP ps)
  rest : restAt wr B s'
  kept : Kept2 B P w wr
theorem PredInv.on {w : World} {B P : Nat} {s : List UInt8} {wr w' : World} {ps : List Prd} {u : Value} {sj s' : List UInt8} (h : PredInv w B P s wr ps u sj) (ha : Ate B wr w') (hB : B < w.heap.size) (hP : P < B) (hr : restAt w' B s') : PredOn w B P w' ps u s' :=
  ⟨h.box.ate ha (by omega), own_ate h.own ha hB, hr, h.kept.trans (Kept2.ate ha hP)⟩
theorem pred_next {w : World} {B P : Nat} {s : List UInt8} {ps : List Prd} {u : Value} {sj s2 : List UInt8} {q : Prd} {V W9 : World} {g cap : Nat}
    (hl : sj.length + ps.length ≤ s.length) (he : predsR s.length s = (predsR sj.length sj).bind fun y => some (ps ++ y.1, y.2)) (e1 : isPredR sj = true) (e2 : predR sj = some (q, s2)) (hB : B < w.heap.size) (hP : P < B) (hV : PredOn w B P V ps u s2)
    (hg : V.grownBy W9 u.ownBlock) (h9 : W9.ownsRow w.heap.size 47 3 (.slice (some ⟨g, 0, none⟩) (ps.length + 1) cap) (ps.length + 1) (cellsP ps ++ [.string q.name, .int .i64 q.arity, .int .i64 q.kind])) :
    W9.cell? ⟨P, 0, none⟩ = some u ∧ W9.frozen? ⟨P, 0, none⟩ = false ∧ Hid (s2.length < sj.length ∧ PredInv w B P s (W9.setCell ⟨P, 0, none⟩ (.slice (some ⟨g, 0, none⟩) (ps.length + 1) cap)) (ps ++ [q]) (.slice (some ⟨g, 0, none⟩) (ps.length + 1) cap) s2) := by
  have b1 : boxQ W9 P u (.slice none 0 0) := obj_grown hg hV.box (own_not hV.own hV.box (by decide))
  have b3 : restAt W9 B s2 := obj_grown hg hV.rest (own_not hV.own hV.rest (by decide))
  have b4 : Kept2 B P w W9 := hV.kept.grown hg (own_block hV.own) (by omega)
  obtain ⟨c0, c1, f0, f1⟩ := b1.cells
  have e3 := pred_len e2
  refine ⟨c0, f0, e3, b1.set0 _, ?_, rest_far b3 (by omega), b4.box, ?_, ?_⟩
  · rw [cellsP_more, List.length_append]
    exact own_far h9 b1 (by decide)
  · rw [List.length_append, List.length_singleton]; omega
  · rw [he]
    obtain ⟨m, hm⟩ : ∃ m, sj.length = m + 1 := ⟨sj.length - 1, by omega⟩
    rw [hm, predsR, e1, if_pos rfl, e2, Option.bind_some]
    simp only
    rw [preds_fuel m s2.length s2 (by omega) (by omega)]
    cases predsR s2.length s2 with
    | none => rfl
    | some y => simp
theorem preds_end {sj : List UInt8} (h : isPredR sj = false) : predsR sj.length sj = some ([], sj) := by
  cases hl : sj.length with
  | zero => rfl
  | succ m => rw [predsR, h]; rfl
theorem preds_bad {sj : List UInt8} (h : isPredR sj = true) (h2 : predR sj = none) : predsR sj.length sj = none := by
  cases hl : sj.length with
  | zero =>
    have : sj = [] := List.length_eq_zero_iff.1 hl
    subst this
    cases h
  | succ m => rw [predsR, h, if_pos rfl, h2]; rfl
theorem cellsR_more (l : List RV) (x : RV) : cellsR (l ++ [x]) = cellsR l ++ [.int .i64 x.r.head.pred, x.hv, .int .i64 x.r.src, .int .i64 x.r.n, x.bv] := by
  rw [Sum.cellsR_append]
  rfl
structure RulesInv (w : World) (B P : Nat) (ps : List Prd) (pv : Value) (s : List UInt8) (wr : World) (rvs : List RV) (u : Value) (sj : List UInt8) : Prop where
  box : boxQ wr P pv u
  preds : OwnP w.heap.size wr pv ps
  own : wr.ownsRow w.heap.size 54 5 u rvs.length (cellsR rvs)
  rules : ∀ x ∈ rvs, OwnA w.heap.size wr x.hv x.r.head.args ∧ OwnB w.heap.size wr x.bv x.r.body
  rest : restAt wr B sj
  kept : Kept2 B P w wr
  len : sj.length + rvs.length ≤ s.length
  eq : rulesR ps s.length s = (rulesR ps sj.length sj).bind fun y => some (rvs.map RV.r ++ y)
structure RulesOn (w : World) (B P : Nat) (ps : List Prd) (pv : Value) (wr : World) (rvs : List RV) (u : Value) (s' : List UInt8) : Prop where
  box : boxQ wr P pv u
  preds : OwnP w.heap.size wr pv ps
  own : wr.ownsRow w.heap.size 54 5 u rvs.length (cellsR rvs)
  rules : ∀ x ∈ rvs, OwnA w.heap.size wr x.hv x.r.head.args ∧ OwnB w.heap.size wr x.bv x.r.body
  rest : restAt wr B s'
  kept : Kept2 B P w wr
theorem RulesInv.on {w : World} {B P : Nat} {ps : List Prd} {pv : Value} {s : List UInt8} {wr w' : World} {rvs : List RV} {u : Value} {sj s' : List UInt8} (h : RulesInv w B P ps pv s wr rvs u sj) (ha : Ate B wr w') (hB : B < w.heap.size) (hP : P < B) (hr : restAt w' B s') : RulesOn w B P ps pv w' rvs u s' :=
  ⟨h.box.ate ha (by omega), h.preds.ty (KeepsTy.ate ha hB), own_ate h.own ha hB, fun x hx => ⟨(h.rules x hx).1.ty (KeepsTy.ate ha hB), (h.rules x hx).2.ty (KeepsTy.ate ha hB) (KeepsTy.ate ha hB)⟩, hr, h.kept.trans (Kept2.ate ha hP)⟩
theorem rule_next {w : World} {B P : Nat} {ps : List Prd} {pv : Value} {s : List UInt8} {rvs : List RV} {u : Value} {sj s2 : List UInt8} {r : Rul} {hv bv : Value} {V W9 : World} {g cap : Nat}
    (hl : sj.length + rvs.length ≤ s.length) (he : rulesR ps s.length s = (rulesR ps sj.length sj).bind fun y => some (rvs.map RV.r ++ y)) (e1 : sj ≠ []) (e2 : ruleR ps sj = some (r, s2)) (hB : B < w.heap.size) (hP : P < B) (hV : RulesOn w B P ps pv V rvs u s2) (hA : OwnA w.heap.size V hv r.head.args) (hL : OwnB w.heap.size V bv r.body)
    (hg : V.grownBy W9 u.ownBlock) (h9 : W9.ownsRow w.heap.size 54 5 (.slice (some ⟨g, 0, none⟩) (rvs.length + 1) cap) (rvs.length + 1) (cellsR rvs ++ [.int .i64 r.head.pred, hv, .int .i64 r.src, .int .i64 r.n, bv])) :
    W9.cell? ⟨P, 1, none⟩ = some u ∧ W9.frozen? ⟨P, 1, none⟩ = false ∧ Hid (s2.length < sj.length ∧ RulesInv w B P ps pv s (W9.setCell ⟨P, 1, none⟩ (.slice (some ⟨g, 0, none⟩) (rvs.length + 1) cap)) (rvs ++ [⟨r, hv, bv⟩]) (.slice (some ⟨g, 0, none⟩) (rvs.length + 1) cap) s2) := by
  have b1 : boxQ W9 P pv u := obj_grown hg hV.box (own_not hV.own hV.box (by decide))
  have b3 : restAt W9 B s2 := obj_grown hg hV.rest (own_not hV.own hV.rest (by decide))
  have b4 : Kept2 B P w W9 := hV.kept.grown hg (own_block hV.own) (by omega)
  obtain ⟨c0, c1, f0, f1⟩ := b1.cells
  have e3 := (rule_some e2).1
  have kt : KeepsTy 94 w.heap.size V (W9.setCell ⟨P, 1, none⟩ (.slice (some ⟨g, 0, none⟩) (rvs.length + 1) cap)) := (KeepsTy.grown hg hV.own (by decide)).trans (KeepsTy.set b1 (by decide))
  have kl : KeepsTy 66 w.heap.size V (W9.setCell ⟨P, 1, none⟩ (.slice (some ⟨g, 0, none⟩) (rvs.length + 1) cap)) := (KeepsTy.grown hg hV.own (by decide)).trans (KeepsTy.set b1 (by decide))
  have kp : KeepsTy 47 w.heap.size V (W9.setCell ⟨P, 1, none⟩ (.slice (some ⟨g, 0, none⟩) (rvs.length + 1) cap)) := (KeepsTy.grown hg hV.own (by decide)).trans (KeepsTy.set b1 (by decide))
  refine ⟨c1, f1, e3, b1.set1 _, hV.preds.ty kp, ?_, ?_, rest_far b3 (by omega), b4.box, ?_, ?_⟩
  · rw [cellsR_more, List.length_append]
    exact own_far h9 b1 (by decide)
  · intro x hx
    rcases List.mem_append.1 hx with hx | hx
    · exact ⟨(hV.rules x hx).1.ty kt, (hV.rules x hx).2.ty kt kl⟩
    · rw [List.mem_singleton] at hx
      subst hx
      exact ⟨hA.ty kt, hL.ty kt kl⟩
  · rw [List.length_append, List.length_singleton]; omega
  · rw [he]
    obtain ⟨m, hm⟩ : ∃ m, sj.length = m + 1 := ⟨sj.length - 1, by omega⟩
    rw [hm, rulesR, if_neg e1, e2, Option.bind_some]
    simp only
    rw [rules_fuel ps m s2.length s2 (by omega) (by omega)]
    cases rulesR ps s2.length s2 with
    | none => rfl
    | some y => simp
theorem rules_bad {ps : List Prd} {sj : List UInt8} (h : sj ≠ []) (h2 : ruleR ps sj = none) : rulesR ps sj.length sj = none := by
  cases hl : sj.length with
  | zero => exact absurd (List.length_eq_zero_iff.1 hl) h
  | succ m => rw [rulesR, if_neg h, h2]; rfl
theorem new_cells5 {w : World} {a b c d f : Value} {t : TypeId} : ∀ (i : Nat) (v : Value), [a, b, c, d, f][i]? = some v → (w.alloc (.cells #[a, b, c, d, f] t)).cell? ((⟨w.heap.size, 0, none⟩ : Addr).add i) = some v := by
  intro i v hv
  match i, hv with
  | 0, hv => obtain rfl : a = v := by simpa using hv
             simp [go_sem]
  | 1, hv => obtain rfl : b = v := by simpa using hv
             simp [go_sem]
  | 2, hv => obtain rfl : c = v := by simpa using hv
             simp [go_sem]
  | 3, hv => obtain rfl : d = v := by simpa using hv
             simp [go_sem]
  | 4, hv => obtain rfl : f = v := by simpa using hv
             simp [go_sem]
  | i + 5, hv => simp at hv
end Go.Proofs.YtlfccloaoopadafGreatDoor.Text

/-
  The developers' reading of a program's lines: the closure that Read hands to Whole.
-/
namespace Go.Proofs.YtlfccloaoopadafGreatDoor.Text
open Go.ChangeShapes Go.WideShapes Go.ChangeAt Go.RowKit
open Go.Proofs.YtlfccloaoopadafGreatDoor.Sum (cellsT cellsL cellsP cellsR LV RV infoPred infoRule)
open Base (predV)

/-- how the reading of a program ends -/
def ReadEnd (B P : Nat) (w : World) (s : List UInt8) (e : Ending) (w' : World) : Prop :=
  Kept2 B P w w' ∧ match progR s with
    | none => e = formPanic
    | some x => e = .returned (.tuple #[]) ∧ restAt w' B [] ∧ ∃ pv rv, boxQ w' P pv rv ∧ OwnP w.heap.size w' pv x.1 ∧ OwnRs w.heap.size w' rv x.2
theorem readEnd_no {B P : Nat} {w w' : World} {s : List UInt8} (h : progR s = none) (hk : Kept2 B P w w') : ReadEnd B P w s formPanic w' := by
  unfold ReadEnd
  rw [h]
  exact ⟨hk, rfl⟩
theorem own_bval {n : Nat} {w : World} {bv : Value} {ls : List Ltr} (h : OwnB n w bv ls) : ∃ a c, bv = .slice a ls.length c := by
  obtain ⟨lvs, rfl, _, h3, _⟩ := h
  obtain ⟨a, c, rfl⟩ := own_val h3
  exact ⟨a, c, by rw [List.length_map]⟩
set_option maxRecDepth 100000 in
set_option maxHeartbeats 16000000 in
theorem read1_c (w : World) (B P : Nat) (s : List UInt8) (h : restAt w B s) (hs : s.length ≤ 4096) (hq : boxQ w P (.slice none 0 0) (.slice none 0 0)) (hP : P < B) : Calls Tryz.prog 30 #[.pointer (some ⟨B, 0, none⟩), .pointer (some ⟨P, 0, none⟩)] w (ReadEnd B P w s) := by
  have hB := rest_lt h
  have HS : Hid (s.length ≤ 4096) := hs
  have HI0 : Hid (PredInv w B P s w [] (.slice none 0 0) s) := ⟨hq, ⟨rfl, .inl ⟨rfl, rfl⟩⟩, h, Kept2.refl _ _ _, by simp, by cases predsR s.length s <;> rfl⟩
  clear h hs hq
  go_enter Tryz.func30, Tryz.ntmps30
  go_wp2_with fail
  go_loopw [3] (fun _ wr => ∃ (ps : List Prd) (u : Value) (sj : List UInt8), Hid (PredInv w B P s wr ps u sj)) (fun _ wr => restLen wr B)
  case atStart => exact ⟨[], _, s, HI0⟩
  case round =>
    clear HI0
    obtain ⟨ps, u, sj, HI⟩ := hrel
    have HC := isPred_c wr B sj HI.out.rest
    cases hip : isPredR sj with
    | true =>
      have K1 : Hid (isPredR sj = true) := hip
      rw [hip] at HC
      clear hip
      go_wp2_with fail
      refine HC.mono ?_
      rintro e w2 ⟨rfl, hw2⟩
      obtain rfl := hw2.symm
      clear HC
      have q5 : wr.drew.cell? ⟨P, 0, none⟩ = some u := HI.out.box.cells.1
      go_wp2_with fail
      cases ht : predR sj with
      | none =>
        have K2 : Hid (predR sj = none) := ht
        clear ht
        have HT : Hid (Calls Tryz.prog 32 #[.pointer (some ⟨B, 0, none⟩)] wr.drew (ReadsTo B wr.drew none fun q v _ => v = predV q)) := by
          have := readPred_c wr.drew B sj (rest_drew HI.out.rest) (by have := HI.out.len; have := HS.out; omega)
          rw [K2.out] at this
          exact this
        have HNO : Hid (progR s = none) := by
          show _ = _
          unfold progR
          rw [HI.out.eq, preds_bad K1.out K2.out]
          rfl
        refine wp_region_held_drew (S := (fun _ : World => True)) (by kernel_rfl) trivial (fun hHeld => ?_)
        refine wpAnyH_take (i := 0) (v := ?_) rfl (by kernel_rfl) (by kernel_rfl) (by kernel_rfl) (fun _ _ _ h => h) (Or.inl ⟨by rfl, ?_⟩) (by assumption) ?_
        rotate_left
        · (intro w hSw; go_simp; try with_reducible rfl)
        simp only [Act.put]
        refine wpAnyH_take (i := 2) (v := ?_) rfl (by kernel_rfl) (by kernel_rfl) (by kernel_rfl) (fun _ _ _ h => h) (Or.inl ⟨by rfl, ?_⟩) (by assumption) ?_
        rotate_left
        · (intro w hSw; go_simp; try with_reducible rfl)
        simp only [Act.put]
        refine wpAnyH_ready (rs := [1, 3]) (by kernel_rfl) (by simp) ?_
        refine AllReadyH.cons rfl (fun K hK => ?_) ?_
        · go_simp
          refine hK.out _ _ trivial (fun hHeld => ?_)
          clear hK K
          try simp only [Act.put, List.setIfInBounds_toArray, List.set_cons_zero, List.set_cons_succ]
          refine wpAnyH_ready (rs := [3]) (by kernel_rfl) (by simp) ?_
          refine AllReadyH.cons rfl (fun K hK => ?_) AllReadyH.nil
          go_simp
          refine HT.out.mono ?_
          intro e w6 h6
          obtain ⟨rfl, hx6⟩ := h6.no
          clear h6
          exact ⟨rfl, readEnd_no HNO.out (HI.out.kept.trans (Kept2.ate ((Ate.drew B wr).trans hx6.out) hP))⟩
        · refine AllReadyH.cons rfl (fun K hK => ?_) AllReadyH.nil
          go_simp
          refine HT.out.mono ?_
          intro e w6 h6
          obtain ⟨rfl, hx6⟩ := h6.no
          clear h6
          exact ⟨rfl, readEnd_no HNO.out (HI.out.kept.trans (Kept2.ate ((Ate.drew B wr).trans hx6.out) hP))⟩
      | some x =>
        obtain ⟨q, s2⟩ := x
        have K2 : Hid (predR sj = some (q, s2)) := ht
        clear ht
        obtain ⟨i0, hi0, hz0, hz1, hz2⟩ := info_parts infoPred
        have HAFT : Hid (∀ w6, restAt w6 B s2 → Ate B wr.drew w6 → w6.cell? ⟨P, 0, none⟩ = some u ∧ (w6.alloc (.cells #[.string q.name, .int .i64 q.arity, .int .i64 q.kind] 47)).cell? ⟨P, 0, none⟩ = some u ∧ Hid (PredOn w B P (w6.alloc (.cells #[.string q.name, .int .i64 q.arity, .int .i64 q.kind] 47)) ps u s2) ∧ Hid (w.heap.size ≤ w6.heap.size + 1 ∧ (w6.alloc (.cells #[.string q.name, .int .i64 q.arity, .int .i64 q.kind] 47)).heap.size = w6.heap.size + 1)) := fun w6 hr ha => by
          have h1 := HI.out.on ((Ate.drew B wr).trans ha) hB hP hr
          have ha2 : Ate B w6 (w6.alloc (.cells #[.string q.name, .int .i64 q.arity, .int .i64 q.kind] 47)) := Ate.of (below_alloc _ _) (Nat.le_of_lt (rest_lt hr))
          have h2 := HI.out.on ((Ate.drew B wr).trans (ha.trans ha2)) hB hP (rest_lasts hr (below_alloc w6 (.cells #[.string q.name, .int .i64 q.arity, .int .i64 q.kind] 47)))
          refine ⟨h1.box.cells.1, h2.box.cells.1, h2, ?_, World.size_alloc _ _⟩
          have := h1.kept.size
          omega
        have hj9 : ps.length ≤ 4096 := by have := HI.out.len; have := HS.out; omega
        have HT : Hid (Calls Tryz.prog 32 #[.pointer (some ⟨B, 0, none⟩)] wr.drew (ReadsTo B wr.drew (some (q, s2)) fun q v _ => v = predV q)) := by
          have := readPred_c wr.drew B sj (rest_drew HI.out.rest) (by have := HI.out.len; have := HS.out; omega)
          rw [K2.out] at this
          exact this
        refine wp_region_noPanic ?_
        refine wp_region_held_drew (S := (fun _ : World => True)) (by kernel_rfl) trivial (fun hHeld => ?_)
        refine wpAnyH_take (i := 0) (v := ?_) rfl (by kernel_rfl) (by kernel_rfl) (by kernel_rfl) (fun _ _ _ h => h) (Or.inl ⟨by rfl, ?_⟩) (by assumption) ?_
        rotate_left
        · (intro w hSw; go_simp; try with_reducible rfl)
        simp only [Act.put]
        refine wpAnyH_take (i := 2) (v := ?_) rfl (by kernel_rfl) (by kernel_rfl) (by kernel_rfl) (fun _ _ _ h => h) (Or.inl ⟨by rfl, ?_⟩) (by assumption) ?_
        rotate_left
        · (intro w hSw; go_simp; try with_reducible rfl)
        simp only [Act.put]
        refine wpAnyH_ready (rs := [1, 3]) (by kernel_rfl) (by simp) ?_
        refine AllReadyH.cons rfl (fun K hK => ?_) ?_
        · go_simp
          refine hK.out _ _ trivial (fun hHeld => ?_)
          clear hK K
          try simp only [Act.put, List.setIfInBounds_toArray, List.set_cons_zero, List.set_cons_succ]
          refine wpAnyH_ready (rs := [3]) (by kernel_rfl) (by simp) ?_
          refine AllReadyH.cons rfl (fun K hK => ?_) AllReadyH.nil
          go_simp
          refine HT.out.mono ?_
          intro e w6 h6
          obtain ⟨v, rfl, rfl, hx6⟩ := h6.yes
          clear h6
          unfold predV
          obtain ⟨q6, qV, HV, HSE⟩ := HAFT.out w6 hx6.out.1 hx6.out.2
          refine hK.out _ _ trivial (fun hHeld => ?_)
          clear hK K
          try simp only [Act.put, List.setIfInBounds_toArray, List.set_cons_zero, List.set_cons_succ]
          refine wpAnyH_ready (rs := [4]) (by kernel_rfl) (by simp) ?_
          refine AllReadyH.cons rfl (fun K hK => ?_) AllReadyH.nil
          go_simp
          refine hK.out _ _ trivial (fun hHeld => ?_)
          clear hK K
          try simp only [Act.put, List.setIfInBounds_toArray, List.set_cons_zero, List.set_cons_succ]
          refine wpAnyH_ready (rs := [5]) (by kernel_rfl) (by simp) ?_
          refine AllReadyH.cons rfl (fun K hK => ?_) AllReadyH.nil
          refine step_append_lies _ (by rfl) _ _ 22 (by rfl) w.heap.size 47 i0 (.agg #[.string ByteArray.empty, .int .i64 0, .int .i64 0]) 3 32 Tryz.underlying22 hi0 hz0 hz1 hz2 (by rfl) (by omega) u ps.length (cellsP ps) (by rfl) HV.out.own ⟨w6.heap.size, 0, none⟩ 1 1 [.string q.name, .int .i64 q.arity, .int .i64 q.kind] (by rfl) (by rfl) new_cells3 (by intro u hu; simp at hu; rcases hu with rfl | rfl | rfl <;> rfl) (by omega) (by unfold maxLen; omega) (by omega) (by have := HSE.out; omega) (w6.heap.size + 1) (World.size_alloc _ _) ?_
          intro g9 cap9 W9 hown9 hgrow9 hat9 hlt9
          obtain ⟨n1, n2, HN9⟩ := pred_next HI.out.len HI.out.eq K1.out K2.out hB hP HV.out (by exact hgrow9) (by exact hown9)
          clear hat9 hlt9 hown9 hgrow9
          refine hK.out _ _ trivial (fun hHeld => ?_)
          clear hK K
          try simp only [Act.put, List.setIfInBounds_toArray]
          refine wpAnyH_take (i := 6) (v := ?_) rfl (by kernel_rfl) (by kernel_rfl) (by kernel_rfl) (fun _ _ _ h => h) (Or.inl ⟨by rfl, ?_⟩) (by assumption) ?_
          rotate_left
          · (intro w hSw; go_simp; try with_reducible rfl)
          simp only [Act.put]
          refine wpAnyH_ready (rs := [7]) (by kernel_rfl) (by simp) ?_
          refine AllReadyH.cons rfl (fun K hK => ?_) AllReadyH.nil
          go_simp
          refine hK.out _ _ trivial (fun hHeld => ?_)
          clear hK K
          try simp only [Act.put, List.setIfInBounds_toArray, List.set_cons_zero, List.set_cons_succ]
          refine wpAnyH_done (by kernel_rfl) ?_ _
          refine NoPanic.normal ?_
          clear n1 n2 q5 q6 qV
          go_wp2_with fail
          go_roundw
          case rel => exact ⟨_, _, _, HN9.out.2⟩
          case measure => have h1 := HN9.out; rw [rest_len h1.2.rest, rest_len HI.out.rest]; exact h1.1
        · refine AllReadyH.cons rfl (fun K hK => ?_) AllReadyH.nil
          go_simp
          refine HT.out.mono ?_
          intro e w6 h6
          obtain ⟨v, rfl, rfl, hx6⟩ := h6.yes
          clear h6
          unfold predV
          obtain ⟨q6, qV, HV, HSE⟩ := HAFT.out w6 hx6.out.1 hx6.out.2
          refine hK.out _ _ trivial (fun hHeld => ?_)
          clear hK K
          try simp only [Act.put, List.setIfInBounds_toArray, List.set_cons_zero, List.set_cons_succ]
          refine wpAnyH_ready (rs := [1, 4]) (by kernel_rfl) (by simp) ?_
          refine AllReadyH.cons rfl (fun K hK => ?_) ?_
          · go_simp
            refine hK.out _ _ trivial (fun hHeld => ?_)
            clear hK K
            try simp only [Act.put, List.setIfInBounds_toArray, List.set_cons_zero, List.set_cons_succ]
            refine wpAnyH_ready (rs := [4]) (by kernel_rfl) (by simp) ?_
            refine AllReadyH.cons rfl (fun K hK => ?_) AllReadyH.nil
            go_simp
            refine hK.out _ _ trivial (fun hHeld => ?_)
            clear hK K
            try simp only [Act.put, List.setIfInBounds_toArray, List.set_cons_zero, List.set_cons_succ]
            refine wpAnyH_ready (rs := [5]) (by kernel_rfl) (by simp) ?_
            refine AllReadyH.cons rfl (fun K hK => ?_) AllReadyH.nil
            refine step_append_lies _ (by rfl) _ _ 22 (by rfl) w.heap.size 47 i0 (.agg #[.string ByteArray.empty, .int .i64 0, .int .i64 0]) 3 32 Tryz.underlying22 hi0 hz0 hz1 hz2 (by rfl) (by omega) u ps.length (cellsP ps) (by rfl) HV.out.own ⟨w6.heap.size, 0, none⟩ 1 1 [.string q.name, .int .i64 q.arity, .int .i64 q.kind] (by rfl) (by rfl) new_cells3 (by intro u hu; simp at hu; rcases hu with rfl | rfl | rfl <;> rfl) (by omega) (by unfold maxLen; omega) (by omega) (by have := HSE.out; omega) (w6.heap.size + 1) (World.size_alloc _ _) ?_
            intro g9 cap9 W9 hown9 hgrow9 hat9 hlt9
            obtain ⟨n1, n2, HN9⟩ := pred_next HI.out.len HI.out.eq K1.out K2.out hB hP HV.out (by exact hgrow9) (by exact hown9)
            clear hat9 hlt9 hown9 hgrow9
            refine hK.out _ _ trivial (fun hHeld => ?_)
            clear hK K
            try simp only [Act.put, List.setIfInBounds_toArray]
            refine wpAnyH_take (i := 6) (v := ?_) rfl (by kernel_rfl) (by kernel_rfl) (by kernel_rfl) (fun _ _ _ h => h) (Or.inl ⟨by rfl, ?_⟩) (by assumption) ?_
            rotate_left
            · (intro w hSw; go_simp; try with_reducible rfl)
            simp only [Act.put]
            refine wpAnyH_ready (rs := [7]) (by kernel_rfl) (by simp) ?_
            refine AllReadyH.cons rfl (fun K hK => ?_) AllReadyH.nil
            go_simp
            refine hK.out _ _ trivial (fun hHeld => ?_)
            clear hK K
            try simp only [Act.put, List.setIfInBounds_toArray, List.set_cons_zero, List.set_cons_succ]
            refine wpAnyH_done (by kernel_rfl) ?_ _
            refine NoPanic.normal ?_
            clear n1 n2 q5 q6 qV
            go_wp2_with fail
            go_roundw
            case rel => exact ⟨_, _, _, HN9.out.2⟩
            case measure => have h1 := HN9.out; rw [rest_len h1.2.rest, rest_len HI.out.rest]; exact h1.1
          · refine AllReadyH.cons rfl (fun K hK => ?_) AllReadyH.nil
            go_simp
            refine hK.out _ _ trivial (fun hHeld => ?_)
            clear hK K
            try simp only [Act.put, List.setIfInBounds_toArray, List.set_cons_zero, List.set_cons_succ]
            refine wpAnyH_ready (rs := [1]) (by kernel_rfl) (by simp) ?_
            refine AllReadyH.cons rfl (fun K hK => ?_) AllReadyH.nil
            go_simp
            refine hK.out _ _ trivial (fun hHeld => ?_)
            clear hK K
            try simp only [Act.put, List.setIfInBounds_toArray, List.set_cons_zero, List.set_cons_succ]
            refine wpAnyH_ready (rs := [5]) (by kernel_rfl) (by simp) ?_
            refine AllReadyH.cons rfl (fun K hK => ?_) AllReadyH.nil
            refine step_append_lies _ (by rfl) _ _ 22 (by rfl) w.heap.size 47 i0 (.agg #[.string ByteArray.empty, .int .i64 0, .int .i64 0]) 3 32 Tryz.underlying22 hi0 hz0 hz1 hz2 (by rfl) (by omega) u ps.length (cellsP ps) (by rfl) HV.out.own ⟨w6.heap.size, 0, none⟩ 1 1 [.string q.name, .int .i64 q.arity, .int .i64 q.kind] (by rfl) (by rfl) new_cells3 (by intro u hu; simp at hu; rcases hu with rfl | rfl | rfl <;> rfl) (by omega) (by unfold maxLen; omega) (by omega) (by have := HSE.out; omega) (w6.heap.size + 1) (World.size_alloc _ _) ?_
            intro g9 cap9 W9 hown9 hgrow9 hat9 hlt9
            obtain ⟨n1, n2, HN9⟩ := pred_next HI.out.len HI.out.eq K1.out K2.out hB hP HV.out (by exact hgrow9) (by exact hown9)
            clear hat9 hlt9 hown9 hgrow9
            refine hK.out _ _ trivial (fun hHeld => ?_)
            clear hK K
            try simp only [Act.put, List.setIfInBounds_toArray]
            refine wpAnyH_take (i := 6) (v := ?_) rfl (by kernel_rfl) (by kernel_rfl) (by kernel_rfl) (fun _ _ _ h => h) (Or.inl ⟨by rfl, ?_⟩) (by assumption) ?_
            rotate_left
            · (intro w hSw; go_simp; try with_reducible rfl)
            simp only [Act.put]
            refine wpAnyH_ready (rs := [7]) (by kernel_rfl) (by simp) ?_
            refine AllReadyH.cons rfl (fun K hK => ?_) AllReadyH.nil
            go_simp
            refine hK.out _ _ trivial (fun hHeld => ?_)
            clear hK K
            try simp only [Act.put, List.setIfInBounds_toArray, List.set_cons_zero, List.set_cons_succ]
            refine wpAnyH_done (by kernel_rfl) ?_ _
            refine NoPanic.normal ?_
            clear n1 n2 q5 q6 qV
            go_wp2_with fail
            go_roundw
            case rel => exact ⟨_, _, _, HN9.out.2⟩
            case measure => have h1 := HN9.out; rw [rest_len h1.2.rest, rest_len HI.out.rest]; exact h1.1
    | false =>
      have KP : Hid (predsR s.length s = some (ps, sj)) := by
        show _ = _
        rw [HI.out.eq, preds_end hip]
        simp
      rw [hip] at HC
      clear hip
      go_wp2_with fail
      refine HC.mono ?_
      rintro e w2 ⟨rfl, hw2⟩
      obtain rfl := hw2.symm
      clear HC
      have HS1 : Hid (sj.length ≤ 4096) := by show _ ≤ _; have := HI.out.len; have := HS.out; omega
      have HLP : Hid (ps.length ≤ 4096) := by show _ ≤ _; have := HI.out.len; have := HS.out; omega
      obtain ⟨pa, pc, rfl⟩ := own_val HI.out.own
      have HI0 : Hid (RulesInv w B P ps (.slice pa ps.length pc) sj wr [] (.slice none 0 0) sj) := ⟨HI.out.box, ⟨HLP.out, HI.out.own⟩, ⟨rfl, .inl ⟨rfl, rfl⟩⟩, (fun x hx => absurd hx (List.not_mem_nil)), HI.out.rest, HI.out.kept, by simp, by cases rulesR ps sj.length sj <;> rfl⟩
      clear HI
      obtain ⟨s0, hs0⟩ : ∃ s0, sj = s0 := ⟨_, rfl⟩
      rw [hs0] at KP HS1 HI0
      clear hs0
      go_wp2_with fail
      go_loopw [12] (fun _ wr => ∃ (rvs : List RV) (u : Value) (sj : List UInt8), Hid (RulesInv w B P ps (.slice pa ps.length pc) s0 wr rvs u sj)) (fun _ wr => restLen wr B)
      case atStart => exact ⟨[], _, s0, HI0⟩
      case round =>
        clear HI0
        obtain ⟨rvs, u, sj, HI⟩ := hrel
        have HC := isEmpty_c wr B sj HI.out.rest
        by_cases hem : sj = []
        · have HEND : Hid (progR s = some (ps, rvs.map RV.r)) := by
            show _ = _
            unfold progR
            rw [KP.out, Option.bind_some]
            simp only
            rw [HI.out.eq, hem]
            simp [rulesR]
          have HR : Hid (restAt wr B []) := by have := HI.out.rest; rw [hem] at this; exact this
          have hd : decide (sj = []) = true := by simp [hem]
          rw [hd] at HC
          clear hd hem
          go_wp2_with fail
          refine HC.mono ?_
          rintro e w3 ⟨rfl, hw3⟩
          obtain rfl := hw3.symm
          clear HC
          go_wp2_with fail
          go_end0
          refine ⟨HI.out.kept, ?_⟩
          rw [HEND.out]
          exact ⟨rfl, HR.out, _, _, HI.out.box, HI.out.preds, rvs, rfl, by have := HI.out.len; have := HS1.out; omega, HI.out.own, HI.out.rules⟩
        · have K1 : Hid (sj ≠ []) := hem
          have hd : decide (sj = []) = false := by simp [hem]
          rw [hd] at HC
          clear hd hem
          go_wp2_with fail
          refine HC.mono ?_
          rintro e w3 ⟨rfl, hw3⟩
          obtain rfl := hw3.symm
          clear HC
          have q5 : wr.drew.cell? ⟨P, 1, none⟩ = some u := HI.out.box.cells.2.1
          have q5' : wr.drew.cell? ⟨P, 0, none⟩ = some (.slice pa ps.length pc) := HI.out.box.cells.1
          go_wp2_with fail
          cases ht : ruleR ps sj with
          | none =>
            have K2 : Hid (ruleR ps sj = none) := ht
            clear ht
            have HT : Hid (Calls Tryz.prog 34 #[.slice pa ps.length pc, .pointer (some ⟨B, 0, none⟩)] wr.drew (ReadsTo B wr.drew none fun r v w' => RuleV wr.drew.heap.size r v w')) := by
              have := readRule_c wr.drew B sj (rest_drew HI.out.rest) (by have := HI.out.len; have := HS1.out; omega) (.slice pa ps.length pc) ps HI.out.preds.at
              rw [K2.out] at this
              exact this
            have HNO : Hid (progR s = none) := by
              show _ = _
              unfold progR
              rw [KP.out, Option.bind_some]
              simp only
              rw [HI.out.eq, rules_bad K1.out K2.out]
              rfl
            refine wp_region_held_drew (S := (fun _ : World => True)) (by kernel_rfl) trivial (fun hHeld => ?_)
            refine wpAnyH_take (i := 0) (v := ?_) rfl (by kernel_rfl) (by kernel_rfl) (by kernel_rfl) (fun _ _ _ h => h) (Or.inl ⟨by rfl, ?_⟩) (by assumption) ?_
            rotate_left
            · (intro w hSw; go_simp; try with_reducible rfl)
            simp only [Act.put]
            refine wpAnyH_take (i := 2) (v := ?_) rfl (by kernel_rfl) (by kernel_rfl) (by kernel_rfl) (fun _ _ _ h => h) (Or.inl ⟨by rfl, ?_⟩) (by assumption) ?_
            rotate_left
            · (intro w hSw; go_simp; try with_reducible rfl)
            simp only [Act.put]
            refine wpAnyH_take (i := 4) (v := ?_) rfl (by kernel_rfl) (by kernel_rfl) (by kernel_rfl) (fun _ _ _ h => h) (Or.inl ⟨by rfl, ?_⟩) (by assumption) ?_
            rotate_left
            · (intro w hSw; go_simp; try with_reducible rfl)
            simp only [Act.put]
            refine wpAnyH_ready (rs := [1, 3]) (by kernel_rfl) (by simp) ?_
            refine AllReadyH.cons rfl (fun K hK => ?_) ?_
            · go_simp
              refine hK.out _ _ trivial (fun hHeld => ?_)
              clear hK K
              try simp only [Act.put, List.setIfInBounds_toArray, List.set_cons_zero, List.set_cons_succ]
              refine wpAnyH_ready (rs := [3]) (by kernel_rfl) (by simp) ?_
              refine AllReadyH.cons rfl (fun K hK => ?_) AllReadyH.nil
              go_simp
              refine hK.out _ _ trivial (fun hHeld => ?_)
              clear hK K
              try simp only [Act.put, List.setIfInBounds_toArray, List.set_cons_zero, List.set_cons_succ]
              refine wpAnyH_ready (rs := [5]) (by kernel_rfl) (by simp) ?_
              refine AllReadyH.cons rfl (fun K hK => ?_) AllReadyH.nil
              go_simp
              refine HT.out.mono ?_
              intro e w6 h6
              obtain ⟨rfl, hx6⟩ := h6.no
              clear h6
              exact ⟨rfl, readEnd_no HNO.out (HI.out.kept.trans (Kept2.ate ((Ate.drew B wr).trans hx6.out) hP))⟩
            · refine AllReadyH.cons rfl (fun K hK => ?_) AllReadyH.nil
              go_simp
              refine hK.out _ _ trivial (fun hHeld => ?_)
              clear hK K
              try simp only [Act.put, List.setIfInBounds_toArray, List.set_cons_zero, List.set_cons_succ]
              refine wpAnyH_ready (rs := [1, 5]) (by kernel_rfl) (by simp) ?_
              refine AllReadyH.cons rfl (fun K hK => ?_) ?_
              · go_simp
                refine hK.out _ _ trivial (fun hHeld => ?_)
                clear hK K
                try simp only [Act.put, List.setIfInBounds_toArray, List.set_cons_zero, List.set_cons_succ]
                refine wpAnyH_ready (rs := [5]) (by kernel_rfl) (by simp) ?_
                refine AllReadyH.cons rfl (fun K hK => ?_) AllReadyH.nil
                go_simp
                refine HT.out.mono ?_
                intro e w6 h6
                obtain ⟨rfl, hx6⟩ := h6.no
                clear h6
                exact ⟨rfl, readEnd_no HNO.out (HI.out.kept.trans (Kept2.ate ((Ate.drew B wr).trans hx6.out) hP))⟩
              · refine AllReadyH.cons rfl (fun K hK => ?_) AllReadyH.nil
                go_simp
                refine HT.out.mono ?_
                intro e w6 h6
                obtain ⟨rfl, hx6⟩ := h6.no
                clear h6
                exact ⟨rfl, readEnd_no HNO.out (HI.out.kept.trans (Kept2.ate ((Ate.drew B wr).trans hx6.out) hP))⟩
          | some x =>
            obtain ⟨r, s2⟩ := x
            have K2 : Hid (ruleR ps sj = some (r, s2)) := ht
            clear ht
            obtain ⟨i0, hi0, hz0, hz1, hz2⟩ := info_parts infoRule
            have HAFT : Hid (∀ w6 hv bv, restAt w6 B s2 → Ate B wr.drew w6 → OwnA wr.drew.heap.size w6 hv r.head.args → OwnB wr.drew.heap.size w6 bv r.body → w6.cell? ⟨P, 1, none⟩ = some u ∧ (w6.alloc (.cells #[.int .i64 r.head.pred, hv, .int .i64 r.src, .int .i64 r.n, bv] 54)).cell? ⟨P, 1, none⟩ = some u ∧ w6.cell? ⟨P, 0, none⟩ = some (.slice pa ps.length pc) ∧ (w6.alloc (.cells #[.int .i64 r.head.pred, hv, .int .i64 r.src, .int .i64 r.n, bv] 54)).cell? ⟨P, 0, none⟩ = some (.slice pa ps.length pc) ∧ Hid (RulesOn w B P ps (.slice pa ps.length pc) (w6.alloc (.cells #[.int .i64 r.head.pred, hv, .int .i64 r.src, .int .i64 r.n, bv] 54)) rvs u s2) ∧ Hid (OwnA w.heap.size (w6.alloc (.cells #[.int .i64 r.head.pred, hv, .int .i64 r.src, .int .i64 r.n, bv] 54)) hv r.head.args) ∧ Hid (OwnB w.heap.size (w6.alloc (.cells #[.int .i64 r.head.pred, hv, .int .i64 r.src, .int .i64 r.n, bv] 54)) bv r.body) ∧ Hid (w.heap.size ≤ w6.heap.size + 1 ∧ (w6.alloc (.cells #[.int .i64 r.head.pred, hv, .int .i64 r.src, .int .i64 r.n, bv] 54)).heap.size = w6.heap.size + 1)) := fun w6 hv bv hr ha ho hob => by
              have h1 := HI.out.on ((Ate.drew B wr).trans ha) hB hP hr
              have ha2 : Ate B w6 (w6.alloc (.cells #[.int .i64 r.head.pred, hv, .int .i64 r.src, .int .i64 r.n, bv] 54)) := Ate.of (below_alloc _ _) (Nat.le_of_lt (rest_lt hr))
              have h2 := HI.out.on ((Ate.drew B wr).trans (ha.trans ha2)) hB hP (rest_lasts hr (below_alloc w6 (.cells #[.int .i64 r.head.pred, hv, .int .i64 r.src, .int .i64 r.n, bv] 54)))
              have hle : w.heap.size ≤ wr.drew.heap.size := HI.out.kept.size
              have kb : ∀ e, KeepsTy e w.heap.size w6 (w6.alloc (.cells #[.int .i64 r.head.pred, hv, .int .i64 r.src, .int .i64 r.n, bv] 54)) := fun e => KeepsTy.below (below_alloc _ _)
              refine ⟨h1.box.cells.2.1, h2.box.cells.2.1, h1.box.cells.1, h2.box.cells.1, h2, (ho.mono hle).ty (kb _), (hob.mono hle).ty (kb _) (kb _), ?_, World.size_alloc _ _⟩
              have := h1.kept.size
              omega
            have hj9 : rvs.length ≤ 4096 := by have := HI.out.len; have := HS1.out; omega
            have HT : Hid (Calls Tryz.prog 34 #[.slice pa ps.length pc, .pointer (some ⟨B, 0, none⟩)] wr.drew (ReadsTo B wr.drew (some (r, s2)) fun r v w' => RuleV wr.drew.heap.size r v w')) := by
              have := readRule_c wr.drew B sj (rest_drew HI.out.rest) (by have := HI.out.len; have := HS1.out; omega) (.slice pa ps.length pc) ps HI.out.preds.at
              rw [K2.out] at this
              exact this
            refine wp_region_noPanic ?_
            refine wp_region_held_drew (S := (fun _ : World => True)) (by kernel_rfl) trivial (fun hHeld => ?_)
            refine wpAnyH_take (i := 0) (v := ?_) rfl (by kernel_rfl) (by kernel_rfl) (by kernel_rfl) (fun _ _ _ h => h) (Or.inl ⟨by rfl, ?_⟩) (by assumption) ?_
            rotate_left
            · (intro w hSw; go_simp; try with_reducible rfl)
            simp only [Act.put]
            refine wpAnyH_take (i := 2) (v := ?_) rfl (by kernel_rfl) (by kernel_rfl) (by kernel_rfl) (fun _ _ _ h => h) (Or.inl ⟨by rfl, ?_⟩) (by assumption) ?_
            rotate_left
            · (intro w hSw; go_simp; try with_reducible rfl)
            simp only [Act.put]
            refine wpAnyH_take (i := 4) (v := ?_) rfl (by kernel_rfl) (by kernel_rfl) (by kernel_rfl) (fun _ _ _ h => h) (Or.inl ⟨by rfl, ?_⟩) (by assumption) ?_
            rotate_left
            · (intro w hSw; go_simp; try with_reducible rfl)
            simp only [Act.put]
            refine wpAnyH_ready (rs := [1, 3]) (by kernel_rfl) (by simp) ?_
            refine AllReadyH.cons rfl (fun K hK => ?_) ?_
            · go_simp
              refine hK.out _ _ trivial (fun hHeld => ?_)
              clear hK K
              try simp only [Act.put, List.setIfInBounds_toArray, List.set_cons_zero, List.set_cons_succ]
              refine wpAnyH_ready (rs := [3]) (by kernel_rfl) (by simp) ?_
              refine AllReadyH.cons rfl (fun K hK => ?_) AllReadyH.nil
              go_simp
              refine hK.out _ _ trivial (fun hHeld => ?_)
              clear hK K
              try simp only [Act.put, List.setIfInBounds_toArray, List.set_cons_zero, List.set_cons_succ]
              refine wpAnyH_ready (rs := [5]) (by kernel_rfl) (by simp) ?_
              refine AllReadyH.cons rfl (fun K hK => ?_) AllReadyH.nil
              go_simp
              refine HT.out.mono ?_
              intro e w6 h6
              obtain ⟨v, rfl, hv6, hx6⟩ := h6.yes
              clear h6
              obtain ⟨hv, bv, rfl, hoa, hob⟩ := hv6
              obtain ⟨ha, hc, rfl⟩ := own_val hoa.2
              obtain ⟨ba, bc, rfl⟩ := own_bval hob
              obtain ⟨q6, qV, q6', qV', HV, HOA, HOB, HSE⟩ := HAFT.out w6 (.slice ha r.head.args.length hc) (.slice ba r.body.length bc) hx6.out.1 hx6.out.2 hoa hob
              clear hoa hob
              refine hK.out _ _ trivial (fun hHeld => ?_)
              clear hK K
              try simp only [Act.put, List.setIfInBounds_toArray, List.set_cons_zero, List.set_cons_succ]
              refine wpAnyH_ready (rs := [6]) (by kernel_rfl) (by simp) ?_
              refine AllReadyH.cons rfl (fun K hK => ?_) AllReadyH.nil
              go_simp
              refine hK.out _ _ trivial (fun hHeld => ?_)
              clear hK K
              try simp only [Act.put, List.setIfInBounds_toArray, List.set_cons_zero, List.set_cons_succ]
              refine wpAnyH_ready (rs := [7]) (by kernel_rfl) (by simp) ?_
              refine AllReadyH.cons rfl (fun K hK => ?_) AllReadyH.nil
              refine step_append_lies _ (by rfl) _ _ 23 (by rfl) w.heap.size 54 i0 (.agg #[.int .i64 0, .slice none 0 0, .int .i64 0, .int .i64 0, .slice none 0 0]) 5 72 Tryz.underlying23 hi0 hz0 hz1 hz2 (by rfl) (by omega) u rvs.length (cellsR rvs) (by rfl) HV.out.own ⟨w6.heap.size, 0, none⟩ 1 1 [.int .i64 r.head.pred, .slice ha r.head.args.length hc, .int .i64 r.src, .int .i64 r.n, .slice ba r.body.length bc] (by rfl) (by rfl) new_cells5 (by intro u hu; simp at hu; rcases hu with rfl | rfl | rfl | rfl | rfl <;> rfl) (by omega) (by unfold maxLen; omega) (by omega) (by have := HSE.out; omega) (w6.heap.size + 1) (World.size_alloc _ _) ?_
              intro g9 cap9 W9 hown9 hgrow9 hat9 hlt9
              obtain ⟨n1, n2, HN9⟩ := rule_next HI.out.len HI.out.eq K1.out K2.out hB hP HV.out HOA.out HOB.out (by exact hgrow9) (by exact hown9)
              clear hat9 hlt9 hown9 hgrow9
              refine hK.out _ _ trivial (fun hHeld => ?_)
              clear hK K
              try simp only [Act.put, List.setIfInBounds_toArray]
              refine wpAnyH_take (i := 8) (v := ?_) rfl (by kernel_rfl) (by kernel_rfl) (by kernel_rfl) (fun _ _ _ h => h) (Or.inl ⟨by rfl, ?_⟩) (by assumption) ?_
              rotate_left
              · (intro w hSw; go_simp; try with_reducible rfl)
              simp only [Act.put]
              refine wpAnyH_ready (rs := [9]) (by kernel_rfl) (by simp) ?_
              refine AllReadyH.cons rfl (fun K hK => ?_) AllReadyH.nil
              go_simp
              refine hK.out _ _ trivial (fun hHeld => ?_)
              clear hK K
              try simp only [Act.put, List.setIfInBounds_toArray, List.set_cons_zero, List.set_cons_succ]
              refine wpAnyH_done (by kernel_rfl) ?_ _
              refine NoPanic.normal ?_
              clear n1 n2 q5 q5' q6 qV q6' qV'
              go_wp2_with fail
              go_roundw
              case rel => exact ⟨_, _, _, HN9.out.2⟩
              case measure => have h1 := HN9.out; rw [rest_len h1.2.rest, rest_len HI.out.rest]; exact h1.1
            · refine AllReadyH.cons rfl (fun K hK => ?_) AllReadyH.nil
              go_simp
              refine hK.out _ _ trivial (fun hHeld => ?_)
              clear hK K
              try simp only [Act.put, List.setIfInBounds_toArray, List.set_cons_zero, List.set_cons_succ]
              refine wpAnyH_ready (rs := [1, 5]) (by kernel_rfl) (by simp) ?_
              refine AllReadyH.cons rfl (fun K hK => ?_) ?_
              · go_simp
                refine hK.out _ _ trivial (fun hHeld => ?_)
                clear hK K
                try simp only [Act.put, List.setIfInBounds_toArray, List.set_cons_zero, List.set_cons_succ]
                refine wpAnyH_ready (rs := [5]) (by kernel_rfl) (by simp) ?_
                refine AllReadyH.cons rfl (fun K hK => ?_) AllReadyH.nil
                go_simp
                refine HT.out.mono ?_
                intro e w6 h6
                obtain ⟨v, rfl, hv6, hx6⟩ := h6.yes
                clear h6
                obtain ⟨hv, bv, rfl, hoa, hob⟩ := hv6
                obtain ⟨ha, hc, rfl⟩ := own_val hoa.2
                obtain ⟨ba, bc, rfl⟩ := own_bval hob
                obtain ⟨q6, qV, q6', qV', HV, HOA, HOB, HSE⟩ := HAFT.out w6 (.slice ha r.head.args.length hc) (.slice ba r.body.length bc) hx6.out.1 hx6.out.2 hoa hob
                clear hoa hob
                refine hK.out _ _ trivial (fun hHeld => ?_)
                clear hK K
                try simp only [Act.put, List.setIfInBounds_toArray, List.set_cons_zero, List.set_cons_succ]
                refine wpAnyH_ready (rs := [6]) (by kernel_rfl) (by simp) ?_
                refine AllReadyH.cons rfl (fun K hK => ?_) AllReadyH.nil
                go_simp
                refine hK.out _ _ trivial (fun hHeld => ?_)
                clear hK K
                try simp only [Act.put, List.setIfInBounds_toArray, List.set_cons_zero, List.set_cons_succ]
                refine wpAnyH_ready (rs := [7]) (by kernel_rfl) (by simp) ?_
                refine AllReadyH.cons rfl (fun K hK => ?_) AllReadyH.nil
                refine step_append_lies _ (by rfl) _ _ 23 (by rfl) w.heap.size 54 i0 (.agg #[.int .i64 0, .slice none 0 0, .int .i64 0, .int .i64 0, .slice none 0 0]) 5 72 Tryz.underlying23 hi0 hz0 hz1 hz2 (by rfl) (by omega) u rvs.length (cellsR rvs) (by rfl) HV.out.own ⟨w6.heap.size, 0, none⟩ 1 1 [.int .i64 r.head.pred, .slice ha r.head.args.length hc, .int .i64 r.src, .int .i64 r.n, .slice ba r.body.length bc] (by rfl) (by rfl) new_cells5 (by intro u hu; simp at hu; rcases hu with rfl | rfl | rfl | rfl | rfl <;> rfl) (by omega) (by unfold maxLen; omega) (by omega) (by have := HSE.out; omega) (w6.heap.size + 1) (World.size_alloc _ _) ?_
                intro g9 cap9 W9 hown9 hgrow9 hat9 hlt9
                obtain ⟨n1, n2, HN9⟩ := rule_next HI.out.len HI.out.eq K1.out K2.out hB hP HV.out HOA.out HOB.out (by exact hgrow9) (by exact hown9)
                clear hat9 hlt9 hown9 hgrow9
                refine hK.out _ _ trivial (fun hHeld => ?_)
                clear hK K
                try simp only [Act.put, List.setIfInBounds_toArray]
                refine wpAnyH_take (i := 8) (v := ?_) rfl (by kernel_rfl) (by kernel_rfl) (by kernel_rfl) (fun _ _ _ h => h) (Or.inl ⟨by rfl, ?_⟩) (by assumption) ?_
                rotate_left
                · (intro w hSw; go_simp; try with_reducible rfl)
                simp only [Act.put]
                refine wpAnyH_ready (rs := [9]) (by kernel_rfl) (by simp) ?_
                refine AllReadyH.cons rfl (fun K hK => ?_) AllReadyH.nil
                go_simp
                refine hK.out _ _ trivial (fun hHeld => ?_)
                clear hK K
                try simp only [Act.put, List.setIfInBounds_toArray, List.set_cons_zero, List.set_cons_succ]
                refine wpAnyH_done (by kernel_rfl) ?_ _
                refine NoPanic.normal ?_
                clear n1 n2 q5 q5' q6 qV q6' qV'
                go_wp2_with fail
                go_roundw
                case rel => exact ⟨_, _, _, HN9.out.2⟩
                case measure => have h1 := HN9.out; rw [rest_len h1.2.rest, rest_len HI.out.rest]; exact h1.1
              · refine AllReadyH.cons rfl (fun K hK => ?_) AllReadyH.nil
                go_simp
                refine HT.out.mono ?_
                intro e w6 h6
                obtain ⟨v, rfl, hv6, hx6⟩ := h6.yes
                clear h6
                obtain ⟨hv, bv, rfl, hoa, hob⟩ := hv6
                obtain ⟨ha, hc, rfl⟩ := own_val hoa.2
                obtain ⟨ba, bc, rfl⟩ := own_bval hob
                obtain ⟨q6, qV, q6', qV', HV, HOA, HOB, HSE⟩ := HAFT.out w6 (.slice ha r.head.args.length hc) (.slice ba r.body.length bc) hx6.out.1 hx6.out.2 hoa hob
                clear hoa hob
                refine hK.out _ _ trivial (fun hHeld => ?_)
                clear hK K
                try simp only [Act.put, List.setIfInBounds_toArray, List.set_cons_zero, List.set_cons_succ]
                refine wpAnyH_ready (rs := [1, 6]) (by kernel_rfl) (by simp) ?_
                refine AllReadyH.cons rfl (fun K hK => ?_) ?_
                · go_simp
                  refine hK.out _ _ trivial (fun hHeld => ?_)
                  clear hK K
                  try simp only [Act.put, List.setIfInBounds_toArray, List.set_cons_zero, List.set_cons_succ]
                  refine wpAnyH_ready (rs := [6]) (by kernel_rfl) (by simp) ?_
                  refine AllReadyH.cons rfl (fun K hK => ?_) AllReadyH.nil
                  go_simp
                  refine hK.out _ _ trivial (fun hHeld => ?_)
                  clear hK K
                  try simp only [Act.put, List.setIfInBounds_toArray, List.set_cons_zero, List.set_cons_succ]
                  refine wpAnyH_ready (rs := [7]) (by kernel_rfl) (by simp) ?_
                  refine AllReadyH.cons rfl (fun K hK => ?_) AllReadyH.nil
                  refine step_append_lies _ (by rfl) _ _ 23 (by rfl) w.heap.size 54 i0 (.agg #[.int .i64 0, .slice none 0 0, .int .i64 0, .int .i64 0, .slice none 0 0]) 5 72 Tryz.underlying23 hi0 hz0 hz1 hz2 (by rfl) (by omega) u rvs.length (cellsR rvs) (by rfl) HV.out.own ⟨w6.heap.size, 0, none⟩ 1 1 [.int .i64 r.head.pred, .slice ha r.head.args.length hc, .int .i64 r.src, .int .i64 r.n, .slice ba r.body.length bc] (by rfl) (by rfl) new_cells5 (by intro u hu; simp at hu; rcases hu with rfl | rfl | rfl | rfl | rfl <;> rfl) (by omega) (by unfold maxLen; omega) (by omega) (by have := HSE.out; omega) (w6.heap.size + 1) (World.size_alloc _ _) ?_
                  intro g9 cap9 W9 hown9 hgrow9 hat9 hlt9
                  obtain ⟨n1, n2, HN9⟩ := rule_next HI.out.len HI.out.eq K1.out K2.out hB hP HV.out HOA.out HOB.out (by exact hgrow9) (by exact hown9)
                  clear hat9 hlt9 hown9 hgrow9
                  refine hK.out _ _ trivial (fun hHeld => ?_)
                  clear hK K
                  try simp only [Act.put, List.setIfInBounds_toArray]
                  refine wpAnyH_take (i := 8) (v := ?_) rfl (by kernel_rfl) (by kernel_rfl) (by kernel_rfl) (fun _ _ _ h => h) (Or.inl ⟨by rfl, ?_⟩) (by assumption) ?_
                  rotate_left
                  · (intro w hSw; go_simp; try with_reducible rfl)
                  simp only [Act.put]
                  refine wpAnyH_ready (rs := [9]) (by kernel_rfl) (by simp) ?_
                  refine AllReadyH.cons rfl (fun K hK => ?_) AllReadyH.nil
                  go_simp
                  refine hK.out _ _ trivial (fun hHeld => ?_)
                  clear hK K
                  try simp only [Act.put, List.setIfInBounds_toArray, List.set_cons_zero, List.set_cons_succ]
                  refine wpAnyH_done (by kernel_rfl) ?_ _
                  refine NoPanic.normal ?_
                  clear n1 n2 q5 q5' q6 qV q6' qV'
                  go_wp2_with fail
                  go_roundw
                  case rel => exact ⟨_, _, _, HN9.out.2⟩
                  case measure => have h1 := HN9.out; rw [rest_len h1.2.rest, rest_len HI.out.rest]; exact h1.1
                · refine AllReadyH.cons rfl (fun K hK => ?_) AllReadyH.nil
                  go_simp
                  refine hK.out _ _ trivial (fun hHeld => ?_)
                  clear hK K
                  try simp only [Act.put, List.setIfInBounds_toArray, List.set_cons_zero, List.set_cons_succ]
                  refine wpAnyH_ready (rs := [1]) (by kernel_rfl) (by simp) ?_
                  refine AllReadyH.cons rfl (fun K hK => ?_) AllReadyH.nil
                  go_simp
                  refine hK.out _ _ trivial (fun hHeld => ?_)
                  clear hK K
                  try simp only [Act.put, List.setIfInBounds_toArray, List.set_cons_zero, List.set_cons_succ]
                  refine wpAnyH_ready (rs := [7]) (by kernel_rfl) (by simp) ?_
                  refine AllReadyH.cons rfl (fun K hK => ?_) AllReadyH.nil
                  refine step_append_lies _ (by rfl) _ _ 23 (by rfl) w.heap.size 54 i0 (.agg #[.int .i64 0, .slice none 0 0, .int .i64 0, .int .i64 0, .slice none 0 0]) 5 72 Tryz.underlying23 hi0 hz0 hz1 hz2 (by rfl) (by omega) u rvs.length (cellsR rvs) (by rfl) HV.out.own ⟨w6.heap.size, 0, none⟩ 1 1 [.int .i64 r.head.pred, .slice ha r.head.args.length hc, .int .i64 r.src, .int .i64 r.n, .slice ba r.body.length bc] (by rfl) (by rfl) new_cells5 (by intro u hu; simp at hu; rcases hu with rfl | rfl | rfl | rfl | rfl <;> rfl) (by omega) (by unfold maxLen; omega) (by omega) (by have := HSE.out; omega) (w6.heap.size + 1) (World.size_alloc _ _) ?_
                  intro g9 cap9 W9 hown9 hgrow9 hat9 hlt9
                  obtain ⟨n1, n2, HN9⟩ := rule_next HI.out.len HI.out.eq K1.out K2.out hB hP HV.out HOA.out HOB.out (by exact hgrow9) (by exact hown9)
                  clear hat9 hlt9 hown9 hgrow9
                  refine hK.out _ _ trivial (fun hHeld => ?_)
                  clear hK K
                  try simp only [Act.put, List.setIfInBounds_toArray]
                  refine wpAnyH_take (i := 8) (v := ?_) rfl (by kernel_rfl) (by kernel_rfl) (by kernel_rfl) (fun _ _ _ h => h) (Or.inl ⟨by rfl, ?_⟩) (by assumption) ?_
                  rotate_left
                  · (intro w hSw; go_simp; try with_reducible rfl)
                  simp only [Act.put]
                  refine wpAnyH_ready (rs := [9]) (by kernel_rfl) (by simp) ?_
                  refine AllReadyH.cons rfl (fun K hK => ?_) AllReadyH.nil
                  go_simp
                  refine hK.out _ _ trivial (fun hHeld => ?_)
                  clear hK K
                  try simp only [Act.put, List.setIfInBounds_toArray, List.set_cons_zero, List.set_cons_succ]
                  refine wpAnyH_done (by kernel_rfl) ?_ _
                  refine NoPanic.normal ?_
                  clear n1 n2 q5 q5' q6 qV q6' qV'
                  go_wp2_with fail
                  go_roundw
                  case rel => exact ⟨_, _, _, HN9.out.2⟩
                  case measure => have h1 := HN9.out; rw [rest_len h1.2.rest, rest_len HI.out.rest]; exact h1.1
end Go.Proofs.YtlfccloaoopadafGreatDoor.Text

/-
  The document's own reading of texts: cut, said, termFrom.
-/
namespace Go.Proofs.YtlfccloaoopadafGreatDoor.Text
open Go.ChangeShapes Go.WideShapes Go.ChangeAt Go.RowKit

theorem wrap_small {n : Int} (h0 : 0 ≤ n) (h1 : n < 9223372036854775808) : IntKind.i64.wrap n = n := by
  have e1 : (2 : Int) ^ 64 = 18446744073709551616 := by decide
  have e2 : (2 : Int) ^ 63 = 9223372036854775808 := by decide
  have hm : n % (2 : Int) ^ 64 = n := Int.emod_eq_of_lt h0 (by omega)
  show (if (true && decide (n % (2 : Int) ^ 64 ≥ (2 : Int) ^ 63)) = true then n % (2 : Int) ^ 64 - (2 : Int) ^ 64 else n % (2 : Int) ^ 64) = n
  rw [if_neg, hm]
  intro h
  rw [Bool.true_and] at h
  have h2 : n % (2 : Int) ^ 64 ≥ (2 : Int) ^ 63 := of_decide_eq_true h
  omega
theorem bl_mid (T : ByteArray) (i n : Nat) : bl (T.extract i (i + n)) = ((bl T).drop i).take n := by
  unfold bl
  rw [ByteArray.data_extract, Array.toList_extract, List.extract_eq_take_drop, Nat.add_sub_cancel_left]
theorem eat_take {p s : List UInt8} (h : s.take p.length = p) : eatL p s = some (s.drop p.length) := eat_iff.2 (by
  have := List.take_append_drop p.length s
  rw [h] at this
  exact this.symm)
theorem eat_take_not {p s : List UInt8} (h : s.take p.length ≠ p) : eatL p s = none := by
  cases e : eatL p s with
  | none => rfl
  | some t =>
    have := eat_iff.1 e
    rw [this] at h
    simp at h
set_option maxRecDepth 100000 in
set_option maxHeartbeats 4000000 in
theorem cut_c (w : World) (s p : ByteArray) (hp : 0 < p.size) (hp9 : p.size ≤ 100) (hs : s.size ≤ 100000) : Calls Tryz.prog 38 #[.string s, .string p] w fun e w' => e = .returned (.tuple #[.string (mk (cutL (bl p) (bl s)).1), .string (mk (cutL (bl p) (bl s)).2.1), .bool (cutL (bl p) (bl s)).2.2]) ∧ Below w.heap.size w w' := by
  have HP0 : Hid (bl p ≠ []) := by intro h; have := bl_size p; rw [h] at this; simp at this; omega
  go_enter Tryz.func38, Tryz.ntmps38
  go_wp2_with fail
  go_loop [7] (fun i => ∃ j : Nat, i = .int .i64 j ∧ j ≤ s.size + 1 ∧ Hid (∀ k, k < j → eatL (bl p) ((bl s).drop k) = none)) (fun i => s.size + 1 - (intOf i).toNat)
  case atStart => exact ⟨0, rfl, by omega, fun k hk => by omega⟩
  case round =>
    obtain ⟨j, rfl, hj, hin⟩ := hrel
    by_cases hlt : j + p.size ≤ s.size
    · have hlt' : (j : Int) + (p.size : Int) ≤ (s.size : Int) := by omega
      have hj1 : (j : Int) ≤ (j : Int) + (p.size : Int) := by omega
      have hjs : (j : Int) ≤ (s.size : Int) := by omega
      have hwr : IntKind.i64.wrap ((j : Int) + (p.size : Int)) = (j : Int) + (p.size : Int) := wrap_small (by omega) (by omega)
      have h00 : (0 : Int) ≤ (j : Int) + (p.size : Int) := by omega
      have hto : ((j : Int) + (p.size : Int)).toNat = j + p.size := by omega
      have hmid : bl (s.extract j (j + p.size)) = ((bl s).drop j).take (bl p).length := by rw [bl_mid, bl_size]
      by_cases heq : ((bl s).drop j).take (bl p).length = bl p
      · have hE := eat_take heq
        rw [List.drop_drop, bl_size] at hE
        have HX := hid (cut_at HP0.out hin.out hE)
        have hb : ((s.extract j (j + p.size)).toList == p.toList) = true := by rw [str_eq, hmid, heq]; simp
        clear hE heq hmid hin
        go_wp2_with fail
        refine wp_region_noPanic ?_
        refine wp_region_held_drew (S := (fun x : World => Below w.heap.size w x)) (by kernel_rfl) ((Below.refl _ _).drew) (fun hHeld => ?_)
        change wpAnyH _ _ _ _ _ _ #[false, false, false, false, false, false, false, false, false, false, false, false] _ _
        refine wpAnyH_takeN (i := 0) (v := ?_) rfl (by rfl) (by kernel_rfl) (by kernel_rfl) (by kernel_rfl) (fun _ _ _ h => h) (Or.inl ⟨by rfl, ?_⟩) (by assumption) ?_
        rotate_left
        · (intro w hSw; go_simp; try with_reducible rfl)
        simp only [List.setIfInBounds_toArray, List.set_cons_zero, List.set_cons_succ]
        change wpAnyH _ _ _ _ _ _ #[true, false, false, false, false, false, false, false, false, false, false, false] _ _
        refine wpAnyH_takeN (i := 1) (v := ?_) rfl (by rfl) (by kernel_rfl) (by kernel_rfl) (by kernel_rfl) (fun _ _ _ h => h) (Or.inl ⟨by rfl, ?_⟩) (by assumption) ?_
        rotate_left
        · (intro w hSw; go_simp; try with_reducible rfl)
        simp only [List.setIfInBounds_toArray, List.set_cons_zero, List.set_cons_succ]
        change wpAnyH _ _ _ _ _ _ #[true, true, false, false, false, false, false, false, false, false, false, false] _ _
        refine wpAnyH_takeN (i := 2) (v := ?_) rfl (by rfl) (by kernel_rfl) (by kernel_rfl) (by kernel_rfl) (fun _ _ _ h => h) (Or.inl ⟨by rfl, ?_⟩) (by assumption) ?_
        rotate_left
        · (intro w hSw; go_simp; try with_reducible rfl)
        simp only [List.setIfInBounds_toArray, List.set_cons_zero, List.set_cons_succ]
        change wpAnyH _ _ _ _ _ _ #[true, true, true, false, false, false, false, false, false, false, false, false] _ _
        refine wpAnyH_takeN (i := 3) (v := ?_) rfl (by rfl) (by kernel_rfl) (by kernel_rfl) (by kernel_rfl) (fun _ _ _ h => h) (Or.inl ⟨by rfl, ?_⟩) (by assumption) ?_
        rotate_left
        · (intro w hSw; go_simp; try with_reducible rfl)
        simp only [List.setIfInBounds_toArray, List.set_cons_zero, List.set_cons_succ]
        change wpAnyH _ _ _ _ _ _ #[true, true, true, true, false, false, false, false, false, false, false, false] _ _
        refine wpAnyH_takeN (i := 4) (v := ?_) rfl (by rfl) (by kernel_rfl) (by kernel_rfl) (by kernel_rfl) (fun _ _ _ h => h) (Or.inl ⟨by rfl, ?_⟩) (by assumption) ?_
        rotate_left
        · (intro w hSw; go_simp; try with_reducible rfl)
        simp only [List.setIfInBounds_toArray, List.set_cons_zero, List.set_cons_succ]
        change wpAnyH _ _ _ _ _ _ #[true, true, true, true, true, false, false, false, false, false, false, false] _ _
        refine wpAnyH_takeN (i := 5) (v := ?_) rfl (by rfl) (by kernel_rfl) (by kernel_rfl) (by kernel_rfl) (fun _ _ _ h => h) (Or.inl ⟨by rfl, ?_⟩) (by assumption) ?_
        rotate_left
        · (intro w hSw; go_simp; try with_reducible rfl)
        simp only [List.setIfInBounds_toArray, List.set_cons_zero, List.set_cons_succ]
        change wpAnyH _ _ _ _ _ _ #[true, true, true, true, true, true, false, false, false, false, false, false] _ _
        refine wpAnyH_takeN (i := 6) (v := ?_) rfl (by rfl) (by kernel_rfl) (by kernel_rfl) (by kernel_rfl) (fun _ _ _ h => h) (Or.inl ⟨by rfl, ?_⟩) (by assumption) ?_
        rotate_left
        · (intro w hSw; go_simp; try with_reducible rfl)
        simp only [List.setIfInBounds_toArray, List.set_cons_zero, List.set_cons_succ]
        change wpAnyH _ _ _ _ _ _ #[true, true, true, true, true, true, true, false, false, false, false, false] _ _
        refine wpAnyH_takeN (i := 7) (v := ?_) rfl (by rfl) (by kernel_rfl) (by kernel_rfl) (by kernel_rfl) (fun _ _ _ h => h) (Or.inl ⟨by rfl, ?_⟩) (by assumption) ?_
        rotate_left
        · (intro w hSw; go_simp; try with_reducible rfl)
        simp only [List.setIfInBounds_toArray, List.set_cons_zero, List.set_cons_succ]
        change wpAnyH _ _ _ _ _ _ #[true, true, true, true, true, true, true, true, false, false, false, false] _ _
        refine wpAnyH_takeN (i := 8) (v := ?_) rfl (by rfl) (by kernel_rfl) (by kernel_rfl) (by kernel_rfl) (fun _ _ _ h => h) (Or.inl ⟨by rfl, ?_⟩) (by assumption) ?_
        rotate_left
        · (intro w hSw; go_simp; try with_reducible rfl)
        simp only [List.setIfInBounds_toArray, List.set_cons_zero, List.set_cons_succ]
        change wpAnyH _ _ _ _ _ _ #[true, true, true, true, true, true, true, true, true, false, false, false] _ _
        refine wpAnyH_takeN (i := 9) (v := ?_) rfl (by rfl) (by kernel_rfl) (by kernel_rfl) (by kernel_rfl) (fun _ _ _ h => h) (Or.inl ⟨by rfl, ?_⟩) (by assumption) ?_
        rotate_left
        · (intro w hSw; go_simp; try with_reducible rfl)
        simp only [List.setIfInBounds_toArray, List.set_cons_zero, List.set_cons_succ]
        change wpAnyH _ _ _ _ _ _ #[true, true, true, true, true, true, true, true, true, true, false, false] _ _
        refine wpAnyH_takeN (i := 10) (v := ?_) rfl (by rfl) (by kernel_rfl) (by kernel_rfl) (by kernel_rfl) (fun _ _ _ h => h) (Or.inl ⟨by rfl, ?_⟩) (by assumption) ?_
        rotate_left
        · (intro w hSw; go_simp; try with_reducible rfl)
        simp only [List.setIfInBounds_toArray, List.set_cons_zero, List.set_cons_succ]
        change wpAnyH _ _ _ _ _ _ #[true, true, true, true, true, true, true, true, true, true, true, false] _ _
        refine wpAnyH_takeN (i := 11) (v := ?_) rfl (by rfl) (by kernel_rfl) (by kernel_rfl) (by kernel_rfl) (fun _ _ _ h => h) (Or.inl ⟨by rfl, ?_⟩) (by assumption) ?_
        rotate_left
        · (intro w hSw; go_simp; try with_reducible rfl)
        simp only [List.setIfInBounds_toArray, List.set_cons_zero, List.set_cons_succ]
        change wpAnyH _ _ _ _ _ _ #[true, true, true, true, true, true, true, true, true, true, true, true] _ _
        refine wpAnyH_done (by kernel_rfl) ?_ _
        refine NoPanic.normal ?_
        go_wp2_with fail
        exact bodyPost_ret (v := .tuple #[.string (s.extract 0 j), .string (s.extract (j + p.size) s.size), .bool true]) (by simp [results, Tryz.results38, go_sem]) rfl ⟨by rw [HX.out]; simp only; rw [← bl_take, ← bl_drop, mk_bl, mk_bl], hHeld⟩
      · have HX : Hid (∀ k, k < j + 1 → eatL (bl p) ((bl s).drop k) = none) := fun k hk => by
          by_cases e : k = j
          · subst e; exact eat_take_not heq
          · exact hin.out k (by omega)
        have hb : ((s.extract j (j + p.size)).toList == p.toList) = false := by rw [str_eq, hmid]; simp [heq]
        clear heq hmid hin
        go_wp2_with fail
        go_round
        case rel => exact ⟨j + 1, by go_num, by omega, HX⟩
        case measure => simp [intOf]; omega
    · have hlt' : ¬ (j : Int) + (p.size : Int) ≤ (s.size : Int) := by omega
      have HX : Hid (cutL (bl p) (bl s) = (bl s, [], false)) := cut_none fun k hk => by
        by_cases e : k < j
        · exact hin.out k e
        · cases e2 : eatL (bl p) ((bl s).drop k) with
          | none => rfl
          | some t =>
            have := eat_len e2
            rw [List.length_drop, bl_size, bl_size] at this
            omega
      go_wp2_with fail
      exact bodyPost_ret (v := .tuple #[.string s, .string ⟨#[]⟩, .bool false]) (by simp [results, Tryz.results38, go_sem]) rfl ⟨by rw [HX.out]; simp only; rw [mk_bl]; rfl, Below.refl _ _⟩
theorem say_snoc : ∀ (r : List UInt8) (b : UInt8) (n : Int), sayL (r ++ [b]) n = 10 * sayL r n + ((b.toNat : Int) - 48)
  | [], b, n => rfl
  | c :: r, b, n => by rw [List.cons_append, sayL, sayL, say_snoc r b]
theorem pow_ten : ∀ j : Nat, j ≤ 6 → (1 : Int) ≤ 10 ^ j ∧ (10 : Int) ^ j ≤ 1000000 := by
  intro j hj
  have h : ∀ k : Fin 7, (1 : Int) ≤ 10 ^ k.val ∧ (10 : Int) ^ k.val ≤ 1000000 := by decide
  exact h ⟨j, by omega⟩
set_option maxRecDepth 100000 in
set_option maxHeartbeats 4000000 in
theorem said_c (w : World) (s : ByteArray) (hs : s.size ≤ 100000) : Calls Tryz.prog 39 #[.string s] w fun e w' => e = .returned (.int .i64 (saidL (bl s))) ∧ w' = w := by
  have HW := Lat.within_c (s.size : Int) 1 6 w
  by_cases h1 : 1 ≤ s.size ∧ s.size ≤ 6
  · have HE : Hid (saidL (bl s) = sayL (bl s) 0) := by show _ = _; unfold saidL; rw [bl_size, if_pos h1]
    rw [show Lat.within (s.size : Int) 1 6 = true by simp [Lat.within]; omega] at HW
    obtain ⟨h1, h6⟩ := h1
    go_enter Tryz.func39, Tryz.ntmps39
    go_wp2_with (go_at_call 24; refine HW.mono ?_; rintro e w1 ⟨rfl, rfl⟩)
    rename_i w1
    clear HW
    go_loop [3, 4] (fun n i => ∃ (j : Nat) (m : Int), j ≤ s.size ∧ i = .int .i64 j ∧ n = .int .i64 m ∧ (m ≤ 300 * (10 : Int) ^ j - 100 ∧ -(300 * (10 : Int) ^ j - 100) ≤ m) ∧ Hid (m = sayL ((bl s).take j) 0)) (fun _ i => s.size - (intOf i).toNat)
    case atStart => exact ⟨0, 0, Nat.zero_le _, rfl, rfl, ⟨by rw [Int.pow_zero]; omega, by rw [Int.pow_zero]; omega⟩, rfl⟩
    case round =>
      obtain ⟨j, m, hj, rfl, rfl, hm, hin⟩ := hrel
      by_cases hlt : j < s.size
      · have hjl : (j : Int) < (s.size : Int) := by omega
        have hj0 : (0 : Int) ≤ (j : Int) := by omega
        have hp := pow_ten j (by omega)
        obtain ⟨q, hq⟩ : ∃ q : Int, (10 : Int) ^ j = q := ⟨_, rfl⟩
        have hq1 : 1 ≤ q ∧ q ≤ 1000000 := by rw [← hq]; exact hp
        have hqs : Hid ((10 : Int) ^ (j + 1) = 10 * q) := by show _ = _; rw [Int.pow_succ, hq]; omega
        rw [hq] at hm
        have HN : Hid (sayL ((bl s).take (j + 1)) 0 = 10 * m + ((s[j].toNat : Int) - 48)) := by
          show _ = _
          rw [List.take_succ_eq_append_getElem (by rw [bl_size]; exact hlt), say_snoc, ← hin.out, bl_at hlt]
        have hb : (s[j].toNat : Int) ≤ 255 := by have := s[j].toNat_lt; omega
        have hb0 : (0 : Int) ≤ (s[j].toNat : Int) := by omega
        obtain ⟨hm1, hm2⟩ := hm
        have hm3 : m ≤ 300000000 := by omega
        have hm4 : -300000000 ≤ m := by omega
        clear hq hp
        go_wp2_with fail
        go_round
        case rel => exact ⟨j + 1, 10 * m + (s[j].toNat : Int) - 48, by omega, by go_num, rfl, by rw [hqs.out]; omega, by rw [HN.out]; show _ = _; omega⟩
        case measure => simp [intOf]; omega
      · obtain rfl : j = s.size := by omega
        have HX : Hid (m = saidL (bl s)) := by
          show _ = _
          rw [HE.out, hin.out, ← bl_size, List.take_length]
        go_wp2_with fail
        go_ret
        exact ⟨ret_int HX.out, rfl⟩
  · have HE : Hid (saidL (bl s) = 0) := by show _ = _; unfold saidL; rw [bl_size, if_neg h1]
    rw [show Lat.within (s.size : Int) 1 6 = false by simp [Lat.within]; omega] at HW
    go_enter Tryz.func39, Tryz.ntmps39
    go_wp2_with (go_at_call 24; refine HW.mono ?_; rintro e w1 ⟨rfl, rfl⟩)
    go_ret
    exact ⟨by rw [HE.out]; rfl, rfl⟩
set_option maxRecDepth 100000 in
set_option maxHeartbeats 4000000 in
theorem termFrom_c (w : World) (s : ByteArray) (hs : s.size ≤ 100000) : Calls Tryz.prog 91 #[.string s] w fun e w' => e = .returned (.agg #[.bool (termG (bl s)).var, .int .i64 (termG (bl s)).n]) ∧ Below w.heap.size w w' := by
  have hl := bl_size s
  by_cases h1 : s.size = 1
  · have h0 : 0 < s.size := by omega
    have h1' : (s.size : Int) = 1 := by omega
    have hh : (bl s).headD 0 = s[0] := by
      obtain ⟨b, hb⟩ : ∃ b, bl s = [b] := by
        match hbs : bl s, hl with
        | [b], _ => exact ⟨b, rfl⟩
        | [], hl => simp at hl; omega
        | _ :: _ :: _, hl => simp at hl; omega
      have := bl_at h0
      simp only [hb] at this ⊢
      exact this
    by_cases hA : 65 ≤ s[0].toNat
    · have HE : Hid (termG (bl s) = ⟨true, (s[0].toNat : Int) - 65⟩) := by
        show _ = _
        unfold termG
        rw [hl, hh, if_pos ⟨h1, hA⟩]
      have hA' : (65 : Int) ≤ (s[0].toNat : Int) := by omega
      have hb : (s[0].toNat : Int) ≤ 255 := by have := s[0].toNat_lt; omega
      rw [HE.out]
      clear hh hl h1
      go_enter Tryz.func91, Tryz.ntmps91
      go_wp2_with fail
      exact bodyPost_ret (v := .agg #[.bool true, .int .i64 ((s[0].toNat : Int) - 65)]) (by simp [results, Tryz.results91, go_sem]) rfl ⟨rfl, below_alloc _ _⟩
    · have HE : Hid (termG (bl s) = ⟨false, saidL (bl s)⟩) := by
        show _ = _
        unfold termG
        rw [hl, hh, if_neg (by omega)]
      have hA' : ¬ (65 : Int) ≤ (s[0].toNat : Int) := by omega
      have HC := said_c (w.alloc (.cells #[.bool false, .int .i64 0] 94)) s hs
      rw [HE.out]
      clear hh hl h1
      generalize saidL (bl s) = n at *
      go_enter Tryz.func91, Tryz.ntmps91
      go_wp2_with (go_at_call 39; refine HC.mono ?_; rintro e w1 ⟨rfl, hw1⟩; obtain rfl := hw1.symm)
      exact bodyPost_ret (v := .agg #[.bool false, .int .i64 n]) (by simp [results, Tryz.results91, go_sem]) rfl ⟨rfl, below_alloc _ _⟩
  · have HE : Hid (termG (bl s) = ⟨false, saidL (bl s)⟩) := by
      show _ = _
      unfold termG
      rw [hl, if_neg (by omega)]
    have h1' : ((s.size : Int) == 1) = false := by rw [beq_eq_false_iff_ne]; omega
    have HC := said_c (w.alloc (.cells #[.bool false, .int .i64 0] 94)) s hs
    rw [HE.out]
    clear hl h1
    generalize saidL (bl s) = n at *
    go_enter Tryz.func91, Tryz.ntmps91
    go_wp2_with (go_at_call 39; refine HC.mono ?_; rintro e w1 ⟨rfl, hw1⟩; obtain rfl := hw1.symm)
    exact bodyPost_ret (v := .agg #[.bool false, .int .i64 n]) (by simp [results, Tryz.results91, go_sem]) rfl ⟨rfl, below_alloc _ _⟩
end Go.Proofs.YtlfccloaoopadafGreatDoor.Text

/-
  The document's own reading of an atom.
-/
namespace Go.Proofs.YtlfccloaoopadafGreatDoor.Text
open Go.ChangeShapes Go.WideShapes Go.ChangeAt Go.RowKit
open Go.Proofs.YtlfccloaoopadafGreatDoor.Sum (cellsT cellsT_length infoTerm)
open Prog (slice_cells)

theorem argsG_fuel : ∀ (n m : Nat) (s : List UInt8), s.length < n → s.length < m → argsG n s = argsG m s
  | 0, _, s, h, _ => by omega
  | _ + 1, 0, s, _, h => by omega
  | n + 1, m + 1, s, h1, h2 => by
    rw [argsG, argsG]
    obtain ⟨_, _, hl⟩ := cut_len (p := [44]) (by simp) s
    cases hc : (cutL [44] s).2.2 with
    | false => rfl
    | true =>
      have := hl hc
      simp only [if_true]
      rw [argsG_fuel n m _ (by omega) (by omega)]
/-- what is still to be gathered -/
def restG (b : Bool) (A : ByteArray) : List Tm := if b then argsG (A.size + 1) (bl A) else []
def restN (b : Bool) (A : ByteArray) : Nat := if b then A.size + 1 else 0
def muG : Value → Value → Nat
  | .string A, .bool true => A.size + 1
  | _, _ => 0
/-- an atom that is gathered: its box, the box of the answer, its terms -/
structure FromOn (w : World) (N : Nat) (p : Int) (wr : World) (ts : List Tm) (u : Value) : Prop where
  box : boxA wr N (.int .i64 p) u
  out : boxA wr w.heap.size (.int .i64 0) (.slice none 0 0)
  own : wr.ownsRow w.heap.size 94 2 u ts.length (cellsT ts)
  below : Below w.heap.size w wr
theorem boxA.lasts {b : Nat} {w w' : World} {x y : Value} (h : boxA w b x y) (hb : Below w.heap.size w w') : boxA w' b x y := (hb.block b h.lt).trans h
theorem FromOn.lasts {w : World} {N : Nat} {p : Int} {wr w' : World} {ts : List Tm} {u : Value} (h : FromOn w N p wr ts u) (hb : Below wr.heap.size wr w') : FromOn w N p w' ts u :=
  ⟨h.box.lasts hb, h.out.lasts hb, Sum.own_lasts h.own hb, h.below.trans (hb.mono h.below.size)⟩
theorem from_next {w : World} {N : Nat} {p : Int} {ts : List Tm} {u : Value} {t : Tm} {V W9 : World} {g cap : Nat} (hN : w.heap.size < N) (hV : FromOn w N p V ts u)
    (hg : V.grownBy W9 u.ownBlock) (h9 : W9.ownsRow w.heap.size 94 2 (.slice (some ⟨g, 0, none⟩) (ts.length + 1) cap) (ts.length + 1) (cellsT ts ++ [.bool t.var, .int .i64 t.n])) :
    W9.cell? ⟨N, 1, none⟩ = some u ∧ W9.frozen? ⟨N, 1, none⟩ = false ∧ Hid (FromOn w N p (W9.setCell ⟨N, 1, none⟩ (.slice (some ⟨g, 0, none⟩) (ts.length + 1) cap)) (ts ++ [t]) (.slice (some ⟨g, 0, none⟩) (ts.length + 1) cap)) := by
  have b1 : boxA W9 N (.int .i64 p) u := obj_grown hg hV.box (own_not hV.own hV.box (by decide))
  have b2 : boxA W9 w.heap.size (.int .i64 0) (.slice none 0 0) := obj_grown hg hV.out (own_not hV.own hV.out (by decide))
  have b4 : Below w.heap.size w W9 := hV.below.grown hg hV.below.size (own_block hV.own)
  obtain ⟨c0, c1, f0, f1⟩ := b1.cells
  refine ⟨c1, f1, b1.set1 _, b2.far (by omega), ?_, b4.setCell (p := ⟨N, 1, none⟩) (by show w.heap.size ≤ N; omega) _⟩
  rw [cellsT_more, List.length_append]
  exact own_far h9 b1 (by decide)
set_option maxRecDepth 100000 in
set_option maxHeartbeats 8000000 in
theorem atomFrom_c (w : World) (pv : Value) (ps : List Prd) (s : ByteArray) (hp : predsAt w pv ps) (hs : s.size ≤ 4096) : Calls Tryz.prog 67 #[pv, .string s] w fun e w' => ∃ av, e = .returned (.agg #[.int .i64 (atomG ps (bl s)).pred, av]) ∧ OwnA w.heap.size w' av (atomG ps (bl s)).args ∧ Below w.heap.size w w' := by
  have HP : Hid (∀ x, Below w.heap.size w x → predsAt x pv ps) := fun x hx => predsAt.lasts hx hp
  obtain ⟨pa, pc, rfl, hpl, _⟩ := hp
  obtain ⟨W1, hW1⟩ : ∃ W1, w.alloc (.cells #[.int .i64 0, .slice none 0 0] 51) = W1 := ⟨_, rfl⟩
  have hb1 : Below w.heap.size w W1 := by rw [← hW1]; exact below_alloc _ _
  have hx1 : boxA W1 w.heap.size (.int .i64 0) (.slice none 0 0) := by rw [← hW1]; exact heap_alloc_new w _
  have HC := cut_c W1 s ⟨#[40]⟩ (by decide) (by decide) (by omega)
  rw [show bl (⟨#[40]⟩ : ByteArray) = [40] from rfl] at HC
  have hlen := cut_len (p := [40]) (by simp) (bl s)
  rw [bl_size] at hlen
  obtain ⟨R, hR⟩ : ∃ R, mk (cutL [40] (bl s)).1 = R := ⟨_, rfl⟩
  obtain ⟨A0, hA0⟩ : ∃ A0, mk (cutL [40] (bl s)).2.1 = A0 := ⟨_, rfl⟩
  obtain ⟨m0, hm0⟩ : ∃ m0, (cutL [40] (bl s)).2.2 = m0 := ⟨_, rfl⟩
  rw [hR, hA0, hm0] at HC
  have HR : Hid (bl R = (cutL [40] (bl s)).1) := by rw [← hR]; exact bl_mk _
  have HG : Hid (atomG ps (bl s) = ⟨idxG ps (bl R) ps.length, restG m0 A0⟩) := by
    show _ = _
    unfold atomG restG
    rw [HR.out, hm0, ← hA0, mk_size, bl_mk]
  have HL0 : Hid (restN m0 A0 ≤ s.size) := by
    show _ ≤ _
    unfold restN
    rw [← hA0, mk_size, ← hm0]
    split
    · rename_i h
      have := hlen.2.2 h
      omega
    · omega
  clear hR hA0 hm0 hlen
  go_enter Tryz.func67, Tryz.ntmps67
  go_wp2_with fail
  clear hW1
  refine HC.mono ?_
  clear HC
  rintro e w1 ⟨rfl, hb2⟩
  obtain ⟨N, hN⟩ : ∃ N, w1.heap.size = N := ⟨_, rfl⟩
  have hN1 : w.heap.size < N := by
    have h1 := hx1.lt
    have h2 := hb2.size
    omega
  have HF0 : Hid (FromOn w N (-1) (w1.alloc (.cells #[.int .i64 (-1), .slice none 0 0] 51)) [] (.slice none 0 0)) := by
    have hb3 : Below W1.heap.size W1 (w1.alloc (.cells #[.int .i64 (-1), .slice none 0 0] 51)) := hb2.alloc hb2.size _
    refine ⟨by rw [← hN]; exact heap_alloc_new w1 _, hx1.lasts hb3, ⟨rfl, .inl ⟨rfl, rfl⟩⟩, hb1.trans (hb3.mono hb1.size)⟩
  go_wp2_with fail
  generalize w1.alloc (.cells #[.int .i64 (-1), .slice none 0 0] 51) = W2 at *
  clear hb1 hb2 hx1 hN
  go_loopw [9] (fun i wr => ∃ j : Nat, j ≤ ps.length ∧ i = .int .i64 j ∧ Hid (FromOn w N (idxG ps (bl R) j) wr [] (.slice none 0 0))) (fun i _ => ps.length - (intOf i).toNat)
  case atStart => exact ⟨0, Nat.zero_le _, rfl, HF0.out⟩
  case round =>
    clear HF0
    obtain ⟨j, hj, rfl, HI⟩ := hrel
    by_cases hlt : j < ps.length
    · obtain ⟨pb, po, pc', hpv, hpb, p0, p1, p2⟩ := slice_cells (HP.out wr HI.out.below) hlt
      obtain ⟨rfl, rfl⟩ : pa = some ⟨pb, po, none⟩ ∧ pc = pc' := by simpa using hpv
      have hjl : (j : Int) < (ps.length : Int) := by omega
      have hj0 : (0 : Int) ≤ (j : Int) := by omega
      have HS : Hid (idxG ps (bl R) (j + 1) = if bl ps[j].name = bl R then (j : Int) else idxG ps (bl R) j) := by
        show _ = _
        rw [idxG, List.getElem?_eq_getElem hlt]
        simp
      clear hpv p1 p2
      generalize ps[j].name = nm at *
      obtain ⟨c0, c1, f0, f1⟩ := HI.out.box.cells
      by_cases heq : bl nm = bl R
      · have hb : (nm.toList == R.toList) = true := by rw [str_eq]; simp [heq]
        have HN : Hid (FromOn w N (idxG ps (bl R) (j + 1)) (wr.setCell ⟨N, 0, none⟩ (.int .i64 (j : Int))) [] (.slice none 0 0)) := by
          have h := HI.out
          have e : idxG ps (bl R) (j + 1) = (j : Int) := by rw [HS.out, if_pos heq]
          rw [e]
          exact ⟨heap_setCell_same wr N 0 _ _ _ h.box, h.out.far (by omega), own_far h.own h.box (by decide), h.below.setCell (p := ⟨N, 0, none⟩) (by show w.heap.size ≤ N; omega) _⟩
        clear heq
        go_wp2_with fail
        go_roundw
        case rel => exact ⟨j + 1, by omega, by go_num, HN⟩
        case measure => simp [intOf]; omega
      · have hb : (nm.toList == R.toList) = false := by rw [str_eq]; simp [heq]
        have HN : Hid (FromOn w N (idxG ps (bl R) (j + 1)) wr [] (.slice none 0 0)) := by
          have e : idxG ps (bl R) (j + 1) = idxG ps (bl R) j := by rw [HS.out, if_neg heq]
          rw [e]
          exact HI.out
        clear heq
        go_wp2_with fail
        go_roundw
        case rel => exact ⟨j + 1, by omega, by go_num, HN⟩
        case measure => simp [intOf]; omega
    · obtain rfl : j = ps.length := by omega
      obtain ⟨p, hpI⟩ : ∃ p, idxG ps (bl R) ps.length = p := ⟨_, rfl⟩
      rw [hpI] at HI HG
      clear hpI hlt
      go_wp2_with fail
      go_loopw [6, 7] (fun a m wr => ∃ (ts : List Tm) (u : Value) (A : ByteArray) (b : Bool), a = .string A ∧ m = .bool b ∧ Hid (FromOn w N p wr ts u) ∧ Hid (restG m0 A0 = ts ++ restG b A ∧ ts.length + restN b A ≤ s.size)) (fun a m _ => muG a m)
      case atStart => exact ⟨[], _, A0, m0, rfl, rfl, HI, rfl, by rw [List.length_nil, Nat.zero_add]; exact HL0.out⟩
      case round =>
        clear HI
        obtain ⟨ts, u, A, b, rfl, rfl, HI, hin⟩ := hrel
        cases b with
        | true =>
          have hlen := cut_len (p := [44]) (by simp) (bl A)
          rw [bl_size] at hlen
          have hz : ts.length + (A.size + 1) ≤ s.size := by have := hin.out.2; unfold restN at this; simpa using this
          have hts : ts.length ≤ 4096 := by omega
          have HC := cut_c wr A ⟨#[44]⟩ (by decide) (by decide) (by omega)
          rw [show bl (⟨#[44]⟩ : ByteArray) = [44] from rfl] at HC
          have HAG : Hid (argsG (A.size + 1) (bl A) = if (cutL [44] (bl A)).2.2 then termG (cutL [44] (bl A)).1 :: argsG A.size (cutL [44] (bl A)).2.1 else [termG (cutL [44] (bl A)).1.dropLast]) := by show _ = _; rw [argsG]
          generalize cutL [44] (bl A) = x at *
          obtain ⟨t1, a1, b1⟩ := x
          simp only at hlen HC HAG
          go_wp2_with fail
          refine HC.mono ?_
          clear HC
          rintro e w5 ⟨rfl, hb5⟩
          have HI5 := hid (HI.out.lasts hb5)
          clear hb5
          cases b1 with
          | true =>
            have hl := hlen.2.2 rfl
            obtain ⟨tl, htl⟩ : ∃ tl, t1 = tl := ⟨_, rfl⟩
            obtain ⟨TL, hTL⟩ : ∃ TL, mk t1 = TL := ⟨_, rfl⟩
            have HTL : Hid (bl TL = tl) := by rw [← hTL, ← htl]; exact bl_mk _
            have HTLz : Hid (TL.size ≤ 100000) := by rw [← hTL]; show _ ≤ _; rw [mk_size]; omega
            have HREL : Hid (restG m0 A0 = (ts ++ [termG tl]) ++ restG true (mk a1) ∧ (ts ++ [termG tl]).length + restN true (mk a1) ≤ s.size) := by
              refine ⟨?_, ?_⟩
              · have e1 : restG true A = argsG (A.size + 1) (bl A) := rfl
                have e2 : restG true (mk a1) = argsG ((mk a1).size + 1) (bl (mk a1)) := rfl
                rw [hin.out.1, e1, HAG.out, if_pos rfl, e2, mk_size, bl_mk, argsG_fuel A.size (a1.length + 1) a1 (by omega) (by omega), htl]
                simp
              · show _ + ((mk a1).size + 1) ≤ _
                rw [mk_size, List.length_append, List.length_singleton]
                omega
            have HMEA : Hid (muG (.string (mk a1)) (.bool true) < muG (.string A) (.bool true)) := by
              show (mk a1).size + 1 < A.size + 1
              rw [mk_size]
              omega
            rw [hTL]
            clear hTL htl hlen hin HAG
            go_wp2_with fail
            obtain ⟨i0, hi0, hz0, hz1, hz2⟩ := info_parts infoTerm
            have HAFT : Hid (∀ w6, Below w5.drew.heap.size w5.drew w6 → w6.cell? ⟨N, 1, none⟩ = some u ∧ (w6.alloc (.cells #[.bool (termG tl).var, .int .i64 (termG tl).n] 94)).cell? ⟨N, 1, none⟩ = some u ∧ Hid (FromOn w N p (w6.alloc (.cells #[.bool (termG tl).var, .int .i64 (termG tl).n] 94)) ts u) ∧ Hid (w.heap.size ≤ w6.heap.size + 1 ∧ (w6.alloc (.cells #[.bool (termG tl).var, .int .i64 (termG tl).n] 94)).heap.size = w6.heap.size + 1)) := fun w6 hb => by
              have h1 : FromOn w N p w6 ts u := HI5.out.lasts (((Below.refl _ _).drew).trans hb)
              have h2 : FromOn w N p (w6.alloc (.cells #[.bool (termG tl).var, .int .i64 (termG tl).n] 94)) ts u := h1.lasts (below_alloc _ _)
              refine ⟨h1.box.cells.2.1, h2.box.cells.2.1, h2, ?_, World.size_alloc _ _⟩
              have := h1.below.size
              omega
            have HT : Hid (Calls Tryz.prog 91 #[.string TL] w5.drew fun e w' => e = .returned (.agg #[.bool (termG tl).var, .int .i64 (termG tl).n]) ∧ Below w5.drew.heap.size w5.drew w') := by
              have := termFrom_c w5.drew TL HTLz.out
              rw [HTL.out] at this
              exact this
            have q5 : w5.drew.cell? ⟨N, 1, none⟩ = some u := HI5.out.box.cells.2.1
            refine wp_region_noPanic ?_
            refine wp_region_held_drew (S := (fun _ : World => True)) (by kernel_rfl) trivial (fun hHeld => ?_)
            refine wpAnyH_take (i := 0) (v := ?_) rfl (by kernel_rfl) (by kernel_rfl) (by kernel_rfl) (fun _ _ _ h => h) (Or.inl ⟨by rfl, ?_⟩) (by assumption) ?_
            rotate_left
            · (intro w hSw; go_simp; try with_reducible rfl)
            simp only [Act.put]
            refine wpAnyH_take (i := 2) (v := ?_) rfl (by kernel_rfl) (by kernel_rfl) (by kernel_rfl) (fun _ _ _ h => h) (Or.inl ⟨by rfl, ?_⟩) (by assumption) ?_
            rotate_left
            · (intro w hSw; go_simp; try with_reducible rfl)
            simp only [Act.put]
            refine wpAnyH_ready (rs := [1, 3]) (by kernel_rfl) (by simp) ?_
            refine AllReadyH.cons rfl (fun K hK => ?_) ?_
            · go_simp
              refine hK.out _ _ trivial (fun hHeld => ?_)
              clear hK K
              try simp only [Act.put, List.setIfInBounds_toArray, List.set_cons_zero, List.set_cons_succ]
              refine wpAnyH_ready (rs := [3]) (by kernel_rfl) (by simp) ?_
              refine AllReadyH.cons rfl (fun K hK => ?_) AllReadyH.nil
              go_simp
              refine HT.out.mono ?_
              rintro e w6 ⟨rfl, hb6⟩
              obtain ⟨q6, qV, HV, HSE⟩ := HAFT.out w6 hb6
              clear hb6
              refine hK.out _ _ trivial (fun hHeld => ?_)
              clear hK K
              try simp only [Act.put, List.setIfInBounds_toArray, List.set_cons_zero, List.set_cons_succ]
              refine wpAnyH_ready (rs := [4]) (by kernel_rfl) (by simp) ?_
              refine AllReadyH.cons rfl (fun K hK => ?_) AllReadyH.nil
              go_simp
              refine hK.out _ _ trivial (fun hHeld => ?_)
              clear hK K
              try simp only [Act.put, List.setIfInBounds_toArray, List.set_cons_zero, List.set_cons_succ]
              refine wpAnyH_ready (rs := [5]) (by kernel_rfl) (by simp) ?_
              refine AllReadyH.cons rfl (fun K hK => ?_) AllReadyH.nil
              refine step_append_lies _ (by rfl) _ _ 49 (by rfl) w.heap.size 94 i0 (.agg #[.bool false, .int .i64 0]) 2 16 Tryz.underlying49 hi0 hz0 hz1 hz2 (by rfl) (by omega) u ts.length (cellsT ts) (by rfl) HV.out.own ⟨w6.heap.size, 0, none⟩ 1 1 [.bool (termG tl).var, .int .i64 (termG tl).n] (by rfl) (by rfl) new_cells2 (by intro u hu; simp at hu; rcases hu with rfl | rfl <;> rfl) (by omega) (by unfold maxLen; omega) (by omega) (by have := HSE.out; omega) (w6.heap.size + 1) (World.size_alloc _ _) ?_
              intro g9 cap9 W9 hown9 hgrow9 hat9 hlt9
              obtain ⟨n1, n2, HN9⟩ := from_next (t := termG tl) hN1 HV.out (by exact hgrow9) (by exact hown9)
              clear hat9 hlt9 hown9 hgrow9
              refine hK.out _ _ trivial (fun hHeld => ?_)
              clear hK K
              try simp only [Act.put, List.setIfInBounds_toArray]
              refine wpAnyH_take (i := 6) (v := ?_) rfl (by kernel_rfl) (by kernel_rfl) (by kernel_rfl) (fun _ _ _ h => h) (Or.inl ⟨by rfl, ?_⟩) (by assumption) ?_
              rotate_left
              · (intro w hSw; go_simp; try with_reducible rfl)
              simp only [Act.put]
              refine wpAnyH_ready (rs := [7]) (by kernel_rfl) (by simp) ?_
              refine AllReadyH.cons rfl (fun K hK => ?_) AllReadyH.nil
              go_simp
              refine hK.out _ _ trivial (fun hHeld => ?_)
              clear hK K
              try simp only [Act.put, List.setIfInBounds_toArray, List.set_cons_zero, List.set_cons_succ]
              refine wpAnyH_done (by kernel_rfl) ?_ _
              refine NoPanic.normal ?_
              clear n1 n2 q5 q6 qV
              go_wp2_with fail
              go_roundw
              case rel => exact ⟨_, _, _, _, rfl, rfl, HN9, HREL⟩
              case measure => exact HMEA.out
            · refine AllReadyH.cons rfl (fun K hK => ?_) AllReadyH.nil
              go_simp
              refine HT.out.mono ?_
              rintro e w6 ⟨rfl, hb6⟩
              obtain ⟨q6, qV, HV, HSE⟩ := HAFT.out w6 hb6
              clear hb6
              refine hK.out _ _ trivial (fun hHeld => ?_)
              clear hK K
              try simp only [Act.put, List.setIfInBounds_toArray, List.set_cons_zero, List.set_cons_succ]
              refine wpAnyH_ready (rs := [1, 4]) (by kernel_rfl) (by simp) ?_
              refine AllReadyH.cons rfl (fun K hK => ?_) ?_
              · go_simp
                refine hK.out _ _ trivial (fun hHeld => ?_)
                clear hK K
                try simp only [Act.put, List.setIfInBounds_toArray, List.set_cons_zero, List.set_cons_succ]
                refine wpAnyH_ready (rs := [4]) (by kernel_rfl) (by simp) ?_
                refine AllReadyH.cons rfl (fun K hK => ?_) AllReadyH.nil
                go_simp
                refine hK.out _ _ trivial (fun hHeld => ?_)
                clear hK K
                try simp only [Act.put, List.setIfInBounds_toArray, List.set_cons_zero, List.set_cons_succ]
                refine wpAnyH_ready (rs := [5]) (by kernel_rfl) (by simp) ?_
                refine AllReadyH.cons rfl (fun K hK => ?_) AllReadyH.nil
                refine step_append_lies _ (by rfl) _ _ 49 (by rfl) w.heap.size 94 i0 (.agg #[.bool false, .int .i64 0]) 2 16 Tryz.underlying49 hi0 hz0 hz1 hz2 (by rfl) (by omega) u ts.length (cellsT ts) (by rfl) HV.out.own ⟨w6.heap.size, 0, none⟩ 1 1 [.bool (termG tl).var, .int .i64 (termG tl).n] (by rfl) (by rfl) new_cells2 (by intro u hu; simp at hu; rcases hu with rfl | rfl <;> rfl) (by omega) (by unfold maxLen; omega) (by omega) (by have := HSE.out; omega) (w6.heap.size + 1) (World.size_alloc _ _) ?_
                intro g9 cap9 W9 hown9 hgrow9 hat9 hlt9
                obtain ⟨n1, n2, HN9⟩ := from_next (t := termG tl) hN1 HV.out (by exact hgrow9) (by exact hown9)
                clear hat9 hlt9 hown9 hgrow9
                refine hK.out _ _ trivial (fun hHeld => ?_)
                clear hK K
                try simp only [Act.put, List.setIfInBounds_toArray]
                refine wpAnyH_take (i := 6) (v := ?_) rfl (by kernel_rfl) (by kernel_rfl) (by kernel_rfl) (fun _ _ _ h => h) (Or.inl ⟨by rfl, ?_⟩) (by assumption) ?_
                rotate_left
                · (intro w hSw; go_simp; try with_reducible rfl)
                simp only [Act.put]
                refine wpAnyH_ready (rs := [7]) (by kernel_rfl) (by simp) ?_
                refine AllReadyH.cons rfl (fun K hK => ?_) AllReadyH.nil
                go_simp
                refine hK.out _ _ trivial (fun hHeld => ?_)
                clear hK K
                try simp only [Act.put, List.setIfInBounds_toArray, List.set_cons_zero, List.set_cons_succ]
                refine wpAnyH_done (by kernel_rfl) ?_ _
                refine NoPanic.normal ?_
                clear n1 n2 q5 q6 qV
                go_wp2_with fail
                go_roundw
                case rel => exact ⟨_, _, _, _, rfl, rfl, HN9, HREL⟩
                case measure => exact HMEA.out
              · refine AllReadyH.cons rfl (fun K hK => ?_) AllReadyH.nil
                go_simp
                refine hK.out _ _ trivial (fun hHeld => ?_)
                clear hK K
                try simp only [Act.put, List.setIfInBounds_toArray, List.set_cons_zero, List.set_cons_succ]
                refine wpAnyH_ready (rs := [1]) (by kernel_rfl) (by simp) ?_
                refine AllReadyH.cons rfl (fun K hK => ?_) AllReadyH.nil
                go_simp
                refine hK.out _ _ trivial (fun hHeld => ?_)
                clear hK K
                try simp only [Act.put, List.setIfInBounds_toArray, List.set_cons_zero, List.set_cons_succ]
                refine wpAnyH_ready (rs := [5]) (by kernel_rfl) (by simp) ?_
                refine AllReadyH.cons rfl (fun K hK => ?_) AllReadyH.nil
                refine step_append_lies _ (by rfl) _ _ 49 (by rfl) w.heap.size 94 i0 (.agg #[.bool false, .int .i64 0]) 2 16 Tryz.underlying49 hi0 hz0 hz1 hz2 (by rfl) (by omega) u ts.length (cellsT ts) (by rfl) HV.out.own ⟨w6.heap.size, 0, none⟩ 1 1 [.bool (termG tl).var, .int .i64 (termG tl).n] (by rfl) (by rfl) new_cells2 (by intro u hu; simp at hu; rcases hu with rfl | rfl <;> rfl) (by omega) (by unfold maxLen; omega) (by omega) (by have := HSE.out; omega) (w6.heap.size + 1) (World.size_alloc _ _) ?_
                intro g9 cap9 W9 hown9 hgrow9 hat9 hlt9
                obtain ⟨n1, n2, HN9⟩ := from_next (t := termG tl) hN1 HV.out (by exact hgrow9) (by exact hown9)
                clear hat9 hlt9 hown9 hgrow9
                refine hK.out _ _ trivial (fun hHeld => ?_)
                clear hK K
                try simp only [Act.put, List.setIfInBounds_toArray]
                refine wpAnyH_take (i := 6) (v := ?_) rfl (by kernel_rfl) (by kernel_rfl) (by kernel_rfl) (fun _ _ _ h => h) (Or.inl ⟨by rfl, ?_⟩) (by assumption) ?_
                rotate_left
                · (intro w hSw; go_simp; try with_reducible rfl)
                simp only [Act.put]
                refine wpAnyH_ready (rs := [7]) (by kernel_rfl) (by simp) ?_
                refine AllReadyH.cons rfl (fun K hK => ?_) AllReadyH.nil
                go_simp
                refine hK.out _ _ trivial (fun hHeld => ?_)
                clear hK K
                try simp only [Act.put, List.setIfInBounds_toArray, List.set_cons_zero, List.set_cons_succ]
                refine wpAnyH_done (by kernel_rfl) ?_ _
                refine NoPanic.normal ?_
                clear n1 n2 q5 q6 qV
                go_wp2_with fail
                go_roundw
                case rel => exact ⟨_, _, _, _, rfl, rfl, HN9, HREL⟩
                case measure => exact HMEA.out
          | false =>
            obtain ⟨tl, htl⟩ : ∃ tl, t1.dropLast = tl := ⟨_, rfl⟩
            have HREL : Hid (restG m0 A0 = (ts ++ [termG tl]) ++ restG false (mk a1) ∧ (ts ++ [termG tl]).length + restN false (mk a1) ≤ s.size) := by
              refine ⟨?_, ?_⟩
              · have e1 : restG true A = argsG (A.size + 1) (bl A) := rfl
                have e2 : restG false (mk a1) = [] := rfl
                rw [hin.out.1, e1, HAG.out, if_neg (by simp), e2, htl]
                simp
              · show _ + 0 ≤ _
                rw [List.length_append, List.length_singleton]
                omega
            have HMEA : Hid (muG (.string (mk a1)) (.bool false) < muG (.string A) (.bool true)) := by
              show 0 < A.size + 1
              omega
            by_cases h0 : t1.length = 0
            · have h0' : ¬ (0 : Int) < ((mk t1).size : Int) := by rw [mk_size]; omega
              obtain ⟨TL, hTL⟩ : ∃ TL, mk t1 = TL := ⟨_, rfl⟩
              have HTL : Hid (bl TL = tl) := by
                rw [← hTL, ← htl]
                show _ = _
                rw [bl_mk, List.eq_nil_of_length_eq_zero h0]
                rfl
              have HTLz : Hid (TL.size ≤ 100000) := by rw [← hTL]; show _ ≤ _; rw [mk_size]; omega
              rw [hTL] at h0' ⊢
              clear hTL htl hlen hin HAG h0
              go_wp2_with fail
              obtain ⟨i0, hi0, hz0, hz1, hz2⟩ := info_parts infoTerm
              have HAFT : Hid (∀ w6, Below w5.drew.heap.size w5.drew w6 → w6.cell? ⟨N, 1, none⟩ = some u ∧ (w6.alloc (.cells #[.bool (termG tl).var, .int .i64 (termG tl).n] 94)).cell? ⟨N, 1, none⟩ = some u ∧ Hid (FromOn w N p (w6.alloc (.cells #[.bool (termG tl).var, .int .i64 (termG tl).n] 94)) ts u) ∧ Hid (w.heap.size ≤ w6.heap.size + 1 ∧ (w6.alloc (.cells #[.bool (termG tl).var, .int .i64 (termG tl).n] 94)).heap.size = w6.heap.size + 1)) := fun w6 hb => by
                have h1 : FromOn w N p w6 ts u := HI5.out.lasts (((Below.refl _ _).drew).trans hb)
                have h2 : FromOn w N p (w6.alloc (.cells #[.bool (termG tl).var, .int .i64 (termG tl).n] 94)) ts u := h1.lasts (below_alloc _ _)
                refine ⟨h1.box.cells.2.1, h2.box.cells.2.1, h2, ?_, World.size_alloc _ _⟩
                have := h1.below.size
                omega
              have HT : Hid (Calls Tryz.prog 91 #[.string TL] w5.drew fun e w' => e = .returned (.agg #[.bool (termG tl).var, .int .i64 (termG tl).n]) ∧ Below w5.drew.heap.size w5.drew w') := by
                have := termFrom_c w5.drew TL HTLz.out
                rw [HTL.out] at this
                exact this
              have q5 : w5.drew.cell? ⟨N, 1, none⟩ = some u := HI5.out.box.cells.2.1
              refine wp_region_noPanic ?_
              refine wp_region_held_drew (S := (fun _ : World => True)) (by kernel_rfl) trivial (fun hHeld => ?_)
              refine wpAnyH_take (i := 0) (v := ?_) rfl (by kernel_rfl) (by kernel_rfl) (by kernel_rfl) (fun _ _ _ h => h) (Or.inl ⟨by rfl, ?_⟩) (by assumption) ?_
              rotate_left
              · (intro w hSw; go_simp; try with_reducible rfl)
              simp only [Act.put]
              refine wpAnyH_take (i := 2) (v := ?_) rfl (by kernel_rfl) (by kernel_rfl) (by kernel_rfl) (fun _ _ _ h => h) (Or.inl ⟨by rfl, ?_⟩) (by assumption) ?_
              rotate_left
              · (intro w hSw; go_simp; try with_reducible rfl)
              simp only [Act.put]
              refine wpAnyH_ready (rs := [1, 3]) (by kernel_rfl) (by simp) ?_
              refine AllReadyH.cons rfl (fun K hK => ?_) ?_
              · go_simp
                refine hK.out _ _ trivial (fun hHeld => ?_)
                clear hK K
                try simp only [Act.put, List.setIfInBounds_toArray, List.set_cons_zero, List.set_cons_succ]
                refine wpAnyH_ready (rs := [3]) (by kernel_rfl) (by simp) ?_
                refine AllReadyH.cons rfl (fun K hK => ?_) AllReadyH.nil
                go_simp
                refine HT.out.mono ?_
                rintro e w6 ⟨rfl, hb6⟩
                obtain ⟨q6, qV, HV, HSE⟩ := HAFT.out w6 hb6
                clear hb6
                refine hK.out _ _ trivial (fun hHeld => ?_)
                clear hK K
                try simp only [Act.put, List.setIfInBounds_toArray, List.set_cons_zero, List.set_cons_succ]
                refine wpAnyH_ready (rs := [4]) (by kernel_rfl) (by simp) ?_
                refine AllReadyH.cons rfl (fun K hK => ?_) AllReadyH.nil
                go_simp
                refine hK.out _ _ trivial (fun hHeld => ?_)
                clear hK K
                try simp only [Act.put, List.setIfInBounds_toArray, List.set_cons_zero, List.set_cons_succ]
                refine wpAnyH_ready (rs := [5]) (by kernel_rfl) (by simp) ?_
                refine AllReadyH.cons rfl (fun K hK => ?_) AllReadyH.nil
                refine step_append_lies _ (by rfl) _ _ 49 (by rfl) w.heap.size 94 i0 (.agg #[.bool false, .int .i64 0]) 2 16 Tryz.underlying49 hi0 hz0 hz1 hz2 (by rfl) (by omega) u ts.length (cellsT ts) (by rfl) HV.out.own ⟨w6.heap.size, 0, none⟩ 1 1 [.bool (termG tl).var, .int .i64 (termG tl).n] (by rfl) (by rfl) new_cells2 (by intro u hu; simp at hu; rcases hu with rfl | rfl <;> rfl) (by omega) (by unfold maxLen; omega) (by omega) (by have := HSE.out; omega) (w6.heap.size + 1) (World.size_alloc _ _) ?_
                intro g9 cap9 W9 hown9 hgrow9 hat9 hlt9
                obtain ⟨n1, n2, HN9⟩ := from_next (t := termG tl) hN1 HV.out (by exact hgrow9) (by exact hown9)
                clear hat9 hlt9 hown9 hgrow9
                refine hK.out _ _ trivial (fun hHeld => ?_)
                clear hK K
                try simp only [Act.put, List.setIfInBounds_toArray]
                refine wpAnyH_take (i := 6) (v := ?_) rfl (by kernel_rfl) (by kernel_rfl) (by kernel_rfl) (fun _ _ _ h => h) (Or.inl ⟨by rfl, ?_⟩) (by assumption) ?_
                rotate_left
                · (intro w hSw; go_simp; try with_reducible rfl)
                simp only [Act.put]
                refine wpAnyH_ready (rs := [7]) (by kernel_rfl) (by simp) ?_
                refine AllReadyH.cons rfl (fun K hK => ?_) AllReadyH.nil
                go_simp
                refine hK.out _ _ trivial (fun hHeld => ?_)
                clear hK K
                try simp only [Act.put, List.setIfInBounds_toArray, List.set_cons_zero, List.set_cons_succ]
                refine wpAnyH_done (by kernel_rfl) ?_ _
                refine NoPanic.normal ?_
                clear n1 n2 q5 q6 qV
                go_wp2_with fail
                go_roundw
                case rel => exact ⟨_, _, _, _, rfl, rfl, HN9, HREL⟩
                case measure => exact HMEA.out
              · refine AllReadyH.cons rfl (fun K hK => ?_) AllReadyH.nil
                go_simp
                refine HT.out.mono ?_
                rintro e w6 ⟨rfl, hb6⟩
                obtain ⟨q6, qV, HV, HSE⟩ := HAFT.out w6 hb6
                clear hb6
                refine hK.out _ _ trivial (fun hHeld => ?_)
                clear hK K
                try simp only [Act.put, List.setIfInBounds_toArray, List.set_cons_zero, List.set_cons_succ]
                refine wpAnyH_ready (rs := [1, 4]) (by kernel_rfl) (by simp) ?_
                refine AllReadyH.cons rfl (fun K hK => ?_) ?_
                · go_simp
                  refine hK.out _ _ trivial (fun hHeld => ?_)
                  clear hK K
                  try simp only [Act.put, List.setIfInBounds_toArray, List.set_cons_zero, List.set_cons_succ]
                  refine wpAnyH_ready (rs := [4]) (by kernel_rfl) (by simp) ?_
                  refine AllReadyH.cons rfl (fun K hK => ?_) AllReadyH.nil
                  go_simp
                  refine hK.out _ _ trivial (fun hHeld => ?_)
                  clear hK K
                  try simp only [Act.put, List.setIfInBounds_toArray, List.set_cons_zero, List.set_cons_succ]
                  refine wpAnyH_ready (rs := [5]) (by kernel_rfl) (by simp) ?_
                  refine AllReadyH.cons rfl (fun K hK => ?_) AllReadyH.nil
                  refine step_append_lies _ (by rfl) _ _ 49 (by rfl) w.heap.size 94 i0 (.agg #[.bool false, .int .i64 0]) 2 16 Tryz.underlying49 hi0 hz0 hz1 hz2 (by rfl) (by omega) u ts.length (cellsT ts) (by rfl) HV.out.own ⟨w6.heap.size, 0, none⟩ 1 1 [.bool (termG tl).var, .int .i64 (termG tl).n] (by rfl) (by rfl) new_cells2 (by intro u hu; simp at hu; rcases hu with rfl | rfl <;> rfl) (by omega) (by unfold maxLen; omega) (by omega) (by have := HSE.out; omega) (w6.heap.size + 1) (World.size_alloc _ _) ?_
                  intro g9 cap9 W9 hown9 hgrow9 hat9 hlt9
                  obtain ⟨n1, n2, HN9⟩ := from_next (t := termG tl) hN1 HV.out (by exact hgrow9) (by exact hown9)
                  clear hat9 hlt9 hown9 hgrow9
                  refine hK.out _ _ trivial (fun hHeld => ?_)
                  clear hK K
                  try simp only [Act.put, List.setIfInBounds_toArray]
                  refine wpAnyH_take (i := 6) (v := ?_) rfl (by kernel_rfl) (by kernel_rfl) (by kernel_rfl) (fun _ _ _ h => h) (Or.inl ⟨by rfl, ?_⟩) (by assumption) ?_
                  rotate_left
                  · (intro w hSw; go_simp; try with_reducible rfl)
                  simp only [Act.put]
                  refine wpAnyH_ready (rs := [7]) (by kernel_rfl) (by simp) ?_
                  refine AllReadyH.cons rfl (fun K hK => ?_) AllReadyH.nil
                  go_simp
                  refine hK.out _ _ trivial (fun hHeld => ?_)
                  clear hK K
                  try simp only [Act.put, List.setIfInBounds_toArray, List.set_cons_zero, List.set_cons_succ]
                  refine wpAnyH_done (by kernel_rfl) ?_ _
                  refine NoPanic.normal ?_
                  clear n1 n2 q5 q6 qV
                  go_wp2_with fail
                  go_roundw
                  case rel => exact ⟨_, _, _, _, rfl, rfl, HN9, HREL⟩
                  case measure => exact HMEA.out
                · refine AllReadyH.cons rfl (fun K hK => ?_) AllReadyH.nil
                  go_simp
                  refine hK.out _ _ trivial (fun hHeld => ?_)
                  clear hK K
                  try simp only [Act.put, List.setIfInBounds_toArray, List.set_cons_zero, List.set_cons_succ]
                  refine wpAnyH_ready (rs := [1]) (by kernel_rfl) (by simp) ?_
                  refine AllReadyH.cons rfl (fun K hK => ?_) AllReadyH.nil
                  go_simp
                  refine hK.out _ _ trivial (fun hHeld => ?_)
                  clear hK K
                  try simp only [Act.put, List.setIfInBounds_toArray, List.set_cons_zero, List.set_cons_succ]
                  refine wpAnyH_ready (rs := [5]) (by kernel_rfl) (by simp) ?_
                  refine AllReadyH.cons rfl (fun K hK => ?_) AllReadyH.nil
                  refine step_append_lies _ (by rfl) _ _ 49 (by rfl) w.heap.size 94 i0 (.agg #[.bool false, .int .i64 0]) 2 16 Tryz.underlying49 hi0 hz0 hz1 hz2 (by rfl) (by omega) u ts.length (cellsT ts) (by rfl) HV.out.own ⟨w6.heap.size, 0, none⟩ 1 1 [.bool (termG tl).var, .int .i64 (termG tl).n] (by rfl) (by rfl) new_cells2 (by intro u hu; simp at hu; rcases hu with rfl | rfl <;> rfl) (by omega) (by unfold maxLen; omega) (by omega) (by have := HSE.out; omega) (w6.heap.size + 1) (World.size_alloc _ _) ?_
                  intro g9 cap9 W9 hown9 hgrow9 hat9 hlt9
                  obtain ⟨n1, n2, HN9⟩ := from_next (t := termG tl) hN1 HV.out (by exact hgrow9) (by exact hown9)
                  clear hat9 hlt9 hown9 hgrow9
                  refine hK.out _ _ trivial (fun hHeld => ?_)
                  clear hK K
                  try simp only [Act.put, List.setIfInBounds_toArray]
                  refine wpAnyH_take (i := 6) (v := ?_) rfl (by kernel_rfl) (by kernel_rfl) (by kernel_rfl) (fun _ _ _ h => h) (Or.inl ⟨by rfl, ?_⟩) (by assumption) ?_
                  rotate_left
                  · (intro w hSw; go_simp; try with_reducible rfl)
                  simp only [Act.put]
                  refine wpAnyH_ready (rs := [7]) (by kernel_rfl) (by simp) ?_
                  refine AllReadyH.cons rfl (fun K hK => ?_) AllReadyH.nil
                  go_simp
                  refine hK.out _ _ trivial (fun hHeld => ?_)
                  clear hK K
                  try simp only [Act.put, List.setIfInBounds_toArray, List.set_cons_zero, List.set_cons_succ]
                  refine wpAnyH_done (by kernel_rfl) ?_ _
                  refine NoPanic.normal ?_
                  clear n1 n2 q5 q6 qV
                  go_wp2_with fail
                  go_roundw
                  case rel => exact ⟨_, _, _, _, rfl, rfl, HN9, HREL⟩
                  case measure => exact HMEA.out
            · have h0' : (0 : Int) < ((mk t1).size : Int) := by rw [mk_size]; omega
              have h0n : 0 < (mk t1).size := by rw [mk_size]; omega
              have hsub : ((mk t1).size : Int) - 1 = (((mk t1).size - 1 : Nat) : Int) := by omega
              obtain ⟨TL, hTL⟩ : ∃ TL, (mk t1).extract 0 ((mk t1).size - 1) = TL := ⟨_, rfl⟩
              have HTL : Hid (bl TL = tl) := by
                rw [← hTL, ← htl]
                show _ = _
                rw [bl_take, bl_mk, mk_size, List.dropLast_eq_take]
              have hzt : (mk t1).size ≤ 100000 := by rw [mk_size]; have := hlen.1; omega
              have HTLz : Hid (TL.size ≤ 100000) := by
                show _ ≤ _
                rw [← bl_size, HTL.out, ← htl, List.length_dropLast]
                rw [mk_size] at hzt
                omega
              generalize mk t1 = T1 at *
              clear htl hlen hin HAG h0
              go_wp2_with fail
              clear hTL
              obtain ⟨i0, hi0, hz0, hz1, hz2⟩ := info_parts infoTerm
              have HAFT : Hid (∀ w6, Below w5.drew.heap.size w5.drew w6 → w6.cell? ⟨N, 1, none⟩ = some u ∧ (w6.alloc (.cells #[.bool (termG tl).var, .int .i64 (termG tl).n] 94)).cell? ⟨N, 1, none⟩ = some u ∧ Hid (FromOn w N p (w6.alloc (.cells #[.bool (termG tl).var, .int .i64 (termG tl).n] 94)) ts u) ∧ Hid (w.heap.size ≤ w6.heap.size + 1 ∧ (w6.alloc (.cells #[.bool (termG tl).var, .int .i64 (termG tl).n] 94)).heap.size = w6.heap.size + 1)) := fun w6 hb => by
                have h1 : FromOn w N p w6 ts u := HI5.out.lasts (((Below.refl _ _).drew).trans hb)
                have h2 : FromOn w N p (w6.alloc (.cells #[.bool (termG tl).var, .int .i64 (termG tl).n] 94)) ts u := h1.lasts (below_alloc _ _)
                refine ⟨h1.box.cells.2.1, h2.box.cells.2.1, h2, ?_, World.size_alloc _ _⟩
                have := h1.below.size
                omega
              have HT : Hid (Calls Tryz.prog 91 #[.string TL] w5.drew fun e w' => e = .returned (.agg #[.bool (termG tl).var, .int .i64 (termG tl).n]) ∧ Below w5.drew.heap.size w5.drew w') := by
                have := termFrom_c w5.drew TL HTLz.out
                rw [HTL.out] at this
                exact this
              have q5 : w5.drew.cell? ⟨N, 1, none⟩ = some u := HI5.out.box.cells.2.1
              refine wp_region_noPanic ?_
              refine wp_region_held_drew (S := (fun _ : World => True)) (by kernel_rfl) trivial (fun hHeld => ?_)
              refine wpAnyH_take (i := 0) (v := ?_) rfl (by kernel_rfl) (by kernel_rfl) (by kernel_rfl) (fun _ _ _ h => h) (Or.inl ⟨by rfl, ?_⟩) (by assumption) ?_
              rotate_left
              · (intro w hSw; go_simp; try with_reducible rfl)
              simp only [Act.put]
              refine wpAnyH_take (i := 2) (v := ?_) rfl (by kernel_rfl) (by kernel_rfl) (by kernel_rfl) (fun _ _ _ h => h) (Or.inl ⟨by rfl, ?_⟩) (by assumption) ?_
              rotate_left
              · (intro w hSw; go_simp; try with_reducible rfl)
              simp only [Act.put]
              refine wpAnyH_ready (rs := [1, 3]) (by kernel_rfl) (by simp) ?_
              refine AllReadyH.cons rfl (fun K hK => ?_) ?_
              · go_simp
                refine hK.out _ _ trivial (fun hHeld => ?_)
                clear hK K
                try simp only [Act.put, List.setIfInBounds_toArray, List.set_cons_zero, List.set_cons_succ]
                refine wpAnyH_ready (rs := [3]) (by kernel_rfl) (by simp) ?_
                refine AllReadyH.cons rfl (fun K hK => ?_) AllReadyH.nil
                go_simp
                refine HT.out.mono ?_
                rintro e w6 ⟨rfl, hb6⟩
                obtain ⟨q6, qV, HV, HSE⟩ := HAFT.out w6 hb6
                clear hb6
                refine hK.out _ _ trivial (fun hHeld => ?_)
                clear hK K
                try simp only [Act.put, List.setIfInBounds_toArray, List.set_cons_zero, List.set_cons_succ]
                refine wpAnyH_ready (rs := [4]) (by kernel_rfl) (by simp) ?_
                refine AllReadyH.cons rfl (fun K hK => ?_) AllReadyH.nil
                go_simp
                refine hK.out _ _ trivial (fun hHeld => ?_)
                clear hK K
                try simp only [Act.put, List.setIfInBounds_toArray, List.set_cons_zero, List.set_cons_succ]
                refine wpAnyH_ready (rs := [5]) (by kernel_rfl) (by simp) ?_
                refine AllReadyH.cons rfl (fun K hK => ?_) AllReadyH.nil
                refine step_append_lies _ (by rfl) _ _ 49 (by rfl) w.heap.size 94 i0 (.agg #[.bool false, .int .i64 0]) 2 16 Tryz.underlying49 hi0 hz0 hz1 hz2 (by rfl) (by omega) u ts.length (cellsT ts) (by rfl) HV.out.own ⟨w6.heap.size, 0, none⟩ 1 1 [.bool (termG tl).var, .int .i64 (termG tl).n] (by rfl) (by rfl) new_cells2 (by intro u hu; simp at hu; rcases hu with rfl | rfl <;> rfl) (by omega) (by unfold maxLen; omega) (by omega) (by have := HSE.out; omega) (w6.heap.size + 1) (World.size_alloc _ _) ?_
                intro g9 cap9 W9 hown9 hgrow9 hat9 hlt9
                obtain ⟨n1, n2, HN9⟩ := from_next (t := termG tl) hN1 HV.out (by exact hgrow9) (by exact hown9)
                clear hat9 hlt9 hown9 hgrow9
                refine hK.out _ _ trivial (fun hHeld => ?_)
                clear hK K
                try simp only [Act.put, List.setIfInBounds_toArray]
                refine wpAnyH_take (i := 6) (v := ?_) rfl (by kernel_rfl) (by kernel_rfl) (by kernel_rfl) (fun _ _ _ h => h) (Or.inl ⟨by rfl, ?_⟩) (by assumption) ?_
                rotate_left
                · (intro w hSw; go_simp; try with_reducible rfl)
                simp only [Act.put]
                refine wpAnyH_ready (rs := [7]) (by kernel_rfl) (by simp) ?_
                refine AllReadyH.cons rfl (fun K hK => ?_) AllReadyH.nil
                go_simp
                refine hK.out _ _ trivial (fun hHeld => ?_)
                clear hK K
                try simp only [Act.put, List.setIfInBounds_toArray, List.set_cons_zero, List.set_cons_succ]
                refine wpAnyH_done (by kernel_rfl) ?_ _
                refine NoPanic.normal ?_
                clear n1 n2 q5 q6 qV
                go_wp2_with fail
                go_roundw
                case rel => exact ⟨_, _, _, _, rfl, rfl, HN9, HREL⟩
                case measure => exact HMEA.out
              · refine AllReadyH.cons rfl (fun K hK => ?_) AllReadyH.nil
                go_simp
                refine HT.out.mono ?_
                rintro e w6 ⟨rfl, hb6⟩
                obtain ⟨q6, qV, HV, HSE⟩ := HAFT.out w6 hb6
                clear hb6
                refine hK.out _ _ trivial (fun hHeld => ?_)
                clear hK K
                try simp only [Act.put, List.setIfInBounds_toArray, List.set_cons_zero, List.set_cons_succ]
                refine wpAnyH_ready (rs := [1, 4]) (by kernel_rfl) (by simp) ?_
                refine AllReadyH.cons rfl (fun K hK => ?_) ?_
                · go_simp
                  refine hK.out _ _ trivial (fun hHeld => ?_)
                  clear hK K
                  try simp only [Act.put, List.setIfInBounds_toArray, List.set_cons_zero, List.set_cons_succ]
                  refine wpAnyH_ready (rs := [4]) (by kernel_rfl) (by simp) ?_
                  refine AllReadyH.cons rfl (fun K hK => ?_) AllReadyH.nil
                  go_simp
                  refine hK.out _ _ trivial (fun hHeld => ?_)
                  clear hK K
                  try simp only [Act.put, List.setIfInBounds_toArray, List.set_cons_zero, List.set_cons_succ]
                  refine wpAnyH_ready (rs := [5]) (by kernel_rfl) (by simp) ?_
                  refine AllReadyH.cons rfl (fun K hK => ?_) AllReadyH.nil
                  refine step_append_lies _ (by rfl) _ _ 49 (by rfl) w.heap.size 94 i0 (.agg #[.bool false, .int .i64 0]) 2 16 Tryz.underlying49 hi0 hz0 hz1 hz2 (by rfl) (by omega) u ts.length (cellsT ts) (by rfl) HV.out.own ⟨w6.heap.size, 0, none⟩ 1 1 [.bool (termG tl).var, .int .i64 (termG tl).n] (by rfl) (by rfl) new_cells2 (by intro u hu; simp at hu; rcases hu with rfl | rfl <;> rfl) (by omega) (by unfold maxLen; omega) (by omega) (by have := HSE.out; omega) (w6.heap.size + 1) (World.size_alloc _ _) ?_
                  intro g9 cap9 W9 hown9 hgrow9 hat9 hlt9
                  obtain ⟨n1, n2, HN9⟩ := from_next (t := termG tl) hN1 HV.out (by exact hgrow9) (by exact hown9)
                  clear hat9 hlt9 hown9 hgrow9
                  refine hK.out _ _ trivial (fun hHeld => ?_)
                  clear hK K
                  try simp only [Act.put, List.setIfInBounds_toArray]
                  refine wpAnyH_take (i := 6) (v := ?_) rfl (by kernel_rfl) (by kernel_rfl) (by kernel_rfl) (fun _ _ _ h => h) (Or.inl ⟨by rfl, ?_⟩) (by assumption) ?_
                  rotate_left
                  · (intro w hSw; go_simp; try with_reducible rfl)
                  simp only [Act.put]
                  refine wpAnyH_ready (rs := [7]) (by kernel_rfl) (by simp) ?_
                  refine AllReadyH.cons rfl (fun K hK => ?_) AllReadyH.nil
                  go_simp
                  refine hK.out _ _ trivial (fun hHeld => ?_)
                  clear hK K
                  try simp only [Act.put, List.setIfInBounds_toArray, List.set_cons_zero, List.set_cons_succ]
                  refine wpAnyH_done (by kernel_rfl) ?_ _
                  refine NoPanic.normal ?_
                  clear n1 n2 q5 q6 qV
                  go_wp2_with fail
                  go_roundw
                  case rel => exact ⟨_, _, _, _, rfl, rfl, HN9, HREL⟩
                  case measure => exact HMEA.out
                · refine AllReadyH.cons rfl (fun K hK => ?_) AllReadyH.nil
                  go_simp
                  refine hK.out _ _ trivial (fun hHeld => ?_)
                  clear hK K
                  try simp only [Act.put, List.setIfInBounds_toArray, List.set_cons_zero, List.set_cons_succ]
                  refine wpAnyH_ready (rs := [1]) (by kernel_rfl) (by simp) ?_
                  refine AllReadyH.cons rfl (fun K hK => ?_) AllReadyH.nil
                  go_simp
                  refine hK.out _ _ trivial (fun hHeld => ?_)
                  clear hK K
                  try simp only [Act.put, List.setIfInBounds_toArray, List.set_cons_zero, List.set_cons_succ]
                  refine wpAnyH_ready (rs := [5]) (by kernel_rfl) (by simp) ?_
                  refine AllReadyH.cons rfl (fun K hK => ?_) AllReadyH.nil
                  refine step_append_lies _ (by rfl) _ _ 49 (by rfl) w.heap.size 94 i0 (.agg #[.bool false, .int .i64 0]) 2 16 Tryz.underlying49 hi0 hz0 hz1 hz2 (by rfl) (by omega) u ts.length (cellsT ts) (by rfl) HV.out.own ⟨w6.heap.size, 0, none⟩ 1 1 [.bool (termG tl).var, .int .i64 (termG tl).n] (by rfl) (by rfl) new_cells2 (by intro u hu; simp at hu; rcases hu with rfl | rfl <;> rfl) (by omega) (by unfold maxLen; omega) (by omega) (by have := HSE.out; omega) (w6.heap.size + 1) (World.size_alloc _ _) ?_
                  intro g9 cap9 W9 hown9 hgrow9 hat9 hlt9
                  obtain ⟨n1, n2, HN9⟩ := from_next (t := termG tl) hN1 HV.out (by exact hgrow9) (by exact hown9)
                  clear hat9 hlt9 hown9 hgrow9
                  refine hK.out _ _ trivial (fun hHeld => ?_)
                  clear hK K
                  try simp only [Act.put, List.setIfInBounds_toArray]
                  refine wpAnyH_take (i := 6) (v := ?_) rfl (by kernel_rfl) (by kernel_rfl) (by kernel_rfl) (fun _ _ _ h => h) (Or.inl ⟨by rfl, ?_⟩) (by assumption) ?_
                  rotate_left
                  · (intro w hSw; go_simp; try with_reducible rfl)
                  simp only [Act.put]
                  refine wpAnyH_ready (rs := [7]) (by kernel_rfl) (by simp) ?_
                  refine AllReadyH.cons rfl (fun K hK => ?_) AllReadyH.nil
                  go_simp
                  refine hK.out _ _ trivial (fun hHeld => ?_)
                  clear hK K
                  try simp only [Act.put, List.setIfInBounds_toArray, List.set_cons_zero, List.set_cons_succ]
                  refine wpAnyH_done (by kernel_rfl) ?_ _
                  refine NoPanic.normal ?_
                  clear n1 n2 q5 q6 qV
                  go_wp2_with fail
                  go_roundw
                  case rel => exact ⟨_, _, _, _, rfl, rfl, HN9, HREL⟩
                  case measure => exact HMEA.out
        | false =>
          have HARGS : Hid (atomG ps (bl s) = ⟨p, ts⟩) := by
            show _ = _
            rw [HG.out, hin.out.1]
            show Atm.mk p (ts ++ []) = _
            rw [List.append_nil]
          have HTS : Hid (ts.length ≤ 4096) := by show _ ≤ _; have := hin.out.2; omega
          obtain ⟨ua, uc, rfl⟩ := own_val HI.out.own
          obtain ⟨c0, c1, f0, f1⟩ := HI.out.box.cells
          obtain ⟨d0, d1, g0, g1⟩ := HI.out.out.cells
          have HFIN : Hid (OwnA w.heap.size ((wr.setCell ⟨w.heap.size, 0, none⟩ (.int .i64 p)).setCell ⟨w.heap.size, 1, none⟩ (.slice ua ts.length uc)) (.slice ua ts.length uc) ts ∧ Below w.heap.size w ((wr.setCell ⟨w.heap.size, 0, none⟩ (.int .i64 p)).setCell ⟨w.heap.size, 1, none⟩ (.slice ua ts.length uc))) :=
            ⟨⟨HTS.out, own_far (own_far HI.out.own HI.out.out (by decide)) (heap_setCell_same wr w.heap.size 0 _ _ _ HI.out.out) (by decide)⟩, (HI.out.below.setCell (p := ⟨w.heap.size, 0, none⟩) (Nat.le_refl _) _).setCell (p := ⟨w.heap.size, 1, none⟩) (Nat.le_refl _) _⟩
          clear hin
          go_wp2_with fail
          exact bodyPost_ret (v := .agg #[.int .i64 p, .slice ua ts.length uc]) (by simp [results, Tryz.results67, go_sem, d0, d1]) rfl ⟨_, by rw [HARGS.out], by rw [HARGS.out]; exact HFIN.out.1, HFIN.out.2⟩
end Go.Proofs.YtlfccloaoopadafGreatDoor.Text

/-
  A rule that the document gathers: its boxes, its rows; one literal more.
-/
namespace Go.Proofs.YtlfccloaoopadafGreatDoor.Text
open Go.ChangeShapes Go.WideShapes Go.ChangeAt Go.RowKit
open Go.Proofs.YtlfccloaoopadafGreatDoor.Sum (cellsT cellsL LV)

theorem litsG_fuel (ps : List Prd) : ∀ (n m : Nat) (s : List UInt8), s.length < n → s.length < m → litsG ps n s = litsG ps m s
  | 0, _, s, h, _ => by omega
  | _ + 1, 0, s, _, h => by omega
  | n + 1, m + 1, s, h1, h2 => by
    rw [litsG, litsG]
    obtain ⟨_, _, hl⟩ := cut_len (p := [44, 32]) (by simp) s
    cases hc : (cutL [44, 32] s).2.2 with
    | false => rfl
    | true =>
      have := hl hc
      simp only [if_true]
      rw [litsG_fuel ps n m _ (by omega) (by omega)]
def restL (ps : List Prd) (b : Bool) (A : ByteArray) : List Ltr := if b then litsG ps (A.size + 1) (bl A) else []
structure RFrom (w : World) (N : Nat) (x0 x1 x2 x3 : Value) (hd : List Tm) (wr : World) (ls : List LV) (u : Value) : Prop where
  box : boxR wr N x0 x1 x2 x3 u
  out : boxR wr w.heap.size (.int .i64 0) (.slice none 0 0) (.int .i64 0) (.int .i64 0) (.slice none 0 0)
  head : OwnA w.heap.size wr x1 hd
  own : wr.ownsRow w.heap.size 66 3 u ls.length (cellsL ls)
  lits : ∀ x ∈ ls, OwnA w.heap.size wr x.av x.l.atom.args
  below : Below w.heap.size w wr
theorem boxR.lasts {b : Nat} {w w' : World} {x0 x1 x2 x3 x4 : Value} (h : boxR w b x0 x1 x2 x3 x4) (hb : Below w.heap.size w w') : boxR w' b x0 x1 x2 x3 x4 := (hb.block b h.lt).trans h
theorem RFrom.lasts {w : World} {N : Nat} {x0 x1 x2 x3 : Value} {hd : List Tm} {wr w' : World} {ls : List LV} {u : Value} (h : RFrom w N x0 x1 x2 x3 hd wr ls u) (hb : Below wr.heap.size wr w') : RFrom w N x0 x1 x2 x3 hd w' ls u :=
  ⟨h.box.lasts hb, h.out.lasts hb, h.head.ty (KeepsTy.below hb), Sum.own_lasts h.own hb, fun x hx => (h.lits x hx).ty (KeepsTy.below hb), h.below.trans (hb.mono h.below.size)⟩
theorem own_none (n : Nat) (w : World) : OwnA n w (.slice none 0 0) [] := ⟨by simp, rfl, .inl ⟨rfl, rfl⟩⟩
theorem RFrom.set2 {w : World} {N : Nat} {x0 x1 x2 x3 : Value} {hd : List Tm} {wr : World} {ls : List LV} {u : Value} (h : RFrom w N x0 x1 x2 x3 hd wr ls u) (hN : w.heap.size < N) (y : Value) : RFrom w N x0 x1 y x3 hd (wr.setCell ⟨N, 2, none⟩ y) ls u :=
  ⟨h.box.set2 y, h.out.far (by omega), h.head.ty (KeepsTy.set h.box (by decide)), own_far h.own h.box (by decide), fun x hx => (h.lits x hx).ty (KeepsTy.set h.box (by decide)), h.below.setCell (p := ⟨N, 2, none⟩) (by show w.heap.size ≤ N; omega) _⟩
theorem RFrom.set3 {w : World} {N : Nat} {x0 x1 x2 x3 : Value} {hd : List Tm} {wr : World} {ls : List LV} {u : Value} (h : RFrom w N x0 x1 x2 x3 hd wr ls u) (hN : w.heap.size < N) (y : Value) : RFrom w N x0 x1 x2 y hd (wr.setCell ⟨N, 3, none⟩ y) ls u :=
  ⟨h.box.set3 y, h.out.far (by omega), h.head.ty (KeepsTy.set h.box (by decide)), own_far h.own h.box (by decide), fun x hx => (h.lits x hx).ty (KeepsTy.set h.box (by decide)), h.below.setCell (p := ⟨N, 3, none⟩) (by show w.heap.size ≤ N; omega) _⟩
/-- the head is stored -/
theorem RFrom.set01 {w : World} {N : Nat} {x0 x1 x2 x3 : Value} {hd : List Tm} {wr : World} {u : Value} {ts : List Tm} (h : RFrom w N x0 x1 x2 x3 hd wr [] u) (hN : w.heap.size < N) (y z : Value) (hz : OwnA w.heap.size wr z ts) : RFrom w N y z x2 x3 ts ((wr.setCell ⟨N, 0, none⟩ y).setCell ⟨N, 1, none⟩ z) [] u := by
  have b0 := heap_setCell_same wr N 0 _ _ y h.box
  have b1 := heap_setCell_same _ N 1 _ _ z b0
  refine ⟨b1, (h.out.far (by omega)).far (by omega), hz.ty ((KeepsTy.set h.box (by decide)).trans (KeepsTy.set b0 (by decide))), own_far (own_far h.own h.box (by decide)) b0 (by decide), (fun x hx => absurd hx (List.not_mem_nil)), ?_⟩
  exact (h.below.setCell (p := ⟨N, 0, none⟩) (by show w.heap.size ≤ N; omega) _).setCell (p := ⟨N, 1, none⟩) (by show w.heap.size ≤ N; omega) _
/-- a box of a literal -/
def boxL (w : World) (b : Nat) (x y z : Value) : Prop := w.heap[b]? = some (.cells #[x, y, z] 66 (0, 0))
theorem boxL.lasts {b : Nat} {w w' : World} {x y z : Value} (h : boxL w b x y z) (hb : Below w.heap.size w w') : boxL w' b x y z := (hb.block b (Array.getElem?_eq_some_iff.1 h).1).trans h
theorem boxL.cells {b : Nat} {w : World} {x y z : Value} (h : boxL w b x y z) : w.cell? ⟨b, 0, none⟩ = some x ∧ w.cell? ⟨b, 1, none⟩ = some y ∧ w.cell? ⟨b, 2, none⟩ = some z ∧ w.frozen? ⟨b, 0, none⟩ = false ∧ w.frozen? ⟨b, 1, none⟩ = false ∧ w.frozen? ⟨b, 2, none⟩ = false := by
  unfold boxL at h
  simp [World.cell?, World.frozen?, h]
theorem boxL.lt {b : Nat} {w : World} {x y z : Value} (h : boxL w b x y z) : b < w.heap.size := (Array.getElem?_eq_some_iff.1 h).1
/-- a store into a box of a literal that is not the row's own block -/
theorem RFrom.setL {w : World} {N L k : Nat} {x0 x1 x2 x3 y : Value} {hd : List Tm} {wr : World} {ls : List LV} {u : Value} {c : Array Value} (h : RFrom w N x0 x1 x2 x3 hd wr ls u) (hL : wr.heap[L]? = some (.cells c 66 (0, 0))) (hw : w.heap.size < L) (hr : some L ≠ u.ownBlock) : RFrom w N x0 x1 x2 x3 hd (wr.setCell ⟨L, k, none⟩ y) ls u := by
  have hne : L ≠ N := by rintro rfl; rw [h.box] at hL; cases hL
  refine ⟨h.box.far hne, h.out.far (by omega), h.head.ty (KeepsTy.set hL (by decide)), ?_, fun x hx => (h.lits x hx).ty (KeepsTy.set hL (by decide)), h.below.setCell (p := ⟨L, k, none⟩) (by show w.heap.size ≤ L; omega) _⟩
  obtain ⟨h0, h1⟩ := h.own
  refine ⟨h0, ?_⟩
  rcases h1 with h1 | ⟨g, cap, cur, rfl, h2, h3, h4⟩
  · exact .inl h1
  · refine .inr ⟨g, cap, cur, rfl, h2, ?_, h4⟩
    rw [Sum.heap_other (fun x => hr (by subst x; rfl))]
    exact h3
theorem own_old {w : World} {base sz n L : Nat} {e : TypeId} {v : Value} {xs : List Value} (h : w.ownsRow base e sz v n xs) (hL : w.heap.size ≤ L) : some L ≠ v.ownBlock := fun e => by
  have := (h.lt L e.symm).2
  omega
theorem litF_next {w : World} {N : Nat} {x0 x1 x2 x3 : Value} {hd : List Tm} {ls : List LV} {u : Value} {a : Atm} {av : Value} {ng : Bool} {V W9 : World} {g cap : Nat} (hN : w.heap.size < N) (hV : RFrom w N x0 x1 x2 x3 hd V ls u) (hA : OwnA w.heap.size V av a.args)
    (hg : V.grownBy W9 u.ownBlock) (h9 : W9.ownsRow w.heap.size 66 3 (.slice (some ⟨g, 0, none⟩) (ls.length + 1) cap) (ls.length + 1) (cellsL ls ++ [.bool ng, .int .i64 a.pred, av])) :
    W9.cell? ⟨N, 4, none⟩ = some u ∧ W9.frozen? ⟨N, 4, none⟩ = false ∧ Hid (RFrom w N x0 x1 x2 x3 hd (W9.setCell ⟨N, 4, none⟩ (.slice (some ⟨g, 0, none⟩) (ls.length + 1) cap)) (ls ++ [⟨⟨ng, a⟩, av⟩]) (.slice (some ⟨g, 0, none⟩) (ls.length + 1) cap)) := by
  have b1 : boxR W9 N x0 x1 x2 x3 u := obj_grown hg hV.box (own_not hV.own hV.box (by decide))
  have b2 := obj_grown hg hV.out (own_not hV.own hV.out (by decide))
  have b4 : Below w.heap.size w W9 := hV.below.grown hg hV.below.size (own_block hV.own)
  obtain ⟨c0, c1, c2, c3, c4, hf⟩ := b1.cells
  have kt : KeepsTy 94 w.heap.size V (W9.setCell ⟨N, 4, none⟩ (.slice (some ⟨g, 0, none⟩) (ls.length + 1) cap)) := (KeepsTy.grown hg hV.own (by decide)).trans (KeepsTy.set b1 (by decide))
  refine ⟨c4, hf 4, b1.set4 _, boxR.far b2 (by omega), hV.head.ty kt, ?_, ?_, b4.setCell (p := ⟨N, 4, none⟩) (by show w.heap.size ≤ N; omega) _⟩
  · rw [cellsL_more, List.length_append]
    exact own_far h9 b1 (by decide)
  · intro x hx
    rcases List.mem_append.1 hx with hx | hx
    · exact (hV.lits x hx).ty kt
    · rw [List.mem_singleton] at hx
      subst hx
      exact hA.ty kt
end Go.Proofs.YtlfccloaoopadafGreatDoor.Text
