/-
  What Ground of package rule, and the document's own reckoning of it, answer.
-/
import Derived.Test.YtchmdijkmfilfaaRule2
namespace Go.Proofs.Ytchmdijkmfilfaa.Rule
open Go.ChangeShapes Go.WideShapes Go.ChangeAt Go.RowKit
open Lat (within within_c)

structure Vars where
  x : Int
  y : Int
  z : Int
def Vars.at (v : Vars) (n : Int) : Int := if n = 0 then v.x else if n = 1 then v.y else v.z
def Vars.val (v : Vars) : Value := .agg #[.int .i64 v.x, .int .i64 v.y, .int .i64 v.z]
def valOf (v : Vars) (t : Tm) : Int := if t.var then v.at t.n else t.n
def groundOk (v : Vars) (t : Tm) : Bool := termOk t && within (valOf v t) 0 4
def groundErr (v : Vars) (ts : List Tm) : Int := if 2 < ts.length then 1 else if ts.all (groundOk v) then 0 else 3
def argAt (v : Vars) (ts : List Tm) (i : Nat) : Int := (ts[i]?.map (valOf v)).getD 0
def groundTo (v : Vars) (p : Int) (ts : List Tm) : Fct := ⟨p, argAt v ts 0, argAt v ts 1, 0⟩
def groundOf (v : Vars) (p : Int) (ts : List Tm) : Fct := if groundErr v ts = 0 then groundTo v p ts else ⟨0, 0, 0, 0⟩
def Fct.value (f : Fct) : Value := .agg #[.int .i64 f.pred, .int .i64 f.a, .int .i64 f.b, .int .i64 f.val]

theorem argAt_take {v : Vars} {ts : List Tm} {j : Nat} (h : j < ts.length) (i : Nat) : argAt v (ts.take (j + 1)) i = if i = j then valOf v ts[j] else argAt v (ts.take j) i := by
  unfold argAt
  by_cases hi : i = j
  · subst hi; simp [h]
  · rw [if_neg hi]
    by_cases hlt : i < j
    · rw [List.getElem?_take_of_lt (by omega), List.getElem?_take_of_lt hlt]
    · rw [List.getElem?_eq_none (by simp; omega), List.getElem?_eq_none (by simp; omega)]

/-- what Ground's own blocks hold in the middle of its loop -/
structure GRel (w : World) (p : Int) (v : Vars) (wr : World) (x y : Int) : Prop where
  below : Below w.heap.size w wr
  size : w.heap.size + 1 + 1 + 1 < wr.heap.size
  c0 : wr.cell? ⟨w.heap.size, 0, none⟩ = some (.int .i64 p)
  x0 : wr.cell? ⟨w.heap.size + 1, 0, none⟩ = some (.int .i64 v.x)
  x1 : wr.cell? ⟨w.heap.size + 1, 1, none⟩ = some (.int .i64 v.y)
  x2 : wr.cell? ⟨w.heap.size + 1, 2, none⟩ = some (.int .i64 v.z)
  z0 : wr.cell? ⟨w.heap.size + 1 + 1, 0, none⟩ = some (.int .i64 0)
  z1 : wr.cell? ⟨w.heap.size + 1 + 1, 1, none⟩ = some (.int .i64 0)
  z2 : wr.cell? ⟨w.heap.size + 1 + 1, 2, none⟩ = some (.int .i64 0)
  z3 : wr.cell? ⟨w.heap.size + 1 + 1, 3, none⟩ = some (.int .i64 0)
  zf : ∀ o, wr.frozen? ⟨w.heap.size + 1 + 1, o, none⟩ = false
  a0 : wr.cell? ⟨w.heap.size + 1 + 1 + 1, 0, none⟩ = some (.int .i64 x)
  a1 : wr.cell? ⟨w.heap.size + 1 + 1 + 1, 1, none⟩ = some (.int .i64 y)
  af : ∀ o, wr.frozen? ⟨w.heap.size + 1 + 1 + 1, o, none⟩ = false

theorem GRel.lasts {w : World} {p : Int} {v : Vars} {wr w1 : World} {x y : Int} (h : GRel w p v wr x y) (hb : Below wr.heap.size wr w1) : GRel w p v w1 x y := by
  have hs := h.size
  have hs1 := hb.size
  exact ⟨h.below.trans (hb.mono h.below.size), by omega, by rw [cell_lasts hb (by omega), h.c0], by rw [cell_lasts hb (by omega), h.x0], by rw [cell_lasts hb (by omega), h.x1], by rw [cell_lasts hb (by omega), h.x2],
    by rw [cell_lasts hb (by omega), h.z0], by rw [cell_lasts hb (by omega), h.z1], by rw [cell_lasts hb (by omega), h.z2], by rw [cell_lasts hb (by omega), h.z3],
    fun o => by rw [(bcell hb).2 _ _ (by omega), h.zf], by rw [cell_lasts hb (by omega), h.a0], by rw [cell_lasts hb (by omega), h.a1], fun o => by rw [(bcell hb).2 _ _ (by omega), h.af]⟩
theorem GRel.set0 {w : World} {p : Int} {v : Vars} {wr : World} {x y : Int} (h : GRel w p v wr x y) (n : Int) : GRel w p v (wr.setCell ⟨w.heap.size + 1 + 1 + 1, 0, none⟩ (.int .i64 n)) n y :=
  ⟨h.below.setCell (by simp; omega) _, by rw [size_set]; exact h.size, by rw [cell_block (by omega), h.c0], by rw [cell_block (by omega), h.x0], by rw [cell_block (by omega), h.x1], by rw [cell_block (by omega), h.x2],
    by rw [cell_block (by omega), h.z0], by rw [cell_block (by omega), h.z1], by rw [cell_block (by omega), h.z2], by rw [cell_block (by omega), h.z3], fun o => by rw [frozen_set, h.zf],
    cell_set h.a0, by rw [cell_off (by omega), h.a1], fun o => by rw [frozen_set, h.af]⟩
theorem GRel.set1 {w : World} {p : Int} {v : Vars} {wr : World} {x y : Int} (h : GRel w p v wr x y) (n : Int) : GRel w p v (wr.setCell ⟨w.heap.size + 1 + 1 + 1, 1, none⟩ (.int .i64 n)) x n :=
  ⟨h.below.setCell (by simp; omega) _, by rw [size_set]; exact h.size, by rw [cell_block (by omega), h.c0], by rw [cell_block (by omega), h.x0], by rw [cell_block (by omega), h.x1], by rw [cell_block (by omega), h.x2],
    by rw [cell_block (by omega), h.z0], by rw [cell_block (by omega), h.z1], by rw [cell_block (by omega), h.z2], by rw [cell_block (by omega), h.z3], fun o => by rw [frozen_set, h.zf],
    by rw [cell_off (by omega), h.a0], cell_set h.a1, fun o => by rw [frozen_set, h.af]⟩

set_option maxHeartbeats 4000000 in
theorem ground_c (w : World) (sv : Value) (p : Int) (ts : List Tm) (v : Vars) (h : termsAt w sv ts) :
    Calls Try.prog 23 #[.agg #[.int .i64 p, sv], .agg #[.int .i64 v.x, .int .i64 v.y, .int .i64 v.z]] w
      fun e w' => e = .returned (.tuple #[.agg #[.int .i64 (groundOf v p ts).pred, .int .i64 (groundOf v p ts).a, .int .i64 (groundOf v p ts).b, .int .i64 (groundOf v p ts).val], .int .i64 (groundErr v ts)]) ∧ Below w.heap.size w w' := by
  obtain ⟨a, cap, rfl, hm, hx⟩ := h
  have HX : Hid (ts = [] ∨ ∃ b off, a = some ⟨b, off, none⟩ ∧ b < w.heap.size ∧ ∀ i x, ts[i]? = some x → termAt w b (off + i * 2) x) := hx
  clear hx
  by_cases h2 : 2 < ts.length
  · have e : groundErr v ts = 1 := by rw [groundErr, if_pos h2]
    have e2 : groundOf v p ts = ⟨0, 0, 0, 0⟩ := by rw [groundOf, if_neg (by rw [e]; simp)]
    rw [e, e2]
    clear e e2
    have h2' : (2 : Int) < (ts.length : Int) := by omega
    go_enter Try.func23, Try.ntmps23
    go_wp2_with fail
    exact bodyPost_ret (v := .tuple #[.agg #[.int .i64 0, .int .i64 0, .int .i64 0, .int .i64 0], .int .i64 1]) (by simp [results, Try.results23, go_sem]) rfl ⟨rfl, (((Below.refl _ _).alloc (Nat.le_refl _) _).alloc (by simp) _).alloc (by simp; omega) _⟩
  · have h2' : ¬ (2 : Int) < (ts.length : Int) := by omega
    go_enter Try.func23, Try.ntmps23
    go_wp2_with fail
    go_loopw [18] (fun i wr => ∃ j : Nat, j ≤ ts.length ∧ i = .int .i64 j ∧ (ts.take j).all (groundOk v) = true ∧ GRel w p v wr (argAt v (ts.take j) 0) (argAt v (ts.take j) 1)) (fun i _ => ts.length - (intOf i).toNat)
    case atStart =>
      exact ⟨0, Nat.zero_le _, rfl, rfl, (((((Below.refl _ _).alloc (Nat.le_refl _) _).alloc (by simp) _).alloc (by simp; omega) _).alloc (by simp; omega) _), by simp, by simp [go_sem], by simp [go_sem], by simp [go_sem], by simp [go_sem], by simp [go_sem], by simp [go_sem], by simp [go_sem], by simp [go_sem], by intro o; simp [go_sem], by simp [go_sem, argAt], by simp [go_sem, argAt], by intro o; simp [go_sem]⟩
    case round =>
      obtain ⟨j, hj, rfl, hall, hG⟩ := hrel
      have HG : Hid (GRel w p v wr (argAt v (ts.take j) 0) (argAt v (ts.take j) 1)) := hG
      obtain ⟨hbr, hsz, c0, x0, x1, x2, z0, z1, z2, z3, zf, a0, a1, af⟩ := hG
      by_cases hlt : j < ts.length
      · obtain ⟨b', off', rfl, hbl', hx⟩ := HX.out.resolve_left (by rintro rfl; simp at hlt)
        obtain ⟨ht1, ht2⟩ := hx j ts[j] (by simp [hlt])
        have hr1 : wr.cell? ⟨b', off' + j * 2, none⟩ = some (.bool ts[j].var) := by rw [cell_lasts hbr hbl', ht1]
        have hr2 : wr.cell? ⟨b', off' + j * 2 + 1, none⟩ = some (.int .i64 ts[j].n) := by rw [cell_lasts hbr hbl', ht2]
        have H : Hid ((ts.take (j + 1)).all (groundOk v) = groundOk v ts[j]) := by show _ = _; rw [all_take hlt, hall, Bool.true_and]
        have H2 : Hid (groundOk v ts[j] = false → groundErr v ts = 3) := fun h => by rw [groundErr, if_neg h2, if_neg (by rw [all_not hlt h]; simp)]
        have HA : Hid (∀ i, argAt v (ts.take (j + 1)) i = if i = j then valOf v ts[j] else argAt v (ts.take j) i) := argAt_take hlt
        clear hx hall ht1 ht2 HX
        generalize ts[j] = t at *
        go_wp2_with fail
        refine (inBounds_c t _).mono ?_
        rintro e w1 ⟨rfl, hb1⟩
        obtain ⟨hc, hf⟩ := bcell hb1
        have s0 : w.heap.size < wr.heap.size := by omega
        have s1 : w.heap.size + 1 < wr.heap.size := by omega
        have s2 : w.heap.size + 1 + 1 < wr.heap.size := by omega
        have s0' : w.heap.size < wr.heap.size + 1 := by omega
        have hsz1 : wr.heap.size + 1 ≤ w1.heap.size := by have := hb1.size; simpa using this
        have s3 : w.heap.size + 1 + 1 + 1 < wr.heap.size + 1 := by omega
        have hbw : Below w.heap.size w w1 := hbr.trans (((below_alloc _ _).trans (hb1.mono (by simp))).mono hbr.size)
        cases hok : termOk t
        · have H3 : Hid (groundErr v ts = 3) := H2.out (by simp [groundOk, hok])
          have H4 : Hid (groundOf v p ts = ⟨0, 0, 0, 0⟩) := by show _ = _; rw [groundOf, if_neg (by rw [H3.out]; simp)]
          clear H H2 HA
          go_wp2_with fail
          exact bodyPost_ret (v := .tuple #[.agg #[.int .i64 0, .int .i64 0, .int .i64 0, .int .i64 0], .int .i64 3]) (by simp [results, Try.results23, go_sem, *]) rfl ⟨by rw [H4.out, H3.out], (((hbw.setCell (by simp; omega) _).setCell (by simp; omega) _).setCell (by simp; omega) _).setCell (by simp; omega) _⟩
        · have hbq : Below wr.heap.size wr w1 := (below_alloc _ _).trans (hb1.mono (by simp))
          have HG1 : Hid (GRel w p v w1 (argAt v (ts.take j) 0) (argAt v (ts.take j) 1)) := HG.out.lasts hbq
          clear HG hbq
          obtain ⟨tv, tn⟩ := t
          have hkey : ∃ m : Int, valOf v ⟨tv, tn⟩ = m := ⟨_, rfl⟩
          cases tv
          · have hwi : within tn 0 4 = true := hok
            have H3 : Hid ((ts.take (j + 1)).all (groundOk v) = true) := by show _ = _; rw [H.out, groundOk, hok]; exact hwi
            clear H H2 hkey
            rcases (show j = 0 ∨ j = 1 by omega) with rfl | rfl
            · have HA0 : Hid (argAt v (ts.take (0 + 1)) 0 = tn ∧ argAt v (ts.take (0 + 1)) 1 = argAt v (ts.take 0) 1) := ⟨by rw [HA.out 0]; rfl, by rw [HA.out 1]; rfl⟩
              clear HA
              go_wp2_with (go_at_call 45; refine (isConstant_c _ _).mono ?_; rintro e w' ⟨rfl, rfl⟩)
              go_roundw
              case rel => exact ⟨0 + 1, by omega, rfl, H3.out, by rw [HA0.out.1, HA0.out.2]; exact HG1.out.set0 _⟩
              case measure => simp [intOf]; omega
            · have HA0 : Hid (argAt v (ts.take (1 + 1)) 0 = argAt v (ts.take 1) 0 ∧ argAt v (ts.take (1 + 1)) 1 = tn) := ⟨by rw [HA.out 0]; rfl, by rw [HA.out 1]; rfl⟩
              clear HA
              go_wp2_with (go_at_call 45; refine (isConstant_c _ _).mono ?_; rintro e w' ⟨rfl, rfl⟩)
              go_roundw
              case rel => exact ⟨1 + 1, by omega, rfl, H3.out, by rw [HA0.out.1, HA0.out.2]; exact HG1.out.set1 _⟩
              case measure => simp [intOf]; omega
          · have hwi : 0 ≤ tn ∧ tn ≤ 2 := by
              have : within tn 0 2 = true := hok
              simpa [within] using this
            obtain ⟨m, hmv⟩ := hkey
            rcases (show tn = 0 ∨ tn = 1 ∨ tn = 2 by omega) with rfl | rfl | rfl
            · obtain rfl : v.x = m := hmv
              cases hw2 : within v.x 0 4
              · have H3 : Hid (groundErr v ts = 3) := H2.out (by simp only [groundOk, hok]; exact hw2)
                have H4 : Hid (groundOf v p ts = ⟨0, 0, 0, 0⟩) := by show _ = _; rw [groundOf, if_neg (by rw [H3.out]; simp)]
                clear H H2 HA
                go_wp2_with (go_at_call 45; refine (isConstant_c _ _).mono ?_; rintro e w' ⟨rfl, rfl⟩)
                exact bodyPost_ret (v := .tuple #[.agg #[.int .i64 0, .int .i64 0, .int .i64 0, .int .i64 0], .int .i64 3]) (by simp [results, Try.results23, go_sem, *]) rfl ⟨by rw [H4.out, H3.out], (((hbw.setCell (by simp; omega) _).setCell (by simp; omega) _).setCell (by simp; omega) _).setCell (by simp; omega) _⟩
              · have H3 : Hid ((ts.take (j + 1)).all (groundOk v) = true) := by show _ = _; rw [H.out, groundOk, hok]; exact hw2
                clear H H2
                rcases (show j = 0 ∨ j = 1 by omega) with rfl | rfl
                · have HA0 : Hid (argAt v (ts.take (0 + 1)) 0 = v.x ∧ argAt v (ts.take (0 + 1)) 1 = argAt v (ts.take 0) 1) := ⟨by rw [HA.out 0]; rfl, by rw [HA.out 1]; rfl⟩
                  clear HA
                  go_wp2_with (go_at_call 45; refine (isConstant_c _ _).mono ?_; rintro e w' ⟨rfl, rfl⟩)
                  go_roundw
                  case rel => exact ⟨0 + 1, by omega, rfl, H3.out, by rw [HA0.out.1, HA0.out.2]; exact HG1.out.set0 _⟩
                  case measure => simp [intOf]; omega
                · have HA0 : Hid (argAt v (ts.take (1 + 1)) 0 = argAt v (ts.take 1) 0 ∧ argAt v (ts.take (1 + 1)) 1 = v.x) := ⟨by rw [HA.out 0]; rfl, by rw [HA.out 1]; rfl⟩
                  clear HA
                  go_wp2_with (go_at_call 45; refine (isConstant_c _ _).mono ?_; rintro e w' ⟨rfl, rfl⟩)
                  go_roundw
                  case rel => exact ⟨1 + 1, by omega, rfl, H3.out, by rw [HA0.out.1, HA0.out.2]; exact HG1.out.set1 _⟩
                  case measure => simp [intOf]; omega
            · obtain rfl : v.y = m := hmv
              cases hw2 : within v.y 0 4
              · have H3 : Hid (groundErr v ts = 3) := H2.out (by simp only [groundOk, hok]; exact hw2)
                have H4 : Hid (groundOf v p ts = ⟨0, 0, 0, 0⟩) := by show _ = _; rw [groundOf, if_neg (by rw [H3.out]; simp)]
                clear H H2 HA
                go_wp2_with (go_at_call 45; refine (isConstant_c _ _).mono ?_; rintro e w' ⟨rfl, rfl⟩)
                exact bodyPost_ret (v := .tuple #[.agg #[.int .i64 0, .int .i64 0, .int .i64 0, .int .i64 0], .int .i64 3]) (by simp [results, Try.results23, go_sem, *]) rfl ⟨by rw [H4.out, H3.out], (((hbw.setCell (by simp; omega) _).setCell (by simp; omega) _).setCell (by simp; omega) _).setCell (by simp; omega) _⟩
              · have H3 : Hid ((ts.take (j + 1)).all (groundOk v) = true) := by show _ = _; rw [H.out, groundOk, hok]; exact hw2
                clear H H2
                rcases (show j = 0 ∨ j = 1 by omega) with rfl | rfl
                · have HA0 : Hid (argAt v (ts.take (0 + 1)) 0 = v.y ∧ argAt v (ts.take (0 + 1)) 1 = argAt v (ts.take 0) 1) := ⟨by rw [HA.out 0]; rfl, by rw [HA.out 1]; rfl⟩
                  clear HA
                  go_wp2_with (go_at_call 45; refine (isConstant_c _ _).mono ?_; rintro e w' ⟨rfl, rfl⟩)
                  go_roundw
                  case rel => exact ⟨0 + 1, by omega, rfl, H3.out, by rw [HA0.out.1, HA0.out.2]; exact HG1.out.set0 _⟩
                  case measure => simp [intOf]; omega
                · have HA0 : Hid (argAt v (ts.take (1 + 1)) 0 = argAt v (ts.take 1) 0 ∧ argAt v (ts.take (1 + 1)) 1 = v.y) := ⟨by rw [HA.out 0]; rfl, by rw [HA.out 1]; rfl⟩
                  clear HA
                  go_wp2_with (go_at_call 45; refine (isConstant_c _ _).mono ?_; rintro e w' ⟨rfl, rfl⟩)
                  go_roundw
                  case rel => exact ⟨1 + 1, by omega, rfl, H3.out, by rw [HA0.out.1, HA0.out.2]; exact HG1.out.set1 _⟩
                  case measure => simp [intOf]; omega
            · obtain rfl : v.z = m := hmv
              cases hw2 : within v.z 0 4
              · have H3 : Hid (groundErr v ts = 3) := H2.out (by simp only [groundOk, hok]; exact hw2)
                have H4 : Hid (groundOf v p ts = ⟨0, 0, 0, 0⟩) := by show _ = _; rw [groundOf, if_neg (by rw [H3.out]; simp)]
                clear H H2 HA
                go_wp2_with (go_at_call 45; refine (isConstant_c _ _).mono ?_; rintro e w' ⟨rfl, rfl⟩)
                exact bodyPost_ret (v := .tuple #[.agg #[.int .i64 0, .int .i64 0, .int .i64 0, .int .i64 0], .int .i64 3]) (by simp [results, Try.results23, go_sem, *]) rfl ⟨by rw [H4.out, H3.out], (((hbw.setCell (by simp; omega) _).setCell (by simp; omega) _).setCell (by simp; omega) _).setCell (by simp; omega) _⟩
              · have H3 : Hid ((ts.take (j + 1)).all (groundOk v) = true) := by show _ = _; rw [H.out, groundOk, hok]; exact hw2
                clear H H2
                rcases (show j = 0 ∨ j = 1 by omega) with rfl | rfl
                · have HA0 : Hid (argAt v (ts.take (0 + 1)) 0 = v.z ∧ argAt v (ts.take (0 + 1)) 1 = argAt v (ts.take 0) 1) := ⟨by rw [HA.out 0]; rfl, by rw [HA.out 1]; rfl⟩
                  clear HA
                  go_wp2_with (go_at_call 45; refine (isConstant_c _ _).mono ?_; rintro e w' ⟨rfl, rfl⟩)
                  go_roundw
                  case rel => exact ⟨0 + 1, by omega, rfl, H3.out, by rw [HA0.out.1, HA0.out.2]; exact HG1.out.set0 _⟩
                  case measure => simp [intOf]; omega
                · have HA0 : Hid (argAt v (ts.take (1 + 1)) 0 = argAt v (ts.take 1) 0 ∧ argAt v (ts.take (1 + 1)) 1 = v.z) := ⟨by rw [HA.out 0]; rfl, by rw [HA.out 1]; rfl⟩
                  clear HA
                  go_wp2_with (go_at_call 45; refine (isConstant_c _ _).mono ?_; rintro e w' ⟨rfl, rfl⟩)
                  go_roundw
                  case rel => exact ⟨1 + 1, by omega, rfl, H3.out, by rw [HA0.out.1, HA0.out.2]; exact HG1.out.set1 _⟩
                  case measure => simp [intOf]; omega
      · have hje : j = ts.length := by omega
        have H3 : Hid (groundErr v ts = 0) := by show _ = _; rw [groundErr, if_neg h2, if_pos (all_take_end hlt hall)]
        have H4 : Hid (groundOf v p ts = ⟨p, argAt v (ts.take j) 0, argAt v (ts.take j) 1, 0⟩) := by show _ = _; rw [groundOf, if_pos H3.out, List.take_of_length_le (by omega)]; rfl
        clear hje hall
        go_wp2_with fail
        exact bodyPost_ret (v := .tuple #[.agg #[.int .i64 p, .int .i64 (argAt v (ts.take j) 0), .int .i64 (argAt v (ts.take j) 1), .int .i64 0], .int .i64 0]) (by simp [results, Try.results23, go_sem, *]) rfl ⟨by rw [H4.out, H3.out], (((hbr.setCell (by simp; omega) _).setCell (by simp; omega) _).setCell (by simp; omega) _).setCell (by simp; omega) _⟩
end Go.Proofs.Ytchmdijkmfilfaa.Rule
