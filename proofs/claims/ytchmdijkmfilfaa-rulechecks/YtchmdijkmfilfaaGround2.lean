/-
  What the document's own reckoning of Ground answers.
-/
import Derived.Test.YtchmdijkmfilfaaGround
namespace Go.Proofs.Ytchmdijkmfilfaa.Rule
open Go.ChangeShapes Go.WideShapes Go.ChangeAt Go.RowKit
open Lat (within within_c)

/-- what ground's own blocks hold in the middle of its loop -/
structure RRel (w : World) (p : Int) (sv : Value) (v : Vars) (wr : World) (x y : Int) : Prop where
  below : Below w.heap.size w wr
  size : w.heap.size + 1 + 1 + 1 < wr.heap.size
  c1 : wr.cell? ⟨w.heap.size, 1, none⟩ = some sv
  x0 : wr.cell? ⟨w.heap.size + 1, 0, none⟩ = some (.int .i64 v.x)
  x1 : wr.cell? ⟨w.heap.size + 1, 1, none⟩ = some (.int .i64 v.y)
  x2 : wr.cell? ⟨w.heap.size + 1, 2, none⟩ = some (.int .i64 v.z)
  z0 : wr.cell? ⟨w.heap.size + 1 + 1, 0, none⟩ = some (.int .i64 0)
  z1 : wr.cell? ⟨w.heap.size + 1 + 1, 1, none⟩ = some (.int .i64 0)
  z2 : wr.cell? ⟨w.heap.size + 1 + 1, 2, none⟩ = some (.int .i64 0)
  z3 : wr.cell? ⟨w.heap.size + 1 + 1, 3, none⟩ = some (.int .i64 0)
  zf : ∀ o, wr.frozen? ⟨w.heap.size + 1 + 1, o, none⟩ = false
  ap : wr.cell? ⟨w.heap.size + 1 + 1 + 1, 0, none⟩ = some (.int .i64 p)
  a0 : wr.cell? ⟨w.heap.size + 1 + 1 + 1, 1, none⟩ = some (.int .i64 x)
  a1 : wr.cell? ⟨w.heap.size + 1 + 1 + 1, 2, none⟩ = some (.int .i64 y)
  a2 : wr.cell? ⟨w.heap.size + 1 + 1 + 1, 3, none⟩ = some (.int .i64 0)
  af : ∀ o, wr.frozen? ⟨w.heap.size + 1 + 1 + 1, o, none⟩ = false

theorem RRel.set0 {w : World} {p : Int} {sv : Value} {v : Vars} {wr : World} {x y : Int} (h : RRel w p sv v wr x y) (n : Int) : RRel w p sv v (wr.setCell ⟨w.heap.size + 1 + 1 + 1, 1, none⟩ (.int .i64 n)) n y :=
  ⟨h.below.setCell (by simp; omega) _, by rw [size_set]; exact h.size, by rw [cell_block (by omega), h.c1], by rw [cell_block (by omega), h.x0], by rw [cell_block (by omega), h.x1], by rw [cell_block (by omega), h.x2],
    by rw [cell_block (by omega), h.z0], by rw [cell_block (by omega), h.z1], by rw [cell_block (by omega), h.z2], by rw [cell_block (by omega), h.z3], fun o => by rw [frozen_set, h.zf],
    by rw [cell_off (by omega), h.ap], cell_set h.a0, by rw [cell_off (by omega), h.a1], by rw [cell_off (by omega), h.a2], fun o => by rw [frozen_set, h.af]⟩
theorem RRel.set1 {w : World} {p : Int} {sv : Value} {v : Vars} {wr : World} {x y : Int} (h : RRel w p sv v wr x y) (n : Int) : RRel w p sv v (wr.setCell ⟨w.heap.size + 1 + 1 + 1, 2, none⟩ (.int .i64 n)) x n :=
  ⟨h.below.setCell (by simp; omega) _, by rw [size_set]; exact h.size, by rw [cell_block (by omega), h.c1], by rw [cell_block (by omega), h.x0], by rw [cell_block (by omega), h.x1], by rw [cell_block (by omega), h.x2],
    by rw [cell_block (by omega), h.z0], by rw [cell_block (by omega), h.z1], by rw [cell_block (by omega), h.z2], by rw [cell_block (by omega), h.z3], fun o => by rw [frozen_set, h.zf],
    by rw [cell_off (by omega), h.ap], by rw [cell_off (by omega), h.a0], cell_set h.a1, by rw [cell_off (by omega), h.a2], fun o => by rw [frozen_set, h.af]⟩

theorem groundErr_ok {v : Vars} {ts : List Tm} (h : groundErr v ts = 0) : ts.length ≤ 2 ∧ ts.all (groundOk v) = true := by
  unfold groundErr at h
  split at h
  · cases h
  · split at h
    · exact ⟨by omega, by assumption⟩
    · cases h

set_option maxHeartbeats 4000000 in
theorem groundR_c (w : World) (sv : Value) (p : Int) (ts : List Tm) (v : Vars) (h : termsAt w sv ts) (hg : groundErr v ts = 0) :
    Calls Try.prog 46 #[.agg #[.int .i64 p, sv], .agg #[.int .i64 v.x, .int .i64 v.y, .int .i64 v.z]] w
      fun e w' => e = .returned (.agg #[.int .i64 p, .int .i64 (argAt v ts 0), .int .i64 (argAt v ts 1), .int .i64 0]) ∧ Below w.heap.size w w' := by
  obtain ⟨a, cap, rfl, hm, hx⟩ := h
  obtain ⟨h2, hok⟩ := groundErr_ok hg
  have HX : Hid (ts = [] ∨ ∃ b off, a = some ⟨b, off, none⟩ ∧ b < w.heap.size ∧ ∀ i x, ts[i]? = some x → termAt w b (off + i * 2) x) := hx
  have HOK : Hid (ts.all (groundOk v) = true) := hok
  clear hx hok hg
  go_enter Try.func46, Try.ntmps46
  go_wp2_with fail
  go_loopw [6] (fun i wr => ∃ j : Nat, j ≤ ts.length ∧ i = .int .i64 j ∧ RRel w p (.slice a ts.length cap) v wr (argAt v (ts.take j) 0) (argAt v (ts.take j) 1)) (fun i _ => ts.length - (intOf i).toNat)
  case atStart =>
    exact ⟨0, Nat.zero_le _, rfl, (((((Below.refl _ _).alloc (Nat.le_refl _) _).alloc (by simp) _).alloc (by simp; omega) _).alloc (by simp; omega) _), by simp, by simp [go_sem], by simp [go_sem], by simp [go_sem], by simp [go_sem], by simp [go_sem], by simp [go_sem], by simp [go_sem], by simp [go_sem], by intro o; simp [go_sem], by simp [go_sem], by simp [go_sem, argAt], by simp [go_sem, argAt], by simp [go_sem], by intro o; simp [go_sem]⟩
  case round =>
    obtain ⟨j, hj, rfl, hG⟩ := hrel
    have HG : Hid (RRel w p (.slice a ts.length cap) v wr (argAt v (ts.take j) 0) (argAt v (ts.take j) 1)) := hG
    obtain ⟨hbr, hsz, c1, x0, x1, x2, z0, z1, z2, z3, zf, ap, a0, a1, a2, af⟩ := hG
    by_cases hlt : j < ts.length
    · obtain ⟨b', off', rfl, hbl', hx⟩ := HX.out.resolve_left (by rintro rfl; simp at hlt)
      obtain ⟨ht1, ht2⟩ := hx j ts[j] (by simp [hlt])
      have hr1 : wr.cell? ⟨b', off' + j * 2, none⟩ = some (.bool ts[j].var) := by rw [cell_lasts hbr hbl', ht1]
      have hr2 : wr.cell? ⟨b', off' + j * 2 + 1, none⟩ = some (.int .i64 ts[j].n) := by rw [cell_lasts hbr hbl', ht2]
      have hok : groundOk v ts[j] = true := List.all_eq_true.1 HOK.out _ (List.getElem_mem hlt)
      have HA : Hid (∀ i, argAt v (ts.take (j + 1)) i = if i = j then valOf v ts[j] else argAt v (ts.take j) i) := argAt_take hlt
      clear hx ht1 ht2 HX HOK
      generalize ts[j] = t at *
      obtain ⟨tv, tn⟩ := t
      have hok1 : termOk ⟨tv, tn⟩ = true := by simp only [groundOk, Bool.and_eq_true] at hok; exact hok.1
      clear hok
      cases tv
      · clear hok1
        rcases (show j = 0 ∨ j = 1 by omega) with rfl | rfl
        · simp only [Nat.zero_mul, Nat.add_zero] at hr1 hr2
          have HA0 : Hid (argAt v (ts.take (0 + 1)) 0 = tn ∧ argAt v (ts.take (0 + 1)) 1 = argAt v (ts.take 0) 1) := ⟨by rw [HA.out 0]; rfl, by rw [HA.out 1]; rfl⟩
          clear HA
          go_wp2_with fail
          go_roundw
          case rel => exact ⟨0 + 1, by omega, rfl, by rw [HA0.out.1, HA0.out.2]; exact HG.out.set0 _⟩
          case measure => simp [intOf]; omega
        · have HA0 : Hid (argAt v (ts.take (1 + 1)) 0 = argAt v (ts.take 1) 0 ∧ argAt v (ts.take (1 + 1)) 1 = tn) := ⟨by rw [HA.out 0]; rfl, by rw [HA.out 1]; rfl⟩
          clear HA
          go_wp2_with fail
          go_roundw
          case rel => exact ⟨1 + 1, by omega, rfl, by rw [HA0.out.1, HA0.out.2]; exact HG.out.set1 _⟩
          case measure => simp [intOf]; omega
      · have hwi : 0 ≤ tn ∧ tn ≤ 2 := by
          have : within tn 0 2 = true := hok1
          simpa [within] using this
        clear hok1
        rcases (show tn = 0 ∨ tn = 1 ∨ tn = 2 by omega) with rfl | rfl | rfl
        all_goals clear hwi
        · rcases (show j = 0 ∨ j = 1 by omega) with rfl | rfl
          · simp only [Nat.zero_mul, Nat.add_zero] at hr1 hr2
            have HA0 : Hid (argAt v (ts.take (0 + 1)) 0 = v.x ∧ argAt v (ts.take (0 + 1)) 1 = argAt v (ts.take 0) 1) := ⟨by rw [HA.out 0]; rfl, by rw [HA.out 1]; rfl⟩
            clear HA
            go_wp2_with fail
            go_roundw
            case rel => exact ⟨0 + 1, by omega, rfl, by rw [HA0.out.1, HA0.out.2]; exact HG.out.set0 _⟩
            case measure => simp [intOf]; omega
          · have HA0 : Hid (argAt v (ts.take (1 + 1)) 0 = argAt v (ts.take 1) 0 ∧ argAt v (ts.take (1 + 1)) 1 = v.x) := ⟨by rw [HA.out 0]; rfl, by rw [HA.out 1]; rfl⟩
            clear HA
            go_wp2_with fail
            go_roundw
            case rel => exact ⟨1 + 1, by omega, rfl, by rw [HA0.out.1, HA0.out.2]; exact HG.out.set1 _⟩
            case measure => simp [intOf]; omega
        · rcases (show j = 0 ∨ j = 1 by omega) with rfl | rfl
          · simp only [Nat.zero_mul, Nat.add_zero] at hr1 hr2
            have HA0 : Hid (argAt v (ts.take (0 + 1)) 0 = v.y ∧ argAt v (ts.take (0 + 1)) 1 = argAt v (ts.take 0) 1) := ⟨by rw [HA.out 0]; rfl, by rw [HA.out 1]; rfl⟩
            clear HA
            go_wp2_with fail
            go_roundw
            case rel => exact ⟨0 + 1, by omega, rfl, by rw [HA0.out.1, HA0.out.2]; exact HG.out.set0 _⟩
            case measure => simp [intOf]; omega
          · have HA0 : Hid (argAt v (ts.take (1 + 1)) 0 = argAt v (ts.take 1) 0 ∧ argAt v (ts.take (1 + 1)) 1 = v.y) := ⟨by rw [HA.out 0]; rfl, by rw [HA.out 1]; rfl⟩
            clear HA
            go_wp2_with fail
            go_roundw
            case rel => exact ⟨1 + 1, by omega, rfl, by rw [HA0.out.1, HA0.out.2]; exact HG.out.set1 _⟩
            case measure => simp [intOf]; omega
        · rcases (show j = 0 ∨ j = 1 by omega) with rfl | rfl
          · simp only [Nat.zero_mul, Nat.add_zero] at hr1 hr2
            have HA0 : Hid (argAt v (ts.take (0 + 1)) 0 = v.z ∧ argAt v (ts.take (0 + 1)) 1 = argAt v (ts.take 0) 1) := ⟨by rw [HA.out 0]; rfl, by rw [HA.out 1]; rfl⟩
            clear HA
            go_wp2_with fail
            go_roundw
            case rel => exact ⟨0 + 1, by omega, rfl, by rw [HA0.out.1, HA0.out.2]; exact HG.out.set0 _⟩
            case measure => simp [intOf]; omega
          · have HA0 : Hid (argAt v (ts.take (1 + 1)) 0 = argAt v (ts.take 1) 0 ∧ argAt v (ts.take (1 + 1)) 1 = v.z) := ⟨by rw [HA.out 0]; rfl, by rw [HA.out 1]; rfl⟩
            clear HA
            go_wp2_with fail
            go_roundw
            case rel => exact ⟨1 + 1, by omega, rfl, by rw [HA0.out.1, HA0.out.2]; exact HG.out.set1 _⟩
            case measure => simp [intOf]; omega
    · have HL : Hid (ts.take j = ts) := List.take_of_length_le (by omega)
      clear HX HOK
      go_wp2_with fail
      exact bodyPost_ret (v := .agg #[.int .i64 p, .int .i64 (argAt v (ts.take j) 0), .int .i64 (argAt v (ts.take j) 1), .int .i64 0]) (by simp [results, Try.results46, go_sem, *]) rfl ⟨by rw [HL.out], (((hbr.setCell (by simp; omega) _).setCell (by simp; omega) _).setCell (by simp; omega) _).setCell (by simp; omega) _⟩

theorem groundOk_of {v : Vars} {ts : List Tm} (h : ts.all termOk = true) : ts.all (groundOk v) = ts.all (fun t => !t.var || within (v.at t.n) 0 4) := by
  rw [Bool.eq_iff_iff, List.all_eq_true, List.all_eq_true]
  rw [List.all_eq_true] at h
  constructor
  · intro g t ht
    have := g t ht
    obtain ⟨tv, tn⟩ := t
    cases tv
    · rfl
    · simp only [groundOk, Bool.and_eq_true] at this
      exact this.2
  · intro g t ht
    have h1 := h t ht
    have h2 := g t ht
    obtain ⟨tv, tn⟩ := t
    cases tv
    · simp only [groundOk, Bool.and_eq_true]
      exact ⟨h1, h1⟩
    · simp only [groundOk, Bool.and_eq_true]
      exact ⟨h1, h2⟩
theorem groundOk_not {v : Vars} {ts : List Tm} (h : ts.all termOk = false) : ts.all (groundOk v) = false := by
  rw [List.all_eq_false] at *
  obtain ⟨t, ht, hn⟩ := h
  exact ⟨t, ht, by simp only [groundOk, Bool.and_eq_true]; exact fun g => hn g.1⟩

set_option maxHeartbeats 4000000 in
theorem groundOf_c (w : World) (sv : Value) (p : Int) (ts : List Tm) (v : Vars) (h : termsAt w sv ts) :
    Calls Try.prog 24 #[.agg #[.int .i64 p, sv], .agg #[.int .i64 v.x, .int .i64 v.y, .int .i64 v.z]] w
      fun e w' => e = .returned (.tuple #[.agg #[.int .i64 (groundOf v p ts).pred, .int .i64 (groundOf v p ts).a, .int .i64 (groundOf v p ts).b, .int .i64 (groundOf v p ts).val], .int .i64 (groundErr v ts)]) ∧ Below w.heap.size w w' := by
  have h' := h
  have HT : Hid (∀ (w1 : World), Below w.heap.size w w1 → termsAt w1 sv ts) := fun w1 hb => termsAt.lasts hb h'
  obtain ⟨a, cap, rfl, hm, hx⟩ := h
  have HX : Hid (ts = [] ∨ ∃ b off, a = some ⟨b, off, none⟩ ∧ b < w.heap.size ∧ ∀ i x, ts[i]? = some x → termAt w b (off + i * 2) x) := hx
  clear hx h'
  by_cases h2 : 2 < ts.length
  · have e : groundErr v ts = 1 := by rw [groundErr, if_pos h2]
    have e2 : groundOf v p ts = ⟨0, 0, 0, 0⟩ := by rw [groundOf, if_neg (by rw [e]; simp)]
    rw [e, e2]
    clear e e2
    have h2' : (2 : Int) < (ts.length : Int) := by omega
    go_enter Try.func24, Try.ntmps24
    go_wp2_with fail
    exact bodyPost_ret (v := .tuple #[.agg #[.int .i64 0, .int .i64 0, .int .i64 0, .int .i64 0], .int .i64 1]) (by simp [results, Try.results24, go_sem]) rfl ⟨rfl, (((Below.refl _ _).alloc (Nat.le_refl _) _).alloc (by simp) _).alloc (by simp; omega) _⟩
  · have h2' : ¬ (2 : Int) < (ts.length : Int) := by omega
    cases hall : ts.all termOk
    · have ea : argsErr ts = 3 := by rw [argsErr, if_neg (by rw [hall]; simp)]
      have e : groundErr v ts = 3 := by rw [groundErr, if_neg h2, if_neg (by rw [groundOk_not hall]; simp)]
      have e2 : groundOf v p ts = ⟨0, 0, 0, 0⟩ := by rw [groundOf, if_neg (by rw [e]; simp)]
      rw [e, e2]
      clear e e2 hall
      go_enter Try.func24, Try.ntmps24
      go_wp2_with fail
      refine (argsError_c _ _ ts (HT.out _ (by exact (((Below.refl _ _).alloc (Nat.le_refl _) _).alloc (by simp) _).alloc (by simp; omega) _))).mono ?_
      rintro e w1 ⟨rfl, rfl⟩
      go_wp2_with fail
      exact bodyPost_ret (v := .tuple #[.agg #[.int .i64 0, .int .i64 0, .int .i64 0, .int .i64 0], .int .i64 3]) (by simp [results, Try.results24, go_sem]) rfl ⟨rfl, (((Below.refl _ _).alloc (Nat.le_refl _) _).alloc (by simp) _).alloc (by simp; omega) _⟩
    · have ea : argsErr ts = 0 := by rw [argsErr, if_pos hall]
      have HALL : Hid (ts.all termOk = true) := hall
      clear hall
      go_enter Try.func24, Try.ntmps24
      go_wp2_with fail
      refine (argsError_c _ _ ts (HT.out _ (by exact (((Below.refl _ _).alloc (Nat.le_refl _) _).alloc (by simp) _).alloc (by simp; omega) _))).mono ?_
      rintro e w1 ⟨rfl, hw1⟩
      have hb1 : Below w.heap.size w w1 := by rw [hw1]; exact (((Below.refl _ _).alloc (Nat.le_refl _) _).alloc (by simp) _).alloc (by simp; omega) _
      have hsz : w.heap.size + 1 + 1 < w1.heap.size := by rw [hw1]; simp
      have c0 : w1.cell? ⟨w.heap.size, 0, none⟩ = some (.int .i64 p) := by rw [hw1]; simp [go_sem]
      have c1 : w1.cell? ⟨w.heap.size, 1, none⟩ = some (.slice a ts.length cap) := by rw [hw1]; simp [go_sem]
      have x0 : w1.cell? ⟨w.heap.size + 1, 0, none⟩ = some (.int .i64 v.x) := by rw [hw1]; simp [go_sem]
      have x1 : w1.cell? ⟨w.heap.size + 1, 1, none⟩ = some (.int .i64 v.y) := by rw [hw1]; simp [go_sem]
      have x2 : w1.cell? ⟨w.heap.size + 1, 2, none⟩ = some (.int .i64 v.z) := by rw [hw1]; simp [go_sem]
      have z0 : w1.cell? ⟨w.heap.size + 1 + 1, 0, none⟩ = some (.int .i64 0) := by rw [hw1]; simp [go_sem]
      have z1 : w1.cell? ⟨w.heap.size + 1 + 1, 1, none⟩ = some (.int .i64 0) := by rw [hw1]; simp [go_sem]
      have z2 : w1.cell? ⟨w.heap.size + 1 + 1, 2, none⟩ = some (.int .i64 0) := by rw [hw1]; simp [go_sem]
      have z3 : w1.cell? ⟨w.heap.size + 1 + 1, 3, none⟩ = some (.int .i64 0) := by rw [hw1]; simp [go_sem]
      have zf : ∀ o, w1.frozen? ⟨w.heap.size + 1 + 1, o, none⟩ = false := by intro o; rw [hw1]; simp [go_sem]
      clear hw1
      go_wp2_with fail
      go_loop [7] (fun i => ∃ j : Nat, j ≤ ts.length ∧ i = .int .i64 j ∧ (ts.take j).all (fun t => !t.var || within (v.at t.n) 0 4) = true) (fun i => ts.length - (intOf i).toNat)
      case atStart => exact ⟨0, Nat.zero_le _, rfl, rfl⟩
      case round =>
        obtain ⟨j, hj, rfl, hall⟩ := hrel
        by_cases hlt : j < ts.length
        · obtain ⟨b', off', rfl, hbl', hx⟩ := HX.out.resolve_left (by rintro rfl; simp at hlt)
          obtain ⟨ht1, ht2⟩ := hx j ts[j] (by simp [hlt])
          have hr1 : w1.cell? ⟨b', off' + j * 2, none⟩ = some (.bool ts[j].var) := by rw [cell_lasts hb1 hbl', ht1]
          have hr2 : w1.cell? ⟨b', off' + j * 2 + 1, none⟩ = some (.int .i64 ts[j].n) := by rw [cell_lasts hb1 hbl', ht2]
          have H : Hid ((ts.take (j + 1)).all (fun t => !t.var || within (v.at t.n) 0 4) = (!ts[j].var || within (v.at ts[j].n) 0 4)) := by show _ = _; rw [all_take hlt, hall, Bool.true_and]
          have H2 : Hid ((!ts[j].var || within (v.at ts[j].n) 0 4) = false → groundErr v ts = 3) := fun h => by rw [groundErr, if_neg h2, groundOk_of HALL.out, if_neg (by rw [all_not hlt h]; simp)]
          have hok : termOk ts[j] = true := List.all_eq_true.1 HALL.out _ (List.getElem_mem hlt)
          clear hx hall ht1 ht2 HX HALL
          generalize ts[j] = t at *
          obtain ⟨tv, tn⟩ := t
          cases tv
          · clear H2 hok
            go_wp2_with fail
            go_round
            case rel => exact ⟨j + 1, by omega, by go_num, H.out⟩
            case measure => simp [intOf]; omega
          · have hwi : 0 ≤ tn ∧ tn ≤ 2 := by
              have : within tn 0 2 = true := hok
              simpa [within] using this
            clear hok
            rcases (show tn = 0 ∨ tn = 1 ∨ tn = 2 by omega) with rfl | rfl | rfl
            all_goals clear hwi
            · cases hw2 : within v.x 0 4
              · have H3 : Hid (groundErr v ts = 3) := H2.out (by show within v.x 0 4 = false; exact hw2)
                have H4 : Hid (groundOf v p ts = ⟨0, 0, 0, 0⟩) := by show _ = _; rw [groundOf, if_neg (by rw [H3.out]; simp)]
                clear H H2
                go_wp2_with (go_at_call 32; refine (within_c _ _ _ _).mono ?_; rintro e w' ⟨rfl, rfl⟩)
                exact bodyPost_ret (v := .tuple #[.agg #[.int .i64 0, .int .i64 0, .int .i64 0, .int .i64 0], .int .i64 3]) (by simp [results, Try.results24, go_sem, *]) rfl ⟨by rw [H4.out, H3.out], (((hb1.setCell (by simp; omega) _).setCell (by simp; omega) _).setCell (by simp; omega) _).setCell (by simp; omega) _⟩
              · have H3 : Hid ((ts.take (j + 1)).all (fun t => !t.var || within (v.at t.n) 0 4) = true) := by show _ = _; rw [H.out]; exact hw2
                clear H H2
                go_wp2_with (go_at_call 32; refine (within_c _ _ _ _).mono ?_; rintro e w' ⟨rfl, rfl⟩)
                go_round
                case rel => exact ⟨j + 1, by omega, by go_num, H3.out⟩
                case measure => simp [intOf]; omega
            · cases hw2 : within v.y 0 4
              · have H3 : Hid (groundErr v ts = 3) := H2.out (by show within v.y 0 4 = false; exact hw2)
                have H4 : Hid (groundOf v p ts = ⟨0, 0, 0, 0⟩) := by show _ = _; rw [groundOf, if_neg (by rw [H3.out]; simp)]
                clear H H2
                go_wp2_with (go_at_call 32; refine (within_c _ _ _ _).mono ?_; rintro e w' ⟨rfl, rfl⟩)
                exact bodyPost_ret (v := .tuple #[.agg #[.int .i64 0, .int .i64 0, .int .i64 0, .int .i64 0], .int .i64 3]) (by simp [results, Try.results24, go_sem, *]) rfl ⟨by rw [H4.out, H3.out], (((hb1.setCell (by simp; omega) _).setCell (by simp; omega) _).setCell (by simp; omega) _).setCell (by simp; omega) _⟩
              · have H3 : Hid ((ts.take (j + 1)).all (fun t => !t.var || within (v.at t.n) 0 4) = true) := by show _ = _; rw [H.out]; exact hw2
                clear H H2
                go_wp2_with (go_at_call 32; refine (within_c _ _ _ _).mono ?_; rintro e w' ⟨rfl, rfl⟩)
                go_round
                case rel => exact ⟨j + 1, by omega, by go_num, H3.out⟩
                case measure => simp [intOf]; omega
            · cases hw2 : within v.z 0 4
              · have H3 : Hid (groundErr v ts = 3) := H2.out (by show within v.z 0 4 = false; exact hw2)
                have H4 : Hid (groundOf v p ts = ⟨0, 0, 0, 0⟩) := by show _ = _; rw [groundOf, if_neg (by rw [H3.out]; simp)]
                clear H H2
                go_wp2_with (go_at_call 32; refine (within_c _ _ _ _).mono ?_; rintro e w' ⟨rfl, rfl⟩)
                exact bodyPost_ret (v := .tuple #[.agg #[.int .i64 0, .int .i64 0, .int .i64 0, .int .i64 0], .int .i64 3]) (by simp [results, Try.results24, go_sem, *]) rfl ⟨by rw [H4.out, H3.out], (((hb1.setCell (by simp; omega) _).setCell (by simp; omega) _).setCell (by simp; omega) _).setCell (by simp; omega) _⟩
              · have H3 : Hid ((ts.take (j + 1)).all (fun t => !t.var || within (v.at t.n) 0 4) = true) := by show _ = _; rw [H.out]; exact hw2
                clear H H2
                go_wp2_with (go_at_call 32; refine (within_c _ _ _ _).mono ?_; rintro e w' ⟨rfl, rfl⟩)
                go_round
                case rel => exact ⟨j + 1, by omega, by go_num, H3.out⟩
                case measure => simp [intOf]; omega
        · have H3 : Hid (groundErr v ts = 0) := by show _ = _; rw [groundErr, if_neg h2, groundOk_of HALL.out, if_pos (all_take_end hlt hall)]
          have H4 : Hid (groundOf v p ts = ⟨p, argAt v ts 0, argAt v ts 1, 0⟩) := by show _ = _; rw [groundOf, if_pos H3.out]; rfl
          clear hall HX HALL
          go_wp2_with fail
          refine (groundR_c _ _ p ts v (HT.out _ hb1) H3.out).mono ?_
          rintro e w2 ⟨rfl, hb2⟩
          obtain ⟨hc, hf⟩ := bcell hb2
          have hbw : Below w.heap.size w w2 := below_trans hb1 hb2
          go_wp2_with fail
          exact bodyPost_ret (v := .tuple #[.agg #[.int .i64 p, .int .i64 (argAt v ts 0), .int .i64 (argAt v ts 1), .int .i64 0], .int .i64 0]) (by simp [results, Try.results24, go_sem, *]) rfl ⟨by rw [H4.out, H3.out], (((hbw.setCell (by simp; omega) _).setCell (by simp; omega) _).setCell (by simp; omega) _).setCell (by simp; omega) _⟩
end Go.Proofs.Ytchmdijkmfilfaa.Rule
