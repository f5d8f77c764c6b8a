import Derived.Test.YtgbacodellfacabRule
namespace Go.Proofs.Ytgbacodellfacab.Rule
open Go.ChangeShapes Go.WideShapes Go.ChangeAt Go.RowKit
open Lat (within within_c)

theorem checkAtom_c (w : World) (pv sv : Value) (ps : List Prd) (p : Int) (ts : List Tm) (hp : predsAt w pv ps) (h : termsAt w sv ts) :
    Calls Try.prog 64 #[pv, .agg #[.int .i64 p, sv]] w fun e w' => e = .returned (.int .i64 (atomErr ps ⟨p, ts⟩)) ∧ Below w.heap.size w w' := by
  have h' := h
  have H : Hid (∀ (w1 : World), Below w.heap.size w w1 → termsAt w1 sv ts) := fun w1 hb => termsAt.lasts hb h'
  obtain ⟨a, cap, rfl, hm, hx⟩ := h
  obtain ⟨pa, pcap, rfl, hpm, hpx⟩ := hp
  clear hx h'
  by_cases h1 : isPred ps p = true
  · obtain ⟨k, hk, rfl⟩ := isPred_iff.1 h1
    obtain ⟨b, off, rfl, hbl, hpx⟩ := hpx.resolve_left (by rintro rfl; simp at hk)
    obtain ⟨hc0, hc1, hc2⟩ := hpx k ps[k] (by simp [hk])
    clear hpx
    have ha : arityOf ps (k : Int) = ps[k].arity := by simp [arityOf, hk]
    have hwi : within (k : Int) 0 ((ps.length : Int) - 1) = true := h1
    by_cases h2 : (ts.length : Int) = ps[k].arity
    · have e : atomErr ps ⟨(k : Int), ts⟩ = argsErr ts := by rw [atomErr, if_pos h1, if_pos (by rw [ha]; exact h2)]
      rw [e]
      clear e ha h1
      have h2' : ((ts.length : Int) != ps[k].arity) = false := by simpa using h2
      clear h2
      go_enter Try.func64, Try.ntmps64
      go_wp2_with (go_at_call 35; refine (within_c _ _ _ _).mono ?_; rintro e w' ⟨rfl, rfl⟩)
      go_quiet (fail)
      go_wp2_with fail
      refine (argsError_c _ _ ts (H.out _ (by exact below_drewN (below_alloc _ _) _))).mono ?_
      rintro e w' ⟨rfl, rfl⟩
      go_wp2_with fail
      go_ret
      exact ⟨rfl, below_drewN (below_alloc _ _) _⟩
    · have e : atomErr ps ⟨(k : Int), ts⟩ = 1 := by rw [atomErr, if_pos h1, if_neg (by rw [ha]; exact h2)]
      rw [e]
      clear e ha h1
      have h2' : ((ts.length : Int) != ps[k].arity) = true := by simpa using h2
      clear h2
      go_enter Try.func64, Try.ntmps64
      go_wp2_with (go_at_call 35; refine (within_c _ _ _ _).mono ?_; rintro e w' ⟨rfl, rfl⟩)
      go_quiet (fail)
      go_wp2_with fail
      go_ret
      exact ⟨rfl, below_drewN (below_alloc _ _) _⟩
  · have h1' : isPred ps p = false := by simpa using h1
    have e : atomErr ps ⟨p, ts⟩ = 7 := by rw [atomErr, if_neg h1]
    rw [e]
    clear e h1
    have hwi : within p 0 ((ps.length : Int) - 1) = false := h1'
    go_enter Try.func64, Try.ntmps64
    go_wp2_with (go_at_call 35; refine (within_c _ _ _ _).mono ?_; rintro e w' ⟨rfl, rfl⟩)
    go_ret
    exact ⟨rfl, below_alloc _ _⟩

set_option maxHeartbeats 400000 in
theorem atom_c (w : World) (pv sv : Value) (ps : List Prd) (p : Int) (ts : List Tm) (hp : predsAt w pv ps) (h : termsAt w sv ts) :
    Calls Try.prog 87 #[pv, .agg #[.int .i64 p, sv]] w fun e w' => e = .returned (.int .i64 (atomErr ps ⟨p, ts⟩)) ∧ Below w.heap.size w w' := by
  obtain ⟨a, cap, rfl, hm, hx⟩ := h
  obtain ⟨pa, pcap, rfl, hpm, hpx⟩ := hp
  by_cases h1 : isPred ps p = true
  · obtain ⟨k, hk, rfl⟩ := isPred_iff.1 h1
    obtain ⟨b, off, rfl, hbl, hpx⟩ := hpx.resolve_left (by rintro rfl; simp at hk)
    obtain ⟨hc0, hc1, hc2⟩ := hpx k ps[k] (by simp [hk])
    clear hpx
    have ha : arityOf ps (k : Int) = ps[k].arity := by simp [arityOf, hk]
    have hk1 : ((k : Int) < 0) = False := by simp
    have hk2 : ((ps.length : Int) ≤ (k : Int)) = False := by simp; omega
    by_cases h2 : (ts.length : Int) = ps[k].arity
    · have e : atomErr ps ⟨(k : Int), ts⟩ = argsErr ts := by rw [atomErr, if_pos h1, if_pos (by rw [ha]; exact h2)]
      rw [e]
      clear e ha h1
      have h2' : ((ts.length : Int) != ps[k].arity) = false := by simpa using h2
      clear h2
      have HX : Hid (ts = [] ∨ ∃ b off, a = some ⟨b, off, none⟩ ∧ b < w.heap.size ∧ ∀ i x, ts[i]? = some x → termAt w b (off + i * 2) x) := hx
      clear hx
      go_enter Try.func87, Try.ntmps87
      go_wp2_with fail
      go_quiet (fail)
      go_wp2_with fail
      go_loopw [30] (fun i wr => ∃ j : Nat, j ≤ ts.length ∧ i = .int .i64 j ∧ (ts.take j).all termOk = true ∧ Below w.heap.size w wr) (fun i _ => ts.length - (intOf i).toNat)
      case atStart => exact ⟨0, Nat.zero_le _, rfl, rfl, below_drewN (below_alloc _ _) _⟩
      case round =>
        obtain ⟨j, hj, rfl, hall, hbr⟩ := hrel
        by_cases hlt : j < ts.length
        · obtain ⟨b', off', rfl, hbl', hx⟩ := HX.out.resolve_left (by rintro rfl; simp at hlt)
          obtain ⟨ht1, ht2⟩ := hx j ts[j] (by simp [hlt])
          have hr1 : wr.cell? ⟨b', off' + j * 2, none⟩ = some (.bool ts[j].var) := by rw [cell_lasts hbr hbl', ht1]
          have hr2 : wr.cell? ⟨b', off' + j * 2 + 1, none⟩ = some (.int .i64 ts[j].n) := by rw [cell_lasts hbr hbl', ht2]
          have H : Hid ((ts.take (j + 1)).all termOk = termOk ts[j]) := by show _ = _; rw [all_take hlt, hall, Bool.true_and]
          have H2 : Hid (termOk ts[j] = false → argsErr ts = 3) := fun h => by rw [argsErr, if_neg (by rw [all_not hlt h]; simp)]
          clear hx hall ht1 ht2 HX hc0 hc1 hc2
          generalize ts[j] = t at *
          go_wp2_with fail
          refine (inBounds_c t _).mono ?_
          rintro e w1 ⟨rfl, hb1⟩
          cases hok : termOk t
          · have H3 : Hid (argsErr ts = 3) := H2.out hok
            clear H H2
            go_wp2_with fail
            go_ret
            exact ⟨ret_int H3.out.symm, hbr.trans (((below_alloc _ _).trans (hb1.mono (by simp))).mono hbr.size)⟩
          · rw [hok] at H
            clear H2
            go_wp2_with fail
            go_roundw
            case rel => exact ⟨j + 1, by omega, by go_num, H.out, hbr.trans (((below_alloc _ _).trans (hb1.mono (by simp))).mono hbr.size)⟩
            case measure => simp [intOf]; omega
        · have H : Hid (argsErr ts = 0) := by show argsErr ts = 0; rw [argsErr, if_pos (all_take_end hlt hall)]
          go_wp2_with fail
          go_ret
          exact ⟨ret_int H.out.symm, hbr⟩
    · have e : atomErr ps ⟨(k : Int), ts⟩ = 1 := by rw [atomErr, if_pos h1, if_neg (by rw [ha]; exact h2)]
      rw [e]
      clear e ha h1 hx
      have h2' : ((ts.length : Int) != ps[k].arity) = true := by simpa using h2
      clear h2
      go_enter Try.func87, Try.ntmps87
      go_wp2_with fail
      go_quiet (fail)
      go_wp2_with fail
      go_ret
      exact ⟨rfl, below_drewN (below_alloc _ _) _⟩
  · have e : atomErr ps ⟨p, ts⟩ = 7 := by rw [atomErr, if_neg h1]
    have hp : p < 0 ∨ (ps.length : Int) ≤ p := by simp [isPred, within] at h1; omega
    rw [e]
    clear e h1 hx hpx
    rcases hp with hp | hp
    · go_enter Try.func87, Try.ntmps87
      go_wp2_with fail
      go_ret
      exact ⟨rfl, below_alloc _ _⟩
    · have hp0 : decide (p < 0) = false := by simp; omega
      go_enter Try.func87, Try.ntmps87
      go_wp2_with fail
      go_ret
      exact ⟨rfl, below_alloc _ _⟩

/-! ### Ground -/
end Go.Proofs.Ytgbacodellfacab.Rule
