/-
  The developers' 'checkParts', 'Strata', 'Check' and 'Needs'.
-/
import Derived.Test.YtgbacodellfacabOwnProg2
import Derived.Test.YtgbacodellfacabNeeded
import Derived.Test.YtgbacodellfacabCheck
namespace Go.Proofs.Ytgbacodellfacab.Prog
open Go.ChangeShapes Go.WideShapes Go.ChangeAt Go.RowKit
open Strata
open Rule (ruleErr check_c)

theorem parts_preds {ps : List Prd} {rs : List Rul} (h : ¬ (5 < ps.length ∨ 8 < rs.length)) : partsErr ps rs = if predsErr ps ≠ 0 then predsErr ps else rulesErr ps rs := by
  cases h1 : ps.any badName
  · cases h2 : twice ps
    · cases h3 : ps.any badArity
      · cases h4 : ps.any badKind
        · rw [parts_rules h h1 h2 h3 h4, predsErr_none (fun j hj => by
            match j, hj with
            | 0, _ => exact h1
            | 1, _ => exact h2
            | 2, _ => exact h3
            | 3, _ => exact h4)]
          rfl
        · have e : predsErr ps = 4 := show predsErr ps = codeAt 3 from predsErr_at (ps := ps) ⟨3, by decide⟩ (fun j hj => by
            match j, hj with
            | 0, _ => exact h1
            | 1, _ => exact h2
            | 2, _ => exact h3) (show faultAt ps 3 = true from h4)
          rw [parts_kind h h1 h2 h3 h4, e]; rfl
      · have e : predsErr ps = 3 := show predsErr ps = codeAt 2 from predsErr_at (ps := ps) ⟨2, by decide⟩ (fun j hj => by
            match j, hj with
            | 0, _ => exact h1
            | 1, _ => exact h2) (show faultAt ps 2 = true from h3)
        rw [parts_arity h h1 h2 h3, e]; rfl
    · have e : predsErr ps = 6 := show predsErr ps = codeAt 1 from predsErr_at (ps := ps) ⟨1, by decide⟩ (fun j hj => by
            match j, hj with
            | 0, _ => exact h1) (show faultAt ps 1 = true from h2)
      rw [parts_twice h h1 h2, e]; rfl
  · have e : predsErr ps = 5 := show predsErr ps = codeAt 0 from predsErr_at (ps := ps) ⟨0, by decide⟩ (fun j hj => absurd hj (Nat.not_lt_zero _)) (show faultAt ps 0 = true from h1)
    rw [parts_name h h1, e]; rfl

set_option maxRecDepth 100000 in
set_option maxHeartbeats 4000000 in
theorem checkParts_c (w : World) (pv rv : Value) (ps : List Prd) (rs : List Rul) (hp : predsAt w pv ps) (hr : rulesAt w rv rs) (hn : small ps) :
    Calls Try.prog 40 #[.agg #[pv, rv]] w fun e w' => e = .returned (.int .i64 (partsErr ps rs)) ∧ Below w.heap.size w w' := by
  have HP : Hid (predsAt w pv ps) := hp
  have HR : Hid (rulesAt w rv rs) := hr
  have HN : Hid (small ps) := hn
  clear hn
  obtain ⟨pa, pc, rfl, hpm, hpx⟩ := hp
  obtain ⟨ra, rc, rfl, hrm, hrx⟩ := hr
  clear hpx hrx
  have hB : Hid (∀ x, Below (w.heap.size + 1) (w.alloc (.cells #[.slice pa ps.length pc, .slice ra rs.length rc] 25)) x → Below w.heap.size w x) := fun x h => (below_alloc _ _).trans (h.mono (by omega))
  have HBOX : Hid (∀ x, Below (w.heap.size + 1) (w.alloc (.cells #[.slice pa ps.length pc, .slice ra rs.length rc] 25)) x → x.cell? ⟨w.heap.size, 0, none⟩ = some (.slice pa ps.length pc) ∧ x.cell? ⟨w.heap.size, 1, none⟩ = some (.slice ra rs.length rc)) := fun x h =>
    ⟨by rw [h.cell (p := ⟨w.heap.size, 0, none⟩) (by simp)]; simp [go_sem], by rw [h.cell (p := ⟨w.heap.size, 1, none⟩) (by simp)]; simp [go_sem]⟩
  by_cases h5 : 5 < ps.length
  · rw [parts_many (.inl h5)]
    have h5' : (5 : Int) < (ps.length : Int) := by omega
    go_enter Try.func40, Try.ntmps40
    go_wp2_with fail
    go_ret
    exact ⟨rfl, below_alloc _ _⟩
  by_cases h8 : 8 < rs.length
  · rw [parts_many (.inr h8)]
    have h5' : ¬ (5 : Int) < (ps.length : Int) := by omega
    have h8' : (8 : Int) < (rs.length : Int) := by omega
    go_enter Try.func40, Try.ntmps40
    go_wp2_with fail
    go_ret
    exact ⟨rfl, below_alloc _ _⟩
  have HPP : Hid (partsErr ps rs = if predsErr ps ≠ 0 then predsErr ps else rulesErr ps rs) := parts_preds (by omega)
  have h5' : ¬ (5 : Int) < (ps.length : Int) := by omega
  have h8' : ¬ (8 : Int) < (rs.length : Int) := by omega
  by_cases hpe : predsErr ps = 0
  · have HPR : Hid (partsErr ps rs = rulesErr ps rs) := by
      show _ = _
      rw [HPP.out, if_neg (by rw [hpe]; simp)]
    go_enter Try.func40, Try.ntmps40
    go_wp2_with (first | (go_at_call 68; refine (checkPreds_c _ _ ps (predsAt.lasts (by exact below_alloc _ _) HP.out) (by omega) HN.out).mono ?_; rintro e w1 ⟨rfl, hb1⟩; rw [hpe]; have c01 := HBOX.out _ (by have := hb1; simp only [World.size_alloc] at this; exact this); obtain ⟨c0, c1⟩ := c01))
    clear hpe HPP
    go_loopw [26] (fun i wr => ∃ j : Nat, j ≤ rs.length ∧ i = .int .i64 j ∧ (rs.take j).all (fun r => ruleErr ps r == 0) = true ∧ Below (w.heap.size + 1) (w.alloc (.cells #[.slice pa ps.length pc, .slice ra rs.length rc] 25)) wr) (fun i _ => rs.length - (intOf i).toNat)
    case atStart => exact ⟨0, Nat.zero_le _, rfl, rfl, by simp only [World.size_alloc] at hb1; exact hb1⟩
    case round =>
      clear hb1 c0 c1
      obtain ⟨j, hj, rfl, hall, hbr⟩ := hrel
      obtain ⟨c0, c1⟩ := HBOX.out _ hbr
      have hbw := hB.out _ hbr
      by_cases hlt : j < rs.length
      · obtain ⟨rb, ro, rc', hv, hrb, hcells⟩ := slice_cells HR.out hlt
        obtain ⟨rfl, rfl⟩ : ra = some ⟨rb, ro, none⟩ ∧ rc = rc' := by simpa using hv
        obtain ⟨t0, ⟨hv', t1, t1'⟩, t2, t3, bv, t4, t5⟩ := ruleAt.lasts w wr rb _ _ hbw hrb hcells
        have hT : Hid (∀ x, Below wr.heap.size wr x → predsAt x (.slice pa ps.length pc) ps) := fun x hx => predsAt.lasts (hbw.trans (hx.mono hbw.size)) HP.out
        have HTR : Hid (∀ x, Below wr.heap.size wr x → termsAt x hv' rs[j].head.args) := fun x hx => termsAt.lasts hx t1'
        have HBR : Hid (∀ x, Below wr.heap.size wr x → litsAt x bv rs[j].body) := fun x hx => litsAt.lasts hx t5
        have HT : Hid (ruleErr ps rs[j] = 0 → (rs.take (j + 1)).all (fun r => ruleErr ps r == 0) = true) := fun h => by rw [all_take hlt, hall, h]; rfl
        have HF : Hid (ruleErr ps rs[j] ≠ 0 → partsErr ps rs = ruleErr ps rs[j]) := fun h => HPR.out.trans (rulesErr_at hlt hall h)
        have hj0 : (0 : Int) ≤ (j : Int) := by omega
        have hj1 : (j : Int) < (rs.length : Int) := by omega
        clear hv hcells hall
        obtain ⟨ba, bc, rfl, hblen, _⟩ := t5
        obtain ⟨ha, hc, rfl, _⟩ := t1'
        generalize rs[j] = r at *
        have d0 : (wr.alloc (.cells #[.int .i64 r.head.pred, .slice ha r.head.args.length hc, .int .i64 r.src, .int .i64 r.n, .slice ba r.body.length bc] 48)).cell? ⟨w.heap.size, 0, none⟩ = some (.slice pa ps.length pc) := (cell_lasts (below_alloc _ _) (by have := hbr.size; simp at this; omega)).trans c0
        by_cases he : ruleErr ps r = 0
        · have H := HT.out he
          have H' : Hid _ := H
          clear HT HF H
          go_wp2_with (first | (go_at_call 69; refine (check_c _ _ ps r _ _ (hT.out _ (by exact below_alloc _ _)) (HTR.out _ (by exact below_alloc _ _)) (HBR.out _ (by exact below_alloc _ _))).mono ?_; rintro e w1 ⟨rfl, hb1⟩; rw [he]))
          exact ⟨⟨j + 1, by omega, by go_num, H'.out, hbr.trans ((below_trans (below_alloc _ _) hb1).mono (by have := hbr.size; simp at this; omega))⟩, by simp [intOf]; omega⟩
        · have H := HF.out he
          have H' : Hid _ := H
          clear HT HF H
          go_wp2_with (first | (go_at_call 69; refine (check_c _ _ ps r _ _ (hT.out _ (by exact below_alloc _ _)) (HTR.out _ (by exact below_alloc _ _)) (HBR.out _ (by exact below_alloc _ _))).mono ?_; rintro e w1 ⟨rfl, hb1⟩))
          go_ret
          exact ⟨by rw [H'.out]; rfl, hbw.trans ((below_trans (below_alloc _ _) hb1).mono hbw.size)⟩
      · have H : Hid (partsErr ps rs = 0) := HPR.out.trans (rulesErr_none (all_take_end (by omega) hall))
        clear hall HPR
        go_wp2_with fail
        go_ret
        exact ⟨by rw [H.out]; rfl, hbw⟩
  · have HPR : Hid (partsErr ps rs = predsErr ps) := by
      show _ = _
      rw [HPP.out, if_pos hpe]
    clear HPP
    go_enter Try.func40, Try.ntmps40
    go_wp2_with (first | (go_at_call 68; refine (checkPreds_c _ _ ps (predsAt.lasts (by exact below_alloc _ _) HP.out) (by omega) HN.out).mono ?_; rintro e w1 ⟨rfl, hb1⟩))
    go_ret
    exact ⟨by rw [HPR.out]; rfl, below_trans (below_alloc _ _) hb1⟩

set_option maxRecDepth 100000 in
set_option maxHeartbeats 4000000 in
theorem devStrata_c (w : World) (pv rv : Value) (ps : List Prd) (rs : List Rul) (hp : predsAt w pv ps) (hr : rulesAt w rv rs) (hn : small ps) :
    Calls Try.prog 14 #[.agg #[pv, rv]] w fun e w' => (∃ v, e = .returned (.tuple #[v, .int .i64 (progErr ps rs)]) ∧ (progErr ps rs ≠ 0 → v = .slice none 0 0) ∧ (∀ l, strataL (edges rs) ps.length = some l → progErr ps rs = 0 → intsAt w' v l)) ∧ Below w.heap.size w w' := by
  have HP : Hid (predsAt w pv ps) := hp
  have HR : Hid (rulesAt w rv rs) := hr
  obtain ⟨pa, pc, rfl, hpm, hpx⟩ := hp
  obtain ⟨ra, rc, rfl, hrm, hrx⟩ := hr
  clear hpx hrx
  by_cases hpe : partsErr ps rs = 0
  · have hP : Hid (progErr ps rs = if (strataL (edges rs) ps.length).isSome then 0 else 8) := prog_round hpe
    have HZ : Hid (ps.length ≤ 5 ∧ rs.length ≤ 8 ∧ ∀ r ∈ rs, Right ps r) := parts_zero hpe
    go_enter Try.func14, Try.ntmps14
    go_wp2_with (first
      | (go_at_call 40; refine (checkParts_c _ _ _ ps rs (predsAt.lasts (by exact below_alloc _ _) HP.out) (rulesAt.lasts (by exact below_alloc _ _) HR.out) hn).mono ?_; rintro e w1 ⟨rfl, hb1⟩; rw [hpe]; have c0 : w1.cell? ⟨w.heap.size, 0, none⟩ = some (.slice pa ps.length pc) := (by rw [hb1.cell (p := ⟨w.heap.size, 0, none⟩) (by simp)]; simp [go_sem]); have c1 : w1.cell? ⟨w.heap.size, 1, none⟩ = some (.slice ra rs.length rc) := (by rw [hb1.cell (p := ⟨w.heap.size, 1, none⟩) (by simp)]; simp [go_sem]))
      | (go_at_call 41; refine (leastStrata_c _ _ _ ps rs (predsAt.lasts (by exact below_trans (below_alloc _ _) hb1) HP.out) (rulesAt.lasts (by exact below_trans (below_alloc _ _) hb1) HR.out) HZ.out.1 HZ.out.2.2).mono ?_; rintro e w2 ⟨(⟨l, v, hl, rfl, hv⟩ | ⟨hl, rfl⟩), hb2⟩))
    · go_ret2
      have e0 : progErr ps rs = 0 := by rw [hP.out, hl]; rfl
      refine ⟨⟨v, by rw [e0]; rfl, fun h => absurd e0 h, fun l' hl' _ => ?_⟩, below_trans (below_trans (below_alloc _ _) hb1) hb2⟩
      rw [hl] at hl'
      cases hl'
      exact hv
    · go_ret2
      have e0 : progErr ps rs = 8 := by rw [hP.out, hl]; rfl
      exact ⟨⟨_, by rw [e0]; rfl, fun _ => rfl, fun l' hl' _ => by rw [hl] at hl'; cases hl'⟩, below_trans (below_trans (below_alloc _ _) hb1) hb2⟩
  · have hP : Hid (progErr ps rs = partsErr ps rs) := prog_parts rfl hpe
    go_enter Try.func14, Try.ntmps14
    go_wp2_with (first
      | (go_at_call 40; refine (checkParts_c _ _ _ ps rs (predsAt.lasts (by exact below_alloc _ _) HP.out) (rulesAt.lasts (by exact below_alloc _ _) HR.out) hn).mono ?_; rintro e w1 ⟨rfl, hb1⟩))
    go_ret2
    exact ⟨⟨_, by rw [hP.out]; rfl, fun _ => rfl, fun _ _ h => absurd (hP.out.symm.trans h) hpe⟩, below_trans (below_alloc _ _) hb1⟩

set_option maxRecDepth 100000 in
set_option maxHeartbeats 4000000 in
theorem devCheck_c (w : World) (pv rv : Value) (ps : List Prd) (rs : List Rul) (hp : predsAt w pv ps) (hr : rulesAt w rv rs) (hn : small ps) :
    Calls Try.prog 10 #[.agg #[pv, rv]] w fun e w' => e = .returned (.int .i64 (progErr ps rs)) ∧ Below w.heap.size w w' := by
  have HP : Hid (predsAt w pv ps) := hp
  have HR : Hid (rulesAt w rv rs) := hr
  obtain ⟨pa, pc, rfl, hpm, hpx⟩ := hp
  obtain ⟨ra, rc, rfl, hrm, hrx⟩ := hr
  clear hpx hrx
  go_enter Try.func10, Try.ntmps10
  go_wp2_with (first
    | (go_at_call 14; refine (devStrata_c _ _ _ ps rs (predsAt.lasts (by exact below_alloc _ _) HP.out) (rulesAt.lasts (by exact below_alloc _ _) HR.out) hn).mono ?_; rintro e w1 ⟨⟨v, rfl, _, _⟩, hb1⟩))
  go_ret
  exact ⟨rfl, below_trans (below_alloc _ _) hb1⟩

def needsErr (ps : List Prd) (rs : List Rul) (p : Int) : Int := if progErr ps rs ≠ 0 then progErr ps rs else if p < 0 ∨ (ps.length : Int) ≤ p then 7 else 0
set_option maxRecDepth 100000 in
set_option maxHeartbeats 4000000 in
theorem devNeeds_c (w : World) (pv rv : Value) (ps : List Prd) (rs : List Rul) (p : Int) (hp : predsAt w pv ps) (hr : rulesAt w rv rs) (hn : small ps) :
    Calls Try.prog 15 #[.agg #[pv, rv], .int .i64 p] w fun e w' => (∃ v, e = .returned (.tuple #[v, .int .i64 (needsErr ps rs p)]) ∧ (needsErr ps rs p ≠ 0 → v = .slice none 0 0) ∧ (needsErr ps rs p = 0 → boolsAt w' v (needsL (edges rs) ps.length p.toNat))) ∧ Below w.heap.size w w' := by
  have HP : Hid (predsAt w pv ps) := hp
  have HR : Hid (rulesAt w rv rs) := hr
  obtain ⟨pa, pc, rfl, hpm, hpx⟩ := hp
  obtain ⟨ra, rc, rfl, hrm, hrx⟩ := hr
  clear hpx hrx
  by_cases hpe : progErr ps rs = 0
  · obtain ⟨hz, _⟩ := prog_zero hpe
    have HZ : Hid (ps.length ≤ 5 ∧ rs.length ≤ 8 ∧ ∀ r ∈ rs, Right ps r) := parts_zero hz
    clear hz
    by_cases h0 : p < 0
    · have e : needsErr ps rs p = 7 := by rw [needsErr, if_neg (by rw [hpe]; simp), if_pos (.inl h0)]
      rw [e]
      go_enter Try.func15, Try.ntmps15
      go_wp2_with (first
        | (go_at_call 10; refine (devCheck_c _ _ _ ps rs (predsAt.lasts (by exact below_alloc _ _) HP.out) (rulesAt.lasts (by exact below_alloc _ _) HR.out) hn).mono ?_; rintro e w1 ⟨rfl, hb1⟩; rw [hpe]))
      go_ret2
      exact ⟨⟨_, rfl, fun _ => rfl, fun h => absurd h (by decide)⟩, below_trans (below_alloc _ _) hb1⟩
    · by_cases h1 : (ps.length : Int) ≤ p
      · have e : needsErr ps rs p = 7 := by rw [needsErr, if_neg (by rw [hpe]; simp), if_pos (.inr h1)]
        rw [e]
        go_enter Try.func15, Try.ntmps15
        go_wp2_with (first
          | (go_at_call 10; refine (devCheck_c _ _ _ ps rs (predsAt.lasts (by exact below_alloc _ _) HP.out) (rulesAt.lasts (by exact below_alloc _ _) HR.out) hn).mono ?_; rintro e w1 ⟨rfl, hb1⟩; rw [hpe]; have c0 : w1.cell? ⟨w.heap.size, 0, none⟩ = some (.slice pa ps.length pc) := (by rw [hb1.cell (p := ⟨w.heap.size, 0, none⟩) (by simp)]; simp [go_sem])))
        go_ret2
        exact ⟨⟨_, rfl, fun _ => rfl, fun h => absurd h (by decide)⟩, below_trans (below_alloc _ _) hb1⟩
      · have e : needsErr ps rs p = 0 := by rw [needsErr, if_neg (by rw [hpe]; simp), if_neg (by omega)]
        rw [e]
        obtain ⟨k, rfl⟩ : ∃ k : Nat, p = (k : Int) := ⟨p.toNat, by omega⟩
        have hkl : k < ps.length := by omega
        have h1' : (k : Int) < (ps.length : Int) := by omega
        have h0' : ¬ (k : Int) < 0 := by omega
        clear h1 h0
        go_enter Try.func15, Try.ntmps15
        go_wp2_with (first
          | (go_at_call 10; refine (devCheck_c _ _ _ ps rs (predsAt.lasts (by exact below_alloc _ _) HP.out) (rulesAt.lasts (by exact below_alloc _ _) HR.out) hn).mono ?_; rintro e w1 ⟨rfl, hb1⟩; rw [hpe]; have c0 : w1.cell? ⟨w.heap.size, 0, none⟩ = some (.slice pa ps.length pc) := (by rw [hb1.cell (p := ⟨w.heap.size, 0, none⟩) (by simp)]; simp [go_sem]); have c1 : w1.cell? ⟨w.heap.size, 1, none⟩ = some (.slice ra rs.length rc) := (by rw [hb1.cell (p := ⟨w.heap.size, 1, none⟩) (by simp)]; simp [go_sem]))
          | (go_at_call 42; refine (neededBy_c _ _ _ ps rs k (predsAt.lasts (by exact below_trans (below_alloc _ _) hb1) HP.out) (rulesAt.lasts (by exact below_trans (below_alloc _ _) hb1) HR.out) HZ.out.1 HZ.out.2.2 hkl).mono ?_; rintro e w2 ⟨⟨v, rfl, hv⟩, hb2⟩))
        go_ret2
        exact ⟨⟨v, rfl, fun h => absurd rfl h, fun _ => hv⟩, below_trans (below_trans (below_alloc _ _) hb1) hb2⟩
  · have e : needsErr ps rs p = progErr ps rs := by rw [needsErr, if_pos hpe]
    rw [e]
    go_enter Try.func15, Try.ntmps15
    go_wp2_with (first
      | (go_at_call 10; refine (devCheck_c _ _ _ ps rs (predsAt.lasts (by exact below_alloc _ _) HP.out) (rulesAt.lasts (by exact below_alloc _ _) HR.out) hn).mono ?_; rintro e w1 ⟨rfl, hb1⟩))
    go_ret2
    exact ⟨⟨_, rfl, fun _ => rfl, fun h => absurd h hpe⟩, below_trans (below_alloc _ _) hb1⟩
end Go.Proofs.Ytgbacodellfacab.Prog
