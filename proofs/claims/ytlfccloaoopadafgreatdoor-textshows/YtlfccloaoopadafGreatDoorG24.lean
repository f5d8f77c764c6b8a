/-
  The developers' 'checkParts', 'Strata', 'Check' and 'Needs'.
-/
import Derived.Test.YtlfccloaoopadafGreatDoorG20
import Derived.Test.YtlfccloaoopadafGreatDoorG22
import Derived.Test.YtlfccloaoopadafGreatDoorG23
import Derived.Deep.RegionHeld3
import Derived.Deep.AppendLies
import Derived.Test.YtlfccloaoopadafGreatDoorG30
namespace Go.Proofs.YtlfccloaoopadafGreatDoor.Prog
open Go.ChangeShapes Go.WideShapes Go.ChangeAt Go.RowKit
open Strata
open Rule (ruleErr check_c)

theorem parts_preds {ps : List Prd} {rs : List Rul} (h : ¬ (5 < ps.length ∨ 8 < rs.length)) : partsErr ps rs = if predsErr ps ≠ 0 then predsErr ps else rulesErr ps rs := by
  cases h1 : ps.any badName
  · cases h2 : twice ps
    · cases h3 : ps.any badArity
      · cases h4 : ps.any badKind
        · rw [parts_rules h h1 h2 h3 h4, predsErr_none (fun j hj => by
            match j, hj with
            | 0, _ => exact h1
            | 1, _ => exact h2
            | 2, _ => exact h3
            | 3, _ => exact h4)]
          rfl
        · have e : predsErr ps = 4 := show predsErr ps = codeAt 3 from predsErr_at (ps := ps) ⟨3, by decide⟩ (fun j hj => by
            match j, hj with
            | 0, _ => exact h1
            | 1, _ => exact h2
            | 2, _ => exact h3) (show faultAt ps 3 = true from h4)
          rw [parts_kind h h1 h2 h3 h4, e]; rfl
      · have e : predsErr ps = 3 := show predsErr ps = codeAt 2 from predsErr_at (ps := ps) ⟨2, by decide⟩ (fun j hj => by
            match j, hj with
            | 0, _ => exact h1
            | 1, _ => exact h2) (show faultAt ps 2 = true from h3)
        rw [parts_arity h h1 h2 h3, e]; rfl
    · have e : predsErr ps = 6 := show predsErr ps = codeAt 1 from predsErr_at (ps := ps) ⟨1, by decide⟩ (fun j hj => by
            match j, hj with
            | 0, _ => exact h1) (show faultAt ps 1 = true from h2)
      rw [parts_twice h h1 h2, e]; rfl
  · have e : predsErr ps = 5 := show predsErr ps = codeAt 0 from predsErr_at (ps := ps) ⟨0, by decide⟩ (fun j hj => absurd hj (Nat.not_lt_zero _)) (show faultAt ps 0 = true from h1)
    rw [parts_name h h1, e]; rfl

set_option maxRecDepth 100000 in
set_option maxHeartbeats 4000000 in
theorem checkParts_c (w : World) (pv rv : Value) (ps : List Prd) (rs : List Rul) (hp : predsAt w pv ps) (hr : rulesAt w rv rs) (hn : small ps) :
    Calls Tryz.prog 77 #[.agg #[pv, rv]] w fun e w' => e = .returned (.int .i64 (partsErr ps rs)) ∧ Below w.heap.size w w' := by
  have HP : Hid (predsAt w pv ps) := hp
  have HR : Hid (rulesAt w rv rs) := hr
  have HN : Hid (small ps) := hn
  clear hn
  obtain ⟨pa, pc, rfl, hpm, hpx⟩ := hp
  obtain ⟨ra, rc, rfl, hrm, hrx⟩ := hr
  clear hpx hrx
  have hB : Hid (∀ x, Below (w.heap.size + 1) (w.alloc (.cells #[.slice pa ps.length pc, .slice ra rs.length rc] 25)) x → Below w.heap.size w x) := fun x h => (below_alloc _ _).trans (h.mono (by omega))
  have HBOX : Hid (∀ x, Below (w.heap.size + 1) (w.alloc (.cells #[.slice pa ps.length pc, .slice ra rs.length rc] 25)) x → x.cell? ⟨w.heap.size, 0, none⟩ = some (.slice pa ps.length pc) ∧ x.cell? ⟨w.heap.size, 1, none⟩ = some (.slice ra rs.length rc)) := fun x h =>
    ⟨by rw [h.cell (p := ⟨w.heap.size, 0, none⟩) (by simp)]; simp [go_sem], by rw [h.cell (p := ⟨w.heap.size, 1, none⟩) (by simp)]; simp [go_sem]⟩
  by_cases h5 : 5 < ps.length
  · rw [parts_many (.inl h5)]
    have h5' : (5 : Int) < (ps.length : Int) := by omega
    go_enter Tryz.func77, Tryz.ntmps77
    go_wp2_with fail
    go_ret
    exact ⟨rfl, below_alloc _ _⟩
  by_cases h8 : 8 < rs.length
  · rw [parts_many (.inr h8)]
    have h5' : ¬ (5 : Int) < (ps.length : Int) := by omega
    have h8' : (8 : Int) < (rs.length : Int) := by omega
    go_enter Tryz.func77, Tryz.ntmps77
    go_wp2_with fail
    go_ret
    exact ⟨rfl, below_alloc _ _⟩
  have HPP : Hid (partsErr ps rs = if predsErr ps ≠ 0 then predsErr ps else rulesErr ps rs) := parts_preds (by omega)
  have h5' : ¬ (5 : Int) < (ps.length : Int) := by omega
  have h8' : ¬ (8 : Int) < (rs.length : Int) := by omega
  by_cases hpe : predsErr ps = 0
  · have HPR : Hid (partsErr ps rs = rulesErr ps rs) := by
      show _ = _
      rw [HPP.out, if_neg (by rw [hpe]; simp)]
    go_enter Tryz.func77, Tryz.ntmps77
    go_wp2_with (first | (go_at_call 101; refine (checkPreds_c _ _ ps (predsAt.lasts (by exact below_alloc _ _) HP.out) (by omega) HN.out).mono ?_; rintro e w1 ⟨rfl, hb1⟩; rw [hpe]; have c01 := HBOX.out _ (by have := hb1; simp only [World.size_alloc] at this; exact this); obtain ⟨c0, c1⟩ := c01))
    clear hpe HPP
    go_loopw [26] (fun i wr => ∃ j : Nat, j ≤ rs.length ∧ i = .int .i64 j ∧ (rs.take j).all (fun r => ruleErr ps r == 0) = true ∧ Below (w.heap.size + 1) (w.alloc (.cells #[.slice pa ps.length pc, .slice ra rs.length rc] 25)) wr) (fun i _ => rs.length - (intOf i).toNat)
    case atStart => exact ⟨0, Nat.zero_le _, rfl, rfl, by simp only [World.size_alloc] at hb1; exact hb1⟩
    case round =>
      clear hb1 c0 c1
      obtain ⟨j, hj, rfl, hall, hbr⟩ := hrel
      obtain ⟨c0, c1⟩ := HBOX.out _ hbr
      have hbw := hB.out _ hbr
      by_cases hlt : j < rs.length
      · obtain ⟨rb, ro, rc', hv, hrb, hcells⟩ := slice_cells HR.out hlt
        obtain ⟨rfl, rfl⟩ : ra = some ⟨rb, ro, none⟩ ∧ rc = rc' := by simpa using hv
        obtain ⟨t0, ⟨hv', t1, t1'⟩, t2, t3, bv, t4, t5⟩ := ruleAt.lasts w wr rb _ _ hbw hrb hcells
        have hT : Hid (∀ x, Below wr.heap.size wr x → predsAt x (.slice pa ps.length pc) ps) := fun x hx => predsAt.lasts (hbw.trans (hx.mono hbw.size)) HP.out
        have HTR : Hid (∀ x, Below wr.heap.size wr x → termsAt x hv' rs[j].head.args) := fun x hx => termsAt.lasts hx t1'
        have HBR : Hid (∀ x, Below wr.heap.size wr x → litsAt x bv rs[j].body) := fun x hx => litsAt.lasts hx t5
        have HT : Hid (ruleErr ps rs[j] = 0 → (rs.take (j + 1)).all (fun r => ruleErr ps r == 0) = true) := fun h => by rw [all_take hlt, hall, h]; rfl
        have HF : Hid (ruleErr ps rs[j] ≠ 0 → partsErr ps rs = ruleErr ps rs[j]) := fun h => HPR.out.trans (rulesErr_at hlt hall h)
        have hj0 : (0 : Int) ≤ (j : Int) := by omega
        have hj1 : (j : Int) < (rs.length : Int) := by omega
        clear hv hcells hall
        obtain ⟨ba, bc, rfl, hblen, _⟩ := t5
        obtain ⟨ha, hc, rfl, _⟩ := t1'
        generalize rs[j] = r at *
        have d0 : (wr.alloc (.cells #[.int .i64 r.head.pred, .slice ha r.head.args.length hc, .int .i64 r.src, .int .i64 r.n, .slice ba r.body.length bc] 54)).cell? ⟨w.heap.size, 0, none⟩ = some (.slice pa ps.length pc) := (cell_lasts (below_alloc _ _) (by have := hbr.size; simp at this; omega)).trans c0
        by_cases he : ruleErr ps r = 0
        · have H := HT.out he
          have H' : Hid _ := H
          clear HT HF H
          go_wp2_with (first | (go_at_call 102; refine (check_c _ _ ps r _ _ (hT.out _ (by exact below_alloc _ _)) (HTR.out _ (by exact below_alloc _ _)) (HBR.out _ (by exact below_alloc _ _))).mono ?_; rintro e w1 ⟨rfl, hb1⟩; rw [he]))
          exact ⟨⟨j + 1, by omega, by go_num, H'.out, hbr.trans ((below_trans (below_alloc _ _) hb1).mono (by have := hbr.size; simp at this; omega))⟩, by simp [intOf]; omega⟩
        · have H := HF.out he
          have H' : Hid _ := H
          clear HT HF H
          go_wp2_with (first | (go_at_call 102; refine (check_c _ _ ps r _ _ (hT.out _ (by exact below_alloc _ _)) (HTR.out _ (by exact below_alloc _ _)) (HBR.out _ (by exact below_alloc _ _))).mono ?_; rintro e w1 ⟨rfl, hb1⟩))
          go_ret
          exact ⟨by rw [H'.out]; rfl, hbw.trans ((below_trans (below_alloc _ _) hb1).mono hbw.size)⟩
      · have H : Hid (partsErr ps rs = 0) := HPR.out.trans (rulesErr_none (all_take_end (by omega) hall))
        clear hall HPR
        go_wp2_with fail
        go_ret
        exact ⟨by rw [H.out]; rfl, hbw⟩
  · have HPR : Hid (partsErr ps rs = predsErr ps) := by
      show _ = _
      rw [HPP.out, if_pos hpe]
    clear HPP
    go_enter Tryz.func77, Tryz.ntmps77
    go_wp2_with (first | (go_at_call 101; refine (checkPreds_c _ _ ps (predsAt.lasts (by exact below_alloc _ _) HP.out) (by omega) HN.out).mono ?_; rintro e w1 ⟨rfl, hb1⟩))
    go_ret
    exact ⟨by rw [HPR.out]; rfl, below_trans (below_alloc _ _) hb1⟩

set_option maxRecDepth 100000 in
set_option maxHeartbeats 4000000 in
theorem devStrata_c (w : World) (pv rv : Value) (ps : List Prd) (rs : List Rul) (hp : predsAt w pv ps) (hr : rulesAt w rv rs) (hn : small ps) :
    Calls Tryz.prog 47 #[.agg #[pv, rv]] w fun e w' => (∃ v, e = .returned (.tuple #[v, .int .i64 (progErr ps rs)]) ∧ (progErr ps rs ≠ 0 → v = .slice none 0 0) ∧ (∀ l, strataL (edges rs) ps.length = some l → progErr ps rs = 0 → intsAt w' v l)) ∧ Below w.heap.size w w' := by
  have HP : Hid (predsAt w pv ps) := hp
  have HR : Hid (rulesAt w rv rs) := hr
  obtain ⟨pa, pc, rfl, hpm, hpx⟩ := hp
  obtain ⟨ra, rc, rfl, hrm, hrx⟩ := hr
  clear hpx hrx
  by_cases hpe : partsErr ps rs = 0
  · have hP : Hid (progErr ps rs = if (strataL (edges rs) ps.length).isSome then 0 else 8) := prog_round hpe
    have HZ : Hid (ps.length ≤ 5 ∧ rs.length ≤ 8 ∧ ∀ r ∈ rs, Right ps r) := parts_zero hpe
    go_enter Tryz.func47, Tryz.ntmps47
    go_wp2_with (first
      | (go_at_call 77; refine (checkParts_c _ _ _ ps rs (predsAt.lasts (by exact below_alloc _ _) HP.out) (rulesAt.lasts (by exact below_alloc _ _) HR.out) hn).mono ?_; rintro e w1 ⟨rfl, hb1⟩; rw [hpe]; have c0 : w1.cell? ⟨w.heap.size, 0, none⟩ = some (.slice pa ps.length pc) := (by rw [hb1.cell (p := ⟨w.heap.size, 0, none⟩) (by simp)]; simp [go_sem]); have c1 : w1.cell? ⟨w.heap.size, 1, none⟩ = some (.slice ra rs.length rc) := (by rw [hb1.cell (p := ⟨w.heap.size, 1, none⟩) (by simp)]; simp [go_sem]))
      | (go_at_call 78; refine (leastStrata_c _ _ _ ps rs (predsAt.lasts (by exact below_trans (below_alloc _ _) hb1) HP.out) (rulesAt.lasts (by exact below_trans (below_alloc _ _) hb1) HR.out) HZ.out.1 HZ.out.2.2).mono ?_; rintro e w2 ⟨(⟨l, v, hl, rfl, hv⟩ | ⟨hl, rfl⟩), hb2⟩))
    · go_ret2
      have e0 : progErr ps rs = 0 := by rw [hP.out, hl]; rfl
      refine ⟨⟨v, by rw [e0]; rfl, fun h => absurd e0 h, fun l' hl' _ => ?_⟩, below_trans (below_trans (below_alloc _ _) hb1) hb2⟩
      rw [hl] at hl'
      cases hl'
      exact hv
    · go_ret2
      have e0 : progErr ps rs = 8 := by rw [hP.out, hl]; rfl
      exact ⟨⟨_, by rw [e0]; rfl, fun _ => rfl, fun l' hl' _ => by rw [hl] at hl'; cases hl'⟩, below_trans (below_trans (below_alloc _ _) hb1) hb2⟩
  · have hP : Hid (progErr ps rs = partsErr ps rs) := prog_parts rfl hpe
    go_enter Tryz.func47, Tryz.ntmps47
    go_wp2_with (first
      | (go_at_call 77; refine (checkParts_c _ _ _ ps rs (predsAt.lasts (by exact below_alloc _ _) HP.out) (rulesAt.lasts (by exact below_alloc _ _) HR.out) hn).mono ?_; rintro e w1 ⟨rfl, hb1⟩))
    go_ret2
    exact ⟨⟨_, by rw [hP.out]; rfl, fun _ => rfl, fun _ _ h => absurd (hP.out.symm.trans h) hpe⟩, below_trans (below_alloc _ _) hb1⟩

set_option maxRecDepth 100000 in
set_option maxHeartbeats 4000000 in
theorem devCheck_c (w : World) (pv rv : Value) (ps : List Prd) (rs : List Rul) (hp : predsAt w pv ps) (hr : rulesAt w rv rs) (hn : small ps) :
    Calls Tryz.prog 18 #[.agg #[pv, rv]] w fun e w' => e = .returned (.int .i64 (progErr ps rs)) ∧ Below w.heap.size w w' := by
  have HP : Hid (predsAt w pv ps) := hp
  have HR : Hid (rulesAt w rv rs) := hr
  obtain ⟨pa, pc, rfl, hpm, hpx⟩ := hp
  obtain ⟨ra, rc, rfl, hrm, hrx⟩ := hr
  clear hpx hrx
  go_enter Tryz.func18, Tryz.ntmps18
  go_wp2_with (first
    | (go_at_call 47; refine (devStrata_c _ _ _ ps rs (predsAt.lasts (by exact below_alloc _ _) HP.out) (rulesAt.lasts (by exact below_alloc _ _) HR.out) hn).mono ?_; rintro e w1 ⟨⟨v, rfl, _, _⟩, hb1⟩))
  go_ret
  exact ⟨rfl, below_trans (below_alloc _ _) hb1⟩

def needsErr (ps : List Prd) (rs : List Rul) (p : Int) : Int := if progErr ps rs ≠ 0 then progErr ps rs else if p < 0 ∨ (ps.length : Int) ≤ p then 7 else 0
end Go.Proofs.YtlfccloaoopadafGreatDoor.Prog

/-
  What must be in any case of package prog.
-/
namespace Go.Proofs.YtlfccloaoopadafGreatDoor.Prog
open Go.ChangeShapes Go.WideShapes Go.ChangeAt Go.RowKit
open Strata
open Rule (ruleErr)

def bodyX : List Ltr := [⟨true, ⟨2, [⟨true, 0⟩]⟩⟩, ⟨false, ⟨0, [⟨true, 0⟩, ⟨true, 1⟩]⟩⟩]
def ruleX : Rul := ⟨⟨1, [⟨true, 0⟩, ⟨true, 1⟩]⟩, -1, 1, bodyX⟩
def rulesX : List Rul := Roads.rules.set 4 ruleX
def predsY : List Prd := [⟨ByteArray.mk #[101, 100, 103, 101], 2, 0⟩, ⟨ByteArray.mk #[101, 100, 103, 101], 2, 2⟩, ⟨ByteArray.mk #[108, 111, 110, 101], 1, 0⟩]

theorem twice_data (ps : List Prd) : twice ps = (List.range ps.length).any fun k => (ps.take k).any fun q => q.name.data.toList == ((ps[k]?.map Prd.name).getD ⟨#[]⟩).data.toList := by
  unfold twice
  congr 1
  funext k
  congr 1
  funext q
  rw [ByteArray.toList_eq, ByteArray.toList_eq]
theorem g1 : strataL (edges Roads.rules) 3 = some [0, 0, 1] := by decide
theorem gt : twice Roads.preds = false := by rw [twice_data]; decide
theorem g0 : progErr Roads.preds Roads.rules = 0 := by
  have h : partsErr Roads.preds Roads.rules = 0 := by rw [parts_rules (by decide) (by decide) gt (by decide) (by decide)]; decide
  rw [prog_round h, show Roads.preds.length = 3 from rfl, g1]; rfl
theorem g2 : needsErr Roads.preds Roads.rules 1 = 0 := by rw [needsErr, if_neg (by rw [g0]; simp), if_neg (by decide)]
theorem g3 : needsL (edges Roads.rules) 3 1 = [true, true, false] := by decide
theorem g4 : needsErr Roads.preds Roads.rules 3 = 7 := by rw [needsErr, if_neg (by rw [g0]; simp), if_pos (by decide)]
theorem gx : progErr Roads.preds rulesX = 8 := by
  have h : partsErr Roads.preds rulesX = 0 := by rw [parts_rules (by decide) (by decide) gt (by decide) (by decide)]; decide
  rw [prog_round h, show strataL (edges rulesX) Roads.preds.length = none by decide]; rfl
theorem gy : progErr predsY Roads.rules = 6 := prog_parts (parts_twice (by decide) (by decide) (by rw [twice_data]; decide)) (by decide)
theorem n1 : isName ⟨#[101, 100, 103, 101]⟩ = true := by decide
theorem n2 : isName ⟨#[69, 100, 103, 101]⟩ = false := by decide
theorem smallP : small Roads.preds := by intro q hq; revert q; decide
theorem smallY : small predsY := by intro q hq; revert q; decide

theorem wp_name {P : Program} {c : Code} {Q : Exit → Act → World → Prop} {a : Act} {W : World} (F : World → Prop) (hF : F W) (h : ∀ W0, F W0 → Code.wp P c Q a W0) : Code.wp P c Q a W := h W hF
theorem infoLit : (Tryz.prog.info? 66).map (fun i => (i.zero, i.size, i.bytes)) = some (some (.agg #[.bool false, .int .i64 0, .slice none 0 0]), 3, 40) := by kernel_rfl
theorem addr_add (b o j : Nat) : (⟨b, o, none⟩ : Addr).add j = ⟨b, o + j, none⟩ := by unfold Addr.add; split <;> simp_all
theorem term_one (w : World) : termsAt (w.alloc (.cells #[.bool true, .int .i64 0] 94)) (.slice (some ⟨w.heap.size, 0, none⟩) 1 1) [⟨true, 0⟩] := by
  refine ⟨_, 1, rfl, by decide, .inr ⟨w.heap.size, 0, rfl, by simp, ?_⟩⟩
  intro i x hi
  match i, hi with
  | 0, hi =>
    obtain rfl : (⟨true, 0⟩ : Tm) = x := by simpa using hi
    refine ⟨?_, ?_⟩ <;> simp [go_sem]
  | i + 1, hi => simp at hi
/-- a cell that is turned, and one that holds something else -/
theorem cell_else {w : World} {b o b' o' : Nat} {x y u : Value} (h : w.cell? ⟨b, o, none⟩ = some x) (h' : w.cell? ⟨b', o', none⟩ = some y) (hne : x ≠ y) : (w.setCell ⟨b, o, none⟩ u).cell? ⟨b', o', none⟩ = some y :=
  (World.cell?_setCell_other w _ _ _ (fun e => by rw [e] at h; rw [h] at h'; exact hne (Option.some.inj h'))).trans h'
theorem terms_else {w : World} {b o : Nat} {x u v : Value} {ts : List Tm} (h : w.cell? ⟨b, o, none⟩ = some x) (hx : (∀ k, x ≠ .bool k) ∧ ∀ k, x ≠ .int .i64 k) (ht : termsAt w v ts) : termsAt (w.setCell ⟨b, o, none⟩ u) v ts := by
  obtain ⟨a, cap, hv, hl, hc⟩ := ht
  refine ⟨a, cap, hv, hl, hc.imp id ?_⟩
  rintro ⟨b', off, ha, hlt, hc⟩
  exact ⟨b', off, ha, by rw [size_set]; exact hlt, fun i t hi => ⟨cell_else h (hc i t hi).1 (hx.1 _), cell_else h (hc i t hi).2 (hx.2 _)⟩⟩
theorem lits_str {w : World} {b o : Nat} {s : ByteArray} {u v : Value} {ls : List Ltr} (h : w.cell? ⟨b, o, none⟩ = some (.string s)) (ht : litsAt w v ls) : litsAt (w.setCell ⟨b, o, none⟩ u) v ls := by
  obtain ⟨a, cap, hv, hl, hc⟩ := ht
  refine ⟨a, cap, hv, hl, hc.imp id ?_⟩
  rintro ⟨b', off, ha, hlt, hc⟩
  refine ⟨b', off, ha, by rw [size_set]; exact hlt, fun i t hi => ?_⟩
  obtain ⟨h0, h1, av, h2, h3⟩ := hc i t hi
  have h3' := h3
  obtain ⟨aa, ac, rfl, _⟩ := h3'
  exact ⟨cell_else h h0 (by simp), cell_else h h1 (by simp), _, cell_else h h2 (by simp), terms_else h ⟨by simp, by simp⟩ h3⟩
theorem rules_str {w : World} {b o : Nat} {s : ByteArray} {u v : Value} {rs : List Rul} (h : w.cell? ⟨b, o, none⟩ = some (.string s)) (ht : rulesAt w v rs) : rulesAt (w.setCell ⟨b, o, none⟩ u) v rs := by
  obtain ⟨a, cap, hv, hl, hc⟩ := ht
  refine ⟨a, cap, hv, hl, hc.imp id ?_⟩
  rintro ⟨b', off, ha, hlt, hc⟩
  refine ⟨b', off, ha, by rw [size_set]; exact hlt, fun i t hi => ?_⟩
  obtain ⟨h0, ⟨hv1, h1, h1'⟩, h2, h3, bv, h4, h5⟩ := hc i t hi
  have e1 := h1'
  have e5 := h5
  obtain ⟨aa, ac, rfl, _⟩ := e1
  obtain ⟨ba, bc, rfl, _⟩ := e5
  exact ⟨cell_else h h0 (by simp), ⟨_, cell_else h h1 (by simp), terms_else h ⟨by simp, by simp⟩ h1'⟩, cell_else h h2 (by simp), cell_else h h3 (by simp), _, cell_else h h4 (by simp), lits_str h h5⟩
/-- a slice at (br, 24) is turned, where a number lies at (br, 22) -/
theorem lits_body {w : World} {br : Nat} {n : Int} {a0 : Option Addr} {n0 c0 : Nat} {u v : Value} {ls : List Ltr} (h : w.cell? ⟨br, 24, none⟩ = some (.slice a0 n0 c0)) (hn : w.cell? ⟨br, 22, none⟩ = some (.int .i64 n)) (ht : litsAt w v ls) : litsAt (w.setCell ⟨br, 24, none⟩ u) v ls := by
  obtain ⟨a, cap, hv, hl, hc⟩ := ht
  refine ⟨a, cap, hv, hl, hc.imp id ?_⟩
  rintro ⟨b', off, ha, hlt, hc⟩
  refine ⟨b', off, ha, by rw [size_set]; exact hlt, fun i t hi => ?_⟩
  obtain ⟨h0, h1, av, h2, h3⟩ := hc i t hi
  refine ⟨cell_else h h0 (by simp), cell_else h h1 (by simp), av, ?_, terms_else h ⟨by simp, by simp⟩ h3⟩
  by_cases e : (⟨br, 24, none⟩ : Addr) = ⟨b', off + i * 3 + 2, none⟩
  · exfalso
    have e1 : br = b' := congrArg Addr.block e
    have e2 : 24 = off + i * 3 + 2 := congrArg Addr.off e
    subst e1
    rw [show off + i * 3 = 22 by omega, hn] at h0
    cases h0
  · exact (World.cell?_setCell_other w _ _ _ e).trans h2
theorem preds_block {w : World} {bp b o n c : Nat} {u : Value} {ps : List Prd} (hne : b ≠ bp) (ht : predsAt w (.slice (some ⟨bp, 0, none⟩) n c) ps) : predsAt (w.setCell ⟨b, o, none⟩ u) (.slice (some ⟨bp, 0, none⟩) n c) ps := by
  obtain ⟨a, cap, hv, hl, hc⟩ := ht
  refine ⟨a, cap, hv, hl, hc.imp id ?_⟩
  rintro ⟨b', off, ha, hlt, hc⟩
  obtain rfl : bp = b' := by cases hv; cases ha; rfl
  exact ⟨bp, off, ha, by rw [size_set]; exact hlt, fun i t hi => ⟨(cell_block hne).trans (hc i t hi).1, (cell_block hne).trans (hc i t hi).2.1, (cell_block hne).trans (hc i t hi).2.2⟩⟩
theorem rules_x {w : World} {br g cap : Nat} (ht : rulesAt w (.slice (some ⟨br, 0, none⟩) 7 7) Roads.rules) (hl : litsAt w (.slice (some ⟨g, 0, none⟩) 2 cap) bodyX) : rulesAt (w.setCell ⟨br, 24, none⟩ (.slice (some ⟨g, 0, none⟩) 2 cap)) (.slice (some ⟨br, 0, none⟩) 7 7) rulesX := by
  obtain ⟨a, cap', hv, hm, hc⟩ := ht
  obtain ⟨b', off, ha, hlt, hc⟩ := hc.resolve_left (by decide)
  obtain ⟨rfl, rfl⟩ : br = b' ∧ off = 0 := by cases hv; cases ha; exact ⟨rfl, rfl⟩
  obtain ⟨q0, ⟨qv, q1, q1'⟩, q2, q3, qb, q4, q5⟩ := hc 4 _ rfl
  obtain ⟨qa, qc, rfl, _⟩ := q5
  refine ⟨a, cap', hv, by decide, .inr ⟨br, 0, ha, by rw [size_set]; exact hlt, fun i t hi => ?_⟩⟩
  by_cases e : i = 4
  · subst e
    obtain rfl : ruleX = t := by simpa [rulesX, Roads.rules] using hi
    exact ⟨(cell_off (by omega)).trans q0, ⟨_, (cell_off (by omega)).trans q1, terms_else q4 ⟨by simp, by simp⟩ q1'⟩, (cell_off (by omega)).trans q2, (cell_off (by omega)).trans q3, _, cell_set q4, lits_body q4 q2 hl⟩
  · have hi' : Roads.rules[i]? = some t := by rw [rulesX, List.getElem?_set_ne (fun q => e q.symm)] at hi; exact hi
    obtain ⟨h0, ⟨hv1, h1, h1'⟩, h2, h3, bv, h4, h5⟩ := hc i t hi'
    exact ⟨(cell_off (by omega)).trans h0, ⟨_, (cell_off (by omega)).trans h1, terms_else q4 ⟨by simp, by simp⟩ h1'⟩, (cell_off (by omega)).trans h2, (cell_off (by omega)).trans h3, _, (cell_off (by omega)).trans h4, lits_body q4 q2 h5⟩
theorem preds_y {w : World} {bp : Nat} (ht : predsAt w (.slice (some ⟨bp, 0, none⟩) 3 3) Roads.preds) : predsAt (w.setCell ⟨bp, 3, none⟩ (.string ⟨#[101, 100, 103, 101]⟩)) (.slice (some ⟨bp, 0, none⟩) 3 3) predsY ∧ w.cell? ⟨bp, 3, none⟩ = some (.string ⟨#[102, 97, 114]⟩) := by
  obtain ⟨a, cap', hv, hm, hc⟩ := ht
  obtain ⟨b', off, ha, hlt, hc⟩ := hc.resolve_left (by decide)
  obtain ⟨rfl, rfl⟩ : bp = b' ∧ off = 0 := by cases hv; cases ha; exact ⟨rfl, rfl⟩
  obtain ⟨a0, a1, a2⟩ := hc 0 _ rfl
  obtain ⟨b0, b1, b2⟩ := hc 1 _ rfl
  obtain ⟨c0, c1, c2⟩ := hc 2 _ rfl
  refine ⟨⟨a, cap', hv, by decide, .inr ⟨bp, 0, ha, by rw [size_set]; exact hlt, fun i t hi => ?_⟩⟩, b0⟩
  match i, hi with
  | 0, hi =>
    cases hi
    exact ⟨(cell_off (by omega)).trans a0, (cell_off (by omega)).trans a1, (cell_off (by omega)).trans a2⟩
  | 1, hi =>
    cases hi
    exact ⟨cell_set b0, (cell_off (by omega)).trans b1, (cell_off (by omega)).trans b2⟩
  | 2, hi =>
    cases hi
    exact ⟨(cell_off (by omega)).trans c0, (cell_off (by omega)).trans c1, (cell_off (by omega)).trans c2⟩
  | i + 3, hi => simp [predsY] at hi
/-- three cells more -/
theorem news3 {w : World} {lb lo : Nat} {a b c : Value} (h0 : w.cell? ⟨lb, lo, none⟩ = some a) (h1 : w.cell? ⟨lb, lo + 1, none⟩ = some b) (h2 : w.cell? ⟨lb, lo + 2, none⟩ = some c) : ∀ (j : Nat) (u : Value), [a, b, c][j]? = some u → w.cell? ((⟨lb, lo, none⟩ : Addr).add j) = some u := by
  intro j u hj
  rw [addr_add]
  match j, hj with
  | 0, hj => cases hj; exact h0
  | 1, hj => cases hj; exact h1
  | 2, hj => cases hj; exact h2
  | j + 3, hj => simp at hj
theorem lits_two {w : World} {base g cap : Nat} {n1 n2 : Bool} {p1 p2 : Int} {v1 v2 : Value} {t1 t2 : List Tm} (h : w.ownsRow base 66 3 (.slice (some ⟨g, 0, none⟩) (1 + 1) cap) (1 + 1) ([.bool n1, .int .i64 p1, v1] ++ [.bool n2, .int .i64 p2, v2])) (hg : g < w.heap.size) (h1 : termsAt w v1 t1) (h2 : termsAt w v2 t2) :
    litsAt w (.slice (some ⟨g, 0, none⟩) 2 cap) [⟨n1, ⟨p1, t1⟩⟩, ⟨n2, ⟨p2, t2⟩⟩] := by
  refine ⟨_, cap, rfl, by simp, .inr ⟨g, 0, rfl, hg, ?_⟩⟩
  have c := fun j hj => h.cellAt j hj
  intro i x hi
  match i, hi with
  | 0, hi =>
    cases hi
    exact ⟨c 0 (by omega), c 1 (by omega), v1, c 2 (by omega), h1⟩
  | 1, hi =>
    cases hi
    exact ⟨c 3 (by omega), c 4 (by omega), v2, c 5 (by omega), h2⟩
  | i + 2, hi => simp at hi

end Go.Proofs.YtlfccloaoopadafGreatDoor.Prog
