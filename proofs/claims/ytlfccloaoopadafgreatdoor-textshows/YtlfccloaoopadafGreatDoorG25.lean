/-
  The developers' Show.
-/
import Derived.Deep.RegionHeld3
import Derived.Test.YtlfccloaoopadafGreatDoorG16
import Derived.Test.YtlfccloaoopadafGreatDoorG24
import Derived.Test.YtlfccloaoopadafGreatDoorG6
import Derived.Test.YtlfccloaoopadafGreatDoorG27
import Derived.Test.YtlfccloaoopadafGreatDoorG26
namespace Go.Proofs.YtlfccloaoopadafGreatDoor.Text
open Go.ChangeShapes Go.WideShapes Go.ChangeAt Go.RowKit
open Prog (progErr small slice_cells intsAt)
open Rule (kindOf)

/-- the text that Show tells -/
def showB (ps : List Prd) (rs : List Rul) : ByteArray := if progErr ps rs = 0 then progB ps rs else ⟨#[]⟩
theorem pred_put {ps : List Prd} {j : Nat} (hj : j < ps.length) : (ps.take (j + 1)).flatMap predL = (ps.take j).flatMap predL ++ predL ps[j] := by
  rw [List.take_succ_eq_append_getElem hj, List.flatMap_append]
  simp
theorem rule_put {ps : List Prd} {rs : List Rul} {j : Nat} (hj : j < rs.length) : (rs.take (j + 1)).flatMap (ruleL ps) = (rs.take j).flatMap (ruleL ps) ++ ruleL ps rs[j] := by
  rw [List.take_succ_eq_append_getElem hj, List.flatMap_append]
  simp
set_option maxRecDepth 100000 in
set_option maxHeartbeats 8000000 in
theorem devShow_c (w : World) (pv rv : Value) (ps : List Prd) (rs : List Rul) (hp : predsAt w pv ps) (hr : rulesAt w rv rs) (hn : small ps) :
    Calls Tryz.prog 6 #[.agg #[pv, rv]] w fun e w' => e = .returned (.tuple #[.string (showB ps rs), .int .i64 (progErr ps rs)]) ∧ Below w.heap.size w w' := by
  have HP : Hid (∀ x, Below w.heap.size w x → predsAt x pv ps) := fun x hx => predsAt.lasts hx hp
  have HR : Hid (∀ x, Below w.heap.size w x → rulesAt x rv rs) := fun x hx => rulesAt.lasts hx hr
  have HCK : Hid (∀ x, Below w.heap.size w x → Calls Tryz.prog 18 #[.agg #[pv, rv]] x fun e w' => e = .returned (.int .i64 (progErr ps rs)) ∧ Below x.heap.size x w') := fun x hx => Prog.devCheck_c x pv rv ps rs (predsAt.lasts hx hp) (rulesAt.lasts hx hr) hn
  obtain ⟨pa, pc, rfl, _⟩ := hp
  obtain ⟨ra, rc, rfl, _⟩ := hr
  obtain ⟨W1, hW1⟩ : ∃ W1, w.alloc (.cells #[.slice pa ps.length pc, .slice ra rs.length rc] 25) = W1 := ⟨_, rfl⟩
  have b1 : Below w.heap.size w W1 := by rw [← hW1]; exact below_alloc _ _
  have c0 : W1.cell? ⟨w.heap.size, 0, none⟩ = some (.slice pa ps.length pc) := by rw [← hW1]; simp [go_sem]
  have c1 : W1.cell? ⟨w.heap.size, 1, none⟩ = some (.slice ra rs.length rc) := by rw [← hW1]; simp [go_sem]
  have hs : w.heap.size < W1.heap.size := by rw [← hW1]; simp
  have HC : Hid (∀ x, Below W1.heap.size W1 x → x.cell? ⟨w.heap.size, 0, none⟩ = some (.slice pa ps.length pc) ∧ x.cell? ⟨w.heap.size, 1, none⟩ = some (.slice ra rs.length rc)) := fun x hx => ⟨(cell_lasts hx hs).trans c0, (cell_lasts hx hs).trans c1⟩
  go_enter Tryz.func6, Tryz.ntmps6
  go_wp2_with fail
  clear hW1 c0 c1
  refine (HCK.out W1 b1).mono ?_
  rintro e w1 ⟨rfl, hb1⟩
  have HB1 := hid hb1
  have HBW := hid b1
  clear hb1 b1 HCK
  by_cases hpe : progErr ps rs = 0
  · have OK := hid (right_of hpe)
    have HSB : Hid (showB ps rs = progB ps rs) := by show _ = _; unfold showB; rw [if_pos hpe]
    obtain ⟨d0, d1⟩ := HC.out w1 HB1.out
    have hpl := OK.out.preds
    have hrl := OK.out.rules
    have HPE := hid hpe
    rw [hpe]
    clear hpe
    go_wp2_with fail
    clear d0 d1
    go_loopw [5, 18] (fun o i wr => ∃ (j : Nat) (O : ByteArray), j ≤ ps.length ∧ i = .int .i64 j ∧ o = .string O ∧ O.size ≤ j * 30 ∧ Hid (bl O = (ps.take j).flatMap predL ∧ Below W1.heap.size W1 wr)) (fun _ i _ => ps.length - (intOf i).toNat)
    case atStart => exact ⟨0, _, Nat.zero_le _, rfl, rfl, by decide, rfl, HB1.out⟩
    case round =>
      clear HB1
      obtain ⟨j, O, hj, rfl, rfl, hO, hin⟩ := hrel
      have kw : Below w.heap.size w wr := HBW.out.trans (hin.out.2.mono HBW.out.size)
      by_cases hlt : j < ps.length
      · obtain ⟨pb, po, pc', hv, hpb, p0, p1, p2⟩ := slice_cells (HP.out wr kw) hlt
        obtain ⟨rfl, rfl⟩ : pa = some ⟨pb, po, none⟩ ∧ pc = pc' := by simpa using hv
        have hjl : (j : Int) < (ps.length : Int) := by omega
        have hj0 : (0 : Int) ≤ (j : Int) := by omega
        have hm := List.getElem_mem hlt
        have hq1 := OK.out.name _ hm
        have hq2 := OK.out.arity _ hm
        have hq3 := OK.out.kind _ hm
        have HNX : Hid ((ps.take (j + 1)).flatMap predL = (ps.take j).flatMap predL ++ predL ps[j]) := pred_put hlt
        obtain ⟨ar, har⟩ : ∃ n : Nat, ps[j].arity = (n : Int) := ⟨ps[j].arity.toNat, by omega⟩
        obtain ⟨kd, hkd⟩ : ∃ n : Nat, ps[j].kind = (n : Int) := ⟨ps[j].kind.toNat, by omega⟩
        have har2 : ar ≤ 2 := by omega
        have hkd3 : kd ≤ 3 := by omega
        have HAR := hid har
        have HKD := hid hkd
        rw [har] at p1
        rw [hkd] at p2
        clear hv hm hq2 hq3 har hkd
        generalize ps[j] = q at *
        obtain ⟨D, hD⟩ : ∃ D : ByteArray, dig ar ++ ⟨#[32]⟩ ++ dig kd = D := ⟨_, rfl⟩
        have HD := hid hD
        have hDz : D.size ≤ 5 := by
          rw [← hD, ByteArray.size_append, ByteArray.size_append]
          have h1 := dig_size ar
          have h2 := dig_size kd
          have e1 : (⟨#[32]⟩ : ByteArray).size = 1 := rfl
          omega
        clear hD
        obtain ⟨NB, hNB⟩ : ∃ NB, wr.heap.size = NB := ⟨_, rfl⟩
        have hz1 : ¬ 9223372036854775807 < 5 + q.name.size := by omega
        have hz2 : ¬ 9223372036854775807 < 5 + q.name.size + 1 := by omega
        have hz3 : ¬ 9223372036854775807 < 5 + q.name.size + 1 + D.size := by omega
        have hz4 : ¬ 9223372036854775807 < 5 + q.name.size + 1 + D.size + 1 := by omega
        have hz5 : ¬ 9223372036854775807 < O.size + (5 + q.name.size + 1 + D.size + 1) := by omega
        go_wp2_with fail
        have a0 : (wr.alloc (.cells #[.string q.name, .int .i64 (ar : Int), .int .i64 (kd : Int)] 47)).cell? ⟨NB, 0, none⟩ = some (.string q.name) := by rw [← hNB]; simp [go_sem]
        have a1 : (wr.alloc (.cells #[.string q.name, .int .i64 (ar : Int), .int .i64 (kd : Int)] 47)).cell? ⟨NB, 1, none⟩ = some (.int .i64 (ar : Int)) := by rw [← hNB]; simp [go_sem]
        have a2 : (wr.alloc (.cells #[.string q.name, .int .i64 (ar : Int), .int .i64 (kd : Int)] 47)).cell? ⟨NB, 2, none⟩ = some (.int .i64 (kd : Int)) := by rw [← hNB]; simp [go_sem]
        have HLT : Hid (NB < (wr.alloc (.cells #[.string q.name, .int .i64 (ar : Int), .int .i64 (kd : Int)] 47)).heap.size) := by rw [← hNB]; simp [Hid]
        have HBA : Hid (Below wr.heap.size wr (wr.alloc (.cells #[.string q.name, .int .i64 (ar : Int), .int .i64 (kd : Int)] 47))) := below_alloc _ _
        generalize wr.alloc (.cells #[.string q.name, .int .i64 (ar : Int), .int .i64 (kd : Int)] 47) = WA at *
        clear p0 p1 p2 hNB
        have HKC : Hid (∀ x, Below WA.heap.size WA x → x.cell? ⟨NB, 0, none⟩ = some (.string q.name) ∧ x.cell? ⟨NB, 1, none⟩ = some (.int .i64 (ar : Int)) ∧ x.cell? ⟨NB, 2, none⟩ = some (.int .i64 (kd : Int))) := fun x hx => ⟨(cell_lasts hx HLT.out).trans a0, (cell_lasts hx HLT.out).trans a1, (cell_lasts hx HLT.out).trans a2⟩
        have HNU : Hid (Calls Tryz.prog 19 #[.string ⟨#[32]⟩, .slice (some ⟨WA.heap.size, 0, none⟩) 2 2] (WA.drew.alloc (.cells #[.int .i64 (ar : Int), .int .i64 (kd : Int)] 3)) fun e w' => e = .returned (.string D) ∧ Below (WA.drew.alloc (.cells #[.int .i64 (ar : Int), .int .i64 (kd : Int)] 3)).heap.size (WA.drew.alloc (.cells #[.int .i64 (ar : Int), .int .i64 (kd : Int)] 3)) w') := by rw [← HD.out]; exact number2_c _ _ ar kd ⟨#[32]⟩ (two_ints WA.drew ar kd) (by omega) (by omega) (by decide)
        refine wp_region_noPanic ?_
        refine wp_region_held_drew (S := (fun x : World => Below WA.heap.size WA x)) (by kernel_rfl) ((Below.refl _ _).drew) (fun hHeld => ?_)
        refine wpAnyH_take (i := 0) (v := ?_) rfl (by kernel_rfl) (by kernel_rfl) (by kernel_rfl) (fun _ _ _ h => h) (Or.inl ⟨by rfl, ?_⟩) (by assumption) ?_
        rotate_left
        · (intro w hSw; obtain ⟨k0, k1, k2⟩ := HKC.out w hSw; go_simp; try with_reducible rfl)
        simp only [Act.put]
        refine wpAnyH_take (i := 1) (v := ?_) rfl (by kernel_rfl) (by kernel_rfl) (by kernel_rfl) (fun _ _ _ h => h) (Or.inl ⟨by rfl, ?_⟩) (by assumption) ?_
        rotate_left
        · (intro w hSw; obtain ⟨k0, k1, k2⟩ := HKC.out w hSw; go_simp; try with_reducible rfl)
        simp only [Act.put]
        refine wpAnyH_take (i := 2) (v := ?_) rfl (by kernel_rfl) (by kernel_rfl) (by kernel_rfl) (fun _ _ _ h => h) (Or.inl ⟨by rfl, ?_⟩) (by assumption) ?_
        rotate_left
        · (intro w hSw; obtain ⟨k0, k1, k2⟩ := HKC.out w hSw; go_simp; try with_reducible rfl)
        simp only [Act.put]
        refine wpAnyH_take (i := 3) (v := ?_) rfl (by kernel_rfl) (by kernel_rfl) (by kernel_rfl) (fun _ _ _ h => h) (Or.inl ⟨by rfl, ?_⟩) (by assumption) ?_
        rotate_left
        · (intro w hSw; obtain ⟨k0, k1, k2⟩ := HKC.out w hSw; go_simp; try with_reducible rfl)
        simp only [Act.put]
        refine wpAnyH_take (i := 4) (v := ?_) rfl (by kernel_rfl) (by kernel_rfl) (by kernel_rfl) (fun _ _ _ h => h) (Or.inl ⟨by rfl, ?_⟩) (by assumption) ?_
        rotate_left
        · (intro w hSw; obtain ⟨k0, k1, k2⟩ := HKC.out w hSw; go_simp; try with_reducible rfl)
        simp only [Act.put]
        refine wpAnyH_take (i := 5) (v := ?_) rfl (by kernel_rfl) (by kernel_rfl) (by kernel_rfl) (fun _ _ _ h => h) (Or.inl ⟨by rfl, ?_⟩) (by assumption) ?_
        rotate_left
        · (intro w hSw; obtain ⟨k0, k1, k2⟩ := HKC.out w hSw; go_simp; try with_reducible rfl)
        simp only [Act.put]
        refine wpAnyH_take (i := 6) (v := ?_) rfl (by kernel_rfl) (by kernel_rfl) (by kernel_rfl) (fun _ _ _ h => h) (Or.inl ⟨by rfl, ?_⟩) (by assumption) ?_
        rotate_left
        · (intro w hSw; obtain ⟨k0, k1, k2⟩ := HKC.out w hSw; go_simp; try with_reducible rfl)
        simp only [Act.put]
        refine wpAnyH_take (i := 7) (v := ?_) rfl (by kernel_rfl) (by kernel_rfl) (by kernel_rfl) (fun _ _ _ h => h) (Or.inl ⟨by rfl, ?_⟩) (by assumption) ?_
        rotate_left
        · (intro w hSw; obtain ⟨k0, k1, k2⟩ := HKC.out w hSw; go_simp; try with_reducible rfl)
        simp only [Act.put]
        refine wpAnyH_take (i := 8) (v := ?_) rfl (by kernel_rfl) (by kernel_rfl) (by kernel_rfl) (fun _ _ _ h => h) (Or.inl ⟨by rfl, ?_⟩) (by assumption) ?_
        rotate_left
        · (intro w hSw; obtain ⟨k0, k1, k2⟩ := HKC.out w hSw; go_simp; try with_reducible rfl)
        simp only [Act.put]
        refine wpAnyH_ready (rs := [9]) (by kernel_rfl) (by simp) ?_
        refine AllReadyH.cons rfl (fun K hK => ?_) AllReadyH.nil
        go_simp
        refine hK.out _ _ (hHeld.alloc hHeld.size _) (fun hHeld => ?_)
        clear hK K
        try simp only [Act.put, List.setIfInBounds_toArray, List.set_cons_zero, List.set_cons_succ]
        refine wpAnyH_ready (rs := [10]) (by kernel_rfl) (by simp) ?_
        refine AllReadyH.cons rfl (fun K hK => ?_) AllReadyH.nil
        go_simp
        refine HNU.out.mono ?_
        rintro e w6 ⟨rfl, hb6⟩
        refine hK.out _ _ (hHeld.trans (hb6.mono hHeld.size)) (fun hHeld => ?_)
        clear hK K hb6
        try simp only [Act.put, List.setIfInBounds_toArray, List.set_cons_zero, List.set_cons_succ]
        refine wpAnyH_take (i := 11) (v := ?_) rfl (by kernel_rfl) (by kernel_rfl) (by kernel_rfl) (fun _ _ _ h => h) (Or.inl ⟨by rfl, ?_⟩) (by assumption) ?_
        rotate_left
        · (intro w hSw; obtain ⟨k0, k1, k2⟩ := HKC.out w hSw; go_simp; try with_reducible rfl)
        simp only [Act.put]
        refine wpAnyH_take (i := 12) (v := ?_) rfl (by kernel_rfl) (by kernel_rfl) (by kernel_rfl) (fun _ _ _ h => h) (Or.inl ⟨by rfl, ?_⟩) (by assumption) ?_
        rotate_left
        · (intro w hSw; obtain ⟨k0, k1, k2⟩ := HKC.out w hSw; go_simp; try with_reducible rfl)
        simp only [Act.put]
        refine wpAnyH_take (i := 13) (v := ?_) rfl (by kernel_rfl) (by kernel_rfl) (by kernel_rfl) (fun _ _ _ h => h) (Or.inl ⟨by rfl, ?_⟩) (by assumption) ?_
        rotate_left
        · (intro w hSw; obtain ⟨k0, k1, k2⟩ := HKC.out w hSw; go_simp; try with_reducible rfl)
        simp only [Act.put]
        refine wpAnyH_take (i := 14) (v := ?_) rfl (by kernel_rfl) (by kernel_rfl) (by kernel_rfl) (fun _ _ _ h => h) (Or.inl ⟨by rfl, ?_⟩) (by assumption) ?_
        rotate_left
        · (intro w hSw; obtain ⟨k0, k1, k2⟩ := HKC.out w hSw; go_simp; try with_reducible rfl)
        simp only [Act.put]
        refine wpAnyH_done (by kernel_rfl) ?_ _
        refine NoPanic.normal ?_

        clear a0 a1 a2
        go_wp2_with fail
        go_roundw
        case rel =>
          refine ⟨j + 1, _, by omega, by go_num, rfl, ?_, ?_, hin.out.2.trans ((HBA.out.trans (hHeld.mono HBA.out.size)).mono hin.out.2.size)⟩
          · simp only [ByteArray.size_append]
            have e1 : (⟨#[112, 114, 101, 100, 32]⟩ : ByteArray).size = 5 := rfl
            have e2 : (⟨#[32]⟩ : ByteArray).size = 1 := rfl
            have e3 : (⟨#[10]⟩ : ByteArray).size = 1 := rfl
            omega
          · rw [HNX.out, ← hin.out.1, ← HD.out]
            simp only [bl_append, predL]
            have e1 : bl (⟨#[112, 114, 101, 100, 32]⟩ : ByteArray) = [112, 114, 101, 100, 32] := rfl
            have e2 : bl (⟨#[32]⟩ : ByteArray) = [32] := rfl
            have e3 : bl (⟨#[10]⟩ : ByteArray) = [10] := rfl
            rw [e1, e2, e3, HAR.out, HKD.out]
            simp
        case measure => simp [intOf]; omega
      · obtain rfl : j = ps.length := by omega
        have HO : Hid (bl O = ps.flatMap predL) := by have := hin.out.1; rwa [List.take_length] at this
        obtain ⟨d0, d1⟩ := HC.out wr hin.out.2
        have hO' : O.size ≤ 150 := by omega
        clear hO
        go_wp2_with fail
        clear d0 d1
        go_loopw [5, 40] (fun o i wr => ∃ (j : Nat) (O : ByteArray), j ≤ rs.length ∧ i = .int .i64 j ∧ o = .string O ∧ O.size ≤ 150 + j * 150 ∧ Hid (bl O = ps.flatMap predL ++ (rs.take j).flatMap (ruleL ps) ∧ Below W1.heap.size W1 wr)) (fun _ i _ => rs.length - (intOf i).toNat)
        case atStart => exact ⟨0, O, Nat.zero_le _, rfl, rfl, by omega, by rw [HO.out]; simp, hin.out.2⟩
        case round =>
          clear HO hO' hin
          clear kw
          obtain ⟨j, O, hj, rfl, rfl, hO, hin⟩ := hrel
          have kw : Below w.heap.size w wr := HBW.out.trans (hin.out.2.mono HBW.out.size)
          by_cases hlt : j < rs.length
          · obtain ⟨rb, ro, rc', hv, hrb, r0, ⟨hhv, r1, r1'⟩, r2, r3, hbv, r4, r4'⟩ := slice_cells (HR.out wr kw) hlt
            obtain ⟨rfl, rfl⟩ : ra = some ⟨rb, ro, none⟩ ∧ rc = rc' := by simpa using hv
            have hjl : (j : Int) < (rs.length : Int) := by omega
            have hj0 : (0 : Int) ≤ (j : Int) := by omega
            have hm := List.getElem_mem hlt
            have q1 := OK.out.head _ hm
            have q2 := OK.out.src _ hm
            have q3 := OK.out.n _ hm
            have q4 := OK.out.few _ hm
            have q5 := OK.out.body _ hm
            have HNX : Hid ((rs.take (j + 1)).flatMap (ruleL ps) = (rs.take j).flatMap (ruleL ps) ++ ruleL ps rs[j]) := rule_put hlt
            have hz8 : (atomB ps rs[j].head).size ≤ 15 := atomB_small OK.out.name q1.few
            have hz9 := valB_size ps rs[j]
            have hz10 : (bodyB ps rs[j].body).size ≤ 90 := by
              unfold bodyB
              rw [mk_size]
              have := bodyB_size OK.out.name q5 0
              omega
            obtain ⟨ha, hc, hhe, hhl, _⟩ := id r1'
            obtain ⟨ba, bc, hbe, hbl, _⟩ := id r4'
            subst hhe hbe
            clear hv hm
            generalize rs[j] = r at *
            obtain ⟨NB, hNB⟩ : ∃ NB, wr.heap.size = NB := ⟨_, rfl⟩
            have HAT : Hid (∀ x, Below wr.heap.size wr x → Calls Tryz.prog 20 #[.slice pa ps.length pc, .agg #[.int .i64 r.head.pred, .slice ha r.head.args.length hc]] x fun e w' => e = .returned (.string (atomB ps r.head)) ∧ Below x.heap.size x w') := fun x hx => tellAtom_c x _ _ ps _ (HP.out x (kw.trans (hx.mono kw.size))) (termsAt.lasts hx r1') OK.out.name q1
            have HSV : Hid (∀ x, Below wr.heap.size wr x → Calls Tryz.prog 21 #[.slice pa ps.length pc, .agg #[.int .i64 r.head.pred, .slice ha r.head.args.length hc, .int .i64 r.src, .int .i64 r.n, .slice ba r.body.length bc]] x fun e w' => e = .returned (.string (valB ps r)) ∧ Below x.heap.size x w') := fun x hx => showValue_c x _ _ _ ps r (HP.out x (kw.trans (hx.mono kw.size))) q1.there q2 q3
            have HBY : Hid (∀ x, Below wr.heap.size wr x → Calls Tryz.prog 22 #[.slice pa ps.length pc, .slice ba r.body.length bc] x fun e w' => e = .returned (.string (bodyB ps r.body)) ∧ Below x.heap.size x w') := fun x hx => showBody_c x _ _ ps _ (HP.out x (kw.trans (hx.mono kw.size))) (litsAt.lasts hx r4') OK.out.name (by omega) q5
            clear q1 q2 q3 q4 q5 r1' r4'
            have HRL : Hid (ruleL ps r = bl (atomB ps r.head) ++ bl (valB ps r) ++ bl (bodyB ps r.body) ++ [46, 10]) := by
              show _ = _
              rw [bl_atom, valB, bodyB, bl_mk, bl_mk]
              rfl
            generalize atomB ps r.head = TA at *
            generalize valB ps r = TV at *
            generalize bodyB ps r.body = TB at *
            obtain ⟨d0, d1⟩ := HC.out wr hin.out.2
            have hz1 : ¬ 9223372036854775807 < TA.size + TV.size := by omega
            have hz2 : ¬ 9223372036854775807 < TA.size + TV.size + TB.size := by omega
            have hz3 : ¬ 9223372036854775807 < TA.size + TV.size + TB.size + 2 := by omega
            have hz4 : ¬ 9223372036854775807 < O.size + (TA.size + TV.size + TB.size + 2) := by omega
            go_wp2_with fail
            have HQ : Hid (∀ x, Below (wr.alloc (.cells #[.int .i64 r.head.pred, .slice ha r.head.args.length hc, .int .i64 r.src, .int .i64 r.n, .slice ba r.body.length bc] 54)).heap.size (wr.alloc (.cells #[.int .i64 r.head.pred, .slice ha r.head.args.length hc, .int .i64 r.src, .int .i64 r.n, .slice ba r.body.length bc] 54)) x → x.cell? ⟨w.heap.size, 0, none⟩ = some (.slice pa ps.length pc) ∧ x.cell? ⟨NB, 0, none⟩ = some (.int .i64 r.head.pred) ∧ x.cell? ⟨NB, 1, none⟩ = some (.slice ha r.head.args.length hc) ∧ x.cell? ⟨NB, 2, none⟩ = some (.int .i64 r.src) ∧ x.cell? ⟨NB, 3, none⟩ = some (.int .i64 r.n) ∧ x.cell? ⟨NB, 4, none⟩ = some (.slice ba r.body.length bc) ∧ Below wr.heap.size wr x) := fun x hx => by
              have hb0 : Below wr.heap.size wr x := below_trans (below_alloc _ _) hx
              have hl : NB < (wr.alloc (.cells #[.int .i64 r.head.pred, .slice ha r.head.args.length hc, .int .i64 r.src, .int .i64 r.n, .slice ba r.body.length bc] 54)).heap.size := by rw [← hNB]; simp
              refine ⟨(HC.out x (hin.out.2.trans (hb0.mono hin.out.2.size))).1, ?_, ?_, ?_, ?_, ?_, hb0⟩ <;> (rw [cell_lasts hx hl, ← hNB]; simp [go_sem])
            generalize wr.alloc (.cells #[.int .i64 r.head.pred, .slice ha r.head.args.length hc, .int .i64 r.src, .int .i64 r.n, .slice ba r.body.length bc] 54) = WA at *
            have L0 : ∀ x : Low WA.heap.size WA, x.wd.cell? ⟨w.heap.size, 0, none⟩ = some (.slice pa ps.length pc) := fun x => (HQ.out _ x.low).1
            have L1 : ∀ x : Low WA.heap.size WA, x.wd.cell? ⟨NB, 0, none⟩ = some (.int .i64 r.head.pred) := fun x => (HQ.out _ x.low).2.1
            have L2 : ∀ x : Low WA.heap.size WA, x.wd.cell? ⟨NB, 1, none⟩ = some (.slice ha r.head.args.length hc) := fun x => (HQ.out _ x.low).2.2.1
            have L3 : ∀ x : Low WA.heap.size WA, x.wd.cell? ⟨NB, 2, none⟩ = some (.int .i64 r.src) := fun x => (HQ.out _ x.low).2.2.2.1
            have L4 : ∀ x : Low WA.heap.size WA, x.wd.cell? ⟨NB, 3, none⟩ = some (.int .i64 r.n) := fun x => (HQ.out _ x.low).2.2.2.2.1
            have L5 : ∀ x : Low WA.heap.size WA, x.wd.cell? ⟨NB, 4, none⟩ = some (.slice ba r.body.length bc) := fun x => (HQ.out _ x.low).2.2.2.2.2.1
            clear r0 r1 r2 r3 r4 d0 d1 hNB
            refine wp_region_low WA.heap.size (by kernel_rfl) (by kernel_rfl) ?_
            repeat (go_big_quiet_step (first | (go_at_call 20; exact low_of (HAT.out _ (HQ.out _ (Low.low _)).2.2.2.2.2.2)) | (go_at_call 21; exact low_of (HSV.out _ (HQ.out _ (Low.low _)).2.2.2.2.2.2)) | (go_at_call 22; exact low_of (HBY.out _ (HQ.out _ (Low.low _)).2.2.2.2.2.2))))
            refine wpQuiet_nil ?_
            rintro W6 ⟨⟨_, hb6⟩, rfl⟩
            clear L0 L1 L2 L3 L4 L5
            have HB6 := hid (HQ.out _ hb6).2.2.2.2.2.2
            clear hb6
            go_wp2_with fail
            go_roundw
            case rel =>
              refine ⟨j + 1, _, by omega, by go_num, rfl, ?_, ?_, hin.out.2.trans (HB6.out.mono hin.out.2.size)⟩
              · simp only [ByteArray.size_append]
                have e1 : (⟨#[46, 10]⟩ : ByteArray).size = 2 := rfl
                omega
              · rw [HNX.out, HRL.out, ← List.append_assoc, ← hin.out.1]
                simp only [bl_append]
                have e1 : bl (⟨#[46, 10]⟩ : ByteArray) = [46, 10] := rfl
                rw [e1]
            case measure => simp [intOf]; omega
          · obtain rfl : j = rs.length := by omega
            have HE : Hid (progB ps rs = O) := by
              show _ = _
              apply bl_inj
              rw [bl_prog, hin.out.1, List.take_length]
              rfl
            go_wp2_with fail
            go_ret2
            exact ⟨by rw [HSB.out, HE.out, HPE.out]; rfl, kw⟩
  · have HSB : Hid (showB ps rs = ⟨#[]⟩) := by show _ = _; unfold showB; rw [if_neg hpe]
    have hpe' : (progErr ps rs != 0) = true := by simp [hpe]
    go_wp2_with fail
    go_ret2
    exact ⟨by rw [HSB.out]; rfl, HBW.out.trans (HB1.out.mono HBW.out.size)⟩
end Go.Proofs.YtlfccloaoopadafGreatDoor.Text

/-
  The developers' Facts.
-/
namespace Go.Proofs.YtlfccloaoopadafGreatDoor.Text
open Go.ChangeShapes Go.WideShapes Go.ChangeAt Go.RowKit
open Prog (progErr small slice_cells intsAt)
open Rule (kindOf arityOf factFine)
open Base (factsErr)
open Fire (roundErr)

/-- the atom of a fact -/
def factA (ps : List Prd) (x : Fct) : Atm := ⟨x.pred, ([⟨false, x.a⟩, ⟨false, x.b⟩] : List Tm).take (arityOf ps x.pred).toNat⟩
/-- a fact, as a text -/
def factB (ps : List Prd) (x : Fct) : ByteArray := if kindOf ps x.pred = 0 then atomB ps (factA ps x) else atomB ps (factA ps x) ++ (⟨#[32, 61, 32]⟩ ++ dig x.val)
def factsL (ps : List Prd) (f : List Fct) : List UInt8 := f.flatMap fun x => bl (factB ps x) ++ [46, 10]
theorem factsL_take {ps : List Prd} {f : List Fct} {j : Nat} (hj : j < f.length) : factsL ps (f.take (j + 1)) = factsL ps (f.take j) ++ (bl (factB ps f[j]) ++ [46, 10]) := by
  unfold factsL
  rw [List.take_succ_eq_append_getElem hj, List.flatMap_append]
  simp
/-- what a right fact is, for one who tells it -/
structure TellF (ps : List Prd) (x : Fct) : Prop where
  there : ∃ e : Nat, x.pred = (e : Int) ∧ e < ps.length
  arity : 0 ≤ arityOf ps x.pred ∧ arityOf ps x.pred ≤ 2
  a : 0 ≤ x.a ∧ x.a ≤ 4
  b : 0 ≤ x.b ∧ x.b ≤ 4
  val : kindOf ps x.pred ≠ 0 → 0 ≤ x.val ∧ x.val ≤ 15
theorem lat_small {k v : Int} (h : Lat.err k v = 0) : 0 ≤ v ∧ v ≤ 15 := by
  unfold Lat.err at h
  split at h
  · contradiction
  · split at h
    · contradiction
    · rename_i h1 h2
      simp at h1 h2
      unfold Lat.most at h2
      split at h2 <;> omega
theorem tellF_of {ps : List Prd} {x : Fct} (h : factFine ps x = true) (ha : ∀ q ∈ ps, 0 ≤ q.arity ∧ q.arity ≤ 2) : TellF ps x := by
  simp only [factFine, Bool.and_eq_true] at h
  obtain ⟨h1, h2, h3, h4, h5, h6⟩ := h
  obtain ⟨k, hk, e⟩ := Rule.isPred_iff.1 h1
  have h7 : arityOf ps x.pred = ps[k].arity := by rw [e]; simp [arityOf, hk]
  simp only [Lat.within, Bool.and_eq_true, decide_eq_true_eq] at h2 h3
  exact ⟨⟨k, e, hk⟩, by rw [h7]; exact ha _ (List.getElem_mem hk), h2, h3, fun _ => lat_small (by simpa using h6)⟩
theorem tellA_fact {ps : List Prd} {x : Fct} (h : TellF ps x) : TellA ps (factA ps x) := by
  refine ⟨h.there, fun t ht => ?_, ?_⟩
  · have := List.mem_of_mem_take ht
    simp only [List.mem_cons, List.not_mem_nil, or_false] at this
    rcases this with rfl | rfl
    · exact ⟨h.a.1, by have := h.a.2; show x.a ≤ 25; omega⟩
    · exact ⟨h.b.1, by have := h.b.2; show x.b ≤ 25; omega⟩
  · show (List.take _ _).length ≤ 2
    rw [List.length_take]
    simp
    omega
/-- two terms lie there -/
theorem two_terms {w : World} {N : Nat} {a b : Int} {n : Nat} (c0 : w.cell? ⟨N, 0, none⟩ = some (.bool false)) (c1 : w.cell? ⟨N, 1, none⟩ = some (.int .i64 a)) (c2 : w.cell? ⟨N, 2, none⟩ = some (.bool false)) (c3 : w.cell? ⟨N, 3, none⟩ = some (.int .i64 b)) (hn : n ≤ 2) : termsAt w (.slice (some ⟨N, 0, none⟩) n 2) (([⟨false, a⟩, ⟨false, b⟩] : List Tm).take n) := by
  refine ⟨some ⟨N, 0, none⟩, 2, by rw [List.length_take]; simp; omega, by rw [List.length_take]; simp; omega, .inr ⟨N, 0, rfl, Sum.addr_lt c0, fun i x hi => ?_⟩⟩
  have hi2 := (List.getElem?_eq_some_iff.1 hi).1
  rw [List.length_take] at hi2
  rw [List.getElem?_take_of_lt (by omega)] at hi
  match i, hi with
  | 0, hi => obtain rfl : (⟨false, a⟩ : Tm) = x := by simpa using hi
             exact ⟨c0, c1⟩
  | 1, hi => obtain rfl : (⟨false, b⟩ : Tm) = x := by simpa using hi
             exact ⟨c2, c3⟩
  | i + 2, hi => simp at hi
set_option maxRecDepth 100000 in
set_option maxHeartbeats 8000000 in
theorem showFact_c (w : World) (pv : Value) (ps : List Prd) (x : Fct) (hp : predsAt w pv ps) (hn : ∀ q ∈ ps, q.name.size ≤ 8) (h : TellF ps x) :
    Calls Tryz.prog 42 #[pv, .agg #[.int .i64 x.pred, .int .i64 x.a, .int .i64 x.b, .int .i64 x.val]] w fun e w' => e = .returned (.string (factB ps x)) ∧ Below w.heap.size w w' := by
  have HP : Hid (∀ x, Below w.heap.size w x → predsAt x pv ps) := fun x hx => predsAt.lasts hx hp
  have HTA := hid (tellA_fact h)
  have HN := hid hn
  obtain ⟨k, hk, hkl⟩ := h.there
  obtain ⟨A, hA⟩ : ∃ A : Nat, arityOf ps x.pred = (A : Int) := ⟨(arityOf ps x.pred).toNat, by have := h.arity; omega⟩
  have hA2 : A ≤ 2 := by have := h.arity; omega
  have HAR : Hid (factA ps x = ⟨x.pred, ([⟨false, x.a⟩, ⟨false, x.b⟩] : List Tm).take A⟩) := by show _ = _; unfold factA; rw [hA]; rfl
  have hAe : ps[k].arity = (A : Int) := by rw [← hA, hk]; simp [arityOf, hkl]
  have HV := hid h.val
  obtain ⟨pa, pc, rfl, _⟩ := id hp
  rw [hk]
  obtain ⟨WA, hWA⟩ : ∃ WA, (w.alloc (.cells #[.int .i64 (k : Int), .int .i64 x.a, .int .i64 x.b, .int .i64 x.val] 82)).alloc (.cells #[.bool false, .int .i64 x.a, .bool false, .int .i64 x.b] 94) = WA := ⟨_, rfl⟩
  have HBA : Hid (Below w.heap.size w WA) := by rw [← hWA]; exact (below_alloc _ _).alloc (by simp) _
  have hsz : WA.heap.size = w.heap.size + 2 := by rw [← hWA]; simp
  have a0 : WA.cell? ⟨w.heap.size, 0, none⟩ = some (.int .i64 (k : Int)) := by rw [← hWA]; simp [go_sem]
  have a3 : WA.cell? ⟨w.heap.size, 3, none⟩ = some (.int .i64 x.val) := by rw [← hWA]; simp [go_sem]
  have b0 : WA.cell? ⟨w.heap.size + 1, 0, none⟩ = some (.bool false) := by rw [← hWA]; simp [go_sem]
  have b1 : WA.cell? ⟨w.heap.size + 1, 1, none⟩ = some (.int .i64 x.a) := by rw [← hWA]; simp [go_sem]
  have b2 : WA.cell? ⟨w.heap.size + 1, 2, none⟩ = some (.bool false) := by rw [← hWA]; simp [go_sem]
  have b3 : WA.cell? ⟨w.heap.size + 1, 3, none⟩ = some (.int .i64 x.b) := by rw [← hWA]; simp [go_sem]
  obtain ⟨pb, po, pc', hpv, hpb, p0, p1, p2⟩ := slice_cells (HP.out WA HBA.out) hkl
  obtain ⟨rfl, rfl⟩ : pa = some ⟨pb, po, none⟩ ∧ pc = pc' := by simpa using hpv
  rw [hAe] at p1
  have hk0 : (0 : Int) ≤ (k : Int) := by omega
  have hk1 : (k : Int) < (ps.length : Int) := by omega
  have hA0 : (0 : Int) ≤ (A : Int) := by omega
  have hA1 : (A : Int) ≤ 2 := by omega
  have HKC : Hid (∀ y, Below WA.heap.size WA y → y.cell? ⟨w.heap.size, 0, none⟩ = some (.int .i64 (k : Int)) ∧ y.cell? ⟨pb, po + k * 3 + 1, none⟩ = some (.int .i64 (A : Int)) ∧ y.cell? ⟨w.heap.size, 3, none⟩ = some (.int .i64 x.val)) := fun y hy => ⟨(cell_lasts hy (by omega)).trans a0, (cell_lasts hy hpb).trans p1, (cell_lasts hy (by omega)).trans a3⟩
  have HAT : Hid (∀ y, Below WA.heap.size WA y → Calls Tryz.prog 20 #[.slice (some ⟨pb, po, none⟩) ps.length pc, .agg #[.int .i64 (k : Int), .slice (some ⟨w.heap.size + 1, 0, none⟩) A 2]] y fun e w' => e = .returned (.string (atomB ps (factA ps x))) ∧ Below y.heap.size y w') := fun y hy => by
    have hc : ∀ o, y.cell? ⟨w.heap.size + 1, o, none⟩ = WA.cell? ⟨w.heap.size + 1, o, none⟩ := fun o => cell_lasts hy (by omega)
    have ht := two_terms ((hc 0).trans b0) ((hc 1).trans b1) ((hc 2).trans b2) ((hc 3).trans b3) hA2
    have hta := HTA.out
    rw [HAR.out] at hta ⊢
    have := tellAtom_c y (.slice (some ⟨pb, po, none⟩) ps.length pc) _ ps ⟨x.pred, ([⟨false, x.a⟩, ⟨false, x.b⟩] : List Tm).take A⟩ (HP.out y (HBA.out.trans (hy.mono HBA.out.size))) ht HN.out hta
    rw [← hk]
    exact this
  have hz := atomB_small HN.out HTA.out.few
  have HHV : Hid (∀ y, Below WA.heap.size WA y → Calls Tryz.prog 51 #[.slice (some ⟨pb, po, none⟩) ps.length pc, .int .i64 (k : Int)] y fun e w' => e = .returned (.bool (!decide (kindOf ps (k : Int) = 0))) ∧ w' = y) := fun y hy => hasValues_c y _ ps k (HP.out y (HBA.out.trans (hy.mono HBA.out.size))) hkl
  have HFB : Hid (factB ps x = if kindOf ps (k : Int) = 0 then atomB ps (factA ps x) else atomB ps (factA ps x) ++ (⟨#[32, 61, 32]⟩ ++ dig x.val)) := by show _ = _; unfold factB; rw [hk]
  have HVK : Hid (kindOf ps (k : Int) ≠ 0 → 0 ≤ x.val ∧ x.val ≤ 15) := by have := HV.out; rw [hk] at this; exact this
  clear hpv hAe hA hn hp h p0 p2 hk b0 b1 b2 b3 a3
  generalize atomB ps (factA ps x) = TA at *
  go_enter Tryz.func42, Tryz.ntmps42
  go_wp2_with fail
  clear hWA a0 p1
  refine wp_region_noPanic ?_
  refine wp_region_held_drew (S := (fun x : World => Below WA.heap.size WA x)) (by kernel_rfl) ((Below.refl _ _).drew) (fun hHeld => ?_)
  refine wpAnyH_take (i := 0) (v := ?_) rfl (by kernel_rfl) (by kernel_rfl) (by kernel_rfl) (fun _ _ _ h => h) (Or.inl ⟨by rfl, ?_⟩) (by assumption) ?_
  rotate_left
  · (intro w hSw; have kk := HKC.out w hSw; go_simp; try with_reducible rfl)
  simp only [Act.put]
  refine wpAnyH_take (i := 1) (v := ?_) rfl (by kernel_rfl) (by kernel_rfl) (by kernel_rfl) (fun _ _ _ h => h) (Or.inl ⟨by rfl, ?_⟩) (by assumption) ?_
  rotate_left
  · (intro w hSw; have kk := HKC.out w hSw; go_simp; try with_reducible rfl)
  simp only [Act.put]
  refine wpAnyH_take (i := 2) (v := ?_) rfl (by kernel_rfl) (by kernel_rfl) (by kernel_rfl) (fun _ _ _ h => h) (Or.inl ⟨by rfl, ?_⟩) (by assumption) ?_
  rotate_left
  · (intro w hSw; have kk := HKC.out w hSw; go_simp; try with_reducible rfl)
  simp only [Act.put]
  refine wpAnyH_take (i := 3) (v := ?_) rfl (by kernel_rfl) (by kernel_rfl) (by kernel_rfl) (fun _ _ _ h => h) (Or.inl ⟨by rfl, ?_⟩) (by assumption) ?_
  rotate_left
  · (intro w hSw; have kk := HKC.out w hSw; go_simp; try with_reducible rfl)
  simp only [Act.put]
  refine wpAnyH_take (i := 4) (v := ?_) rfl (by kernel_rfl) (by kernel_rfl) (by kernel_rfl) (fun _ _ _ h => h) (Or.inl ⟨by rfl, ?_⟩) (by assumption) ?_
  rotate_left
  · (intro w hSw; have kk := HKC.out w hSw; go_simp; try with_reducible rfl)
  simp only [Act.put]
  refine wpAnyH_take (i := 5) (v := ?_) rfl (by kernel_rfl) (by kernel_rfl) (by kernel_rfl) (fun _ _ _ h => h) (Or.inl ⟨by rfl, ?_⟩) (by assumption) ?_
  rotate_left
  · (intro w hSw; have kk := HKC.out w hSw; go_simp; try with_reducible rfl)
  simp only [Act.put]
  refine wpAnyH_take (i := 6) (v := ?_) rfl (by kernel_rfl) (by kernel_rfl) (by kernel_rfl) (fun _ _ _ h => h) (Or.inl ⟨by rfl, ?_⟩) (by assumption) ?_
  rotate_left
  · (intro w hSw; have kk := HKC.out w hSw; go_simp; try with_reducible rfl)
  simp only [Act.put]
  refine wpAnyH_take (i := 7) (v := ?_) rfl (by kernel_rfl) (by kernel_rfl) (by kernel_rfl) (fun _ _ _ h => h) (Or.inl ⟨by rfl, ?_⟩) (by assumption) ?_
  rotate_left
  · (intro w hSw; have kk := HKC.out w hSw; go_simp; try with_reducible rfl)
  simp only [Act.put]
  refine wpAnyH_take (i := 8) (v := ?_) rfl (by kernel_rfl) (by kernel_rfl) (by kernel_rfl) (fun _ _ _ h => h) (Or.inl ⟨by rfl, ?_⟩) (by assumption) ?_
  rotate_left
  · (intro w hSw; have kk := HKC.out w hSw; go_simp; try with_reducible rfl)
  simp only [Act.put]
  refine wpAnyH_take (i := 9) (v := ?_) rfl (by kernel_rfl) (by kernel_rfl) (by kernel_rfl) (fun _ _ _ h => h) (Or.inl ⟨by rfl, ?_⟩) (by assumption) ?_
  rotate_left
  · (intro w hSw; have kk := HKC.out w hSw; go_simp; try with_reducible rfl)
  simp only [Act.put]
  refine wpAnyH_take (i := 10) (v := ?_) rfl (by kernel_rfl) (by kernel_rfl) (by kernel_rfl) (fun _ _ _ h => h) (Or.inl ⟨by rfl, ?_⟩) (by assumption) ?_
  rotate_left
  · (intro w hSw; have kk := HKC.out w hSw; go_simp; try with_reducible rfl)
  simp only [Act.put]
  refine wpAnyH_take (i := 11) (v := ?_) rfl (by kernel_rfl) (by kernel_rfl) (by kernel_rfl) (fun _ _ _ h => h) (Or.inl ⟨by rfl, ?_⟩) (by assumption) ?_
  rotate_left
  · (intro w hSw; have kk := HKC.out w hSw; go_simp; try with_reducible rfl)
  simp only [Act.put]
  refine wpAnyH_ready (rs := [12]) (by kernel_rfl) (by simp) ?_
  refine AllReadyH.cons rfl (fun K hK => ?_) AllReadyH.nil
  go_simp
  refine (HAT.out _ hHeld).mono ?_
  rintro e w6 ⟨rfl, hb6⟩
  refine hK.out _ _ (hHeld.trans (hb6.mono hHeld.size)) (fun hHeld => ?_)
  clear hK K hb6
  try simp only [Act.put, List.setIfInBounds_toArray, List.set_cons_zero, List.set_cons_succ]
  refine wpAnyH_take (i := 13) (v := ?_) rfl (by kernel_rfl) (by kernel_rfl) (by kernel_rfl) (fun _ _ _ h => h) (Or.inl ⟨by rfl, ?_⟩) (by assumption) ?_
  rotate_left
  · (intro w hSw; have kk := HKC.out w hSw; go_simp; try with_reducible rfl)
  simp only [Act.put]
  refine wpAnyH_done (by kernel_rfl) ?_ _
  refine NoPanic.normal ?_

  obtain ⟨k0, k1, k2⟩ := HKC.out w6 hHeld
  by_cases hkd : kindOf ps (k : Int) = 0
  · have hd : (!decide (kindOf ps (k : Int) = 0)) = false := by simp [hkd]
    have HC := HHV.out w6 hHeld
    rw [hd] at HC
    have HE : Hid (factB ps x = TA) := by show _ = _; rw [HFB.out, if_pos hkd]
    have HB6 := hid hHeld
    clear hd hkd hHeld
    go_wp2_with (go_at_call 51; refine HC.mono ?_; rintro e w7 ⟨rfl, rfl⟩)
    go_ret
    exact ⟨by rw [HE.out]; rfl, HBA.out.trans (HB6.out.mono HBA.out.size)⟩
  · have hd : (!decide (kindOf ps (k : Int) = 0)) = true := by simp [hkd]
    have HC := HHV.out w6 hHeld
    rw [hd] at HC
    obtain ⟨hv0, hv1⟩ := HVK.out hkd
    obtain ⟨n, hn⟩ : ∃ n : Nat, x.val = (n : Int) := ⟨x.val.toNat, by omega⟩
    have HE : Hid (factB ps x = TA ++ (⟨#[32, 61, 32]⟩ ++ dig n)) := by show _ = _; rw [HFB.out, if_neg hkd, hn]
    have HB6 := hid hHeld
    have hzd := dig_size n
    have hz1 : ¬ 9223372036854775807 < 3 + (dig n).size := by omega
    have hz2 : ¬ 9223372036854775807 < TA.size + (3 + (dig n).size) := by omega
    rw [hn] at k2
    have HN2 := number1_c (w6.alloc (.cells #[.int .i64 (n : Int)] 3)) _ n ⟨#[]⟩ (one_int w6 n) (by omega) (by decide)
    clear hd hkd hHeld hn hv0 hv1
    go_wp2_with (first | (go_at_call 51; refine HC.mono ?_; rintro e w7 ⟨rfl, hw7⟩; obtain rfl := hw7.symm) | (go_at_call 19; refine HN2.mono ?_; rintro e w8 ⟨rfl, hb⟩; replace hb : Hid _ := hb))
    go_ret
    exact ⟨by rw [HE.out]; rfl, HBA.out.trans ((HB6.out.trans ((below_trans (below_alloc _ _) hb.out).mono HB6.out.size)).mono HBA.out.size)⟩
theorem factB_size {ps : List Prd} {x : Fct} (hn : ∀ q ∈ ps, q.name.size ≤ 8) (h : TellF ps x) : (factB ps x).size ≤ 20 := by
  have h1 := atomB_small hn (tellA_fact h).few
  have h2 := dig_size x.val
  unfold factB
  have e1 : (⟨#[32, 61, 32]⟩ : ByteArray).size = 3 := rfl
  split
  · omega
  · rw [ByteArray.size_append, ByteArray.size_append]; omega
/-- the text that Facts tells -/
def factsB (ps : List Prd) (rs : List Rul) (f : List Fct) : ByteArray := if roundErr ps rs f = 0 then mk (factsL ps f) else ⟨#[]⟩
set_option maxRecDepth 100000 in
set_option maxHeartbeats 8000000 in
theorem devFacts_c (w : World) (pv rv fv : Value) (ps : List Prd) (rs : List Rul) (f : List Fct) (hp : predsAt w pv ps) (hr : rulesAt w rv rs) (hf : factsAt w fv f) (hn : small ps) :
    Calls Tryz.prog 13 #[.agg #[pv, rv], fv] w fun e w' => e = .returned (.tuple #[.string (factsB ps rs f), .int .i64 (roundErr ps rs f)]) ∧ Below w.heap.size w w' := by
  have HP : Hid (∀ x, Below w.heap.size w x → predsAt x pv ps) := fun x hx => predsAt.lasts hx hp
  have HF : Hid (∀ x, Below w.heap.size w x → factsAt x fv f) := fun x hx => factsAt.lasts hx hf
  have HCK : Hid (∀ x, Below w.heap.size w x → Calls Tryz.prog 18 #[.agg #[pv, rv]] x fun e w' => e = .returned (.int .i64 (progErr ps rs)) ∧ Below x.heap.size x w') := fun x hx => Prog.devCheck_c x pv rv ps rs (predsAt.lasts hx hp) (rulesAt.lasts hx hr) hn
  have HBC : Hid (∀ x, Below w.heap.size w x → Calls Tryz.prog 41 #[pv, fv] x fun e w' => e = .returned (.int .i64 (factsErr ps f)) ∧ Below x.heap.size x w') := fun x hx => Base.check_c x pv fv ps f (predsAt.lasts hx hp) (factsAt.lasts hx hf)
  obtain ⟨pa, pc, rfl, _⟩ := hp
  obtain ⟨ra, rc, rfl, _⟩ := hr
  obtain ⟨fa, fc, rfl, _⟩ := hf
  obtain ⟨W1, hW1⟩ : ∃ W1, w.alloc (.cells #[.slice pa ps.length pc, .slice ra rs.length rc] 25) = W1 := ⟨_, rfl⟩
  have b1 : Below w.heap.size w W1 := by rw [← hW1]; exact below_alloc _ _
  have c0 : W1.cell? ⟨w.heap.size, 0, none⟩ = some (.slice pa ps.length pc) := by rw [← hW1]; simp [go_sem]
  have c1 : W1.cell? ⟨w.heap.size, 1, none⟩ = some (.slice ra rs.length rc) := by rw [← hW1]; simp [go_sem]
  have hs : w.heap.size < W1.heap.size := by rw [← hW1]; simp
  have HC : Hid (∀ x, Below W1.heap.size W1 x → x.cell? ⟨w.heap.size, 0, none⟩ = some (.slice pa ps.length pc)) := fun x hx => (cell_lasts hx hs).trans c0
  go_enter Tryz.func13, Tryz.ntmps13
  go_wp2_with fail
  clear hW1 c0 c1
  refine (HCK.out W1 b1).mono ?_
  rintro e w1 ⟨rfl, hb1⟩
  have HB1 := hid hb1
  have HBW := hid b1
  clear hb1 b1 HCK
  by_cases hpe : progErr ps rs = 0
  · have OK := hid (right_of hpe)
    have hd0 := HC.out w1 HB1.out
    have HPE := hid hpe
    rw [hpe]
    clear hpe
    go_wp2_with fail
    refine (HBC.out w1 (HBW.out.trans (HB1.out.mono HBW.out.size))).mono ?_
    rintro e w2 ⟨rfl, hb2⟩
    have HB2 : Hid (Below W1.heap.size W1 w2) := HB1.out.trans (hb2.mono HB1.out.size)
    clear hb2 HBC hd0 HB1
    by_cases hfe : factsErr ps f = 0
    · have HRE : Hid (roundErr ps rs f = 0 ∧ factsB ps rs f = mk (factsL ps f)) := by
        have h0 : roundErr ps rs f = 0 := by unfold roundErr; rw [HPE.out, hfe]; rfl
        refine ⟨h0, ?_⟩
        unfold factsB
        rw [if_pos h0]
      have HFT : Hid (∀ y ∈ f, TellF ps y) := fun y hy => tellF_of (Base.facts_fine hfe y hy) OK.out.arity
      have hfl : f.length ≤ 125 := Base.facts_short hfe
      rw [hfe]
      clear hfe
      go_wp2_with fail
      go_loopw [8, 25] (fun o i wr => ∃ (j : Nat) (O : ByteArray), j ≤ f.length ∧ i = .int .i64 j ∧ o = .string O ∧ O.size ≤ j * 30 ∧ Hid (bl O = factsL ps (f.take j) ∧ Below W1.heap.size W1 wr)) (fun _ i _ => f.length - (intOf i).toNat)
      case atStart => exact ⟨0, _, Nat.zero_le _, rfl, rfl, by decide, rfl, HB2.out⟩
      case round =>
        clear HB2
        obtain ⟨j, O, hj, rfl, rfl, hO, hin⟩ := hrel
        have kw : Below w.heap.size w wr := HBW.out.trans (hin.out.2.mono HBW.out.size)
        by_cases hlt : j < f.length
        · obtain ⟨fb, fo, fc', hv, hfb, f0, f1, f2, f3⟩ := slice_cells (HF.out wr kw) hlt
          obtain ⟨rfl, rfl⟩ : fa = some ⟨fb, fo, none⟩ ∧ fc = fc' := by simpa using hv
          have hjl : (j : Int) < (f.length : Int) := by omega
          have hj0 : (0 : Int) ≤ (j : Int) := by omega
          have HTF := hid (HFT.out _ (List.getElem_mem hlt))
          have HNX : Hid (factsL ps (f.take (j + 1)) = factsL ps (f.take j) ++ (bl (factB ps f[j]) ++ [46, 10])) := factsL_take hlt
          have hd0 := HC.out wr hin.out.2
          have hz := factB_size OK.out.name HTF.out
          have HSF : Hid (∀ x, Below wr.heap.size wr x → Calls Tryz.prog 42 #[.slice pa ps.length pc, .agg #[.int .i64 f[j].pred, .int .i64 f[j].a, .int .i64 f[j].b, .int .i64 f[j].val]] x fun e w' => e = .returned (.string (factB ps f[j])) ∧ Below x.heap.size x w') := fun x hx => showFact_c x _ ps _ (HP.out x (kw.trans (hx.mono kw.size))) OK.out.name HTF.out
          clear hv HTF
          generalize factB ps f[j] = TF at *
          generalize f[j] = y at *
          have hz1 : ¬ 9223372036854775807 < TF.size + 2 := by omega
          have hz2 : ¬ 9223372036854775807 < O.size + (TF.size + 2) := by omega
          have hsl : w.heap.size < wr.heap.size := by have := hin.out.2.size; omega
          go_wp2_with fail
          refine (HSF.out _ (below_alloc _ _)).mono ?_
          rintro e w3 ⟨rfl, hb3⟩
          have HB3 := hid (below_trans (below_alloc _ _) hb3)
          clear hb3 f0 f1 f2 f3 hd0
          go_wp2_with fail
          go_roundw
          case rel =>
            refine ⟨j + 1, _, by omega, by go_num, rfl, ?_, ?_, hin.out.2.trans (HB3.out.mono hin.out.2.size)⟩
            · simp only [ByteArray.size_append]
              have e1 : (⟨#[46, 10]⟩ : ByteArray).size = 2 := rfl
              omega
            · rw [HNX.out, ← hin.out.1]
              simp only [bl_append]
              rfl
          case measure => simp [intOf]; omega
        · obtain rfl : j = f.length := by omega
          have HE : Hid (factsB ps rs f = O) := by
            show _ = _
            rw [HRE.out.2]
            have := hin.out.1
            rw [List.take_length] at this
            rw [← this, mk_bl]
          go_wp2_with fail
          go_ret2
          exact ⟨by rw [HE.out, HRE.out.1]; rfl, kw⟩
    · have HRE : Hid (roundErr ps rs f = factsErr ps f ∧ factsB ps rs f = ⟨#[]⟩) := by
        have h0 : roundErr ps rs f = factsErr ps f := by unfold roundErr; rw [HPE.out]; simp
        refine ⟨h0, ?_⟩
        unfold factsB
        rw [h0, if_neg hfe]
      have hfe' : (factsErr ps f != 0) = true := by simp [hfe]
      go_wp2_with fail
      go_ret2
      exact ⟨by rw [HRE.out.1, HRE.out.2]; rfl, HBW.out.trans (HB2.out.mono HBW.out.size)⟩
  · have HRE : Hid (roundErr ps rs f = progErr ps rs ∧ factsB ps rs f = ⟨#[]⟩) := by
      have h0 : roundErr ps rs f = progErr ps rs := by unfold roundErr; simp [hpe]
      refine ⟨h0, ?_⟩
      unfold factsB
      rw [h0, if_neg hpe]
    have hpe' : (progErr ps rs != 0) = true := by simp [hpe]
    go_wp2_with fail
    go_ret2
    exact ⟨by rw [HRE.out.1, HRE.out.2]; rfl, HBW.out.trans (HB1.out.mono HBW.out.size)⟩
end Go.Proofs.YtlfccloaoopadafGreatDoor.Text
