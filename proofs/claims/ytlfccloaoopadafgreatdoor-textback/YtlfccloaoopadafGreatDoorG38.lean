/-
  The law 'what is shown is read as it was', walked.
-/
import Derived.Test.YtlfccloaoopadafGreatDoorG32
import Derived.Test.YtlfccloaoopadafGreatDoorG36
import Derived.Test.YtlfccloaoopadafGreatDoorG14
namespace Go.Proofs.YtlfccloaoopadafGreatDoor.Text
open Go.ChangeShapes Go.WideShapes Go.ChangeAt Go.RowKit
open Prog (progErr small)

theorem read_shown {ps : List Prd} {rs : List Rul} (h : progErr ps rs = 0) (hz : (progB ps rs).size ≤ 4096) : readErr (bl (progB ps rs)) = 0 ∧ readOf (bl (progB ps rs)) = some (ps, rs) := by
  have h1 : devL (bl (progB ps rs)) = some (ps, rs) := dev_iff.2 ⟨h, (bl_prog _ _).symm⟩
  unfold readErr readOf
  rw [bl_size, if_neg (by omega), if_neg (by omega), h1]
  exact ⟨rfl, rfl⟩
/-- what was read is right, and is shown as it was -/
theorem shown_read {s : List UInt8} (h : readErr s = 0) : ∃ ps rs, readOf s = some (ps, rs) ∧ progErr ps rs = 0 ∧ progB ps rs = mk s := by
  unfold readErr at h
  unfold readOf
  by_cases hl : 4096 < s.length
  · rw [if_pos hl] at h
    cases h
  · rw [if_neg hl] at h ⊢
    cases hd : devL s with
    | none => rw [hd] at h; cases h
    | some x =>
      obtain ⟨ps, rs⟩ := x
      obtain ⟨h1, h2⟩ := dev_iff.1 hd
      refine ⟨ps, rs, rfl, h1, bl_inj ?_⟩
      rw [bl_prog, bl_mk, h2]
theorem small_right {ps : List Prd} {rs : List Rul} (h : progErr ps rs = 0) : small ps := fun q hq => by have := (right_of h).name q hq; omega
set_option maxRecDepth 100000 in
set_option maxHeartbeats 16000000 in
theorem lawBack_walk (w : World) (pv rv : Value) (S : ByteArray) (ps : List Prd) (rs : List Rul) (hp : predsAt w pv ps) (hr : rulesAt w rv rs) (hn : small ps) (hs : S.size ≤ 9223372036854775807) :
    Calls Tryz.prog 5 #[.agg #[pv, rv], .string S] w fun e w' => e = .returned (.bool true) ∧ Below w.heap.size w w' := by
  have HSH : Hid (∀ x, Below w.heap.size w x → Calls Tryz.prog 6 #[.agg #[pv, rv]] x fun e w' => e = .returned (.tuple #[.string (showB ps rs), .int .i64 (progErr ps rs)]) ∧ Below x.heap.size x w') := fun x hx => devShow_c x pv rv ps rs (predsAt.lasts hx hp) (rulesAt.lasts hx hr) hn
  have HMO : Hid (∀ x, Below w.heap.size w x → Calls Tryz.prog 16 #[.agg #[pv, rv]] x fun e w' => ∃ u, e = .returned (.tuple #[u, .int .i64 (progErr ps rs)]) ∧ factsAt w' u (Naive.modelF ps rs) ∧ Below x.heap.size x w') := fun x hx => Naive.devModel_c x pv rv ps rs (predsAt.lasts hx hp) (rulesAt.lasts hx hr) hn
  have HPR : Hid (∀ x, Below w.heap.size w x → predsAt x pv ps ∧ rulesAt x rv rs) := fun x hx => ⟨predsAt.lasts hx hp, rulesAt.lasts hx hr⟩
  obtain ⟨pa, pc, rfl, _⟩ := hp
  obtain ⟨ra, rc, rfl, _⟩ := hr
  obtain ⟨W1, hW1⟩ : ∃ W1, w.alloc (.cells #[.slice pa ps.length pc, .slice ra rs.length rc] 25) = W1 := ⟨_, rfl⟩
  have b1 : Below w.heap.size w W1 := by rw [← hW1]; exact below_alloc _ _
  have c0 : W1.cell? ⟨w.heap.size, 0, none⟩ = some (.slice pa ps.length pc) := by rw [← hW1]; simp [go_sem]
  have c1 : W1.cell? ⟨w.heap.size, 1, none⟩ = some (.slice ra rs.length rc) := by rw [← hW1]; simp [go_sem]
  have hsz : w.heap.size < W1.heap.size := by rw [← hW1]; simp
  have HC1 : Hid (∀ x, Below W1.heap.size W1 x → x.cell? ⟨w.heap.size, 0, none⟩ = some (.slice pa ps.length pc) ∧ x.cell? ⟨w.heap.size, 1, none⟩ = some (.slice ra rs.length rc)) := fun x hx => ⟨(cell_lasts hx hsz).trans c0, (cell_lasts hx hsz).trans c1⟩
  go_enter Tryz.func5, Tryz.ntmps5
  go_wp2_with fail
  clear hW1 c0 c1
  refine (HSH.out W1 b1).mono ?_
  rintro e w1 ⟨rfl, k1⟩
  have kw1 : Below w.heap.size w w1 := b1.trans (k1.mono b1.size)
  by_cases hpe : progErr ps rs = 0
  · have HT : Hid (showB ps rs = progB ps rs) := by show _ = _; unfold showB; rw [if_pos hpe]
    rw [HT.out, hpe]
    by_cases hz : (progB ps rs).size ≤ 4096
    · have HRS := hid (read_shown hpe hz)
      have HPE := hid hpe
      have hz' : ((progB ps rs).size : Int) ≤ 4096 := by omega
      obtain ⟨T, hT⟩ : ∃ T, progB ps rs = T := ⟨_, rfl⟩
      have HC := read_c w1 (bl T) (by rw [bl_size, ← hT]; omega)
      rw [mk_bl, ← hT, HRS.out.1, HRS.out.2, hT] at HC
      rw [hT] at hz hz' ⊢
      clear hpe hT HT HRS
      go_wp2_with fail
      refine HC.mono ?_
      clear HC
      rintro e w2 ⟨qv, sv, rfl, hown, hb2⟩
      have k2 : Below W1.heap.size W1 w2 := k1.trans (hb2.mono k1.size)
      have hq2 := hown.1.at
      have hs2 := hown.2.at
      simp only at hq2 hs2
      obtain ⟨qa, qc, rfl, _⟩ := id hq2
      obtain ⟨sa, sc, rfl, _⟩ := id hs2
      clear hown hb2
      obtain ⟨W3, hW3⟩ : ∃ W3, w2.alloc (.cells #[.slice qa ps.length qc, .slice sa rs.length sc] 25) = W3 := ⟨_, rfl⟩
      have hb3 : Below w2.heap.size w2 W3 := by rw [← hW3]; exact below_alloc _ _
      have k3 : Below W1.heap.size W1 W3 := k2.trans (hb3.mono k2.size)
      have e0 : W3.cell? ⟨w2.heap.size, 0, none⟩ = some (.slice qa ps.length qc) := by rw [← hW3]; simp [go_sem]
      have e1 : W3.cell? ⟨w2.heap.size, 1, none⟩ = some (.slice sa rs.length sc) := by rw [← hW3]; simp [go_sem]
      have hl3 : w2.heap.size < W3.heap.size := by rw [← hW3]; simp
      have HQ : Hid (∀ x, Below W3.heap.size W3 x → (x.cell? ⟨w2.heap.size, 0, none⟩ = some (.slice qa ps.length qc) ∧ x.cell? ⟨w2.heap.size, 1, none⟩ = some (.slice sa rs.length sc)) ∧ predsAt x (.slice qa ps.length qc) ps ∧ rulesAt x (.slice sa rs.length sc) rs ∧ (x.cell? ⟨w.heap.size, 0, none⟩ = some (.slice pa ps.length pc) ∧ x.cell? ⟨w.heap.size, 1, none⟩ = some (.slice ra rs.length rc)) ∧ Below w.heap.size w x) := fun x hx => by
        have hx2 : Below w2.heap.size w2 x := hb3.trans (hx.mono hb3.size)
        have hx1 : Below W1.heap.size W1 x := k3.trans (hx.mono k3.size)
        exact ⟨⟨(cell_lasts hx hl3).trans e0, (cell_lasts hx hl3).trans e1⟩, predsAt.lasts hx2 hq2, rulesAt.lasts hx2 hs2, HC1.out x hx1, b1.trans (hx1.mono b1.size)⟩
      have HMX : Hid (∀ x, Below W3.heap.size W3 x → Calls Tryz.prog 16 #[.agg #[.slice qa ps.length qc, .slice sa rs.length sc]] x fun e w' => ∃ u, e = .returned (.tuple #[u, .int .i64 (progErr ps rs)]) ∧ factsAt w' u (Naive.modelF ps rs) ∧ Below x.heap.size x w') := fun x hx => Naive.devModel_c x _ _ ps rs (HQ.out x hx).2.1 (HQ.out x hx).2.2.1 hn
      have HC := HMO.out W3 (HQ.out W3 (Below.refl _ _)).2.2.2.2
      rw [HPE.out] at HC
      obtain ⟨d0, d1⟩ := (HQ.out W3 (Below.refl _ _)).2.2.2.1
      clear hq2 hs2 hb3 k2 k1 kw1
      go_wp2_with fail
      clear d0 d1 e0 e1 hW3
      refine HC.mono ?_
      clear HC
      rintro e w4 ⟨mv, rfl, hm4, hb4⟩
      have HC := HMX.out w4 hb4
      rw [HPE.out] at HC
      obtain ⟨e0, e1⟩ := (HQ.out w4 hb4).1
      go_wp2_with fail
      clear e0 e1
      refine HC.mono ?_
      clear HC
      rintro e w5 ⟨nv, rfl, hm5, hb5⟩
      have k5 : Below W3.heap.size W3 w5 := hb4.trans (hb5.mono hb4.size)
      obtain ⟨e0, e1⟩ := (HQ.out w5 k5).1
      obtain ⟨d0, d1⟩ := (HQ.out w5 k5).2.2.2.1
      have hm4' := factsAt.lasts hb5 hm4
      have HSP : Hid (Calls Tryz.prog 11 #[.agg #[.slice qa ps.length qc, .slice sa rs.length sc], .agg #[.slice pa ps.length pc, .slice ra rs.length rc]] w5 fun e w' => e = .returned (.bool true) ∧ Below w5.heap.size w5 w') := by
        have := Sum.sameProgs_c w5 _ _ (.slice pa ps.length pc) (.slice ra rs.length rc) ps ps rs (HQ.out w5 k5).2.1 (HPR.out w5 (HQ.out w5 k5).2.2.2.2).1 (HQ.out w5 k5).2.2.1 (HPR.out w5 (HQ.out w5 k5).2.2.2.2).2
        rw [show decide (ps = ps) = true by simp] at this
        exact this
      have HSF : Hid (∀ x, Below w5.heap.size w5 x → Calls Tryz.prog 17 #[mv, nv] x fun e w' => e = .returned (.bool true) ∧ Below x.heap.size x w') := fun x hx => by
        have := Base.sameFacts_c x mv nv _ _ (factsAt.lasts hx hm4') (factsAt.lasts hx hm5)
        rw [show decide (Naive.modelF ps rs = Naive.modelF ps rs) = true by simp] at this
        exact this
      obtain ⟨ma, mc, rfl, _⟩ := id hm4
      obtain ⟨na, nc, rfl, _⟩ := id hm5
      have HK5 := hid k5
      clear hb4 hb5 hm4 hm5 hm4' k5
      go_wp2_with fail
      refine HSP.out.mono ?_
      rintro e w6 ⟨rfl, hb6⟩
      have k6 : Below W3.heap.size W3 w6 := HK5.out.trans (hb6.mono HK5.out.size)
      clear e0 e1 d0 d1
      go_wp2_with fail
      refine (HSF.out w6 hb6).mono ?_
      rintro e w7 ⟨rfl, hb7⟩
      have kw7 : Below w.heap.size w w7 := (HQ.out w7 (k6.trans (hb7.mono k6.size))).2.2.2.2
      clear hb6 hb7 k6
      go_wp2_with fail
      have HC := read_c w7 (bl S) (by rw [bl_size]; exact hs)
      rw [mk_bl] at HC
      refine HC.mono ?_
      clear HC
      rintro e y1 ⟨pv, rv, rfl, hown, hby⟩
      have ky : Below w.heap.size w y1 := kw7.trans (hby.mono kw7.size)
      clear hby
      by_cases he : readErr (bl S) = 0
      · obtain ⟨qs, us, h1, h2, h3⟩ := shown_read he
        rw [h1] at hown
        rw [mk_bl] at h3
        have hp1 := hown.1.at
        have hr1 := hown.2.at
        simp only at hp1 hr1
        obtain ⟨qa, qc, rfl, _⟩ := id hp1
        obtain ⟨ua, uc, rfl, _⟩ := id hr1
        have hbA := below_alloc y1 (.cells #[.slice qa qs.length qc, .slice ua us.length uc] 25)
        have HC := devShow_c (y1.alloc (.cells #[.slice qa qs.length qc, .slice ua us.length uc] 25)) _ _ qs us (predsAt.lasts hbA hp1) (rulesAt.lasts hbA hr1) (small_right h2)
        rw [h2, show showB qs us = S by unfold showB; rw [if_pos h2, h3]] at HC
        have kA := hid (ky.trans (hbA.mono ky.size))
        have hSS : (S.toList == S.toList) = true := by simp
        rw [he]
        clear hown hp1 hr1 h1 h2 h3 he hbA
        go_wp2_with fail
        refine HC.mono ?_
        clear HC
        rintro e y2 ⟨rfl, hb2⟩
        have k2 := hid (kA.out.trans (hb2.mono kA.out.size))
        clear hb2
        go_wp2_with fail
        refine (textBegun_c y2).mono ?_
        rintro e y3 ⟨rfl, hb3⟩
        have HB := hid (k2.out.trans (hb3.mono k2.out.size))
        clear hb3
        go_wp2_with fail
        go_ret
        exact ⟨rfl, HB.out⟩
      · have he' : (readErr (bl S) != 0) = true := by simp [he]
        have hno : pv = .slice none 0 0 ∧ rv = .slice none 0 0 := by
          have h0 : readOf (bl S) = none := by
            unfold readErr at he
            unfold readOf
            split
            · rfl
            · rename_i hl
              rw [if_neg hl] at he
              cases hd : devL (bl S) with
              | none => rfl
              | some x => rw [hd] at he; exact absurd rfl he
          rw [h0] at hown
          exact hown
        obtain ⟨rfl, rfl⟩ := hno
        have kA := hid (ky.trans ((below_alloc y1 (.cells #[.slice none 0 0, .slice none 0 0] 25)).mono ky.size))
        clear hown
        generalize readErr (bl S) = E at *
        clear he
        go_wp2_with fail
        refine (textBegun_c _).mono ?_
        rintro e y3 ⟨rfl, hb3⟩
        have HB := hid (kA.out.trans (hb3.mono kA.out.size))
        clear hb3
        go_wp2_with fail
        go_ret
        exact ⟨rfl, HB.out⟩
    · have hz' : ¬ ((progB ps rs).size : Int) ≤ 4096 := by omega
      generalize progB ps rs = T at *
      clear hpe HT
      go_wp2_with fail
      have HC := read_c w1 (bl S) (by rw [bl_size]; exact hs)
      rw [mk_bl] at HC
      refine HC.mono ?_
      clear HC
      rintro e y1 ⟨pv, rv, rfl, hown, hby⟩
      have ky : Below w.heap.size w y1 := kw1.trans (hby.mono kw1.size)
      clear hby
      by_cases he : readErr (bl S) = 0
      · obtain ⟨qs, us, h1, h2, h3⟩ := shown_read he
        rw [h1] at hown
        rw [mk_bl] at h3
        have hp1 := hown.1.at
        have hr1 := hown.2.at
        simp only at hp1 hr1
        obtain ⟨qa, qc, rfl, _⟩ := id hp1
        obtain ⟨ua, uc, rfl, _⟩ := id hr1
        have hbA := below_alloc y1 (.cells #[.slice qa qs.length qc, .slice ua us.length uc] 25)
        have HC := devShow_c (y1.alloc (.cells #[.slice qa qs.length qc, .slice ua us.length uc] 25)) _ _ qs us (predsAt.lasts hbA hp1) (rulesAt.lasts hbA hr1) (small_right h2)
        rw [h2, show showB qs us = S by unfold showB; rw [if_pos h2, h3]] at HC
        have kA := hid (ky.trans (hbA.mono ky.size))
        have hSS : (S.toList == S.toList) = true := by simp
        rw [he]
        clear hown hp1 hr1 h1 h2 h3 he hbA
        go_wp2_with fail
        refine HC.mono ?_
        clear HC
        rintro e y2 ⟨rfl, hb2⟩
        have k2 := hid (kA.out.trans (hb2.mono kA.out.size))
        clear hb2
        go_wp2_with fail
        refine (textBegun_c y2).mono ?_
        rintro e y3 ⟨rfl, hb3⟩
        have HB := hid (k2.out.trans (hb3.mono k2.out.size))
        clear hb3
        go_wp2_with fail
        go_ret
        exact ⟨rfl, HB.out⟩
      · have he' : (readErr (bl S) != 0) = true := by simp [he]
        have hno : pv = .slice none 0 0 ∧ rv = .slice none 0 0 := by
          have h0 : readOf (bl S) = none := by
            unfold readErr at he
            unfold readOf
            split
            · rfl
            · rename_i hl
              rw [if_neg hl] at he
              cases hd : devL (bl S) with
              | none => rfl
              | some x => rw [hd] at he; exact absurd rfl he
          rw [h0] at hown
          exact hown
        obtain ⟨rfl, rfl⟩ := hno
        have kA := hid (ky.trans ((below_alloc y1 (.cells #[.slice none 0 0, .slice none 0 0] 25)).mono ky.size))
        clear hown
        generalize readErr (bl S) = E at *
        clear he
        go_wp2_with fail
        refine (textBegun_c _).mono ?_
        rintro e y3 ⟨rfl, hb3⟩
        have HB := hid (kA.out.trans (hb3.mono kA.out.size))
        clear hb3
        go_wp2_with fail
        go_ret
        exact ⟨rfl, HB.out⟩
  · have hpe' : (progErr ps rs == 0) = false := by rw [beq_eq_false_iff_ne]; exact hpe
    generalize progErr ps rs = E at *
    generalize showB ps rs = T at *
    clear hpe
    go_wp2_with fail
    have HC := read_c w1 (bl S) (by rw [bl_size]; exact hs)
    rw [mk_bl] at HC
    refine HC.mono ?_
    clear HC
    rintro e y1 ⟨pv, rv, rfl, hown, hby⟩
    have ky : Below w.heap.size w y1 := kw1.trans (hby.mono kw1.size)
    clear hby
    by_cases he : readErr (bl S) = 0
    · obtain ⟨qs, us, h1, h2, h3⟩ := shown_read he
      rw [h1] at hown
      rw [mk_bl] at h3
      have hp1 := hown.1.at
      have hr1 := hown.2.at
      simp only at hp1 hr1
      obtain ⟨qa, qc, rfl, _⟩ := id hp1
      obtain ⟨ua, uc, rfl, _⟩ := id hr1
      have hbA := below_alloc y1 (.cells #[.slice qa qs.length qc, .slice ua us.length uc] 25)
      have HC := devShow_c (y1.alloc (.cells #[.slice qa qs.length qc, .slice ua us.length uc] 25)) _ _ qs us (predsAt.lasts hbA hp1) (rulesAt.lasts hbA hr1) (small_right h2)
      rw [h2, show showB qs us = S by unfold showB; rw [if_pos h2, h3]] at HC
      have kA := hid (ky.trans (hbA.mono ky.size))
      have hSS : (S.toList == S.toList) = true := by simp
      rw [he]
      clear hown hp1 hr1 h1 h2 h3 he hbA
      go_wp2_with fail
      refine HC.mono ?_
      clear HC
      rintro e y2 ⟨rfl, hb2⟩
      have k2 := hid (kA.out.trans (hb2.mono kA.out.size))
      clear hb2
      go_wp2_with fail
      refine (textBegun_c y2).mono ?_
      rintro e y3 ⟨rfl, hb3⟩
      have HB := hid (k2.out.trans (hb3.mono k2.out.size))
      clear hb3
      go_wp2_with fail
      go_ret
      exact ⟨rfl, HB.out⟩
    · have he' : (readErr (bl S) != 0) = true := by simp [he]
      have hno : pv = .slice none 0 0 ∧ rv = .slice none 0 0 := by
        have h0 : readOf (bl S) = none := by
          unfold readErr at he
          unfold readOf
          split
          · rfl
          · rename_i hl
            rw [if_neg hl] at he
            cases hd : devL (bl S) with
            | none => rfl
            | some x => rw [hd] at he; exact absurd rfl he
        rw [h0] at hown
        exact hown
      obtain ⟨rfl, rfl⟩ := hno
      have kA := hid (ky.trans ((below_alloc y1 (.cells #[.slice none 0 0, .slice none 0 0] 25)).mono ky.size))
      clear hown
      generalize readErr (bl S) = E at *
      clear he
      go_wp2_with fail
      refine (textBegun_c _).mono ?_
      rintro e y3 ⟨rfl, hb3⟩
      have HB := hid (kA.out.trans (hb3.mono kA.out.size))
      clear hb3
      go_wp2_with fail
      go_ret
      exact ⟨rfl, HB.out⟩
end Go.Proofs.YtlfccloaoopadafGreatDoor.Text
