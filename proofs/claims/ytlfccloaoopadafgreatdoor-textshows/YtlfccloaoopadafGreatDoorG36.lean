/-
  The law 'Show and Read answer just what the document says', walked.
-/
import Derived.Test.YtlfccloaoopadafGreatDoorG33
import Derived.Test.YtlfccloaoopadafGreatDoorG35
import Derived.Test.YtlfccloaoopadafGreatDoorG15
namespace Go.Proofs.YtlfccloaoopadafGreatDoor.Text
open Go.ChangeShapes Go.WideShapes Go.ChangeAt Go.RowKit
open Prog (progErr small)

theorem predsAt_none (w : World) : predsAt w (.slice none 0 0) [] := Sum.predsAt_own (base := 0) (e := 47) (l := []) ⟨rfl, .inl ⟨rfl, rfl⟩⟩ (by decide)
theorem OwnRs_none (n : Nat) (w : World) : OwnRs n w (.slice none 0 0) [] := ⟨[], rfl, by simp, ⟨rfl, .inl ⟨rfl, rfl⟩⟩, fun x hx => absurd hx (List.not_mem_nil)⟩
/-- a program of the call's own, or none: it lies there as a program -/
theorem OwnProg.at {n : Nat} {w : World} {pv rv : Value} {x : Option (List Prd × List Rul)} (h : OwnProg n w pv rv x) : predsAt w pv (x.getD ([], [])).1 ∧ rulesAt w rv (x.getD ([], [])).2 := by
  cases x with
  | none =>
    obtain ⟨rfl, rfl⟩ := h
    exact ⟨predsAt_none w, (OwnRs_none 0 w).at⟩
  | some x => exact ⟨h.1.at, h.2.at⟩
theorem read_long {s : List UInt8} (h : 4096 < s.length) : readErr s = 2 ∧ readOf s = none := by
  unfold readErr readOf
  rw [if_pos h, if_pos h]
  exact ⟨rfl, rfl⟩
theorem read_short {s : List UInt8} (h : ¬ 4096 < s.length) : readErr s = (if (readL s).isSome then 0 else 1) ∧ readOf s = readL s := by
  unfold readErr readOf
  rw [if_neg h, if_neg h, dev_read]
  cases readL s <;> exact ⟨rfl, rfl⟩
set_option maxRecDepth 100000 in
set_option maxHeartbeats 16000000 in
theorem lawShows_walk (w : World) (pv rv : Value) (S : ByteArray) (ps : List Prd) (rs : List Rul) (hp : predsAt w pv ps) (hr : rulesAt w rv rs) (hn : small ps) (hs : S.size ≤ 9223372036854775807) :
    Calls Tryz.prog 3 #[.agg #[pv, rv], .string S] w fun e w' => e = .returned (.bool true) ∧ Below w.heap.size w w' := by
  have HSH : Hid (∀ x, Below w.heap.size w x → Calls Tryz.prog 6 #[.agg #[pv, rv]] x fun e w' => e = .returned (.tuple #[.string (showB ps rs), .int .i64 (progErr ps rs)]) ∧ Below x.heap.size x w') := fun x hx => devShow_c x pv rv ps rs (predsAt.lasts hx hp) (rulesAt.lasts hx hr) hn
  have HCP : Hid (∀ x, Below w.heap.size w x → Calls Tryz.prog 7 #[.agg #[pv, rv]] x fun e w' => e = .returned (.int .i64 (progErr ps rs)) ∧ Below x.heap.size x w') := fun x hx => Prog.checkProg_c x pv rv ps rs (predsAt.lasts hx hp) (rulesAt.lasts hx hr) hn
  have HPT : Hid (∀ x, progErr ps rs = 0 → Below w.heap.size w x → Calls Tryz.prog 8 #[.agg #[pv, rv]] x fun e w' => e = .returned (.string (progB ps rs)) ∧ Below x.heap.size x w') := fun x h hx => progText_c x pv rv ps rs (predsAt.lasts hx hp) (rulesAt.lasts hx hr) (right_of h).text
  obtain ⟨pa, pc, rfl, _⟩ := hp
  obtain ⟨ra, rc, rfl, _⟩ := hr
  obtain ⟨W1, hW1⟩ : ∃ W1, w.alloc (.cells #[.slice pa ps.length pc, .slice ra rs.length rc] 25) = W1 := ⟨_, rfl⟩
  have b1 : Below w.heap.size w W1 := by rw [← hW1]; exact below_alloc _ _
  have c0 : W1.cell? ⟨w.heap.size, 0, none⟩ = some (.slice pa ps.length pc) := by rw [← hW1]; simp [go_sem]
  have c1 : W1.cell? ⟨w.heap.size, 1, none⟩ = some (.slice ra rs.length rc) := by rw [← hW1]; simp [go_sem]
  have hsz : w.heap.size < W1.heap.size := by rw [← hW1]; simp
  have HC1 : Hid (∀ x, Below W1.heap.size W1 x → x.cell? ⟨w.heap.size, 0, none⟩ = some (.slice pa ps.length pc) ∧ x.cell? ⟨w.heap.size, 1, none⟩ = some (.slice ra rs.length rc)) := fun x hx => ⟨(cell_lasts hx hsz).trans c0, (cell_lasts hx hsz).trans c1⟩
  go_enter Tryz.func3, Tryz.ntmps3
  go_wp2_with fail
  clear hW1 c0 c1
  refine (HSH.out W1 b1).mono ?_
  rintro e w1 ⟨rfl, k1⟩
  have kw1 : Below w.heap.size w w1 := b1.trans (k1.mono b1.size)
  have HC := HCP.out w1 kw1
  obtain ⟨d0, d1⟩ := HC1.out w1 k1
  go_wp2_with fail
  clear d0 d1
  refine HC.mono ?_
  clear HC
  rintro e w2 ⟨rfl, hb2⟩
  have k2 : Below W1.heap.size W1 w2 := k1.trans (hb2.mono k1.size)
  have kw2 : Below w.heap.size w w2 := b1.trans (k2.mono b1.size)
  obtain ⟨d0, d1⟩ := HC1.out w2 k2
  obtain ⟨E, hE⟩ : ∃ E, progErr ps rs = E := ⟨_, rfl⟩
  have hEE : (E == E) = true := by simp
  by_cases hpe : progErr ps rs = 0
  case' pos =>
    obtain ⟨T, hT⟩ : ∃ T, progB ps rs = T := ⟨_, rfl⟩
    have hTT : (T.toList == T.toList) = true := by simp
    have HC := HPT.out w2 hpe kw2
    rw [hT] at HC
    rw [show showB ps rs = T by unfold showB; rw [if_pos hpe, hT], hE]
    obtain rfl : 0 = E := by rw [← hE, hpe]
    clear hpe hT hE hEE
    go_wp2_with fail
    refine HC.mono ?_
    clear HC
    rintro e w3 ⟨rfl, hb3⟩
    have HK3 : Hid (Below w.heap.size w w3) := kw2.trans (hb3.mono kw2.size)
    obtain ⟨E, hE⟩ : ∃ E : Int, 0 = E := ⟨_, rfl⟩
    go_wp2_with fail
  case' neg =>
    have hpe' : (E == 0) = false := by rw [← hE]; simp [hpe]
    have hpe2 : ¬ E = 0 := by rw [← hE]; exact hpe
    rw [show showB ps rs = ⟨#[]⟩ by unfold showB; rw [if_neg hpe], hE]
    have HK3 : Hid (Below w.heap.size w w2) := kw2
    clear hpe hE
    go_wp2_with fail
    generalize w2 = w3 at *
  all_goals
    clear d0 d1 k1 kw1 hb2 k2 kw2
    have HC := read_c w3 (bl S) (by rw [bl_size]; exact hs)
    rw [mk_bl] at HC
    refine HC.mono ?_
    clear HC
    rintro e y1 ⟨pv1, rv1, rfl, hown, hby⟩
    have ky : Below w.heap.size w y1 := HK3.out.trans (hby.mono HK3.out.size)
    clear hby
    by_cases hlong : 4096 < S.size
    · have hl2 : (4096 : Int) < (S.size : Int) := by omega
      have hre := read_long (s := bl S) (by rw [bl_size]; exact hlong)
      rw [hre.2] at hown
      obtain ⟨rfl, rfl⟩ := hown
      rw [hre.1]
      clear hre hlong
      obtain ⟨Y2, hY2⟩ : ∃ Y2, y1.alloc (.cells #[.slice none 0 0, .slice none 0 0] 25) = Y2 := ⟨_, rfl⟩
      have kY2 : Hid (Below y1.heap.size y1 Y2) := by rw [← hY2]; exact below_alloc _ _
      have kW2 : Hid (Below w.heap.size w Y2) := ky.trans (kY2.out.mono ky.size)
      have HCX : Hid (∀ x, Below Y2.heap.size Y2 x → x.cell? ⟨y1.heap.size, 0, none⟩ = some (.slice none 0 0) ∧ x.cell? ⟨y1.heap.size, 1, none⟩ = some (.slice none 0 0)) := fun x hx => by
        have hl : y1.heap.size < Y2.heap.size := by rw [← hY2]; simp
        exact ⟨(cell_lasts hx hl).trans (by rw [← hY2]; simp [go_sem]), (cell_lasts hx hl).trans (by rw [← hY2]; simp [go_sem])⟩
      have HSP : Hid (∀ x, Calls Tryz.prog 11 #[.agg #[.slice none 0 0, .slice none 0 0], .agg #[.slice none 0 0, .slice none 0 0]] x fun e w' => e = .returned (.bool true) ∧ Below x.heap.size x w') := fun x => by
        have := Sum.sameProgs_c x (.slice none 0 0) (.slice none 0 0) (.slice none 0 0) (.slice none 0 0) [] [] [] (predsAt_none x) (predsAt_none x) (OwnRs_none 0 x).at (OwnRs_none 0 x).at
        rw [show decide (([] : List Prd) = []) = true by simp] at this
        exact this
      have HY2 := hid hY2
      clear ky hY2
      go_wp2_with fail
      rw [HY2.out]
      refine (textBegun_c Y2).mono ?_
      rintro e z1 ⟨rfl, hz1⟩
      have kz1 : Hid (Below w.heap.size w z1) := kW2.out.trans (hz1.mono kW2.out.size)
      obtain ⟨c0, c1⟩ := HCX.out z1 hz1
      have HC := HSP.out z1
      clear hz1
      go_wp2_with fail
      refine HC.mono ?_
      clear HC
      rintro e z2 ⟨rfl, hz2⟩
      have HB := hid (kz1.out.trans (hz2.mono kz1.out.size))
      clear hz2 c0 c1
      go_wp2_with fail
      go_ret
      exact ⟨rfl, HB.out⟩
    · have hl2 : ¬ (4096 : Int) < (S.size : Int) := by omega
      have hre := read_short (s := bl S) (by rw [bl_size]; exact hlong)
      rw [hre.1]
      rw [hre.2] at hown
      have HC9 : Hid (∀ x, Calls Tryz.prog 12 #[.string S] x fun e w' => ∃ pv rv, e = .returned (.tuple #[.agg #[pv, rv], .bool (readL (bl S)).isSome]) ∧ OwnProg x.heap.size w' pv rv (readL (bl S)) ∧ Below x.heap.size x w') := fun x => progFrom_c x S (by omega)
      clear hre hlong
      generalize readL (bl S) = R at *
      have hat := hown.at
      clear hown
      obtain ⟨qa, qc, rfl, _⟩ := id hat.1
      obtain ⟨ua, uc, rfl, _⟩ := id hat.2
      obtain ⟨qn, hqn⟩ : ∃ qn, (R.getD ([], [])).1.length = qn := ⟨_, rfl⟩
      obtain ⟨un, hun⟩ : ∃ un, (R.getD ([], [])).2.length = un := ⟨_, rfl⟩
      rw [hqn, hun] at hat ⊢
      obtain ⟨Y2, hY2⟩ : ∃ Y2, y1.alloc (.cells #[.slice qa qn qc, .slice ua un uc] 25) = Y2 := ⟨_, rfl⟩
      have kY2 : Hid (Below y1.heap.size y1 Y2) := by rw [← hY2]; exact below_alloc _ _
      have kW2 : Hid (Below w.heap.size w Y2) := ky.trans (kY2.out.mono ky.size)
      have HCX : Hid (∀ x, Below Y2.heap.size Y2 x → x.cell? ⟨y1.heap.size, 0, none⟩ = some (.slice qa qn qc) ∧ x.cell? ⟨y1.heap.size, 1, none⟩ = some (.slice ua un uc)) := fun x hx => by
        have hl : y1.heap.size < Y2.heap.size := by rw [← hY2]; simp
        exact ⟨(cell_lasts hx hl).trans (by rw [← hY2]; simp [go_sem]), (cell_lasts hx hl).trans (by rw [← hY2]; simp [go_sem])⟩
      have HY2 := hid hY2
      have HAT : Hid (∀ x, Below Y2.heap.size Y2 x → predsAt x (.slice qa qn qc) (R.getD ([], [])).1 ∧ rulesAt x (.slice ua un uc) (R.getD ([], [])).2) := fun x hx => by
        have hb : Below y1.heap.size y1 x := kY2.out.trans (hx.mono kY2.out.size)
        exact ⟨predsAt.lasts hb hat.1, rulesAt.lasts hb hat.2⟩
      clear ky hY2 hat
      have HQN := hid hqn
      have HUN := hid hun
      clear hqn hun
      obtain ⟨b, hb⟩ : ∃ b, R.isSome = b := ⟨_, rfl⟩
      rw [hb] at HC9 ⊢
      clear hb
      cases b
      all_goals
        go_wp2_with fail
        rw [HY2.out]
        refine (HC9.out Y2).mono ?_
        rintro e v1 ⟨pv2, rv2, rfl, hown, hb1⟩
        have hat := hown.at
        clear hown
        obtain ⟨sa, sc, rfl, _⟩ := id hat.1
        obtain ⟨ta, tc, rfl, _⟩ := id hat.2
        rw [HQN.out, HUN.out] at hat ⊢
        obtain ⟨V2, hV2⟩ : ∃ V2, v1.alloc (.cells #[.slice sa qn sc, .slice ta un tc] 25) = V2 := ⟨_, rfl⟩
        have kV2 : Hid (Below v1.heap.size v1 V2) := by rw [← hV2]; exact below_alloc _ _
        have kYV : Hid (Below Y2.heap.size Y2 V2) := hb1.trans (kV2.out.mono hb1.size)
        have kWV : Hid (Below w.heap.size w V2) := kW2.out.trans (kYV.out.mono kW2.out.size)
        have HCV : Hid (∀ x, Below V2.heap.size V2 x → x.cell? ⟨v1.heap.size, 0, none⟩ = some (.slice sa qn sc) ∧ x.cell? ⟨v1.heap.size, 1, none⟩ = some (.slice ta un tc)) := fun x hx => by
          have hl : v1.heap.size < V2.heap.size := by rw [← hV2]; simp
          exact ⟨(cell_lasts hx hl).trans (by rw [← hV2]; simp [go_sem]), (cell_lasts hx hl).trans (by rw [← hV2]; simp [go_sem])⟩
        have HCXV : Hid (∀ x, Below V2.heap.size V2 x → x.cell? ⟨y1.heap.size, 0, none⟩ = some (.slice qa qn qc) ∧ x.cell? ⟨y1.heap.size, 1, none⟩ = some (.slice ua un uc)) := fun x hx => HCX.out x (kYV.out.trans (hx.mono kYV.out.size))
        have HSP : Hid (∀ x, Below V2.heap.size V2 x → Calls Tryz.prog 11 #[.agg #[.slice qa qn qc, .slice ua un uc], .agg #[.slice sa qn sc, .slice ta un tc]] x fun e w' => e = .returned (.bool true) ∧ Below x.heap.size x w') := fun x hx => by
          have h1 := HAT.out x (kYV.out.trans (hx.mono kYV.out.size))
          have hb : Below v1.heap.size v1 x := kV2.out.trans (hx.mono kV2.out.size)
          have := Sum.sameProgs_c x _ _ _ _ _ _ _ h1.1 (predsAt.lasts hb hat.1) h1.2 (rulesAt.lasts hb hat.2)
          rw [show decide ((R.getD ([], [])).1 = (R.getD ([], [])).1) = true by simp] at this
          exact this
        have HV2 := hid hV2
        clear hV2 hat hb1
        go_wp2_with fail
        rw [HV2.out]
        refine (textBegun_c V2).mono ?_
        rintro e z1 ⟨rfl, hz1⟩
        have kz1 : Hid (Below w.heap.size w z1) := kWV.out.trans (hz1.mono kWV.out.size)
        obtain ⟨c0, c1⟩ := HCXV.out z1 hz1
        obtain ⟨d0, d1⟩ := HCV.out z1 hz1
        have HC := HSP.out z1 hz1
        clear hz1
        go_wp2_with fail
        refine HC.mono ?_
        clear HC
        rintro e z2 ⟨rfl, hz2⟩
        have HB := hid (kz1.out.trans (hz2.mono kz1.out.size))
        clear hz2 c0 c1 d0 d1
        go_wp2_with fail
        go_ret
        exact ⟨rfl, HB.out⟩
end Go.Proofs.YtlfccloaoopadafGreatDoor.Text
