/-
  The document's own reading of a program.
-/
import Derived.Deep.AppendLies
import Derived.Deep.CutRange
import Derived.Test.YtlfccloaoopadafGreatDoorG34
import Derived.Test.YtlfccloaoopadafGreatDoorG29
import Derived.Test.YtlfccloaoopadafGreatDoorG15
namespace Go.Proofs.YtlfccloaoopadafGreatDoor.Text
open Go.ChangeShapes Go.WideShapes Go.ChangeAt Go.RowKit
open Go.Proofs.YtlfccloaoopadafGreatDoor.Sum (cellsP cellsR RV infoPred infoRule)
open Prog (progErr small)

theorem cut_less {p s : List UInt8} (hp : p ≠ []) (hs : s ≠ []) : (cutL p s).2.1.length < s.length := by
  have hl := cut_len hp s
  have h0 : 0 < s.length := List.length_pos_iff.2 hs
  cases hc : (cutL p s).2.2 with
  | true => have := hl.2.2 hc; omega
  | false =>
    have : (cutL p s).2.1 = [] := by
      cases s with
      | nil => rfl
      | cons b s =>
        rw [cutL] at hc ⊢
        split at hc
        · cases hc
        · split at hc
          · cases hc
          · rename_i h6
            simp [h6]
    rw [this]
    exact h0
theorem str_empty (A : ByteArray) : A.toList.isEmpty = decide (bl A = []) := by
  have h := str_eq A ⟨#[]⟩
  rw [show (⟨#[]⟩ : ByteArray).toList = [] from by unfold ByteArray.toList; rw [ByteArray.toList.loop]; rfl, show bl (⟨#[]⟩ : ByteArray) = [] from rfl] at h
  rw [← h]
  cases A.toList <;> rfl
def muS : Value → Nat
  | .string A => A.size
  | _ => 0
/-- what is gathered, and what is still to be read -/
structure LinesInv (s : ByteArray) (ps : List Prd) (rvs : List RV) (A : ByteArray) : Prop where
  eq : progG (bl s) = linesG A.size (ps, rvs.map RV.r) (bl A)
  len : ps.length + rvs.length + A.size ≤ s.size
  names : ∀ q ∈ ps, q.name.size ≤ 4096
set_option maxRecDepth 100000 in
set_option maxHeartbeats 16000000 in
theorem progFrom_c (w : World) (s : ByteArray) (hs : s.size ≤ 4096) : Calls Tryz.prog 12 #[.string s] w fun e w' => ∃ pv rv, e = .returned (.tuple #[.agg #[pv, rv], .bool (readL (bl s)).isSome]) ∧ OwnProg w.heap.size w' pv rv (readL (bl s)) ∧ Below w.heap.size w w' := by
  obtain ⟨W2, hW2⟩ : ∃ W2, (w.alloc (.cells #[.slice none 0 0, .slice none 0 0] 25)).alloc (.cells #[.slice none 0 0, .slice none 0 0] 25) = W2 := ⟨_, rfl⟩
  have HF0 : Hid (PFrom w (w.heap.size + 1) W2 [] (.slice none 0 0) [] (.slice none 0 0)) := by
    have hb1 : Below w.heap.size w (w.alloc (.cells #[.slice none 0 0, .slice none 0 0] 25)) := below_alloc _ _
    have hx1 : boxQ (w.alloc (.cells #[.slice none 0 0, .slice none 0 0] 25)) w.heap.size (.slice none 0 0) (.slice none 0 0) := heap_alloc_new w _
    have hb2 : Below (w.alloc (.cells #[.slice none 0 0, .slice none 0 0] 25)).heap.size (w.alloc (.cells #[.slice none 0 0, .slice none 0 0] 25)) W2 := by rw [← hW2]; exact below_alloc _ _
    refine ⟨?_, hx1.lasts hb2, ⟨by simp, rfl, .inl ⟨rfl, rfl⟩⟩, ⟨rfl, .inl ⟨rfl, rfl⟩⟩, (fun x hx => absurd hx (List.not_mem_nil)), hb1.trans (hb2.mono hb1.size)⟩
    rw [← hW2, ← World.size_alloc w (.cells #[.slice none 0 0, .slice none 0 0] 25)]
    exact heap_alloc_new _ _
  go_enter Tryz.func12, Tryz.ntmps12
  go_wp2_with fail
  clear hW2
  obtain ⟨N, hN⟩ : ∃ N, w.heap.size + 1 = N := ⟨_, rfl⟩
  have hN1 : w.heap.size < N := by omega
  rw [hN] at HF0 ⊢
  clear hN
  go_loopw [5] (fun a wr => ∃ (ps : List Prd) (pv : Value) (rvs : List RV) (u : Value) (A : ByteArray), a = .string A ∧ Hid (PFrom w N wr ps pv rvs u) ∧ Hid (LinesInv s ps rvs A)) (fun a _ => muS a)
  case atStart => exact ⟨[], _, [], _, s, rfl, HF0, ⟨by unfold progG; rw [bl_size]; rfl, by simp, fun q hq => absurd hq (List.not_mem_nil)⟩⟩
  case round =>
    clear HF0
    obtain ⟨ps, pv, rvs, u, A, rfl, HI, hin⟩ := hrel
    by_cases h0 : bl A = []
    · have hb : A.toList.isEmpty = true := by rw [str_empty]; simp [h0]
      have HG : Hid (progG (bl s) = (ps, rvs.map RV.r)) := by
        show _ = _
        rw [hin.out.eq, h0]
        cases A.size <;> rfl
      have hA := hin.out.len
      have HLE : Hid (ps.length ≤ 4096 ∧ rvs.length ≤ 4096) := ⟨by omega, by omega⟩
      have HNS : Hid (small ps) := fun q hq => by have := hin.out.names q hq; omega
      have HOR : Hid (OwnRs w.heap.size wr u (rvs.map RV.r)) := ⟨rvs, rfl, HLE.out.2, HI.out.own, HI.out.rules⟩
      obtain ⟨rs, hrs⟩ : ∃ rs, rvs.map RV.r = rs := ⟨_, rfl⟩
      have hrl : rvs.length = rs.length := by rw [← hrs, List.length_map]
      rw [hrs] at HG HOR
      have HC := Prog.checkProg_c wr pv u ps rs HI.out.preds.at HOR.out.at HNS.out
      have HOP := hid HI.out.preds
      have HBX := hid HI.out.box
      have HOU := hid HI.out.out
      have HBE := hid HI.out.below
      obtain ⟨pa, pc, rfl⟩ := own_val HOP.out.2
      obtain ⟨ua, uc, rfl⟩ := own_val HI.out.own
      rw [hrl] at HC HOR HBX
      clear hrs HI hin hA HLE hrl
      obtain ⟨c0, c1, f0, f1⟩ := HBX.out.cells
      go_wp2_with fail
      refine HC.mono ?_
      clear HC
      rintro e w4 ⟨rfl, hb4⟩
      have HBX4 := hid (HBX.out.lasts hb4)
      have HOU4 := hid (HOU.out.lasts hb4)
      have HBE4 : Hid (Below w.heap.size w w4) := HBE.out.trans (hb4.mono HBE.out.size)
      have HOP4 : Hid (OwnP w.heap.size w4 (.slice pa ps.length pc) ps) := HOP.out.ty (KeepsTy.below hb4)
      have HOR4 : Hid (OwnRs w.heap.size w4 (.slice ua rs.length uc) rs) := HOR.out.ty (KeepsTy.below hb4) (KeepsTy.below hb4) (KeepsTy.below hb4)
      clear hb4 HBX HOU HBE HOP HOR c0 c1 f0 f1
      obtain ⟨c0, c1, f0, f1⟩ := HBX4.out.cells
      by_cases hpe : progErr ps rs = 0
      · have HPE := hid hpe
        rw [hpe]
        have HC := progText_c w4 _ _ ps rs HOP4.out.at HOR4.out.at (right_of hpe).text
        clear hpe
        go_wp2_with fail
        refine HC.mono ?_
        clear HC
        rintro e w5 ⟨rfl, hb5⟩
        have HOU5 := hid (HOU4.out.lasts hb5)
        have HBX5 := hid (HBX4.out.lasts hb5)
        have HBE5 : Hid (Below w.heap.size w w5) := HBE4.out.trans (hb5.mono HBE4.out.size)
        have HOP5 : Hid (OwnP w.heap.size w5 (.slice pa ps.length pc) ps) := HOP4.out.ty (KeepsTy.below hb5)
        have HOR5 : Hid (OwnRs w.heap.size w5 (.slice ua rs.length uc) rs) := HOR4.out.ty (KeepsTy.below hb5) (KeepsTy.below hb5) (KeepsTy.below hb5)
        clear hb5 HBX4 HOU4 HBE4 HOP4 HOR4 c0 c1 f0 f1
        obtain ⟨c0, c1, f0, f1⟩ := HBX5.out.cells
        obtain ⟨d0, d1, g0, g1⟩ := HOU5.out.cells
        have HB9 : Hid (∀ u v, Below w.heap.size w ((w5.setCell ⟨w.heap.size, 0, none⟩ u).setCell ⟨w.heap.size, 1, none⟩ v)) := fun u v => (HBE5.out.setCell (p := ⟨w.heap.size, 0, none⟩) (Nat.le_refl _) _).setCell (p := ⟨w.heap.size, 1, none⟩) (Nat.le_refl _) _
        have heq := str_eq (progB ps rs) s
        rw [bl_prog] at heq
        by_cases hsame : progL ps rs = bl s
        · have HE : Hid (readL (bl s) = some (ps, rs)) := by
            show _ = _
            unfold readL
            rw [HG.out, if_pos ⟨HPE.out, hsame⟩]
          have hbb : ((progB ps rs).toList == s.toList) = true := by rw [heq]; simp [hsame]
          have hbn : ((progB ps rs).toList != s.toList) = false := by rw [bne, hbb]; rfl
          have HOP9 : Hid (∀ u v, OwnP w.heap.size ((w5.setCell ⟨w.heap.size, 0, none⟩ u).setCell ⟨w.heap.size, 1, none⟩ v) (.slice pa ps.length pc) ps ∧ OwnRs w.heap.size ((w5.setCell ⟨w.heap.size, 0, none⟩ u).setCell ⟨w.heap.size, 1, none⟩ v) (.slice ua rs.length uc) rs) := fun u v => by
            have kk : ∀ e, 25 ≠ e → KeepsTy e w.heap.size w5 ((w5.setCell ⟨w.heap.size, 0, none⟩ u).setCell ⟨w.heap.size, 1, none⟩ v) := fun e he => (KeepsTy.set HOU5.out he).trans (KeepsTy.set (HOU5.out.set0 u) he)
            exact ⟨HOP5.out.ty (kk _ (by decide)), HOR5.out.ty (kk _ (by decide)) (kk _ (by decide)) (kk _ (by decide))⟩
          clear hsame heq
          go_wp2_with fail
          exact bodyPost_ret (v := .tuple #[.agg #[.slice pa ps.length pc, .slice ua rs.length uc], .bool true]) (by simp [results, Tryz.results12, go_sem, d0, d1]) rfl ⟨_, _, by rw [HE.out]; rfl, by rw [HE.out]; exact HOP9.out _ _, HB9.out _ _⟩
        · have HE : Hid (readL (bl s) = none) := by
            show _ = _
            unfold readL
            rw [HG.out, if_neg (fun h => hsame h.2)]
          have hbb : ((progB ps rs).toList == s.toList) = false := by rw [heq]; simp [hsame]
          have hbn : ((progB ps rs).toList != s.toList) = true := by rw [bne, hbb]; rfl
          clear hsame heq
          go_wp2_with fail
          exact bodyPost_ret (v := .tuple #[.agg #[.slice none 0 0, .slice none 0 0], .bool false]) (by simp [results, Tryz.results12, go_sem, d0, d1]) rfl ⟨_, _, by rw [HE.out]; rfl, by rw [HE.out]; exact ⟨rfl, rfl⟩, HB9.out _ _⟩
      · have HE : Hid (readL (bl s) = none) := by
          show _ = _
          unfold readL
          rw [HG.out, if_neg (fun h => hpe h.1)]
        have hpe' : (progErr ps rs != 0) = true := by simp [hpe]
        have hpe2 : (progErr ps rs == 0) = false := by simp [hpe]
        obtain ⟨d0, d1, g0, g1⟩ := HOU4.out.cells
        have HB9 : Hid (∀ u v, Below w.heap.size w ((w4.setCell ⟨w.heap.size, 0, none⟩ u).setCell ⟨w.heap.size, 1, none⟩ v)) := fun u v => (HBE4.out.setCell (p := ⟨w.heap.size, 0, none⟩) (Nat.le_refl _) _).setCell (p := ⟨w.heap.size, 1, none⟩) (Nat.le_refl _) _
        go_wp2_with fail
        exact bodyPost_ret (v := .tuple #[.agg #[.slice none 0 0, .slice none 0 0], .bool false]) (by simp [results, Tryz.results12, go_sem, d0, d1]) rfl ⟨_, _, by rw [HE.out]; rfl, by rw [HE.out]; exact ⟨rfl, rfl⟩, HB9.out _ _⟩
    · have hb : A.toList.isEmpty = false := by rw [str_empty]; simp [h0]
      have hA := hin.out.len
      have hlen := cut_len (p := [10]) (by simp) (bl A)
      have hless := cut_less (p := [10]) (by simp) h0
      rw [bl_size] at hlen hless
      have HC := cut_c wr A ⟨#[10]⟩ (by decide) (by decide) (by omega)
      rw [show bl (⟨#[10]⟩ : ByteArray) = [10] from rfl] at HC
      have HLG : Hid (progG (bl s) = linesG (cutL [10] (bl A)).2.1.length (lineG (ps, rvs.map RV.r) (cutL [10] (bl A)).1) (cutL [10] (bl A)).2.1) := by
        show _ = _
        obtain ⟨m, hm⟩ : ∃ m, A.size = m + 1 := ⟨A.size - 1, by omega⟩
        rw [hin.out.eq, hm, linesG, if_neg h0]
        exact lines_fuel _ _ _ _ (by omega) (Nat.le_refl _)
      generalize cutL [10] (bl A) = x at *
      obtain ⟨ln, a1, b1⟩ := x
      simp only at hlen hless HC HLG
      go_wp2_with fail
      refine HC.mono ?_
      clear HC
      rintro e w5 ⟨rfl, hb5⟩
      have HI5 := hid (HI.out.lasts hb5)
      clear hb5 HI
      obtain ⟨LN, hLN⟩ : ∃ LN, mk ln = LN := ⟨_, rfl⟩
      have HLN : Hid (bl LN = ln) := by rw [← hLN]; exact bl_mk _
      have hLNz : LN.size ≤ 4096 := by rw [← hLN, mk_size]; omega
      rw [hLN]
      clear hLN
      have HC := cut_c w5 LN ⟨#[32]⟩ (by decide) (by decide) (by omega)
      rw [show bl (⟨#[32]⟩ : ByteArray) = [32] from rfl, HLN.out] at HC
      have hlen2 := cut_len (p := [32]) (by simp) ln
      have HPG : Hid (isPredG ln = ((cutL [32] ln).2.2 && decide ((cutL [32] ln).1 = [112, 114, 101, 100]) && decide ((cutL [32] ln).2.1 ≠ []) && decide ((cutL [32] ln).2.1.head? ≠ some 58) && decide ((cutL [32] ln).2.1.head? ≠ some 61))) := rfl
      have HLI : Hid (lineG (ps, rvs.map RV.r) ln = if isPredG ln then (ps ++ [predG (cutL [32] ln).2.1], rvs.map RV.r) else (ps, rvs.map RV.r ++ [ruleG ps ln.dropLast])) := rfl
      generalize cutL [32] ln = x at *
      obtain ⟨tw, mo, b2⟩ := x
      simp only at hlen2 HC HPG HLI
      go_wp2_with fail
      refine HC.mono ?_
      clear HC
      rintro e w6 ⟨rfl, hb6⟩
      have HI6 := hid (HI5.out.lasts hb6)
      clear hb6 HI5
      go_upto_region 7 with fail
      obtain ⟨TW, hTW⟩ : ∃ TW, mk tw = TW := ⟨_, rfl⟩
      have HTW : Hid (bl TW = tw) := by rw [← hTW]; exact bl_mk _
      obtain ⟨MO, hMO⟩ : ∃ MO, mk mo = MO := ⟨_, rfl⟩
      have HMO : Hid (bl MO = mo) := by rw [← hMO]; exact bl_mk _
      have hMOz : MO.size ≤ 4096 := by rw [← hMO, mk_size]; have h9 := hlen2.2.1; have h8 := hlen.1; omega
      rw [hTW, hMO]
      clear hTW hMO
      go_cut [50] from 17 to 90 (fun c wx => c = .bool (isPredG ln) ∧ wx = w6)
      case first =>
        cases b2 with
        | false =>
          have hp : isPredG ln = false := by rw [HPG.out]; rfl
          go_wp2_with fail
          go_meet
          exact ⟨by rw [hp], rfl⟩
        | true =>
          by_cases ht : tw = [112, 114, 101, 100]
          · have hbt : (TW.toList == [112, 114, 101, 100]) = true := by rw [ByteArray.toList_eq, show TW.data.toList = tw from HTW.out, ht]; rfl
            by_cases hm0 : MO.size = 0
            · have hm0' : ¬ (0 : Int) < (MO.size : Int) := by omega
              have hp : isPredG ln = false := by
                have h9 := bl_size MO
                rw [HMO.out, hm0] at h9
                rw [HPG.out, List.eq_nil_of_length_eq_zero h9]
                simp
              go_wp2_with fail
              go_meet
              exact ⟨by rw [hp], rfl⟩
            · have hm0' : (0 : Int) < (MO.size : Int) := by omega
              have hm0n : 0 < MO.size := by omega
              have hh := bl_fst hm0n
              rw [HMO.out] at hh
              have hne : mo ≠ [] := by rintro rfl; cases hh
              by_cases h58 : MO[0] = 58
              · have h58' : (MO[0].toNat : Int) = 58 := by rw [h58]; rfl
                have hp : isPredG ln = false := by rw [HPG.out, hh, h58]; simp
                go_wp2_with fail
                go_meet
                exact ⟨by rw [hp], rfl⟩
              · have h58' : ((MO[0].toNat : Int) == 58) = false := by
                  rw [beq_eq_false_iff_ne]
                  intro e
                  exact h58 (UInt8.toNat_inj.1 (by have : (58 : UInt8).toNat = 58 := rfl; omega))
                by_cases h61 : MO[0] = 61
                · have h61' : (MO[0].toNat : Int) = 61 := by rw [h61]; rfl
                  have hp : isPredG ln = false := by rw [HPG.out, hh, h61]; simp
                  go_wp2_with fail
                  go_meet
                  exact ⟨by rw [hp], rfl⟩
                · have h61' : ((MO[0].toNat : Int) == 61) = false := by
                    rw [beq_eq_false_iff_ne]
                    intro e
                    exact h61 (UInt8.toNat_inj.1 (by have : (61 : UInt8).toNat = 61 := rfl; omega))
                  have h58n : ¬ (MO[0].toNat : Int) = 58 := by simpa using h58'
                  have h61n : ¬ (MO[0].toNat : Int) = 61 := by simpa using h61'
                  have h58m : ((MO[0].toNat : Int) != 58) = true := by simp only [bne, h58']; rfl
                  have h61m : ((MO[0].toNat : Int) != 61) = true := by simp only [bne, h61']; rfl
                  have hp : isPredG ln = true := by rw [HPG.out, hh, ht]; simp [hne, h58, h61]
                  go_wp2_with fail
                  go_meet
                  exact ⟨by rw [hp], rfl⟩
          · have hp : isPredG ln = false := by rw [HPG.out]; simp [ht]
            have hbt : (TW.toList == [112, 114, 101, 100]) = false := by rw [ByteArray.toList_eq, show TW.data.toList = tw from HTW.out]; simp [ht]
            go_wp2_with fail
            go_meet
            exact ⟨by rw [hp], rfl⟩
      case rest =>
        obtain ⟨rfl, rfl⟩ := hcut
        have HMEA : Hid (muS (.string (mk a1)) < muS (.string A)) := by
          show (mk a1).size < A.size
          rw [mk_size]
          omega
        cases hp : isPredG ln with
        | true =>
          clear HPG
          have HC := cut_c wc MO ⟨#[32]⟩ (by decide) (by decide) (by omega)
          rw [show bl (⟨#[32]⟩ : ByteArray) = [32] from rfl, HMO.out] at HC
          have hlen3 := cut_len (p := [32]) (by simp) mo
          have HQ : Hid (predG mo = ⟨mk (cutL [32] mo).1, saidL (cutL [32] (cutL [32] mo).2.1).1, saidL (cutL [32] (cutL [32] mo).2.1).2.1⟩) := rfl
          have HMZ : Hid (mo.length ≤ 4096) := by show _ ≤ _; rw [← HMO.out, bl_size]; exact hMOz
          generalize cutL [32] mo = x at *
          obtain ⟨nm, t3, b3⟩ := x
          simp only at hlen3 HC HQ
          go_wp2_with fail
          refine HC.mono ?_
          clear HC
          rintro e w7 ⟨rfl, hb7⟩
          have HI7 := hid (HI6.out.lasts hb7)
          clear hb7 HI6
          have HC := cut_c w7 (mk t3) ⟨#[32]⟩ (by decide) (by decide) (by rw [mk_size]; have := HMZ.out; omega)
          rw [show bl (⟨#[32]⟩ : ByteArray) = [32] from rfl, bl_mk] at HC
          have hlen4 := cut_len (p := [32]) (by simp) t3
          generalize cutL [32] t3 = x at *
          obtain ⟨d1, d2, b4⟩ := x
          simp only at hlen4 HC HQ
          go_wp2_with fail
          refine HC.mono ?_
          clear HC
          rintro e w8 ⟨rfl, hb8⟩
          have HI8 := hid (HI7.out.lasts hb8)
          clear hb8 HI7
          go_wp2_with fail
          have HS1 : Hid (Calls Tryz.prog 39 #[.string (mk d1)] w8.drew fun e w' => e = .returned (.int .i64 (saidL d1)) ∧ w' = w8.drew) := by
            have h := said_c w8.drew (mk d1) (by rw [mk_size]; have := HMZ.out; omega)
            rw [bl_mk] at h
            exact h
          have HS2 : Hid (Calls Tryz.prog 39 #[.string (mk d2)] w8.drew fun e w' => e = .returned (.int .i64 (saidL d2)) ∧ w' = w8.drew) := by
            have h := said_c w8.drew (mk d2) (by rw [mk_size]; have := HMZ.out; omega)
            rw [bl_mk] at h
            exact h
          have HREL : Hid (LinesInv s (ps ++ [⟨mk nm, saidL d1, saidL d2⟩]) rvs (mk a1)) := by
            refine ⟨?_, ?_, ?_⟩
            · rw [HLG.out, HLI.out, hp, if_pos rfl, HQ.out, mk_size, bl_mk]
            · rw [List.length_append, List.length_singleton, mk_size]
              omega
            · intro q hq
              rcases List.mem_append.1 hq with hq | hq
              · exact hin.out.names q hq
              · rw [List.mem_singleton] at hq
                subst hq
                show (mk nm).size ≤ 4096
                rw [mk_size]
                have := HMZ.out
                omega
          have hps : ps.length < 4096 := by omega
          generalize saidL d1 = n1 at *
          generalize saidL d2 = n2 at *
          generalize mk nm = NM at *
          have HV : Hid (PFrom w N (w8.drew.alloc (.cells #[.string NM, .int .i64 n1, .int .i64 n2] 47)) ps pv rvs u) := (HI8.out.lasts ((Below.refl _ _).drew)).lasts (below_alloc _ _)
          have q5 : w8.drew.cell? ⟨N, 0, none⟩ = some pv := HI8.out.box.cells.1
          have qV : (w8.alloc (.cells #[.string NM, .int .i64 n1, .int .i64 n2] 47)).cell? ⟨N, 0, none⟩ = some pv := HV.out.box.cells.1
          have HSE : Hid (w.heap.size ≤ w8.drew.heap.size) := HI8.out.below.size
          obtain ⟨i0, hi0, hz0, hz1, hz2⟩ := info_parts infoPred
          refine wp_region_noPanic ?_
          refine wp_region_held_drew (S := (fun _ : World => True)) (by kernel_rfl) trivial (fun hHeld => ?_)
          refine wpAnyH_take (i := 0) (v := ?_) rfl (by kernel_rfl) (by kernel_rfl) (by kernel_rfl) (fun _ _ _ h => h) (Or.inl ⟨by rfl, ?_⟩) (by assumption) ?_
          rotate_left
          · (intro w hSw; go_simp; try with_reducible rfl)
          simp only [Act.put]
          refine wpAnyH_take (i := 2) (v := ?_) rfl (by kernel_rfl) (by kernel_rfl) (by kernel_rfl) (fun _ _ _ h => h) (Or.inl ⟨by rfl, ?_⟩) (by assumption) ?_
          rotate_left
          · (intro w hSw; go_simp; try with_reducible rfl)
          simp only [Act.put]
          refine wpAnyH_take (i := 3) (v := ?_) rfl (by kernel_rfl) (by kernel_rfl) (by kernel_rfl) (fun _ _ _ h => h) (Or.inl ⟨by rfl, ?_⟩) (by assumption) ?_
          rotate_left
          · (intro w hSw; go_simp; try with_reducible rfl)
          simp only [Act.put]
          refine wpAnyH_take (i := 5) (v := ?_) rfl (by kernel_rfl) (by kernel_rfl) (by kernel_rfl) (fun _ _ _ h => h) (Or.inl ⟨by rfl, ?_⟩) (by assumption) ?_
          rotate_left
          · (intro w hSw; go_simp; try with_reducible rfl)
          simp only [Act.put]
          refine wpAnyH_ready (rs := [1, 4]) (by kernel_rfl) (by simp) ?_
          refine AllReadyH.cons rfl (fun K hK => ?_) ?_
          · go_simp
            refine hK.out _ _ trivial (fun hHeld => ?_)
            clear hK K
            try simp only [Act.put, List.setIfInBounds_toArray, List.set_cons_zero, List.set_cons_succ]
            refine wpAnyH_ready (rs := [4]) (by kernel_rfl) (by simp) ?_
            refine AllReadyH.cons rfl (fun K hK => ?_) AllReadyH.nil
            go_simp
            refine HS1.out.mono ?_
            rintro e w9 ⟨rfl, hw9⟩
            obtain rfl := hw9.symm
            refine hK.out _ _ trivial (fun hHeld => ?_)
            clear hK K
            try simp only [Act.put, List.setIfInBounds_toArray, List.set_cons_zero, List.set_cons_succ]
            refine wpAnyH_ready (rs := [6]) (by kernel_rfl) (by simp) ?_
            refine AllReadyH.cons rfl (fun K hK => ?_) AllReadyH.nil
            go_simp
            refine HS2.out.mono ?_
            rintro e w9 ⟨rfl, hw9⟩
            obtain rfl := hw9.symm
            refine hK.out _ _ trivial (fun hHeld => ?_)
            clear hK K
            try simp only [Act.put, List.setIfInBounds_toArray, List.set_cons_zero, List.set_cons_succ]
            refine wpAnyH_take (i := 7) (v := ?_) rfl (by kernel_rfl) (by kernel_rfl) (by kernel_rfl) (fun _ _ _ h => h) (Or.inl ⟨by rfl, ?_⟩) (by assumption) ?_
            rotate_left
            · (intro w hSw; go_simp; try with_reducible rfl)
            simp only [Act.put]
            refine wpAnyH_ready (rs := [8]) (by kernel_rfl) (by simp) ?_
            refine AllReadyH.cons rfl (fun K hK => ?_) AllReadyH.nil
            go_simp
            refine hK.out _ _ trivial (fun hHeld => ?_)
            clear hK K
            try simp only [Act.put, List.setIfInBounds_toArray, List.set_cons_zero, List.set_cons_succ]
            refine wpAnyH_ready (rs := [9]) (by kernel_rfl) (by simp) ?_
            refine AllReadyH.cons rfl (fun K hK => ?_) AllReadyH.nil
            refine step_append_lies _ (by rfl) _ _ 22 (by rfl) w.heap.size 47 i0 (.agg #[.string ByteArray.empty, .int .i64 0, .int .i64 0]) 3 32 Tryz.underlying22 hi0 hz0 hz1 hz2 (by rfl) (by omega) pv ps.length (cellsP ps) (by rfl) HV.out.preds.2 ⟨w8.drew.heap.size, 0, none⟩ 1 1 [.string NM, .int .i64 n1, .int .i64 n2] (by rfl) (by rfl) new_cells3 (by intro u hu; simp at hu; rcases hu with rfl | rfl | rfl <;> rfl) (by omega) (by unfold maxLen; omega) (by omega) (by show w.heap.size ≤ (w8.alloc _).heap.size; rw [World.size_alloc]; exact Nat.le_succ_of_le HSE.out) (w8.drew.heap.size + 1) (World.size_alloc _ _) ?_
            intro g9 cap9 W9 hown9 hgrow9 hat9 hlt9
            obtain ⟨c1, c2, HN9⟩ := predF_next (q := ⟨NM, n1, n2⟩) hN1 HV.out hps (by exact hgrow9) (by exact hown9)
            clear hat9 hlt9 hown9 hgrow9
            refine hK.out _ _ trivial (fun hHeld => ?_)
            clear hK K
            try simp only [Act.put, List.setIfInBounds_toArray]
            refine wpAnyH_take (i := 10) (v := ?_) rfl (by kernel_rfl) (by kernel_rfl) (by kernel_rfl) (fun _ _ _ h => h) (Or.inl ⟨by rfl, ?_⟩) (by assumption) ?_
            rotate_left
            · (intro w hSw; go_simp; try with_reducible rfl)
            simp only [Act.put]
            refine wpAnyH_ready (rs := [11]) (by kernel_rfl) (by simp) ?_
            refine AllReadyH.cons rfl (fun K hK => ?_) AllReadyH.nil
            go_simp
            refine hK.out _ _ trivial (fun hHeld => ?_)
            clear hK K
            try simp only [Act.put, List.setIfInBounds_toArray, List.set_cons_zero, List.set_cons_succ]
            refine wpAnyH_done (by kernel_rfl) ?_ _
            refine NoPanic.normal ?_
            clear c1 c2 q5 qV
            go_wp2_with fail
            go_roundw
            case rel => exact ⟨_, _, _, _, _, rfl, HN9, HREL⟩
            case measure => exact HMEA.out
          · refine AllReadyH.cons rfl (fun K hK => ?_) AllReadyH.nil
            go_simp
            refine HS1.out.mono ?_
            rintro e w9 ⟨rfl, hw9⟩
            obtain rfl := hw9.symm
            refine hK.out _ _ trivial (fun hHeld => ?_)
            clear hK K
            try simp only [Act.put, List.setIfInBounds_toArray, List.set_cons_zero, List.set_cons_succ]
            refine wpAnyH_ready (rs := [1, 6]) (by kernel_rfl) (by simp) ?_
            refine AllReadyH.cons rfl (fun K hK => ?_) ?_
            · go_simp
              refine hK.out _ _ trivial (fun hHeld => ?_)
              clear hK K
              try simp only [Act.put, List.setIfInBounds_toArray, List.set_cons_zero, List.set_cons_succ]
              refine wpAnyH_ready (rs := [6]) (by kernel_rfl) (by simp) ?_
              refine AllReadyH.cons rfl (fun K hK => ?_) AllReadyH.nil
              go_simp
              refine HS2.out.mono ?_
              rintro e w9 ⟨rfl, hw9⟩
              obtain rfl := hw9.symm
              refine hK.out _ _ trivial (fun hHeld => ?_)
              clear hK K
              try simp only [Act.put, List.setIfInBounds_toArray, List.set_cons_zero, List.set_cons_succ]
              refine wpAnyH_take (i := 7) (v := ?_) rfl (by kernel_rfl) (by kernel_rfl) (by kernel_rfl) (fun _ _ _ h => h) (Or.inl ⟨by rfl, ?_⟩) (by assumption) ?_
              rotate_left
              · (intro w hSw; go_simp; try with_reducible rfl)
              simp only [Act.put]
              refine wpAnyH_ready (rs := [8]) (by kernel_rfl) (by simp) ?_
              refine AllReadyH.cons rfl (fun K hK => ?_) AllReadyH.nil
              go_simp
              refine hK.out _ _ trivial (fun hHeld => ?_)
              clear hK K
              try simp only [Act.put, List.setIfInBounds_toArray, List.set_cons_zero, List.set_cons_succ]
              refine wpAnyH_ready (rs := [9]) (by kernel_rfl) (by simp) ?_
              refine AllReadyH.cons rfl (fun K hK => ?_) AllReadyH.nil
              refine step_append_lies _ (by rfl) _ _ 22 (by rfl) w.heap.size 47 i0 (.agg #[.string ByteArray.empty, .int .i64 0, .int .i64 0]) 3 32 Tryz.underlying22 hi0 hz0 hz1 hz2 (by rfl) (by omega) pv ps.length (cellsP ps) (by rfl) HV.out.preds.2 ⟨w8.drew.heap.size, 0, none⟩ 1 1 [.string NM, .int .i64 n1, .int .i64 n2] (by rfl) (by rfl) new_cells3 (by intro u hu; simp at hu; rcases hu with rfl | rfl | rfl <;> rfl) (by omega) (by unfold maxLen; omega) (by omega) (by show w.heap.size ≤ (w8.alloc _).heap.size; rw [World.size_alloc]; exact Nat.le_succ_of_le HSE.out) (w8.drew.heap.size + 1) (World.size_alloc _ _) ?_
              intro g9 cap9 W9 hown9 hgrow9 hat9 hlt9
              obtain ⟨c1, c2, HN9⟩ := predF_next (q := ⟨NM, n1, n2⟩) hN1 HV.out hps (by exact hgrow9) (by exact hown9)
              clear hat9 hlt9 hown9 hgrow9
              refine hK.out _ _ trivial (fun hHeld => ?_)
              clear hK K
              try simp only [Act.put, List.setIfInBounds_toArray]
              refine wpAnyH_take (i := 10) (v := ?_) rfl (by kernel_rfl) (by kernel_rfl) (by kernel_rfl) (fun _ _ _ h => h) (Or.inl ⟨by rfl, ?_⟩) (by assumption) ?_
              rotate_left
              · (intro w hSw; go_simp; try with_reducible rfl)
              simp only [Act.put]
              refine wpAnyH_ready (rs := [11]) (by kernel_rfl) (by simp) ?_
              refine AllReadyH.cons rfl (fun K hK => ?_) AllReadyH.nil
              go_simp
              refine hK.out _ _ trivial (fun hHeld => ?_)
              clear hK K
              try simp only [Act.put, List.setIfInBounds_toArray, List.set_cons_zero, List.set_cons_succ]
              refine wpAnyH_done (by kernel_rfl) ?_ _
              refine NoPanic.normal ?_
              clear c1 c2 q5 qV
              go_wp2_with fail
              go_roundw
              case rel => exact ⟨_, _, _, _, _, rfl, HN9, HREL⟩
              case measure => exact HMEA.out
            · refine AllReadyH.cons rfl (fun K hK => ?_) AllReadyH.nil
              go_simp
              refine HS2.out.mono ?_
              rintro e w9 ⟨rfl, hw9⟩
              obtain rfl := hw9.symm
              refine hK.out _ _ trivial (fun hHeld => ?_)
              clear hK K
              try simp only [Act.put, List.setIfInBounds_toArray, List.set_cons_zero, List.set_cons_succ]
              refine wpAnyH_take (i := 7) (v := ?_) rfl (by kernel_rfl) (by kernel_rfl) (by kernel_rfl) (fun _ _ _ h => h) (Or.inl ⟨by rfl, ?_⟩) (by assumption) ?_
              rotate_left
              · (intro w hSw; go_simp; try with_reducible rfl)
              simp only [Act.put]
              refine wpAnyH_ready (rs := [1, 8]) (by kernel_rfl) (by simp) ?_
              refine AllReadyH.cons rfl (fun K hK => ?_) ?_
              · go_simp
                refine hK.out _ _ trivial (fun hHeld => ?_)
                clear hK K
                try simp only [Act.put, List.setIfInBounds_toArray, List.set_cons_zero, List.set_cons_succ]
                refine wpAnyH_ready (rs := [8]) (by kernel_rfl) (by simp) ?_
                refine AllReadyH.cons rfl (fun K hK => ?_) AllReadyH.nil
                go_simp
                refine hK.out _ _ trivial (fun hHeld => ?_)
                clear hK K
                try simp only [Act.put, List.setIfInBounds_toArray, List.set_cons_zero, List.set_cons_succ]
                refine wpAnyH_ready (rs := [9]) (by kernel_rfl) (by simp) ?_
                refine AllReadyH.cons rfl (fun K hK => ?_) AllReadyH.nil
                refine step_append_lies _ (by rfl) _ _ 22 (by rfl) w.heap.size 47 i0 (.agg #[.string ByteArray.empty, .int .i64 0, .int .i64 0]) 3 32 Tryz.underlying22 hi0 hz0 hz1 hz2 (by rfl) (by omega) pv ps.length (cellsP ps) (by rfl) HV.out.preds.2 ⟨w8.drew.heap.size, 0, none⟩ 1 1 [.string NM, .int .i64 n1, .int .i64 n2] (by rfl) (by rfl) new_cells3 (by intro u hu; simp at hu; rcases hu with rfl | rfl | rfl <;> rfl) (by omega) (by unfold maxLen; omega) (by omega) (by show w.heap.size ≤ (w8.alloc _).heap.size; rw [World.size_alloc]; exact Nat.le_succ_of_le HSE.out) (w8.drew.heap.size + 1) (World.size_alloc _ _) ?_
                intro g9 cap9 W9 hown9 hgrow9 hat9 hlt9
                obtain ⟨c1, c2, HN9⟩ := predF_next (q := ⟨NM, n1, n2⟩) hN1 HV.out hps (by exact hgrow9) (by exact hown9)
                clear hat9 hlt9 hown9 hgrow9
                refine hK.out _ _ trivial (fun hHeld => ?_)
                clear hK K
                try simp only [Act.put, List.setIfInBounds_toArray]
                refine wpAnyH_take (i := 10) (v := ?_) rfl (by kernel_rfl) (by kernel_rfl) (by kernel_rfl) (fun _ _ _ h => h) (Or.inl ⟨by rfl, ?_⟩) (by assumption) ?_
                rotate_left
                · (intro w hSw; go_simp; try with_reducible rfl)
                simp only [Act.put]
                refine wpAnyH_ready (rs := [11]) (by kernel_rfl) (by simp) ?_
                refine AllReadyH.cons rfl (fun K hK => ?_) AllReadyH.nil
                go_simp
                refine hK.out _ _ trivial (fun hHeld => ?_)
                clear hK K
                try simp only [Act.put, List.setIfInBounds_toArray, List.set_cons_zero, List.set_cons_succ]
                refine wpAnyH_done (by kernel_rfl) ?_ _
                refine NoPanic.normal ?_
                clear c1 c2 q5 qV
                go_wp2_with fail
                go_roundw
                case rel => exact ⟨_, _, _, _, _, rfl, HN9, HREL⟩
                case measure => exact HMEA.out
              · refine AllReadyH.cons rfl (fun K hK => ?_) AllReadyH.nil
                go_simp
                refine hK.out _ _ trivial (fun hHeld => ?_)
                clear hK K
                try simp only [Act.put, List.setIfInBounds_toArray, List.set_cons_zero, List.set_cons_succ]
                refine wpAnyH_ready (rs := [1]) (by kernel_rfl) (by simp) ?_
                refine AllReadyH.cons rfl (fun K hK => ?_) AllReadyH.nil
                go_simp
                refine hK.out _ _ trivial (fun hHeld => ?_)
                clear hK K
                try simp only [Act.put, List.setIfInBounds_toArray, List.set_cons_zero, List.set_cons_succ]
                refine wpAnyH_ready (rs := [9]) (by kernel_rfl) (by simp) ?_
                refine AllReadyH.cons rfl (fun K hK => ?_) AllReadyH.nil
                refine step_append_lies _ (by rfl) _ _ 22 (by rfl) w.heap.size 47 i0 (.agg #[.string ByteArray.empty, .int .i64 0, .int .i64 0]) 3 32 Tryz.underlying22 hi0 hz0 hz1 hz2 (by rfl) (by omega) pv ps.length (cellsP ps) (by rfl) HV.out.preds.2 ⟨w8.drew.heap.size, 0, none⟩ 1 1 [.string NM, .int .i64 n1, .int .i64 n2] (by rfl) (by rfl) new_cells3 (by intro u hu; simp at hu; rcases hu with rfl | rfl | rfl <;> rfl) (by omega) (by unfold maxLen; omega) (by omega) (by show w.heap.size ≤ (w8.alloc _).heap.size; rw [World.size_alloc]; exact Nat.le_succ_of_le HSE.out) (w8.drew.heap.size + 1) (World.size_alloc _ _) ?_
                intro g9 cap9 W9 hown9 hgrow9 hat9 hlt9
                obtain ⟨c1, c2, HN9⟩ := predF_next (q := ⟨NM, n1, n2⟩) hN1 HV.out hps (by exact hgrow9) (by exact hown9)
                clear hat9 hlt9 hown9 hgrow9
                refine hK.out _ _ trivial (fun hHeld => ?_)
                clear hK K
                try simp only [Act.put, List.setIfInBounds_toArray]
                refine wpAnyH_take (i := 10) (v := ?_) rfl (by kernel_rfl) (by kernel_rfl) (by kernel_rfl) (fun _ _ _ h => h) (Or.inl ⟨by rfl, ?_⟩) (by assumption) ?_
                rotate_left
                · (intro w hSw; go_simp; try with_reducible rfl)
                simp only [Act.put]
                refine wpAnyH_ready (rs := [11]) (by kernel_rfl) (by simp) ?_
                refine AllReadyH.cons rfl (fun K hK => ?_) AllReadyH.nil
                go_simp
                refine hK.out _ _ trivial (fun hHeld => ?_)
                clear hK K
                try simp only [Act.put, List.setIfInBounds_toArray, List.set_cons_zero, List.set_cons_succ]
                refine wpAnyH_done (by kernel_rfl) ?_ _
                refine NoPanic.normal ?_
                clear c1 c2 q5 qV
                go_wp2_with fail
                go_roundw
                case rel => exact ⟨_, _, _, _, _, rfl, HN9, HREL⟩
                case measure => exact HMEA.out
        | false =>
          clear HPG
          by_cases hz0 : LN.size = 0
          case' pos =>
            have hz0' : ¬ (0 : Int) < (LN.size : Int) := by omega
            obtain ⟨LL, hLL⟩ : ∃ LL, LL = LN := ⟨_, rfl⟩
            have HLL : Hid (bl LL = ln.dropLast ∧ LL.size ≤ 4096) := by
              rw [hLL]
              refine ⟨?_, hLNz⟩
              have h9 := bl_size LN
              rw [HLN.out, hz0] at h9
              rw [HLN.out, List.eq_nil_of_length_eq_zero h9]
              rfl
            go_wp2_with fail
            subst hLL
            clear hz0 hz0'
          case' neg =>
            have hz0' : (0 : Int) < (LN.size : Int) := by omega
            have hz0n : 0 < LN.size := by omega
            have hsub : (LN.size : Int) - 1 = ((LN.size - 1 : Nat) : Int) := by omega
            obtain ⟨LL, hLL⟩ : ∃ LL, LN.extract 0 (LN.size - 1) = LL := ⟨_, rfl⟩
            have HLL : Hid (bl LL = ln.dropLast ∧ LL.size ≤ 4096) := by
              have h9 : bl LL = ln.dropLast := by rw [← hLL, bl_take, HLN.out, List.dropLast_eq_take, ← HLN.out, bl_size]
              refine ⟨h9, ?_⟩
              rw [← bl_size, h9, List.length_dropLast, ← HLN.out, bl_size]
              omega
            go_wp2_with fail
            clear hLL hsub hz0 hz0' hz0n
          all_goals
            obtain ⟨r, hr⟩ : ∃ r, ruleG ps ln.dropLast = r := ⟨_, rfl⟩
            have HT : Hid (Calls Tryz.prog 40 #[pv, .string LL] wc.drew fun e w' => ∃ v, e = .returned v ∧ RuleV wc.drew.heap.size r v w' ∧ Below wc.drew.heap.size wc.drew w') := by
              have h := ruleFrom_c wc.drew pv ps LL (HI6.out.lasts ((Below.refl _ _).drew)).preds.at HLL.out.2
              rw [HLL.out.1, hr] at h
              exact h
            have HREL : Hid (∀ hv bv, LinesInv s ps (rvs ++ [⟨r, hv, bv⟩]) (mk a1)) := by
              intro hv bv
              refine ⟨?_, ?_, hin.out.names⟩
              · rw [HLG.out, HLI.out, hp, if_neg (by simp), hr, mk_size, bl_mk]
                simp
              · rw [List.length_append, List.length_singleton, mk_size]
                omega
            clear hr
            have HAFT : Hid (∀ w7 hv bv, Below wc.drew.heap.size wc.drew w7 → OwnA wc.drew.heap.size w7 hv r.head.args → OwnB wc.drew.heap.size w7 bv r.body → w7.cell? ⟨N, 1, none⟩ = some u ∧ (w7.alloc (.cells #[.int .i64 r.head.pred, hv, .int .i64 r.src, .int .i64 r.n, bv] 54)).cell? ⟨N, 1, none⟩ = some u ∧ w7.cell? ⟨N, 0, none⟩ = some pv ∧ (w7.alloc (.cells #[.int .i64 r.head.pred, hv, .int .i64 r.src, .int .i64 r.n, bv] 54)).cell? ⟨N, 0, none⟩ = some pv ∧ Hid (PFrom w N (w7.alloc (.cells #[.int .i64 r.head.pred, hv, .int .i64 r.src, .int .i64 r.n, bv] 54)) ps pv rvs u) ∧ Hid (OwnA w.heap.size (w7.alloc (.cells #[.int .i64 r.head.pred, hv, .int .i64 r.src, .int .i64 r.n, bv] 54)) hv r.head.args) ∧ Hid (OwnB w.heap.size (w7.alloc (.cells #[.int .i64 r.head.pred, hv, .int .i64 r.src, .int .i64 r.n, bv] 54)) bv r.body) ∧ Hid (w.heap.size ≤ w7.heap.size + 1 ∧ (w7.alloc (.cells #[.int .i64 r.head.pred, hv, .int .i64 r.src, .int .i64 r.n, bv] 54)).heap.size = w7.heap.size + 1)) := fun w7 hv bv hb ho hob => by
              have h1 := (HI6.out.lasts ((Below.refl _ _).drew)).lasts hb
              have h2 := h1.lasts (below_alloc w7 (.cells #[.int .i64 r.head.pred, hv, .int .i64 r.src, .int .i64 r.n, bv] 54))
              have hle : w.heap.size ≤ wc.drew.heap.size := HI6.out.below.size
              have kb : ∀ e, KeepsTy e w.heap.size w7 (w7.alloc (.cells #[.int .i64 r.head.pred, hv, .int .i64 r.src, .int .i64 r.n, bv] 54)) := fun e => KeepsTy.below (below_alloc _ _)
              refine ⟨h1.box.cells.2.1, h2.box.cells.2.1, h1.box.cells.1, h2.box.cells.1, h2, (ho.mono hle).ty (kb _), (hob.mono hle).ty (kb _) (kb _), ?_, World.size_alloc _ _⟩
              have := h1.below.size
              omega
            have hj9 : rvs.length ≤ 4096 := by omega
            have q5 : wc.drew.cell? ⟨N, 1, none⟩ = some u := HI6.out.box.cells.2.1
            have q5' : wc.drew.cell? ⟨N, 0, none⟩ = some pv := HI6.out.box.cells.1
            obtain ⟨i0, hi0, hz0, hz1, hz2⟩ := info_parts infoRule
            refine wp_region_noPanic ?_
            refine wp_region_held_drew (S := (fun _ : World => True)) (by kernel_rfl) trivial (fun hHeld => ?_)
            refine wpAnyH_take (i := 0) (v := ?_) rfl (by kernel_rfl) (by kernel_rfl) (by kernel_rfl) (fun _ _ _ h => h) (Or.inl ⟨by rfl, ?_⟩) (by assumption) ?_
            rotate_left
            · (intro w hSw; go_simp; try with_reducible rfl)
            simp only [Act.put]
            refine wpAnyH_take (i := 2) (v := ?_) rfl (by kernel_rfl) (by kernel_rfl) (by kernel_rfl) (fun _ _ _ h => h) (Or.inl ⟨by rfl, ?_⟩) (by assumption) ?_
            rotate_left
            · (intro w hSw; go_simp; try with_reducible rfl)
            simp only [Act.put]
            refine wpAnyH_take (i := 4) (v := ?_) rfl (by kernel_rfl) (by kernel_rfl) (by kernel_rfl) (fun _ _ _ h => h) (Or.inl ⟨by rfl, ?_⟩) (by assumption) ?_
            rotate_left
            · (intro w hSw; go_simp; try with_reducible rfl)
            simp only [Act.put]
            refine wpAnyH_ready (rs := [1, 3]) (by kernel_rfl) (by simp) ?_
            refine AllReadyH.cons rfl (fun K hK => ?_) ?_
            · go_simp
              refine hK.out _ _ trivial (fun hHeld => ?_)
              clear hK K
              try simp only [Act.put, List.setIfInBounds_toArray, List.set_cons_zero, List.set_cons_succ]
              refine wpAnyH_ready (rs := [3]) (by kernel_rfl) (by simp) ?_
              refine AllReadyH.cons rfl (fun K hK => ?_) AllReadyH.nil
              go_simp
              refine hK.out _ _ trivial (fun hHeld => ?_)
              clear hK K
              try simp only [Act.put, List.setIfInBounds_toArray, List.set_cons_zero, List.set_cons_succ]
              refine wpAnyH_ready (rs := [5]) (by kernel_rfl) (by simp) ?_
              refine AllReadyH.cons rfl (fun K hK => ?_) AllReadyH.nil
              go_simp
              refine HT.out.mono ?_
              rintro e w7 ⟨v, rfl, hv7, hb7⟩
              obtain ⟨hv, bv, rfl, hoa, hob⟩ := hv7
              obtain ⟨ha, hc, rfl⟩ := own_val hoa.2
              obtain ⟨ba, bc, rfl⟩ := own_bval hob
              obtain ⟨q6, qV, q6', qV', HV, HOA, HOB, HSE⟩ := HAFT.out w7 (.slice ha r.head.args.length hc) (.slice ba r.body.length bc) hb7 hoa hob
              clear hoa hob
              refine hK.out _ _ trivial (fun hHeld => ?_)
              clear hK K
              try simp only [Act.put, List.setIfInBounds_toArray, List.set_cons_zero, List.set_cons_succ]
              refine wpAnyH_ready (rs := [6]) (by kernel_rfl) (by simp) ?_
              refine AllReadyH.cons rfl (fun K hK => ?_) AllReadyH.nil
              go_simp
              refine hK.out _ _ trivial (fun hHeld => ?_)
              clear hK K
              try simp only [Act.put, List.setIfInBounds_toArray, List.set_cons_zero, List.set_cons_succ]
              refine wpAnyH_ready (rs := [7]) (by kernel_rfl) (by simp) ?_
              refine AllReadyH.cons rfl (fun K hK => ?_) AllReadyH.nil
              refine step_append_lies _ (by rfl) _ _ 23 (by rfl) w.heap.size 54 i0 (.agg #[.int .i64 0, .slice none 0 0, .int .i64 0, .int .i64 0, .slice none 0 0]) 5 72 Tryz.underlying23 hi0 hz0 hz1 hz2 (by rfl) (by omega) u rvs.length (cellsR rvs) (by rfl) HV.out.own ⟨w7.heap.size, 0, none⟩ 1 1 [.int .i64 r.head.pred, .slice ha r.head.args.length hc, .int .i64 r.src, .int .i64 r.n, .slice ba r.body.length bc] (by rfl) (by rfl) new_cells5 (by intro u hu; simp at hu; rcases hu with rfl | rfl | rfl | rfl | rfl <;> rfl) (by omega) (by unfold maxLen; omega) (by omega) (by have := HSE.out; omega) (w7.heap.size + 1) (World.size_alloc _ _) ?_
              intro g9 cap9 W9 hown9 hgrow9 hat9 hlt9
              obtain ⟨n1, n2, HN9⟩ := ruleF_next hN1 HV.out HOA.out HOB.out (by exact hgrow9) (by exact hown9)
              clear hat9 hlt9 hown9 hgrow9
              refine hK.out _ _ trivial (fun hHeld => ?_)
              clear hK K
              try simp only [Act.put, List.setIfInBounds_toArray]
              refine wpAnyH_take (i := 8) (v := ?_) rfl (by kernel_rfl) (by kernel_rfl) (by kernel_rfl) (fun _ _ _ h => h) (Or.inl ⟨by rfl, ?_⟩) (by assumption) ?_
              rotate_left
              · (intro w hSw; go_simp; try with_reducible rfl)
              simp only [Act.put]
              refine wpAnyH_ready (rs := [9]) (by kernel_rfl) (by simp) ?_
              refine AllReadyH.cons rfl (fun K hK => ?_) AllReadyH.nil
              go_simp
              refine hK.out _ _ trivial (fun hHeld => ?_)
              clear hK K
              try simp only [Act.put, List.setIfInBounds_toArray, List.set_cons_zero, List.set_cons_succ]
              refine wpAnyH_done (by kernel_rfl) ?_ _
              refine NoPanic.normal ?_
              clear n1 n2 q5 q5' q6 qV q6' qV'
              go_wp2_with fail
              go_roundw
              case rel => exact ⟨_, _, _, _, _, rfl, HN9, HREL.out _ _⟩
              case measure => exact HMEA.out
            · refine AllReadyH.cons rfl (fun K hK => ?_) AllReadyH.nil
              go_simp
              refine hK.out _ _ trivial (fun hHeld => ?_)
              clear hK K
              try simp only [Act.put, List.setIfInBounds_toArray, List.set_cons_zero, List.set_cons_succ]
              refine wpAnyH_ready (rs := [1, 5]) (by kernel_rfl) (by simp) ?_
              refine AllReadyH.cons rfl (fun K hK => ?_) ?_
              · go_simp
                refine hK.out _ _ trivial (fun hHeld => ?_)
                clear hK K
                try simp only [Act.put, List.setIfInBounds_toArray, List.set_cons_zero, List.set_cons_succ]
                refine wpAnyH_ready (rs := [5]) (by kernel_rfl) (by simp) ?_
                refine AllReadyH.cons rfl (fun K hK => ?_) AllReadyH.nil
                go_simp
                refine HT.out.mono ?_
                rintro e w7 ⟨v, rfl, hv7, hb7⟩
                obtain ⟨hv, bv, rfl, hoa, hob⟩ := hv7
                obtain ⟨ha, hc, rfl⟩ := own_val hoa.2
                obtain ⟨ba, bc, rfl⟩ := own_bval hob
                obtain ⟨q6, qV, q6', qV', HV, HOA, HOB, HSE⟩ := HAFT.out w7 (.slice ha r.head.args.length hc) (.slice ba r.body.length bc) hb7 hoa hob
                clear hoa hob
                refine hK.out _ _ trivial (fun hHeld => ?_)
                clear hK K
                try simp only [Act.put, List.setIfInBounds_toArray, List.set_cons_zero, List.set_cons_succ]
                refine wpAnyH_ready (rs := [6]) (by kernel_rfl) (by simp) ?_
                refine AllReadyH.cons rfl (fun K hK => ?_) AllReadyH.nil
                go_simp
                refine hK.out _ _ trivial (fun hHeld => ?_)
                clear hK K
                try simp only [Act.put, List.setIfInBounds_toArray, List.set_cons_zero, List.set_cons_succ]
                refine wpAnyH_ready (rs := [7]) (by kernel_rfl) (by simp) ?_
                refine AllReadyH.cons rfl (fun K hK => ?_) AllReadyH.nil
                refine step_append_lies _ (by rfl) _ _ 23 (by rfl) w.heap.size 54 i0 (.agg #[.int .i64 0, .slice none 0 0, .int .i64 0, .int .i64 0, .slice none 0 0]) 5 72 Tryz.underlying23 hi0 hz0 hz1 hz2 (by rfl) (by omega) u rvs.length (cellsR rvs) (by rfl) HV.out.own ⟨w7.heap.size, 0, none⟩ 1 1 [.int .i64 r.head.pred, .slice ha r.head.args.length hc, .int .i64 r.src, .int .i64 r.n, .slice ba r.body.length bc] (by rfl) (by rfl) new_cells5 (by intro u hu; simp at hu; rcases hu with rfl | rfl | rfl | rfl | rfl <;> rfl) (by omega) (by unfold maxLen; omega) (by omega) (by have := HSE.out; omega) (w7.heap.size + 1) (World.size_alloc _ _) ?_
                intro g9 cap9 W9 hown9 hgrow9 hat9 hlt9
                obtain ⟨n1, n2, HN9⟩ := ruleF_next hN1 HV.out HOA.out HOB.out (by exact hgrow9) (by exact hown9)
                clear hat9 hlt9 hown9 hgrow9
                refine hK.out _ _ trivial (fun hHeld => ?_)
                clear hK K
                try simp only [Act.put, List.setIfInBounds_toArray]
                refine wpAnyH_take (i := 8) (v := ?_) rfl (by kernel_rfl) (by kernel_rfl) (by kernel_rfl) (fun _ _ _ h => h) (Or.inl ⟨by rfl, ?_⟩) (by assumption) ?_
                rotate_left
                · (intro w hSw; go_simp; try with_reducible rfl)
                simp only [Act.put]
                refine wpAnyH_ready (rs := [9]) (by kernel_rfl) (by simp) ?_
                refine AllReadyH.cons rfl (fun K hK => ?_) AllReadyH.nil
                go_simp
                refine hK.out _ _ trivial (fun hHeld => ?_)
                clear hK K
                try simp only [Act.put, List.setIfInBounds_toArray, List.set_cons_zero, List.set_cons_succ]
                refine wpAnyH_done (by kernel_rfl) ?_ _
                refine NoPanic.normal ?_
                clear n1 n2 q5 q5' q6 qV q6' qV'
                go_wp2_with fail
                go_roundw
                case rel => exact ⟨_, _, _, _, _, rfl, HN9, HREL.out _ _⟩
                case measure => exact HMEA.out
              · refine AllReadyH.cons rfl (fun K hK => ?_) AllReadyH.nil
                go_simp
                refine HT.out.mono ?_
                rintro e w7 ⟨v, rfl, hv7, hb7⟩
                obtain ⟨hv, bv, rfl, hoa, hob⟩ := hv7
                obtain ⟨ha, hc, rfl⟩ := own_val hoa.2
                obtain ⟨ba, bc, rfl⟩ := own_bval hob
                obtain ⟨q6, qV, q6', qV', HV, HOA, HOB, HSE⟩ := HAFT.out w7 (.slice ha r.head.args.length hc) (.slice ba r.body.length bc) hb7 hoa hob
                clear hoa hob
                refine hK.out _ _ trivial (fun hHeld => ?_)
                clear hK K
                try simp only [Act.put, List.setIfInBounds_toArray, List.set_cons_zero, List.set_cons_succ]
                refine wpAnyH_ready (rs := [1, 6]) (by kernel_rfl) (by simp) ?_
                refine AllReadyH.cons rfl (fun K hK => ?_) ?_
                · go_simp
                  refine hK.out _ _ trivial (fun hHeld => ?_)
                  clear hK K
                  try simp only [Act.put, List.setIfInBounds_toArray, List.set_cons_zero, List.set_cons_succ]
                  refine wpAnyH_ready (rs := [6]) (by kernel_rfl) (by simp) ?_
                  refine AllReadyH.cons rfl (fun K hK => ?_) AllReadyH.nil
                  go_simp
                  refine hK.out _ _ trivial (fun hHeld => ?_)
                  clear hK K
                  try simp only [Act.put, List.setIfInBounds_toArray, List.set_cons_zero, List.set_cons_succ]
                  refine wpAnyH_ready (rs := [7]) (by kernel_rfl) (by simp) ?_
                  refine AllReadyH.cons rfl (fun K hK => ?_) AllReadyH.nil
                  refine step_append_lies _ (by rfl) _ _ 23 (by rfl) w.heap.size 54 i0 (.agg #[.int .i64 0, .slice none 0 0, .int .i64 0, .int .i64 0, .slice none 0 0]) 5 72 Tryz.underlying23 hi0 hz0 hz1 hz2 (by rfl) (by omega) u rvs.length (cellsR rvs) (by rfl) HV.out.own ⟨w7.heap.size, 0, none⟩ 1 1 [.int .i64 r.head.pred, .slice ha r.head.args.length hc, .int .i64 r.src, .int .i64 r.n, .slice ba r.body.length bc] (by rfl) (by rfl) new_cells5 (by intro u hu; simp at hu; rcases hu with rfl | rfl | rfl | rfl | rfl <;> rfl) (by omega) (by unfold maxLen; omega) (by omega) (by have := HSE.out; omega) (w7.heap.size + 1) (World.size_alloc _ _) ?_
                  intro g9 cap9 W9 hown9 hgrow9 hat9 hlt9
                  obtain ⟨n1, n2, HN9⟩ := ruleF_next hN1 HV.out HOA.out HOB.out (by exact hgrow9) (by exact hown9)
                  clear hat9 hlt9 hown9 hgrow9
                  refine hK.out _ _ trivial (fun hHeld => ?_)
                  clear hK K
                  try simp only [Act.put, List.setIfInBounds_toArray]
                  refine wpAnyH_take (i := 8) (v := ?_) rfl (by kernel_rfl) (by kernel_rfl) (by kernel_rfl) (fun _ _ _ h => h) (Or.inl ⟨by rfl, ?_⟩) (by assumption) ?_
                  rotate_left
                  · (intro w hSw; go_simp; try with_reducible rfl)
                  simp only [Act.put]
                  refine wpAnyH_ready (rs := [9]) (by kernel_rfl) (by simp) ?_
                  refine AllReadyH.cons rfl (fun K hK => ?_) AllReadyH.nil
                  go_simp
                  refine hK.out _ _ trivial (fun hHeld => ?_)
                  clear hK K
                  try simp only [Act.put, List.setIfInBounds_toArray, List.set_cons_zero, List.set_cons_succ]
                  refine wpAnyH_done (by kernel_rfl) ?_ _
                  refine NoPanic.normal ?_
                  clear n1 n2 q5 q5' q6 qV q6' qV'
                  go_wp2_with fail
                  go_roundw
                  case rel => exact ⟨_, _, _, _, _, rfl, HN9, HREL.out _ _⟩
                  case measure => exact HMEA.out
                · refine AllReadyH.cons rfl (fun K hK => ?_) AllReadyH.nil
                  go_simp
                  refine hK.out _ _ trivial (fun hHeld => ?_)
                  clear hK K
                  try simp only [Act.put, List.setIfInBounds_toArray, List.set_cons_zero, List.set_cons_succ]
                  refine wpAnyH_ready (rs := [1]) (by kernel_rfl) (by simp) ?_
                  refine AllReadyH.cons rfl (fun K hK => ?_) AllReadyH.nil
                  go_simp
                  refine hK.out _ _ trivial (fun hHeld => ?_)
                  clear hK K
                  try simp only [Act.put, List.setIfInBounds_toArray, List.set_cons_zero, List.set_cons_succ]
                  refine wpAnyH_ready (rs := [7]) (by kernel_rfl) (by simp) ?_
                  refine AllReadyH.cons rfl (fun K hK => ?_) AllReadyH.nil
                  refine step_append_lies _ (by rfl) _ _ 23 (by rfl) w.heap.size 54 i0 (.agg #[.int .i64 0, .slice none 0 0, .int .i64 0, .int .i64 0, .slice none 0 0]) 5 72 Tryz.underlying23 hi0 hz0 hz1 hz2 (by rfl) (by omega) u rvs.length (cellsR rvs) (by rfl) HV.out.own ⟨w7.heap.size, 0, none⟩ 1 1 [.int .i64 r.head.pred, .slice ha r.head.args.length hc, .int .i64 r.src, .int .i64 r.n, .slice ba r.body.length bc] (by rfl) (by rfl) new_cells5 (by intro u hu; simp at hu; rcases hu with rfl | rfl | rfl | rfl | rfl <;> rfl) (by omega) (by unfold maxLen; omega) (by omega) (by have := HSE.out; omega) (w7.heap.size + 1) (World.size_alloc _ _) ?_
                  intro g9 cap9 W9 hown9 hgrow9 hat9 hlt9
                  obtain ⟨n1, n2, HN9⟩ := ruleF_next hN1 HV.out HOA.out HOB.out (by exact hgrow9) (by exact hown9)
                  clear hat9 hlt9 hown9 hgrow9
                  refine hK.out _ _ trivial (fun hHeld => ?_)
                  clear hK K
                  try simp only [Act.put, List.setIfInBounds_toArray]
                  refine wpAnyH_take (i := 8) (v := ?_) rfl (by kernel_rfl) (by kernel_rfl) (by kernel_rfl) (fun _ _ _ h => h) (Or.inl ⟨by rfl, ?_⟩) (by assumption) ?_
                  rotate_left
                  · (intro w hSw; go_simp; try with_reducible rfl)
                  simp only [Act.put]
                  refine wpAnyH_ready (rs := [9]) (by kernel_rfl) (by simp) ?_
                  refine AllReadyH.cons rfl (fun K hK => ?_) AllReadyH.nil
                  go_simp
                  refine hK.out _ _ trivial (fun hHeld => ?_)
                  clear hK K
                  try simp only [Act.put, List.setIfInBounds_toArray, List.set_cons_zero, List.set_cons_succ]
                  refine wpAnyH_done (by kernel_rfl) ?_ _
                  refine NoPanic.normal ?_
                  clear n1 n2 q5 q5' q6 qV q6' qV'
                  go_wp2_with fail
                  go_roundw
                  case rel => exact ⟨_, _, _, _, _, rfl, HN9, HREL.out _ _⟩
                  case measure => exact HMEA.out
end Go.Proofs.YtlfccloaoopadafGreatDoor.Text
