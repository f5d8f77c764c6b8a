/-
  The developers' Read.
-/
import Derived.Test.YtlfccloaoopadafGreatDoorG16
import Derived.Test.YtlfccloaoopadafGreatDoorG28
import Derived.Test.YtlfccloaoopadafGreatDoorG24
import Derived.Test.YtlfccloaoopadafGreatDoorG15
namespace Go.Proofs.YtlfccloaoopadafGreatDoor.Text
open Go.ChangeShapes Go.WideShapes Go.ChangeAt Go.RowKit
open Prog (progErr small)

theorem preds_small : ∀ {n : Nat} {s u : List UInt8} {ps : List Prd}, predsR n s = some (ps, u) → ∀ q ∈ ps, q.name.size ≤ s.length
  | 0, s, u, ps, h, q, hq => by
    rw [predsR, Option.some.injEq, Prod.mk.injEq] at h
    rw [← h.1] at hq
    cases hq
  | n + 1, s, u, ps, h, q, hq => by
    rw [predsR] at h
    split at h
    · obtain ⟨⟨q1, s1⟩, h1, h⟩ := Option.bind_eq_some_iff.1 h
      obtain ⟨⟨qs, s2⟩, h2, h⟩ := Option.bind_eq_some_iff.1 h
      rw [Option.some.injEq, Prod.mk.injEq] at h
      obtain ⟨rfl, rfl⟩ := h
      rcases List.mem_cons.1 hq with rfl | hq
      · exact (pred_low h1).2.2.2.2
      · have := preds_small h2 q hq
        have := pred_len h1
        simp only at *
        omega
    · rw [Option.some.injEq, Prod.mk.injEq] at h
      rw [← h.1] at hq
      cases hq
theorem prog_small {s : List UInt8} {ps : List Prd} {rs : List Rul} (h : progR s = some (ps, rs)) (hs : s.length ≤ 4096) : small ps := by
  unfold progR at h
  obtain ⟨⟨qs, s1⟩, h1, h⟩ := Option.bind_eq_some_iff.1 h
  obtain ⟨ts, h2, h⟩ := Option.bind_eq_some_iff.1 h
  rw [Option.some.injEq, Prod.mk.injEq] at h
  obtain ⟨rfl, rfl⟩ := h
  intro q hq
  have := preds_small h1 q hq
  omega
/-- the program that Read tells -/
def readOf (s : List UInt8) : Option (List Prd × List Rul) := if 4096 < s.length then none else devL s
def readErr (s : List UInt8) : Int := if 4096 < s.length then 2 else match devL s with
  | none => 1
  | some _ => 0
/-- a program of the call's own, or none -/
def OwnProg (n : Nat) (w : World) (pv rv : Value) : Option (List Prd × List Rul) → Prop
  | none => pv = .slice none 0 0 ∧ rv = .slice none 0 0
  | some x => OwnP n w pv x.1 ∧ OwnRs n w rv x.2
theorem enter_read1 : ∀ args w, (callFunc 30 args).run Tryz.prog w = .ok (.enter 30 args) w := enters_of Tryz.func30 (by kernel_rfl) rfl
/-- what Whole makes of it -/
def ReadPhi (W : World) (P : Nat) (s : List UInt8) (R : Option (List UInt8)) (w' : World) : Prop :=
  Kept2 (W.heap.size + 1) P (wholeAt W (mk s)) w' ∧ match progR s with
    | none => R = none
    | some x => R = some [] ∧ ∃ pv rv, boxQ w' P pv rv ∧ OwnP W.heap.size w' pv x.1 ∧ OwnRs W.heap.size w' rv x.2
theorem whole_size (W : World) (T : ByteArray) : (wholeAt W T).heap.size = W.heap.size + 2 := by simp [wholeAt]
theorem whole_below (W : World) (T : ByteArray) : Below W.heap.size W (wholeAt W T) := (below_alloc _ _).alloc (by simp) _
theorem OwnP.mono {n m : Nat} {w : World} {pv : Value} {ps : List Prd} (h : OwnP n w pv ps) (hm : m ≤ n) : OwnP m w pv ps := ⟨h.1, Sum.own_base h.2 hm⟩
theorem OwnRs.mono {n m : Nat} {w : World} {rv : Value} {rs : List Rul} (h : OwnRs n w rv rs) (hm : m ≤ n) : OwnRs m w rv rs := by
  obtain ⟨rvs, h1, h2, h3, h4⟩ := h
  exact ⟨rvs, h1, h2, Sum.own_base h3 hm, fun x hx => ⟨(h4 x hx).1.mono hm, (h4 x hx).2.mono hm⟩⟩
theorem read_whole (W : World) (P : Nat) (s : List UInt8) (hs : s.length ≤ 4096) (hq : boxQ W P (.slice none 0 0) (.slice none 0 0)) : Calls Tryz.prog 29 #[.string (mk s), .func (.func 30) #[] #[.pointer (some ⟨P, 0, none⟩)]] W fun e w' => ∃ R w1, ReadPhi W P s R w1 ∧ e = .returned (.bool (decide (R = some []))) ∧ w' = w1.setCell ⟨W.heap.size, 0, none⟩ (.bool (decide (R = some []))) := by
  have hb := whole_below W (mk s)
  have hP := hq.lt
  have hr : restAt (wholeAt W (mk s)) (W.heap.size + 1) s := by
    have := heap_alloc_new (W.alloc (.cells #[.bool false] 4)) (.cells #[.string (mk s)] 102)
    rw [World.size_alloc] at this
    exact this
  have hres : (wholeAt W (mk s)).heap[W.heap.size]? = some (.cells #[.bool false] 4 (0, 0)) := (Below.block (below_alloc (W.alloc (.cells #[.bool false] 4)) _) _ (by simp)).trans (heap_alloc_new W _)
  have hq2 : boxQ (wholeAt W (mk s)) P (.slice none 0 0) (.slice none 0 0) := (hb.block P hP).trans hq
  refine whole_c W (mk s) 30 #[.pointer (some ⟨P, 0, none⟩)] enter_read1 (ReadPhi W P s) ?_
  refine (read1_c (wholeAt W (mk s)) (W.heap.size + 1) P s hr hs hq2 (by omega)).mono ?_
  rintro e w' ⟨hk, hx⟩
  have hres2 : w'.heap[W.heap.size]? = some (.cells #[.bool false] 4 (0, 0)) := (hk.rest W.heap.size hP (by omega) (by rw [whole_size]; omega)).trans hres
  cases hp : progR s with
  | none =>
    rw [hp] at hx
    refine ⟨none, hres2, ⟨hk, ?_⟩, hx⟩
    rw [hp]
  | some x =>
    rw [hp] at hx
    obtain ⟨rfl, h1, pv, rv, h2, h3, h4⟩ := hx
    rw [whole_size] at h3 h4
    refine ⟨some [], hres2, ⟨hk, ?_⟩, rfl, h1⟩
    rw [hp]
    exact ⟨rfl, pv, rv, h2, h3.mono (by omega), h4.mono (by omega)⟩
set_option maxRecDepth 100000 in
set_option maxHeartbeats 4000000 in
theorem read_c (w : World) (s : List UInt8) (hs : s.length ≤ 9223372036854775807) : Calls Tryz.prog 9 #[.string (mk s)] w fun e w' => ∃ pv rv, e = .returned (.tuple #[.agg #[pv, rv], .int .i64 (readErr s)]) ∧ OwnProg w.heap.size w' pv rv (readOf s) ∧ Below w.heap.size w w' := by
  have hsz : (mk s).size = s.length := mk_size s
  by_cases hlt : 4096 < s.length
  · have HE : Hid (readErr s = 2 ∧ readOf s = none) := by
      unfold readErr readOf
      rw [if_pos hlt, if_pos hlt]
      exact ⟨rfl, rfl⟩
    have hlt' : (4096 : Int) < (s.length : Int) := by omega
    generalize mk s = T at *
    go_enter Tryz.func9, Tryz.ntmps9
    go_wp2_with fail
    exact bodyPost_ret (v := .tuple #[.agg #[.slice none 0 0, .slice none 0 0], .int .i64 2]) (by simp [results, Tryz.results9, go_sem]) rfl ⟨_, _, by rw [HE.out.1], by rw [HE.out.2]; exact ⟨rfl, rfl⟩, below_alloc _ _⟩
  · have HL : Hid (¬ 4096 < s.length) := hlt
    have hlt' : ¬ (4096 : Int) < (s.length : Int) := by omega
    obtain ⟨W2, hW2⟩ : ∃ W2, (w.alloc (.cells #[.slice none 0 0, .slice none 0 0] 25)).alloc (.cells #[.slice none 0 0, .slice none 0 0] 25) = W2 := ⟨_, rfl⟩
    have hb2 : Below w.heap.size w W2 := by rw [← hW2]; exact (below_alloc _ _).alloc (by simp) _
    have hs2 : W2.heap.size = w.heap.size + 2 := by rw [← hW2]; simp
    have hx2 : boxQ W2 w.heap.size (.slice none 0 0) (.slice none 0 0) := by rw [← hW2]; exact (Below.block (below_alloc (w.alloc (.cells #[.slice none 0 0, .slice none 0 0] 25)) _) _ (by simp)).trans (heap_alloc_new w _)
    have hy2 : boxQ W2 (w.heap.size + 1) (.slice none 0 0) (.slice none 0 0) := by
      have := heap_alloc_new (w.alloc (.cells #[.slice none 0 0, .slice none 0 0] 25)) (.cells #[.slice none 0 0, .slice none 0 0] 25)
      rw [World.size_alloc, hW2] at this
      exact this
    have HC := read_whole W2 (w.heap.size + 1) s (by omega) hy2
    have HB2 := hid hb2
    have HS2 := hid hs2
    have HX2 := hid hx2
    clear hb2 hs2 hx2 hy2 hlt
    generalize mk s = T at *
    go_enter Tryz.func9, Tryz.ntmps9
    go_wp2_with fail
    clear hW2
    refine HC.mono ?_
    clear HC
    rintro e w3 ⟨R, w2, ⟨hk, hR⟩, rfl, rfl⟩
    -- what lies where
    have hw2 : W2.heap.size + 2 ≤ w2.heap.size := by have := hk.size; rw [whole_size] at this; exact this
    have hX : boxQ (w2.setCell ⟨W2.heap.size, 0, none⟩ (.bool (decide (R = some [])))) w.heap.size (.slice none 0 0) (.slice none 0 0) := by
      unfold boxQ
      rw [Sum.heap_other (by have := HS2.out; omega)]
      exact (hk.low.block w.heap.size (by omega)).trans (((whole_below W2 (mk s)).block w.heap.size (by have := HS2.out; omega)).trans HX2.out)
    have HBW : Hid (Below w.heap.size w (w2.setCell ⟨W2.heap.size, 0, none⟩ (.bool (decide (R = some []))))) := by
      refine Below.setCell (p := ⟨W2.heap.size, 0, none⟩) ?_ (by show w.heap.size ≤ W2.heap.size; have := HS2.out; omega) _
      exact HB2.out.trans (((whole_below W2 (mk s)).mono (by have := HS2.out; omega)).trans (hk.low.mono (by omega)))
    cases hp : progR s with
    | none =>
      rw [hp] at hR
      simp only at hR
      subst hR
      have HE : Hid (readErr s = 1 ∧ readOf s = none) := by
        unfold readErr readOf devL
        rw [if_neg HL.out, if_neg HL.out, hp]
        exact ⟨rfl, rfl⟩
      have hd : decide ((none : Option (List UInt8)) = some []) = false := by simp
      rw [hd] at hX HBW ⊢
      clear hp hd
      generalize w2.setCell ⟨W2.heap.size, 0, none⟩ (.bool false) = W3 at *
      obtain ⟨c0, c1, f0, f1⟩ := hX.cells
      clear hX hk
      go_wp2_with fail
      refine bodyPost_ret (v := .tuple #[.agg #[.slice none 0 0, .slice none 0 0], .int .i64 1]) (by simp [results, Tryz.results9, go_sem, c0, c1]) rfl ⟨_, _, by rw [HE.out.1], by rw [HE.out.2]; exact ⟨rfl, rfl⟩, ?_⟩
      exact (HBW.out.setCell (p := ⟨w.heap.size, 0, none⟩) (Nat.le_refl _) _).setCell (p := ⟨w.heap.size, 1, none⟩) (Nat.le_refl _) _
    | some x =>
      obtain ⟨ps, rs⟩ := x
      rw [hp] at hR
      obtain ⟨rfl, pv, rv, hbq, hop, hor⟩ := hR
      simp only at hop hor
      have hd : decide ((some [] : Option (List UInt8)) = some []) = true := by simp
      rw [hd] at hX HBW ⊢
      clear hd
      have hcell : w2.heap[W2.heap.size]? = some (.cells #[.bool false] 4 (0, 0)) := by
        refine (hk.rest W2.heap.size (by have := HS2.out; omega) (by omega) (by rw [whole_size]; omega)).trans ?_
        exact (Below.block (below_alloc (W2.alloc (.cells #[.bool false] 4)) _) _ (by simp)).trans (heap_alloc_new W2 _)
      have hY : boxQ (w2.setCell ⟨W2.heap.size, 0, none⟩ (.bool true)) (w.heap.size + 1) pv rv := by
        unfold boxQ
        rw [Sum.heap_other (by have := HS2.out; omega)]
        exact hbq
      have hop2 : OwnP W2.heap.size (w2.setCell ⟨W2.heap.size, 0, none⟩ (.bool true)) pv ps := hop.ty (KeepsTy.set hcell (by decide))
      have hor2 : OwnRs W2.heap.size (w2.setCell ⟨W2.heap.size, 0, none⟩ (.bool true)) rv rs := hor.ty (KeepsTy.set hcell (by decide)) (KeepsTy.set hcell (by decide)) (KeepsTy.set hcell (by decide))
      generalize w2.setCell ⟨W2.heap.size, 0, none⟩ (.bool true) = W3 at *
      have HPC := Prog.devCheck_c W3 pv rv ps rs hop2.at hor2.at (prog_small hp (by have := HL.out; omega))
      obtain ⟨pa, pc, rfl⟩ := own_val hop2.2
      obtain ⟨ra, rc, rfl⟩ : ∃ a c, rv = .slice a rs.length c := by
        obtain ⟨rvs, rfl, _, h3, _⟩ := hor2
        obtain ⟨a, c, rfl⟩ := own_val h3
        exact ⟨a, c, by rw [List.length_map]⟩
      have HOP := hid hop2
      have HOR := hid hor2
      have HX := hid hX
      have HY := hid hY
      have HPR := hid hp
      obtain ⟨c0, c1, f0, f1⟩ := hY.cells
      clear hX hk hbq hop hor hop2 hor2 hcell hp hY hw2
      go_wp2_with fail
      refine HPC.mono ?_
      clear HPC
      rintro e w4 ⟨rfl, hb4⟩
      have hlt3 : w.heap.size + 1 < W3.heap.size := HY.out.lt
      have HB4 : Hid (Below w.heap.size w w4) := HBW.out.trans (hb4.mono (by omega))
      have HX4 : Hid (boxQ w4 w.heap.size (.slice none 0 0) (.slice none 0 0)) := (hb4.block _ (by omega)).trans HX.out
      have HY4 : Hid (boxQ w4 (w.heap.size + 1) (.slice pa ps.length pc) (.slice ra rs.length rc)) := (hb4.block _ (by omega)).trans HY.out
      clear c0 c1 f0 f1
      obtain ⟨c0, c1, f0, f1⟩ := HY4.out.cells
      obtain ⟨d0, d1, g0, g1⟩ := HX4.out.cells
      have HB5 : Hid (∀ u v, Below w.heap.size w ((w4.setCell ⟨w.heap.size, 0, none⟩ u).setCell ⟨w.heap.size, 1, none⟩ v)) := fun u v => (HB4.out.setCell (p := ⟨w.heap.size, 0, none⟩) (Nat.le_refl _) _).setCell (p := ⟨w.heap.size, 1, none⟩) (Nat.le_refl _) _
      by_cases hpe : progErr ps rs = 0
      · have HE : Hid (readErr s = 0 ∧ readOf s = some (ps, rs)) := by
          unfold readErr readOf devL
          rw [if_neg HL.out, if_neg HL.out, HPR.out, Option.bind_some, if_pos hpe]
          exact ⟨rfl, rfl⟩
        have HOP5 : Hid (∀ u v, OwnP w.heap.size ((w4.setCell ⟨w.heap.size, 0, none⟩ u).setCell ⟨w.heap.size, 1, none⟩ v) (.slice pa ps.length pc) ps ∧ OwnRs w.heap.size ((w4.setCell ⟨w.heap.size, 0, none⟩ u).setCell ⟨w.heap.size, 1, none⟩ v) (.slice ra rs.length rc) rs) := fun u v => by
          have kk : ∀ e, 25 ≠ e → KeepsTy e W2.heap.size W3 ((w4.setCell ⟨w.heap.size, 0, none⟩ u).setCell ⟨w.heap.size, 1, none⟩ v) := fun e he => (KeepsTy.below hb4).trans ((KeepsTy.set HX4.out he).trans (KeepsTy.set (HX4.out.set0 u) he))
          have hle : w.heap.size ≤ W2.heap.size := by have := HS2.out; omega
          exact ⟨(HOP.out.ty (kk _ (by decide))).mono hle, (HOR.out.ty (kk _ (by decide)) (kk _ (by decide)) (kk _ (by decide))).mono hle⟩
        rw [hpe]
        clear hpe hb4
        go_wp2_with fail
        exact bodyPost_ret (v := .tuple #[.agg #[.slice pa ps.length pc, .slice ra rs.length rc], .int .i64 0]) (by simp [results, Tryz.results9, go_sem, d0, d1]) rfl ⟨_, _, by rw [HE.out.1], by rw [HE.out.2]; exact HOP5.out _ _, HB5.out _ _⟩
      · have HE : Hid (readErr s = 1 ∧ readOf s = none) := by
          unfold readErr readOf devL
          rw [if_neg HL.out, if_neg HL.out, HPR.out, Option.bind_some, if_neg hpe]
          exact ⟨rfl, rfl⟩
        have hpe' : (progErr ps rs != 0) = true := by simp [hpe]
        clear hb4
        go_wp2_with fail
        exact bodyPost_ret (v := .tuple #[.agg #[.slice none 0 0, .slice none 0 0], .int .i64 1]) (by simp [results, Tryz.results9, go_sem, d0, d1]) rfl ⟨_, _, by rw [HE.out.1], by rw [HE.out.2]; exact ⟨rfl, rfl⟩, HB5.out _ _⟩
end Go.Proofs.YtlfccloaoopadafGreatDoor.Text
