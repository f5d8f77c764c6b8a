/-
  The document's own reading of a rule.
-/
import Derived.Test.YtlfccloaoopadafGreatDoorG16
namespace Go.Proofs.YtlfccloaoopadafGreatDoor.Text
open Go.ChangeShapes Go.WideShapes Go.ChangeAt Go.RowKit
open Go.Proofs.YtlfccloaoopadafGreatDoor.Sum (cellsT cellsL LV infoLit)

theorem rfrom_out {w : World} {N : Nat} {x0 x1 x2 x3 : Value} {hd : List Tm} {wr : World} {ls : List LV} {u : Value} (h : RFrom w N x0 x1 x2 x3 hd wr ls u) (hj : ls.length ≤ 4096) (y0 y1 y2 y3 y4 : Value) :
    OwnA w.heap.size (((((wr.setCell ⟨w.heap.size, 0, none⟩ y0).setCell ⟨w.heap.size, 1, none⟩ y1).setCell ⟨w.heap.size, 2, none⟩ y2).setCell ⟨w.heap.size, 3, none⟩ y3).setCell ⟨w.heap.size, 4, none⟩ y4) x1 hd ∧
    OwnB w.heap.size (((((wr.setCell ⟨w.heap.size, 0, none⟩ y0).setCell ⟨w.heap.size, 1, none⟩ y1).setCell ⟨w.heap.size, 2, none⟩ y2).setCell ⟨w.heap.size, 3, none⟩ y3).setCell ⟨w.heap.size, 4, none⟩ y4) u (ls.map LV.l) ∧
    Below w.heap.size w (((((wr.setCell ⟨w.heap.size, 0, none⟩ y0).setCell ⟨w.heap.size, 1, none⟩ y1).setCell ⟨w.heap.size, 2, none⟩ y2).setCell ⟨w.heap.size, 3, none⟩ y3).setCell ⟨w.heap.size, 4, none⟩ y4) := by
  have kt := KeepsTy.all5 (n := w.heap.size) (e := 94) h.out (by decide) y0 y1 y2 y3 y4
  have kl := KeepsTy.all5 (n := w.heap.size) (e := 66) h.out (by decide) y0 y1 y2 y3 y4
  refine ⟨h.head.ty kt, ⟨ls, rfl, hj, own_ty h.own kl, fun x hx => (h.lits x hx).ty kt⟩, ?_⟩
  exact ((((h.below.setCell (p := ⟨w.heap.size, 0, none⟩) (Nat.le_refl _) _).setCell (p := ⟨w.heap.size, 1, none⟩) (Nat.le_refl _) _).setCell (p := ⟨w.heap.size, 2, none⟩) (Nat.le_refl _) _).setCell (p := ⟨w.heap.size, 3, none⟩) (Nat.le_refl _) _).setCell (p := ⟨w.heap.size, 4, none⟩) (Nat.le_refl _) _
theorem bl_fst {T : ByteArray} (h : 0 < T.size) : (bl T).head? = some T[0] := by
  have h1 := bl_at h
  have h2 : 0 < (bl T).length := by rw [bl_size]; exact h
  rw [List.head?_eq_getElem?, List.getElem?_eq_getElem h2, h1]
/-- a literal's box is laid: the rule is as it was -/
theorem lit_box {w : World} {N : Nat} {x0 x1 x2 x3 : Value} {hd : List Tm} {wr : World} {ls : List LV} {u : Value} (h : RFrom w N x0 x1 x2 x3 hd wr ls u) (a b c : Value) : RFrom w N x0 x1 x2 x3 hd (wr.alloc (.cells #[a, b, c] 66)) ls u ∧ boxL (wr.alloc (.cells #[a, b, c] 66)) wr.heap.size a b c ∧ some wr.heap.size ≠ u.ownBlock ∧ w.heap.size < wr.heap.size :=
  ⟨h.lasts (below_alloc _ _), heap_alloc_new wr _, own_old h.own (Nat.le_refl _), h.out.lt⟩
theorem rest_step {ps : List Prd} {ls : List LV} {b1 : Bool} {A : ByteArray} {t1 a1 : List UInt8} {b0 : Bool} {B0 : ByteArray} {S : Nat} {ng : Bool} {a : Atm} {av : Value}
    (hin : restL ps b0 B0 = ls.map LV.l ++ restL ps true A ∧ ls.length + restN true A ≤ S)
    (hag : litsG ps (A.size + 1) (bl A) = litG ps t1 :: if b1 = true then litsG ps A.size a1 else [])
    (hl : b1 = true → t1.length + a1.length < A.size) (hg : litG ps t1 = ⟨ng, a⟩) :
    restL ps b0 B0 = (ls ++ [(⟨⟨ng, a⟩, av⟩ : LV)]).map LV.l ++ restL ps b1 (mk a1) ∧ (ls ++ [(⟨⟨ng, a⟩, av⟩ : LV)]).length + restN b1 (mk a1) ≤ S := by
  obtain ⟨h1, h2⟩ := hin
  have h2' : ls.length + (A.size + 1) ≤ S := h2
  refine ⟨?_, ?_⟩
  · have e1 : restL ps true A = litsG ps (A.size + 1) (bl A) := rfl
    rw [h1, e1, hag, hg]
    cases b1 with
    | true =>
      have := hl rfl
      have e2 : restL ps true (mk a1) = litsG ps ((mk a1).size + 1) (bl (mk a1)) := rfl
      rw [if_pos rfl, e2, mk_size, bl_mk, litsG_fuel ps A.size (a1.length + 1) a1 (by omega) (by omega)]
      simp
    | false =>
      have e2 : restL ps false (mk a1) = [] := rfl
      rw [if_neg (by simp), e2]
      simp
  · rw [List.length_append, List.length_singleton]
    cases b1 with
    | true =>
      have := hl rfl
      show _ + ((mk a1).size + 1) ≤ _
      rw [mk_size]
      omega
    | false =>
      show _ + 0 ≤ _
      omega
theorem mu_step {A : ByteArray} {t1 a1 : List UInt8} {b1 : Bool} (hl : b1 = true → t1.length + a1.length < A.size) : muG (.string (mk a1)) (.bool b1) < muG (.string A) (.bool true) := by
  cases b1 with
  | true =>
    have := hl rfl
    show (mk a1).size + 1 < A.size + 1
    rw [mk_size]
    omega
  | false =>
    show 0 < A.size + 1
    omega
set_option maxRecDepth 100000 in
set_option maxHeartbeats 16000000 in
theorem ruleFrom_c (w : World) (pv : Value) (ps : List Prd) (s : ByteArray) (hp : predsAt w pv ps) (hs : s.size ≤ 4096) : Calls Tryz.prog 40 #[pv, .string s] w fun e w' => ∃ v, e = .returned v ∧ RuleV w.heap.size (ruleG ps (bl s)) v w' ∧ Below w.heap.size w w' := by
  have HP : Hid (∀ x, Below w.heap.size w x → predsAt x pv ps) := fun x hx => predsAt.lasts hx hp
  obtain ⟨pa, pc, rfl, hpl, _⟩ := hp
  obtain ⟨W1, hW1⟩ : ∃ W1, w.alloc (.cells #[.int .i64 0, .slice none 0 0, .int .i64 0, .int .i64 0, .slice none 0 0] 54) = W1 := ⟨_, rfl⟩
  have hb1 : Below w.heap.size w W1 := by rw [← hW1]; exact below_alloc _ _
  have hx1 : boxR W1 w.heap.size (.int .i64 0) (.slice none 0 0) (.int .i64 0) (.int .i64 0) (.slice none 0 0) := by rw [← hW1]; exact heap_alloc_new w _
  have HC := cut_c W1 s ⟨#[32, 58, 45, 32]⟩ (by decide) (by decide) (by omega)
  rw [show bl (⟨#[32, 58, 45, 32]⟩ : ByteArray) = [32, 58, 45, 32] from rfl] at HC
  have hlen := cut_len (p := [32, 58, 45, 32]) (by simp) (bl s)
  rw [bl_size] at hlen
  have HRG : Hid (ruleG ps (bl s) = ⟨(headG ps (bl (mk (cutL [32, 58, 45, 32] (bl s)).1))).1, (headG ps (bl (mk (cutL [32, 58, 45, 32] (bl s)).1))).2.1, (headG ps (bl (mk (cutL [32, 58, 45, 32] (bl s)).1))).2.2, restL ps (cutL [32, 58, 45, 32] (bl s)).2.2 (mk (cutL [32, 58, 45, 32] (bl s)).2.1)⟩) := by
    show _ = _
    unfold restL
    rw [bl_mk, bl_mk, mk_size]
    rfl
  generalize cutL [32, 58, 45, 32] (bl s) = x at *
  obtain ⟨x, y, b0⟩ := x
  simp only at hlen HC HRG
  have HHz : Hid ((mk x).size ≤ 4096) := by show _ ≤ _; rw [mk_size]; omega
  have HL0 : Hid (restN b0 (mk y) ≤ s.size) := by
    show _ ≤ _
    unfold restN
    rw [mk_size]
    split
    · rename_i h
      have := hlen.2.2 h
      omega
    · omega
  generalize mk x = HH at *
  generalize mk y = B0 at *
  clear hlen
  go_enter Tryz.func40, Tryz.ntmps40
  go_wp2_with fail
  clear hW1
  refine HC.mono ?_
  clear HC
  rintro e w1 ⟨rfl, hb2⟩
  obtain ⟨N, hN⟩ : ∃ N, w1.heap.size = N := ⟨_, rfl⟩
  have hN1 : w.heap.size < N := by
    have h1 := hx1.lt
    have h2 := hb2.size
    omega
  have HF0 : Hid (RFrom w N (.int .i64 0) (.slice none 0 0) (.int .i64 (-1)) (.int .i64 0) [] (w1.alloc (.cells #[.int .i64 0, .slice none 0 0, .int .i64 (-1), .int .i64 0, .slice none 0 0] 54)) [] (.slice none 0 0)) := by
    have hb3 : Below W1.heap.size W1 (w1.alloc (.cells #[.int .i64 0, .slice none 0 0, .int .i64 (-1), .int .i64 0, .slice none 0 0] 54)) := hb2.alloc hb2.size _
    refine ⟨by rw [← hN]; exact heap_alloc_new w1 _, hx1.lasts hb3, own_none _ _, ⟨rfl, .inl ⟨rfl, rfl⟩⟩, (fun x hx => absurd hx (List.not_mem_nil)), hb1.trans (hb3.mono hb1.size)⟩
  go_wp2_with fail
  generalize w1.alloc (.cells #[.int .i64 0, .slice none 0 0, .int .i64 (-1), .int .i64 0, .slice none 0 0] 54) = W2 at *
  clear hb1 hb2 hx1 hN
  have HC := cut_c W2 HH ⟨#[32, 61, 32]⟩ (by decide) (by decide) (by have := HHz.out; omega)
  rw [show bl (⟨#[32, 61, 32]⟩ : ByteArray) = [32, 61, 32] from rfl] at HC
  have hlen := cut_len (p := [32, 61, 32]) (by simp) (bl HH)
  rw [bl_size] at hlen
  obtain ⟨hg, hhg⟩ : ∃ hg, headG ps (bl HH) = hg := ⟨_, rfl⟩
  rw [hhg] at HRG
  have HGE : Hid (hg = if (cutL [32, 61, 32] (bl HH)).2.2 = true then (atomG ps (cutL [32, 61, 32] (bl HH)).1, valG (cutL [32, 61, 32] (bl HH)).2.1) else (atomG ps (bl HH), -1, 0)) := by show _ = _; rw [← hhg, headG]
  clear hhg
  generalize cutL [32, 61, 32] (bl HH) = x at *
  obtain ⟨x1, y1, b1⟩ := x
  simp only at hlen HC HGE
  refine HC.mono ?_
  clear HC
  rintro e w3 ⟨rfl, hb3⟩
  have HI3 := hid (HF0.out.lasts hb3)
  clear hb3 HF0
  cases b1
  case' false =>
    obtain ⟨src, hsrc⟩ : ∃ src : Int, -1 = src := ⟨_, rfl⟩
    obtain ⟨n, hn⟩ : ∃ n : Int, 0 = n := ⟨_, rfl⟩
    obtain ⟨TH, hTH⟩ : ∃ TH, TH = HH := ⟨_, rfl⟩
    have HHG : Hid (hg = (atomG ps (bl TH), src, n)) := by
      show _ = _
      rw [HGE.out, if_neg (by simp), ← hsrc, ← hn, hTH]
    have HI : Hid (RFrom w N (.int .i64 0) (.slice none 0 0) (.int .i64 src) (.int .i64 n) [] w3 [] (.slice none 0 0)) := by rw [← hsrc, ← hn]; exact HI3.out
    have HTz : Hid (TH.size ≤ 4096) := by rw [hTH]; exact HHz.out
    clear HI3 HGE hlen
    go_wp2_with fail
    generalize w3 = WW at *
    subst hTH
    clear hsrc hn
  case' true =>
    have HY : Hid (hg = (atomG ps (bl (mk x1)), valG (bl (mk y1)))) := by show _ = _; rw [HGE.out, if_pos rfl, bl_mk, bl_mk]
    have HTz : Hid ((mk x1).size ≤ 4096) := by show _ ≤ _; rw [mk_size]; have := hlen.1; have := HHz.out; omega
    have HYz : (mk y1).size ≤ 100000 := by rw [mk_size]; have := hlen.2.1; have := HHz.out; omega
    generalize mk x1 = TH at *
    generalize mk y1 = YV at *
    clear HGE hlen
    have HC := cut_c w3 YV ⟨#[43]⟩ (by decide) (by decide) HYz
    rw [show bl (⟨#[43]⟩ : ByteArray) = [43] from rfl] at HC
    have hlen := cut_len (p := [43]) (by simp) (bl YV)
    rw [bl_size] at hlen
    have HVG : Hid (valG (bl YV) = if (cutL [43] (bl YV)).2.2 = true ∧ (cutL [43] (bl YV)).1 ≠ [] then (saidL (cutL [43] (bl YV)).1.tail, saidL (cutL [43] (bl YV)).2.1) else (-1, saidL (bl YV))) := by show _ = _; rw [valG]
    generalize cutL [43] (bl YV) = x at *
    obtain ⟨u1, u2, b2⟩ := x
    simp only at hlen HC HVG
    go_wp2_with fail
    refine HC.mono ?_
    clear HC
    rintro e w4 ⟨rfl, hb4⟩
    have HI4 := hid (HI3.out.lasts hb4)
    clear hb4 HI3
    by_cases hgo : b2 = true ∧ u1 ≠ []
    case' pos =>
      obtain ⟨hb2, hu1⟩ := hgo
      subst hb2
      have HV2 : Hid (valG (bl YV) = (saidL ((bl (mk u1)).drop 1), saidL (bl (mk u2)))) := by
        show _ = _
        rw [HVG.out, if_pos ⟨rfl, hu1⟩, bl_mk, bl_mk, List.drop_one]
      have hu0 : 0 < (mk u1).size := by rw [mk_size]; exact List.length_pos_iff.2 hu1
      have hu9 : (mk u1).size ≤ 100000 := by rw [mk_size]; have := hlen.1; omega
      have hv9 : (mk u2).size ≤ 100000 := by rw [mk_size]; have := hlen.2.1; omega
      have hu2 : (0 : Int) < ((mk u1).size : Int) := by omega
      have hu3 : (1 : Int) ≤ ((mk u1).size : Int) := by omega
      generalize mk u1 = U1 at *
      generalize mk u2 = U2 at *
      clear HVG hlen hu1
      have HC := said_c w4 (U1.extract 1 U1.size) (by rw [← bl_size, bl_drop, List.length_drop, bl_size]; omega)
      rw [bl_drop] at HC
      obtain ⟨src, hsrc⟩ : ∃ src : Int, saidL ((bl U1).drop 1) = src := ⟨_, rfl⟩
      rw [hsrc] at HC HV2
      clear hsrc
      obtain ⟨c0, c1, c2, c3, c4, hf⟩ := HI4.out.box.cells
      have hf2 := hf 2
      obtain ⟨V5, hV5⟩ : ∃ V5, w4.setCell ⟨N, 2, none⟩ (.int .i64 src) = V5 := ⟨_, rfl⟩
      have HI5 := hid (HI4.out.set2 hN1 (.int .i64 src))
      rw [hV5] at HI5
      clear hf
      go_wp2_with fail
      refine HC.mono ?_
      clear HC
      rintro e w5 ⟨rfl, hw5⟩
      obtain rfl := hw5.symm
      go_wp2_with fail
      clear hV5 c0 c1 c2 c3 c4 hf2 HI4 hu0 hu2 hu3 hu9
      have HC := said_c V5 U2 hv9
      obtain ⟨n, hn⟩ : ∃ n : Int, saidL (bl U2) = n := ⟨_, rfl⟩
      rw [hn] at HC HV2
      clear hn
      obtain ⟨c0, c1, c2, c3, c4, hf⟩ := HI5.out.box.cells
      have hf3 := hf 3
      obtain ⟨WW, hWW⟩ : ∃ WW, V5.setCell ⟨N, 3, none⟩ (.int .i64 n) = WW := ⟨_, rfl⟩
      have HI := hid (HI5.out.set3 hN1 (.int .i64 n))
      rw [hWW] at HI
      clear hf
      refine HC.mono ?_
      clear HC
      rintro e w6 ⟨rfl, hw6⟩
      obtain rfl := hw6.symm
      go_wp2_with fail
      clear hWW c0 c1 c2 c3 c4 hf3 HI5 hv9
      have HHG : Hid (hg = (atomG ps (bl TH), src, n)) := by
        show _ = _
        rw [HY.out, HV2.out]
      clear HY HV2 HYz
    case' neg =>
      have HV2 : Hid (valG (bl YV) = (-1, saidL (bl YV))) := by
        show _ = _
        rw [HVG.out, if_neg hgo]
      have hu9 : b2 = true → ¬ (0 : Int) < ((mk u1).size : Int) := fun h => by
        rw [mk_size]
        have : u1 = [] := Classical.not_not.1 fun h' => hgo ⟨h, h'⟩
        rw [this]
        simp
      generalize mk u1 = U1 at *
      generalize mk u2 = U2 at *
      clear HVG hlen hgo
      have HC := said_c w4 YV HYz
      obtain ⟨n, hn⟩ : ∃ n : Int, saidL (bl YV) = n := ⟨_, rfl⟩
      rw [hn] at HC HV2
      clear hn
      obtain ⟨c0, c1, c2, c3, c4, hf⟩ := HI4.out.box.cells
      have hf3 := hf 3
      obtain ⟨WW, hWW⟩ : ∃ WW, w4.setCell ⟨N, 3, none⟩ (.int .i64 n) = WW := ⟨_, rfl⟩
      obtain ⟨src, hsrc⟩ : ∃ src : Int, -1 = src := ⟨_, rfl⟩
      have HI := hid (HI4.out.set3 hN1 (.int .i64 n))
      rw [hWW, hsrc] at HI
      rw [hsrc] at HV2
      clear hf hsrc
      have HHG : Hid (hg = (atomG ps (bl TH), src, n)) := by
        show _ = _
        rw [HY.out, HV2.out]
      clear HY HV2 HYz
      cases b2
      case' true => have hu := hu9 rfl
      all_goals
        clear hu9
        go_wp2_with fail
        refine HC.mono ?_
        clear HC
        rintro e w6 ⟨rfl, hw6⟩
        obtain rfl := hw6.symm
        go_wp2_with fail
        clear hWW c0 c1 c2 c3 c4 hf3 HI4
  all_goals
    have HWz := hid HI.out.below.size
    have HC := atomFrom_c WW (.slice pa ps.length pc) ps TH (HP.out _ HI.out.below) HTz.out
    obtain ⟨hd, hhd⟩ : ∃ hd, (atomG ps (bl TH)).args = hd := ⟨_, rfl⟩
    obtain ⟨pr, hpr⟩ : ∃ pr : Int, (atomG ps (bl TH)).pred = pr := ⟨_, rfl⟩
    rw [hhd, hpr] at HC
    have HHD : Hid (hg = (⟨pr, hd⟩, src, n)) := by
      show _ = _
      rw [HHG.out, ← hhd, ← hpr]
    clear hhd hpr HHG HTz
    refine HC.mono ?_
    clear HC
    rintro e w5 ⟨x1, rfl, hoa, hb5⟩
    have HI5 := hid (HI.out.lasts hb5)
    have HO5 := hid (hoa.mono HWz.out)
    obtain ⟨aa, ac, rfl⟩ := own_val hoa.2
    clear hoa HWz hb5 HI
    obtain ⟨c0, c1, c2, c3, c4, hf⟩ := HI5.out.box.cells
    have hf0 := hf 0
    have hf1 := hf 1
    clear hf
    obtain ⟨W6, hW6⟩ : ∃ W6, (w5.setCell ⟨N, 0, none⟩ (.int .i64 pr)).setCell ⟨N, 1, none⟩ (.slice aa hd.length ac) = W6 := ⟨_, rfl⟩
    have HI := hid (HI5.out.set01 hN1 (.int .i64 pr) (.slice aa hd.length ac) HO5.out)
    rw [hW6] at HI
    go_wp2_with fail
    clear hW6 c0 c1 c2 c3 c4 hf0 hf1 HI5 HO5
    obtain ⟨x0, hx0⟩ : ∃ x0, Value.int .i64 pr = x0 := ⟨_, rfl⟩
    obtain ⟨x1, hx1⟩ : ∃ x1, Value.slice aa hd.length ac = x1 := ⟨_, rfl⟩
    obtain ⟨x2, hx2⟩ : ∃ x2, Value.int .i64 src = x2 := ⟨_, rfl⟩
    obtain ⟨x3, hx3⟩ : ∃ x3, Value.int .i64 n = x3 := ⟨_, rfl⟩
    have HX0 := hid hx0
    have HX2 := hid hx2
    have HX3 := hid hx3
    rw [hx0, hx1, hx2, hx3] at HI
    clear hx0 hx1 hx2 hx3
    go_loopw [6, 7] (fun a m wr => ∃ (ls : List LV) (u : Value) (A : ByteArray) (b : Bool), a = .string A ∧ m = .bool b ∧ Hid (RFrom w N x0 x1 x2 x3 hd wr ls u) ∧ Hid (restL ps b0 B0 = ls.map LV.l ++ restL ps b A ∧ ls.length + restN b A ≤ s.size)) (fun a m _ => muG a m)
    case atStart => exact ⟨[], _, B0, b0, rfl, rfl, HI, rfl, by rw [List.length_nil, Nat.zero_add]; exact HL0.out⟩
    case round =>
      clear HI
      obtain ⟨ls, u, A, b, rfl, rfl, HI, hin⟩ := hrel
      cases b with
      | true =>
        have hlen := cut_len (p := [44, 32]) (by simp) (bl A)
        rw [bl_size] at hlen
        have hz : ls.length + (A.size + 1) ≤ s.size := hin.out.2
        have hls : ls.length ≤ 4096 := by omega
        have HC := cut_c wr A ⟨#[44, 32]⟩ (by decide) (by decide) (by omega)
        rw [show bl (⟨#[44, 32]⟩ : ByteArray) = [44, 32] from rfl] at HC
        have HAG : Hid (litsG ps (A.size + 1) (bl A) = litG ps (cutL [44, 32] (bl A)).1 :: if (cutL [44, 32] (bl A)).2.2 = true then litsG ps A.size (cutL [44, 32] (bl A)).2.1 else []) := by show _ = _; rw [litsG]
        generalize cutL [44, 32] (bl A) = x at *
        obtain ⟨t1, a1, b1⟩ := x
        simp only at hlen HC HAG
        have HMEA := hid (mu_step hlen.2.2)
        go_wp2_with fail
        refine HC.mono ?_
        clear HC
        rintro e w5 ⟨rfl, hb5⟩
        have HI5 := hid (HI.out.lasts hb5)
        clear hb5
        obtain ⟨TL, hTL⟩ : ∃ TL, mk t1 = TL := ⟨_, rfl⟩
        have HTL : Hid (bl TL = t1) := by rw [← hTL]; exact bl_mk _
        have HTLz : Hid (TL.size ≤ 4096) := by rw [← hTL]; show _ ≤ _; rw [mk_size]; omega
        rw [hTL]
        clear hTL
        by_cases h0 : TL.size = 0
        case' pos =>
          have h0' : ¬ (0 : Int) < (TL.size : Int) := by omega
          have HLG0 : Hid (litG ps t1 = ⟨false, atomG ps (bl TL)⟩) := by
            show _ = _
            unfold litG
            rw [if_neg (by have h9 := bl_size TL; rw [HTL.out, h0] at h9; rw [List.eq_nil_of_length_eq_zero h9]; simp), HTL.out]
          have HLT0 : Hid (TL.size ≤ 4096) := HTLz.out
          go_wp2_with fail
          obtain ⟨hI6, hB6, hLu, hL9⟩ := lit_box HI5.out (.bool false) (.int .i64 0) (.slice none 0 0)
          generalize w5.alloc (.cells #[.bool false, .int .i64 0, .slice none 0 0] 66) = WL at hI6 hB6 ⊢
          generalize w5.heap.size = L at hB6 hLu hL9 ⊢
          have HIL := hid hI6
          obtain ⟨ng, hng⟩ : ∃ ng, false = ng := ⟨_, rfl⟩
          have HBX : Hid (boxL WL L (.bool ng) (.int .i64 0) (.slice none 0 0)) := by rw [← hng]; exact hB6
          have HLG : Hid (litG ps t1 = ⟨ng, atomG ps (bl TL)⟩) := by rw [← hng]; exact HLG0.out
          have HLT : Hid (TL.size ≤ 4096) := HLT0.out
          clear hng hI6 hB6 HLG0 HLT0 HI5
          obtain ⟨LT, hLT⟩ : ∃ LT, LT = TL := ⟨_, rfl⟩
          clear h0 h0'
          subst hLT
        case' neg =>
          have h0' : (0 : Int) < (TL.size : Int) := by omega
          have h0n : 0 < TL.size := by omega
          have hh := bl_fst h0n
          rw [HTL.out] at hh
          by_cases h33 : TL[0] = 33
          case' neg =>
            have h33' : ((TL[0].toNat : Int) == 33) = false := by
              rw [beq_eq_false_iff_ne]
              intro e
              exact h33 (UInt8.toNat_inj.1 (by have : (33 : UInt8).toNat = 33 := rfl; omega))
            have HLG0 : Hid (litG ps t1 = ⟨false, atomG ps (bl TL)⟩) := by
              show _ = _
              unfold litG
              rw [if_neg (by rw [hh]; simp [h33]), HTL.out]
            have HLT0 : Hid (TL.size ≤ 4096) := HTLz.out
            go_wp2_with fail
            obtain ⟨hI6, hB6, hLu, hL9⟩ := lit_box HI5.out (.bool false) (.int .i64 0) (.slice none 0 0)
            generalize w5.alloc (.cells #[.bool false, .int .i64 0, .slice none 0 0] 66) = WL at hI6 hB6 ⊢
            generalize w5.heap.size = L at hB6 hLu hL9 ⊢
            have HIL := hid hI6
            obtain ⟨ng, hng⟩ : ∃ ng, false = ng := ⟨_, rfl⟩
            have HBX : Hid (boxL WL L (.bool ng) (.int .i64 0) (.slice none 0 0)) := by rw [← hng]; exact hB6
            have HLG : Hid (litG ps t1 = ⟨ng, atomG ps (bl TL)⟩) := by rw [← hng]; exact HLG0.out
            have HLT : Hid (TL.size ≤ 4096) := HLT0.out
            clear hng hI6 hB6 HLG0 HLT0 HI5
            obtain ⟨LT, hLT⟩ : ∃ LT, LT = TL := ⟨_, rfl⟩
            clear h0 h0' h33 h33' hh
            subst hLT
          case' pos =>
            have h33' : (TL[0].toNat : Int) = 33 := by rw [h33]; rfl
            have hL1 : (1 : Int) ≤ (TL.size : Int) := by omega
            have HLG0 : Hid (litG ps t1 = ⟨true, atomG ps (bl (TL.extract 1 TL.size))⟩) := by
              show _ = _
              unfold litG
              rw [if_pos (by rw [hh, h33]), bl_drop, HTL.out, List.drop_one]
            have HLT0 : Hid ((TL.extract 1 TL.size).size ≤ 4096) := by
              show _ ≤ _
              rw [← bl_size, bl_drop, List.length_drop, bl_size]
              have := HTLz.out
              omega
            clear h33 hh
            go_wp2_with fail
            obtain ⟨hI6, hB6, hLu, hL9⟩ := lit_box HI5.out (.bool true) (.int .i64 0) (.slice none 0 0)
            generalize w5.alloc (.cells #[.bool true, .int .i64 0, .slice none 0 0] 66) = WL at hI6 hB6 ⊢
            generalize w5.heap.size = L at hB6 hLu hL9 ⊢
            have HIL := hid hI6
            obtain ⟨ng, hng⟩ : ∃ ng, true = ng := ⟨_, rfl⟩
            have HBX : Hid (boxL WL L (.bool ng) (.int .i64 0) (.slice none 0 0)) := by rw [← hng]; exact hB6
            have HLG : Hid (litG ps t1 = ⟨ng, atomG ps (bl (TL.extract 1 TL.size))⟩) := by rw [← hng]; exact HLG0.out
            have HLT : Hid ((TL.extract 1 TL.size).size ≤ 4096) := HLT0.out
            clear hng hI6 hB6 HLG0 HLT0 HI5
            generalize TL.extract 1 TL.size = LT at HLG HLT ⊢
            clear h33' hL1 h0 h0'
        all_goals
          have HC := atomFrom_c WL (.slice pa ps.length pc) ps LT (HP.out _ HIL.out.below) HLT.out
          generalize atomG ps (bl LT) = a2 at *
          refine HC.mono ?_
          clear HC
          rintro e w7 ⟨av, rfl, hoa, hb7⟩
          have HI7 := hid (HIL.out.lasts hb7)
          have HB7 := hid (HBX.out.lasts hb7)
          have hoa7 := hid (hoa.mono HIL.out.below.size)
          clear hb7 HIL HBX
          obtain ⟨a2a, a2c, rfl⟩ := own_val hoa.2
          clear hoa
          obtain ⟨g0, g1, g2, k0, k1, k2⟩ := HB7.out.cells
          obtain ⟨V8, hV8⟩ : ∃ V8, (w7.setCell ⟨L, 1, none⟩ (.int .i64 a2.pred)).setCell ⟨L, 2, none⟩ (.slice a2a a2.args.length a2c) = V8 := ⟨_, rfl⟩
          have hB8a := heap_setCell_same w7 L 1 _ _ (.int .i64 a2.pred) HB7.out
          have HB8 : Hid (boxL V8 L (.bool ng) (.int .i64 a2.pred) (.slice a2a a2.args.length a2c)) := by
            rw [← hV8]
            exact heap_setCell_same _ L 2 _ _ _ hB8a
          have HI8 : Hid (RFrom w N x0 x1 x2 x3 hd V8 ls u) := by
            rw [← hV8]
            exact (HI7.out.setL HB7.out hL9 hLu).setL hB8a hL9 hLu
          have HA8 : Hid (OwnA w.heap.size V8 (.slice a2a a2.args.length a2c) a2.args) := by
            rw [← hV8]
            exact hoa7.out.ty ((KeepsTy.set HB7.out (by decide)).trans (KeepsTy.set hB8a (by decide)))
          clear hB8a hoa7
          obtain ⟨m0, m1, m2, _, _, _⟩ := HB8.out.cells
          obtain ⟨_, _, _, _, n4, nf⟩ := HI8.out.box.cells
          obtain ⟨i0, hi0, hz0, hz1, hz2⟩ := info_parts infoLit
          have HREL := hid (rest_step (av := .slice a2a a2.args.length a2c) hin.out HAG.out hlen.2.2 HLG.out)
          have HV9 : Hid (RFrom w N x0 x1 x2 x3 hd (V8.alloc (.cells #[.bool ng, .int .i64 a2.pred, .slice a2a a2.args.length a2c] 66)) ls u) := HI8.out.lasts (below_alloc _ _)
          have HA9 : Hid (OwnA w.heap.size (V8.alloc (.cells #[.bool ng, .int .i64 a2.pred, .slice a2a a2.args.length a2c] 66)) (.slice a2a a2.args.length a2c) a2.args) := HA8.out.ty (KeepsTy.below (below_alloc _ _))
          have HSE : Hid (w.heap.size ≤ V8.heap.size + 1) := by show _ ≤ _; have := HI8.out.below.size; omega
          clear HI7 HB7 HB8 HI8 HA8 hlen HLG
          go_wp2_with (at_builtin; refine wpList_append_lies _ (by rfl) _ _ 52 (by rfl) w.heap.size 66 i0 (.agg #[.bool false, .int .i64 0, .slice none 0 0]) 3 40 Tryz.underlying52 hi0 hz0 hz1 hz2 (by rfl) (by omega) u ls.length (cellsL ls) (by rfl) HV9.out.own ⟨V8.heap.size, 0, none⟩ 1 1 [.bool ng, .int .i64 a2.pred, .slice a2a a2.args.length a2c] (by rfl) (by rfl) new_cells3 (by intro u hu; simp at hu; rcases hu with rfl | rfl | rfl <;> rfl) (by omega) (by unfold maxLen; omega) (by omega) (by rw [World.size_alloc]; exact HSE.out) (V8.heap.size + 1) (World.size_alloc _ _) ?_; intro g9 cap9 W9 hown9 hgrow9 hat9 hlt9; obtain ⟨n1, n2, HN9⟩ := litF_next (ng := ng) (a := a2) hN1 HV9.out HA9.out (by exact hgrow9) (by exact hown9); clear hat9 hlt9 hown9 hgrow9)
          go_roundw
          case rel => exact ⟨_, _, _, _, rfl, rfl, HN9, HREL⟩
          case measure => exact HMEA.out
      | false =>
        have HLS : Hid (ls.length ≤ 4096) := by show _ ≤ _; have := hin.out.2; omega
        have HEND : Hid (ruleG ps (bl s) = ⟨⟨pr, hd⟩, src, n, ls.map LV.l⟩) := by
          show _ = _
          have e : restL ps false A = [] := rfl
          rw [HRG.out, HHD.out, hin.out.1, e, List.append_nil]
        have HFIN := hid (rfrom_out HI.out HLS.out x0 x1 x2 x3 u)
        obtain ⟨c0, c1, c2, c3, c4, hf⟩ := HI.out.box.cells
        obtain ⟨d0, d1, d2, d3, d4, hg⟩ := HI.out.out.cells
        obtain ⟨ua, uc, rfl⟩ := own_val HI.out.own
        obtain ⟨ha, hc, rfl⟩ := own_val HI.out.head.2
        have e0 := HX0.out
        have e2 := HX2.out
        have e3 := HX3.out
        subst e0 e2 e3
        clear hin
        go_wp2_with fail
        exact bodyPost_ret (v := .agg #[.int .i64 pr, .slice ha hd.length hc, .int .i64 src, .int .i64 n, .slice ua ls.length uc]) (by simp [results, Tryz.results40, go_sem, d0, d1, d2, d3, d4]) rfl ⟨_, rfl, by rw [HEND.out]; exact ⟨_, _, rfl, HFIN.out.1, HFIN.out.2.1⟩, HFIN.out.2.2⟩
end Go.Proofs.YtlfccloaoopadafGreatDoor.Text

/-
  A program that the document gathers: its box, its rows; one predicate more, one rule more.
-/
namespace Go.Proofs.YtlfccloaoopadafGreatDoor.Text
open Go.ChangeShapes Go.WideShapes Go.ChangeAt Go.RowKit
open Go.Proofs.YtlfccloaoopadafGreatDoor.Sum (cellsP cellsR RV)

structure PFrom (w : World) (N : Nat) (wr : World) (ps : List Prd) (pv : Value) (rvs : List RV) (u : Value) : Prop where
  box : boxQ wr N pv u
  out : boxQ wr w.heap.size (.slice none 0 0) (.slice none 0 0)
  preds : OwnP w.heap.size wr pv ps
  own : wr.ownsRow w.heap.size 54 5 u rvs.length (cellsR rvs)
  rules : ∀ x ∈ rvs, OwnA w.heap.size wr x.hv x.r.head.args ∧ OwnB w.heap.size wr x.bv x.r.body
  below : Below w.heap.size w wr
theorem boxQ.lasts {b : Nat} {w w' : World} {x y : Value} (h : boxQ w b x y) (hb : Below w.heap.size w w') : boxQ w' b x y := (hb.block b h.lt).trans h
theorem boxQ.far {b N k : Nat} {w : World} {x y u : Value} (h : boxQ w b x y) (hb : N ≠ b) : boxQ (w.setCell ⟨N, k, none⟩ u) b x y := by
  unfold boxQ at h ⊢
  rw [Sum.heap_other hb]
  exact h
theorem PFrom.lasts {w : World} {N : Nat} {wr w' : World} {ps : List Prd} {pv : Value} {rvs : List RV} {u : Value} (h : PFrom w N wr ps pv rvs u) (hb : Below wr.heap.size wr w') : PFrom w N w' ps pv rvs u :=
  ⟨h.box.lasts hb, h.out.lasts hb, h.preds.ty (KeepsTy.below hb), Sum.own_lasts h.own hb, fun x hx => ⟨(h.rules x hx).1.ty (KeepsTy.below hb), (h.rules x hx).2.ty (KeepsTy.below hb) (KeepsTy.below hb)⟩, h.below.trans (hb.mono h.below.size)⟩
theorem predF_next {w : World} {N : Nat} {V W9 : World} {ps : List Prd} {pv : Value} {rvs : List RV} {u : Value} {q : Prd} {g cap : Nat} (hN : w.heap.size < N) (hV : PFrom w N V ps pv rvs u) (hp : ps.length < 4096)
    (hg : V.grownBy W9 pv.ownBlock) (h9 : W9.ownsRow w.heap.size 47 3 (.slice (some ⟨g, 0, none⟩) (ps.length + 1) cap) (ps.length + 1) (cellsP ps ++ [.string q.name, .int .i64 q.arity, .int .i64 q.kind])) :
    W9.cell? ⟨N, 0, none⟩ = some pv ∧ W9.frozen? ⟨N, 0, none⟩ = false ∧ Hid (PFrom w N (W9.setCell ⟨N, 0, none⟩ (.slice (some ⟨g, 0, none⟩) (ps.length + 1) cap)) (ps ++ [q]) (.slice (some ⟨g, 0, none⟩) (ps.length + 1) cap) rvs u) := by
  have b1 : boxQ W9 N pv u := obj_grown hg hV.box (own_not hV.preds.2 hV.box (by decide))
  have b2 : boxQ W9 w.heap.size (.slice none 0 0) (.slice none 0 0) := obj_grown hg hV.out (own_not hV.preds.2 hV.out (by decide))
  have b4 : Below w.heap.size w W9 := hV.below.grown hg hV.below.size (own_block hV.preds.2)
  obtain ⟨c0, c1, f0, f1⟩ := b1.cells
  have kt : KeepsTy 94 w.heap.size V (W9.setCell ⟨N, 0, none⟩ (.slice (some ⟨g, 0, none⟩) (ps.length + 1) cap)) := (KeepsTy.grown hg hV.preds.2 (by decide)).trans (KeepsTy.set b1 (by decide))
  have kl : KeepsTy 66 w.heap.size V (W9.setCell ⟨N, 0, none⟩ (.slice (some ⟨g, 0, none⟩) (ps.length + 1) cap)) := (KeepsTy.grown hg hV.preds.2 (by decide)).trans (KeepsTy.set b1 (by decide))
  have kr : KeepsTy 54 w.heap.size V (W9.setCell ⟨N, 0, none⟩ (.slice (some ⟨g, 0, none⟩) (ps.length + 1) cap)) := (KeepsTy.grown hg hV.preds.2 (by decide)).trans (KeepsTy.set b1 (by decide))
  refine ⟨c0, f0, b1.set0 _, b2.far (by omega), ⟨by rw [List.length_append, List.length_singleton]; omega, ?_⟩, own_ty hV.own kr, fun x hx => ⟨(hV.rules x hx).1.ty kt, (hV.rules x hx).2.ty kt kl⟩, b4.setCell (p := ⟨N, 0, none⟩) (by show w.heap.size ≤ N; omega) _⟩
  rw [cellsP_more, List.length_append]
  exact own_far h9 b1 (by decide)
theorem ruleF_next {w : World} {N : Nat} {V W9 : World} {ps : List Prd} {pv : Value} {rvs : List RV} {u : Value} {r : Rul} {hv bv : Value} {g cap : Nat} (hN : w.heap.size < N) (hV : PFrom w N V ps pv rvs u) (hA : OwnA w.heap.size V hv r.head.args) (hL : OwnB w.heap.size V bv r.body)
    (hg : V.grownBy W9 u.ownBlock) (h9 : W9.ownsRow w.heap.size 54 5 (.slice (some ⟨g, 0, none⟩) (rvs.length + 1) cap) (rvs.length + 1) (cellsR rvs ++ [.int .i64 r.head.pred, hv, .int .i64 r.src, .int .i64 r.n, bv])) :
    W9.cell? ⟨N, 1, none⟩ = some u ∧ W9.frozen? ⟨N, 1, none⟩ = false ∧ Hid (PFrom w N (W9.setCell ⟨N, 1, none⟩ (.slice (some ⟨g, 0, none⟩) (rvs.length + 1) cap)) ps pv (rvs ++ [⟨r, hv, bv⟩]) (.slice (some ⟨g, 0, none⟩) (rvs.length + 1) cap)) := by
  have b1 : boxQ W9 N pv u := obj_grown hg hV.box (own_not hV.own hV.box (by decide))
  have b2 : boxQ W9 w.heap.size (.slice none 0 0) (.slice none 0 0) := obj_grown hg hV.out (own_not hV.own hV.out (by decide))
  have b4 : Below w.heap.size w W9 := hV.below.grown hg hV.below.size (own_block hV.own)
  obtain ⟨c0, c1, f0, f1⟩ := b1.cells
  have kt : KeepsTy 94 w.heap.size V (W9.setCell ⟨N, 1, none⟩ (.slice (some ⟨g, 0, none⟩) (rvs.length + 1) cap)) := (KeepsTy.grown hg hV.own (by decide)).trans (KeepsTy.set b1 (by decide))
  have kl : KeepsTy 66 w.heap.size V (W9.setCell ⟨N, 1, none⟩ (.slice (some ⟨g, 0, none⟩) (rvs.length + 1) cap)) := (KeepsTy.grown hg hV.own (by decide)).trans (KeepsTy.set b1 (by decide))
  have kp : KeepsTy 47 w.heap.size V (W9.setCell ⟨N, 1, none⟩ (.slice (some ⟨g, 0, none⟩) (rvs.length + 1) cap)) := (KeepsTy.grown hg hV.own (by decide)).trans (KeepsTy.set b1 (by decide))
  refine ⟨c1, f1, b1.set1 _, b2.far (by omega), hV.preds.ty kp, ?_, ?_, b4.setCell (p := ⟨N, 1, none⟩) (by show w.heap.size ≤ N; omega) _⟩
  · rw [cellsR_more, List.length_append]
    exact own_far h9 b1 (by decide)
  · intro x hx
    rcases List.mem_append.1 hx with hx | hx
    · exact ⟨(hV.rules x hx).1.ty kt, (hV.rules x hx).2.ty kt kl⟩
    · rw [List.mem_singleton] at hx
      subst hx
      exact ⟨hA.ty kt, hL.ty kt kl⟩
theorem lines_fuel : ∀ (n m : Nat) (x : List Prd × List Rul) (s : List UInt8), s.length ≤ n → s.length ≤ m → linesG n x s = linesG m x s := by
  have nil0 : ∀ n x, linesG n x [] = x := by intro n x; cases n <;> rfl
  intro n
  induction n with
  | zero =>
    intro m x s h1 h2
    have : s = [] := List.length_eq_zero_iff.1 (by omega)
    subst this
    rw [nil0, nil0]
  | succ n ih =>
    intro m x s h1 h2
    cases m with
    | zero =>
      have : s = [] := List.length_eq_zero_iff.1 (by omega)
      subst this
      rw [nil0, nil0]
    | succ m =>
      rw [linesG, linesG]
      split
      · rfl
      · rename_i hs
        have hl := cut_len (p := [10]) (by simp) s
        have h0 : 0 < s.length := List.length_pos_iff.2 hs
        have h3 : (cutL [10] s).2.1.length < s.length := by
          cases hc : (cutL [10] s).2.2 with
          | true => have := hl.2.2 hc; omega
          | false =>
            have : (cutL [10] s).2.1 = [] := by
              cases s with
              | nil => rfl
              | cons b s =>
                rw [cutL] at hc ⊢
                split at hc
                · cases hc
                · split at hc
                  · cases hc
                  · rename_i h6
                    simp [h6]
            rw [this]
            exact h0
        exact ih m _ _ (by omega) (by omega)
end Go.Proofs.YtlfccloaoopadafGreatDoor.Text
