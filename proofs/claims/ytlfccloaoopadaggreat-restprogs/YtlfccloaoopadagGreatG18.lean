/-
  Two lists of predicates are held against each other (the library's Equal); what the document's own SameProgs answers where the rules are the same.
-/
import Derived.Laws.StructEq
import Derived.Test.YtlfccloaoopadagGreatG5
import Derived.Test.YtlfccloaoopadagGreatG17
import Derived.Test.YtlfccloaoopadagGreatG7
import Derived.Test.YtlfccloaoopadagGreatG6
import Derived.Test.YtlfccloaoopadagGreatG9
namespace Go.Proofs.YtlfccloaoopadagGreat.Sum
open Go.ChangeShapes Go.WideShapes Go.ChangeAt Go.RowKit
open Prog (slice_cells)

deriving instance DecidableEq for Prd

def predV (p : Prd) : Value := .agg #[.string p.name, .int .i64 p.arity, .int .i64 p.kind]
set_option maxRecDepth 100000 in
theorem pred_equal (a b : Prd) (w : World) : (Op.equalIn 10000 52 (predV a) (predV b)).run Tryz.prog w = .ok (decide (a = b)) w := by
  have hS : Tryz.prog.underlying 52 = some (.struct (Tryz.prog.fieldsOf 52)) := by kernel_rfl
  have hp : Tryz.prog.stoodInHeld 52 = false := by kernel_rfl
  rw [show (10000 : Nat) = 9999 + 1 from rfl, predV, predV, run_equalIn_agg w 9999 52 _ _ hS hp]
  simp only [Program.fieldsOf, Tryz.underlying52]
  go_simp
  obtain ⟨r, x, y⟩ := a
  obtain ⟨r', x', y'⟩ := b
  have hr : r.toList = r'.toList ↔ r = r' := ⟨fun h => by
    rw [ByteArray.toList_eq, ByteArray.toList_eq] at h
    exact ByteArray.ext (Array.toList_inj.1 h), fun h => by rw [h]⟩
  by_cases h1 : r = r' <;> by_cases h2 : x = x' <;> by_cases h3 : y = y' <;> simp [h1, h2, h3, hr]
theorem pred_neq (a b : Prd) (w : World) : (binOp .neq 52 (.agg #[.string a.name, .int .i64 a.arity, .int .i64 a.kind]) (.agg #[.string b.name, .int .i64 b.arity, .int .i64 b.kind])).run Tryz.prog w = .ok (.bool (!decide (a = b))) w := by
  have := pred_equal a b w
  rw [predV, predV] at this
  simp [binOp, Op.equal, Op.maxDepth, this]
theorem term_same (a : Tm) (w : World) : (binOp .neq 111 (.agg #[.bool a.var, .int .i64 a.n]) (.agg #[.bool a.var, .int .i64 a.n])).run Tryz.prog w = .ok (.bool false) w := by
  have hS : Tryz.prog.underlying 111 = some (.struct (Tryz.prog.fieldsOf 111)) := by kernel_rfl
  have hp : Tryz.prog.stoodInHeld 111 = false := by kernel_rfl
  have h : (Op.equalIn 10000 111 (.agg #[.bool a.var, .int .i64 a.n]) (.agg #[.bool a.var, .int .i64 a.n])).run Tryz.prog w = .ok true w := by
    rw [show (10000 : Nat) = 9999 + 1 from rfl, run_equalIn_agg w 9999 111 _ _ hS hp]
    simp only [Program.fieldsOf, Tryz.underlying111]
    go_simp
  simp [binOp, Op.equal, Op.maxDepth, h]
theorem take_same {α : Type} {f g : List α} {j : Nat} (h1 : j < f.length) (h2 : j < g.length) : f.take (j + 1) = g.take (j + 1) ↔ f.take j = g.take j ∧ f[j] = g[j] := by
  rw [List.take_succ_eq_append_getElem h1, List.take_succ_eq_append_getElem h2]
  constructor
  · intro h
    have := List.append_inj' h rfl
    exact ⟨this.1, by simpa using this.2⟩
  · rintro ⟨h, h'⟩
    rw [h, h']

set_option maxRecDepth 100000 in
set_option maxHeartbeats 1000000 in
theorem equal_c (w : World) (fv gv : Value) (f g : List Prd) (hf : predsAt w fv f) (hg : predsAt w gv g) :
    Calls Tryz.prog 24 #[fv, gv] w fun e w' => e = .returned (.bool (decide (f = g))) ∧ Below w.heap.size w w' := by
  have HF : Hid (predsAt w fv f) := hf
  have HG : Hid (predsAt w gv g) := hg
  obtain ⟨fa, fc, rfl, hfm, hfx⟩ := hf
  obtain ⟨ga, gc, rfl, hgm, hgx⟩ := hg
  clear hfx hgx
  by_cases hl : f.length = g.length
  · have HL : Hid (f.length = g.length) := hl
    rw [← hl]
    clear hl
    go_enter Tryz.func24, Tryz.ntmps24
    go_wp2_with fail
    go_loopw [13] (fun i wr => ∃ j : Nat, j ≤ f.length ∧ i = .int .i64 j ∧ f.take j = g.take j ∧ Below w.heap.size w wr) (fun i _ => f.length - (intOf i).toNat)
    case atStart => exact ⟨0, Nat.zero_le _, rfl, rfl, Below.refl _ _⟩
    case round =>
      obtain ⟨j, hj, rfl, hall, hbw⟩ := hrel
      by_cases hlt : j < f.length
      · have hlt2 : j < g.length := by have := HL.out; omega
        have HT : Hid (f[j] = g[j] → f.take (j + 1) = g.take (j + 1)) := fun h => (take_same hlt hlt2).2 ⟨hall, h⟩
        have HN : Hid (f[j] ≠ g[j] → decide (f = g) = false) := fun h => by simp only [decide_eq_false_iff_not]; rintro rfl; exact h rfl
        obtain ⟨b1, o1, c1, hv1, hb1, hc1⟩ := slice_cells HF.out hlt
        obtain ⟨rfl, rfl⟩ : fa = some ⟨b1, o1, none⟩ ∧ fc = c1 := by simpa using hv1
        obtain ⟨b2, o2, c2, hv2, hb2, hc2⟩ := slice_cells HG.out hlt2
        obtain ⟨rfl, rfl⟩ : ga = some ⟨b2, o2, none⟩ ∧ gc = c2 := by simpa using hv2
        obtain ⟨t0, t1, t2⟩ := predAt.lasts w wr b1 _ _ hbw hb1 hc1
        obtain ⟨u0, u1, u2⟩ := predAt.lasts w wr b2 _ _ hbw hb2 hc2
        have s1 : b1 < wr.heap.size := Nat.lt_of_lt_of_le hb1 hbw.size
        have s2 : b2 < wr.heap.size := Nat.lt_of_lt_of_le hb2 hbw.size
        have hjl : (j : Int) < (f.length : Int) := by omega
        have hjg : (j : Int) < (g.length : Int) := by omega
        have hj0 : (0 : Int) ≤ (j : Int) := by omega
        clear hv1 hv2 hc1 hc2 hall HF HG
        generalize f[j] = y at *
        generalize g[j] = z at *
        have hq := pred_neq y z
        have heg : Tryz.prog.eqGuardType Tryz.prog.depth 52 = false := by kernel_rfl
        by_cases h0 : y = z
        · subst h0
          have h0 : y = y := rfl
          have H3 : Hid (f.take (j + 1) = g.take (j + 1)) := HT.out h0
          rw [decide_eq_true h0, Bool.not_true] at hq
          clear HN HT
          go_wp2_with fail
          have L0 : ∀ x : Low wr.heap.size wr, x.wd.cell? ⟨b1, o1 + j * 3, none⟩ = some (.string y.name) := fun x => (cell_lasts x.low s1).trans t0
          have L1 : ∀ x : Low wr.heap.size wr, x.wd.cell? ⟨b1, o1 + j * 3 + 1, none⟩ = some (.int .i64 y.arity) := fun x => (cell_lasts x.low s1).trans t1
          have L2 : ∀ x : Low wr.heap.size wr, x.wd.cell? ⟨b1, o1 + j * 3 + 2, none⟩ = some (.int .i64 y.kind) := fun x => (cell_lasts x.low s1).trans t2
          have M0 : ∀ x : Low wr.heap.size wr, x.wd.cell? ⟨b2, o2 + j * 3, none⟩ = some (.string y.name) := fun x => (cell_lasts x.low s2).trans u0
          have M1 : ∀ x : Low wr.heap.size wr, x.wd.cell? ⟨b2, o2 + j * 3 + 1, none⟩ = some (.int .i64 y.arity) := fun x => (cell_lasts x.low s2).trans u1
          have M2 : ∀ x : Low wr.heap.size wr, x.wd.cell? ⟨b2, o2 + j * 3 + 2, none⟩ = some (.int .i64 y.kind) := fun x => (cell_lasts x.low s2).trans u2
          refine wp_region_low wr.heap.size (by kernel_rfl) (by kernel_rfl) ?_
          repeat (go_big_quiet_step (fail))
          refine wpQuiet_nil ?_
          rintro _ ⟨⟨w1, hk⟩, rfl⟩
          clear L0 L1 L2 M0 M1 M2
          go_wp2_with fail
          go_roundw
          case rel => exact ⟨j + 1, by omega, by go_num, H3.out, hbw.trans (hk.mono hbw.size)⟩
          case measure => simp [intOf]; omega
        · have H3 : Hid (decide (f = g) = false) := HN.out h0
          rw [decide_eq_false h0, Bool.not_false] at hq
          clear HN HT
          go_wp2_with fail
          have L0 : ∀ x : Low wr.heap.size wr, x.wd.cell? ⟨b1, o1 + j * 3, none⟩ = some (.string y.name) := fun x => (cell_lasts x.low s1).trans t0
          have L1 : ∀ x : Low wr.heap.size wr, x.wd.cell? ⟨b1, o1 + j * 3 + 1, none⟩ = some (.int .i64 y.arity) := fun x => (cell_lasts x.low s1).trans t1
          have L2 : ∀ x : Low wr.heap.size wr, x.wd.cell? ⟨b1, o1 + j * 3 + 2, none⟩ = some (.int .i64 y.kind) := fun x => (cell_lasts x.low s1).trans t2
          have M0 : ∀ x : Low wr.heap.size wr, x.wd.cell? ⟨b2, o2 + j * 3, none⟩ = some (.string z.name) := fun x => (cell_lasts x.low s2).trans u0
          have M1 : ∀ x : Low wr.heap.size wr, x.wd.cell? ⟨b2, o2 + j * 3 + 1, none⟩ = some (.int .i64 z.arity) := fun x => (cell_lasts x.low s2).trans u1
          have M2 : ∀ x : Low wr.heap.size wr, x.wd.cell? ⟨b2, o2 + j * 3 + 2, none⟩ = some (.int .i64 z.kind) := fun x => (cell_lasts x.low s2).trans u2
          refine wp_region_low wr.heap.size (by kernel_rfl) (by kernel_rfl) ?_
          repeat (go_big_quiet_step (fail))
          refine wpQuiet_nil ?_
          rintro _ ⟨⟨w1, hk⟩, rfl⟩
          clear L0 L1 L2 M0 M1 M2
          go_wp2_with fail
          go_ret
          exact ⟨by rw [H3.out]; rfl, hbw.trans (hk.mono hbw.size)⟩
      · have HE : Hid (decide (f = g) = true) := by
          show _ = _
          rw [List.take_of_length_le (by omega), List.take_of_length_le (by have := HL.out; omega)] at hall
          simpa using hall
        clear hall HF HG
        go_wp2_with fail
        go_ret
        exact ⟨by rw [HE.out]; rfl, hbw⟩
  · have hl' : ((f.length : Int) == (g.length : Int)) = false := by simpa using (by omega : ¬ (f.length : Int) = (g.length : Int))
    have H : Hid (decide (f = g) = false) := by show _ = _; simp only [decide_eq_false_iff_not]; rintro rfl; exact hl rfl
    go_enter Tryz.func24, Tryz.ntmps24
    go_wp2_with fail
    go_ret
    exact ⟨by rw [H.out]; rfl, Below.refl _ _⟩

set_option maxRecDepth 100000 in
set_option maxHeartbeats 1000000 in
theorem sameAtoms_c (w : World) (k : Int) (fv gv : Value) (f : List Tm) (hf : termsAt w fv f) (hg : termsAt w gv f) :
    Calls Tryz.prog 55 #[.agg #[.int .i64 k, fv], .agg #[.int .i64 k, gv]] w fun e w' => e = .returned (.bool true) ∧ Below w.heap.size w w' := by
  have HF : Hid (∀ x, Below w.heap.size w x → termsAt x fv f) := fun x hx => termsAt.lasts hx hf
  have HG : Hid (∀ x, Below w.heap.size w x → termsAt x gv f) := fun x hx => termsAt.lasts hx hg
  obtain ⟨fa, fc, rfl, hfm, hfx⟩ := hf
  obtain ⟨ga, gc, rfl, hgm, hgx⟩ := hg
  clear hfx hgx
  obtain ⟨W1, hW1⟩ : ∃ W1, (w.alloc (.cells #[.int .i64 k, .slice fa f.length fc] 55)).alloc (.cells #[.int .i64 k, .slice ga f.length gc] 55) = W1 := ⟨_, rfl⟩
  have b1 : Below w.heap.size w W1 := by rw [← hW1]; exact (below_alloc _ _).alloc (by simp) _
  have c0 : W1.cell? ⟨w.heap.size, 1, none⟩ = some (.slice fa f.length fc) := by rw [← hW1]; simp [go_sem]
  have c1 : W1.cell? ⟨w.heap.size + 1, 1, none⟩ = some (.slice ga f.length gc) := by rw [← hW1]; simp [go_sem]
  have c2 : W1.cell? ⟨w.heap.size, 0, none⟩ = some (.int .i64 k) := by rw [← hW1]; simp [go_sem]
  have c3 : W1.cell? ⟨w.heap.size + 1, 0, none⟩ = some (.int .i64 k) := by rw [← hW1]; simp [go_sem]
  have hs : W1.heap.size = w.heap.size + 2 := by rw [← hW1]; simp
  have HC : Hid (∀ x, Below W1.heap.size W1 x → x.cell? ⟨w.heap.size, 1, none⟩ = some (.slice fa f.length fc) ∧ x.cell? ⟨w.heap.size + 1, 1, none⟩ = some (.slice ga f.length gc)) := fun x hx => ⟨(cell_lasts hx (by omega)).trans c0, (cell_lasts hx (by omega)).trans c1⟩
  go_enter Tryz.func55, Tryz.ntmps55
  go_wp2_with fail
  clear hW1 c0 c1 c2 c3
  go_loopw [5] (fun i wr => ∃ j : Nat, j ≤ f.length ∧ i = .int .i64 j ∧ Below W1.heap.size W1 wr) (fun i _ => f.length - (intOf i).toNat)
  case atStart => exact ⟨0, Nat.zero_le _, rfl, Below.refl _ _⟩
  case round =>
    obtain ⟨j, hj, rfl, hbw⟩ := hrel
    obtain ⟨d0, d1⟩ := HC.out wr hbw
    have kw : Below w.heap.size w wr := b1.trans (hbw.mono b1.size)
    by_cases hlt : j < f.length
    · obtain ⟨x1, o1, q1, hv1, hx1, t0, t1⟩ := slice_cells (HF.out wr kw) hlt
      obtain ⟨rfl, rfl⟩ : fa = some ⟨x1, o1, none⟩ ∧ fc = q1 := by simpa using hv1
      obtain ⟨x2, o2, q2, hv2, hx2, u0, u1⟩ := slice_cells (HG.out wr kw) hlt
      obtain ⟨rfl, rfl⟩ : ga = some ⟨x2, o2, none⟩ ∧ gc = q2 := by simpa using hv2
      have hjl : (j : Int) < (f.length : Int) := by omega
      have hj0 : (0 : Int) ≤ (j : Int) := by omega
      have s1 : w.heap.size < wr.heap.size := by have := hbw.size; omega
      have s2 : w.heap.size + 1 < wr.heap.size := by have := hbw.size; omega
      clear hv1 hv2
      generalize f[j] = y at *
      have hq := term_same y
      have heg : Tryz.prog.eqGuardType Tryz.prog.depth 111 = false := by kernel_rfl
      go_wp2_with fail
      have L0 : ∀ x : Low wr.heap.size wr, x.wd.cell? ⟨x1, o1 + j * 2, none⟩ = some (.bool y.var) := fun x => (cell_lasts x.low hx1).trans t0
      have L1 : ∀ x : Low wr.heap.size wr, x.wd.cell? ⟨x1, o1 + j * 2 + 1, none⟩ = some (.int .i64 y.n) := fun x => (cell_lasts x.low hx1).trans t1
      have M0 : ∀ x : Low wr.heap.size wr, x.wd.cell? ⟨x2, o2 + j * 2, none⟩ = some (.bool y.var) := fun x => (cell_lasts x.low hx2).trans u0
      have M1 : ∀ x : Low wr.heap.size wr, x.wd.cell? ⟨x2, o2 + j * 2 + 1, none⟩ = some (.int .i64 y.n) := fun x => (cell_lasts x.low hx2).trans u1
      have N0 : ∀ x : Low wr.heap.size wr, x.wd.cell? ⟨w.heap.size, 1, none⟩ = some (.slice (some ⟨x1, o1, none⟩) f.length fc) := fun x => (cell_lasts x.low s1).trans d0
      have N1 : ∀ x : Low wr.heap.size wr, x.wd.cell? ⟨w.heap.size + 1, 1, none⟩ = some (.slice (some ⟨x2, o2, none⟩) f.length gc) := fun x => (cell_lasts x.low s2).trans d1
      refine wp_region_low wr.heap.size (by kernel_rfl) (by kernel_rfl) ?_
      repeat (go_big_quiet_step (fail))
      refine wpQuiet_nil ?_
      rintro _ ⟨⟨w1, hk⟩, rfl⟩
      clear L0 L1 M0 M1 N0 N1 d0 d1
      go_wp2_with fail
      go_roundw
      case rel => exact ⟨j + 1, by omega, by go_num, hbw.trans (hk.mono hbw.size)⟩
      case measure => simp [intOf]; omega
    · obtain rfl : j = f.length := by omega
      go_wp2_with fail
      go_ret
      exact ⟨rfl, kw⟩

set_option maxRecDepth 100000 in
set_option maxHeartbeats 4000000 in
theorem sameProgs_c (w : World) (pv rv qv sv : Value) (f g : List Prd) (rs : List Rul) (hf : predsAt w pv f) (hg : predsAt w qv g) (hr : rulesAt w rv rs) (hs : rulesAt w sv rs) :
    Calls Tryz.prog 22 #[.agg #[pv, rv], .agg #[qv, sv]] w fun e w' => e = .returned (.bool (decide (f = g))) ∧ Below w.heap.size w w' := by
  have HF : Hid (∀ x, Below w.heap.size w x → predsAt x pv f) := fun x hx => predsAt.lasts hx hf
  have HG : Hid (∀ x, Below w.heap.size w x → predsAt x qv g) := fun x hx => predsAt.lasts hx hg
  have HR : Hid (∀ x, Below w.heap.size w x → rulesAt x rv rs) := fun x hx => rulesAt.lasts hx hr
  have HS : Hid (∀ x, Below w.heap.size w x → rulesAt x sv rs) := fun x hx => rulesAt.lasts hx hs
  obtain ⟨fa, fc, rfl, hfm, hfx⟩ := hf
  obtain ⟨ga, gc, rfl, hgm, hgx⟩ := hg
  obtain ⟨ra, rc, rfl, hrm, hrx⟩ := hr
  obtain ⟨sa, sc, rfl, hsm, hsx⟩ := hs
  clear hfx hgx hrx hsx
  by_cases hl : f.length = g.length
  · have HL : Hid (f.length = g.length) := hl
    rw [← hl]
    clear hl hgm
    obtain ⟨W1, hW1⟩ : ∃ W1, (w.alloc (.cells #[.slice fa f.length fc, .slice ra rs.length rc] 25)).alloc (.cells #[.slice ga f.length gc, .slice sa rs.length sc] 25) = W1 := ⟨_, rfl⟩
    have b1 : Below w.heap.size w W1 := by rw [← hW1]; exact (below_alloc _ _).alloc (by simp) _
    have c0 : W1.cell? ⟨w.heap.size, 0, none⟩ = some (.slice fa f.length fc) ∧ W1.cell? ⟨w.heap.size, 1, none⟩ = some (.slice ra rs.length rc) ∧ W1.cell? ⟨w.heap.size + 1, 0, none⟩ = some (.slice ga f.length gc) ∧ W1.cell? ⟨w.heap.size + 1, 1, none⟩ = some (.slice sa rs.length sc) := by rw [← hW1]; simp [go_sem]
    have hs : W1.heap.size = w.heap.size + 2 := by rw [← hW1]; simp
    have HC : Hid (∀ x, Below W1.heap.size W1 x → x.cell? ⟨w.heap.size, 0, none⟩ = some (.slice fa f.length fc) ∧ x.cell? ⟨w.heap.size, 1, none⟩ = some (.slice ra rs.length rc) ∧ x.cell? ⟨w.heap.size + 1, 0, none⟩ = some (.slice ga f.length gc) ∧ x.cell? ⟨w.heap.size + 1, 1, none⟩ = some (.slice sa rs.length sc)) := fun x hx => ⟨(cell_lasts hx (by omega)).trans c0.1, (cell_lasts hx (by omega)).trans c0.2.1, (cell_lasts hx (by omega)).trans c0.2.2.1, (cell_lasts hx (by omega)).trans c0.2.2.2⟩
    obtain ⟨d0, d1, d2, d3⟩ := id c0
    go_enter Tryz.func22, Tryz.ntmps22
    go_wp2_with fail
    clear hW1 c0 d0 d1 d2 d3
    go_loopw [5] (fun i wr => ∃ j : Nat, j ≤ f.length ∧ i = .int .i64 j ∧ f.take j = g.take j ∧ Below W1.heap.size W1 wr) (fun i _ => f.length - (intOf i).toNat)
    case atStart => exact ⟨0, Nat.zero_le _, rfl, rfl, Below.refl _ _⟩
    case round =>
      obtain ⟨j, hj, rfl, hall, hbw⟩ := hrel
      obtain ⟨d0, d1, d2, d3⟩ := HC.out wr hbw
      have kw : Below w.heap.size w wr := b1.trans (hbw.mono b1.size)
      by_cases hlt : j < f.length
      · have hlt2 : j < g.length := by have := HL.out; omega
        have HT : Hid (f[j] = g[j] → f.take (j + 1) = g.take (j + 1)) := fun h => (take_same hlt hlt2).2 ⟨hall, h⟩
        have HN : Hid (f[j] ≠ g[j] → decide (f = g) = false) := fun h => by simp only [decide_eq_false_iff_not]; rintro rfl; exact h rfl
        obtain ⟨p1, o1, q1, hv1, s1, t0, t1, t2⟩ := slice_cells (HF.out wr kw) hlt
        obtain ⟨rfl, rfl⟩ : fa = some ⟨p1, o1, none⟩ ∧ fc = q1 := by simpa using hv1
        obtain ⟨p2, o2, q2, hv2, s2, u0, u1, u2⟩ := slice_cells (HG.out wr kw) hlt2
        obtain ⟨rfl, rfl⟩ : ga = some ⟨p2, o2, none⟩ ∧ gc = q2 := by simpa using hv2
        have s3 : w.heap.size < wr.heap.size := by have := hbw.size; omega
        have s4 : w.heap.size + 1 < wr.heap.size := by have := hbw.size; omega
        have hjl : (j : Int) < (f.length : Int) := by omega
        have hj0 : (0 : Int) ≤ (j : Int) := by omega
        clear hv1 hv2 hall
        generalize f[j] = y at *
        generalize g[j] = z at *
        have hq := pred_neq y z
        have heg : Tryz.prog.eqGuardType Tryz.prog.depth 52 = false := by kernel_rfl
        by_cases h0 : y = z
        · subst h0
          have h0 : y = y := rfl
          have H3 : Hid (f.take (j + 1) = g.take (j + 1)) := HT.out h0
          rw [decide_eq_true h0, Bool.not_true] at hq
          clear HN HT
          go_wp2_with fail
          have L0 : ∀ x : Low wr.heap.size wr, x.wd.cell? ⟨p1, o1 + j * 3, none⟩ = some (.string y.name) := fun x => (cell_lasts x.low s1).trans t0
          have L1 : ∀ x : Low wr.heap.size wr, x.wd.cell? ⟨p1, o1 + j * 3 + 1, none⟩ = some (.int .i64 y.arity) := fun x => (cell_lasts x.low s1).trans t1
          have L2 : ∀ x : Low wr.heap.size wr, x.wd.cell? ⟨p1, o1 + j * 3 + 2, none⟩ = some (.int .i64 y.kind) := fun x => (cell_lasts x.low s1).trans t2
          have M0 : ∀ x : Low wr.heap.size wr, x.wd.cell? ⟨p2, o2 + j * 3, none⟩ = some (.string y.name) := fun x => (cell_lasts x.low s2).trans u0
          have M1 : ∀ x : Low wr.heap.size wr, x.wd.cell? ⟨p2, o2 + j * 3 + 1, none⟩ = some (.int .i64 y.arity) := fun x => (cell_lasts x.low s2).trans u1
          have M2 : ∀ x : Low wr.heap.size wr, x.wd.cell? ⟨p2, o2 + j * 3 + 2, none⟩ = some (.int .i64 y.kind) := fun x => (cell_lasts x.low s2).trans u2
          have N0 : ∀ x : Low wr.heap.size wr, x.wd.cell? ⟨w.heap.size, 0, none⟩ = some (.slice (some ⟨p1, o1, none⟩) f.length fc) := fun x => (cell_lasts x.low s3).trans d0
          have N1 : ∀ x : Low wr.heap.size wr, x.wd.cell? ⟨w.heap.size + 1, 0, none⟩ = some (.slice (some ⟨p2, o2, none⟩) f.length gc) := fun x => (cell_lasts x.low s4).trans d2
          refine wp_region_low wr.heap.size (by kernel_rfl) (by kernel_rfl) ?_
          repeat (go_big_quiet_step (fail))
          refine wpQuiet_nil ?_
          rintro _ ⟨⟨w1, hk⟩, rfl⟩
          clear L0 L1 L2 M0 M1 M2 N0 N1 d0 d1 d2 d3
          go_wp2_with fail
          go_roundw
          case rel => exact ⟨j + 1, by omega, by go_num, H3.out, hbw.trans (hk.mono hbw.size)⟩
          case measure => simp [intOf]; omega
        · have H3 : Hid (decide (f = g) = false) := HN.out h0
          rw [decide_eq_false h0, Bool.not_false] at hq
          clear HN HT
          go_wp2_with fail
          have L0 : ∀ x : Low wr.heap.size wr, x.wd.cell? ⟨p1, o1 + j * 3, none⟩ = some (.string y.name) := fun x => (cell_lasts x.low s1).trans t0
          have L1 : ∀ x : Low wr.heap.size wr, x.wd.cell? ⟨p1, o1 + j * 3 + 1, none⟩ = some (.int .i64 y.arity) := fun x => (cell_lasts x.low s1).trans t1
          have L2 : ∀ x : Low wr.heap.size wr, x.wd.cell? ⟨p1, o1 + j * 3 + 2, none⟩ = some (.int .i64 y.kind) := fun x => (cell_lasts x.low s1).trans t2
          have M0 : ∀ x : Low wr.heap.size wr, x.wd.cell? ⟨p2, o2 + j * 3, none⟩ = some (.string z.name) := fun x => (cell_lasts x.low s2).trans u0
          have M1 : ∀ x : Low wr.heap.size wr, x.wd.cell? ⟨p2, o2 + j * 3 + 1, none⟩ = some (.int .i64 z.arity) := fun x => (cell_lasts x.low s2).trans u1
          have M2 : ∀ x : Low wr.heap.size wr, x.wd.cell? ⟨p2, o2 + j * 3 + 2, none⟩ = some (.int .i64 z.kind) := fun x => (cell_lasts x.low s2).trans u2
          have N0 : ∀ x : Low wr.heap.size wr, x.wd.cell? ⟨w.heap.size, 0, none⟩ = some (.slice (some ⟨p1, o1, none⟩) f.length fc) := fun x => (cell_lasts x.low s3).trans d0
          have N1 : ∀ x : Low wr.heap.size wr, x.wd.cell? ⟨w.heap.size + 1, 0, none⟩ = some (.slice (some ⟨p2, o2, none⟩) f.length gc) := fun x => (cell_lasts x.low s4).trans d2
          refine wp_region_low wr.heap.size (by kernel_rfl) (by kernel_rfl) ?_
          repeat (go_big_quiet_step (fail))
          refine wpQuiet_nil ?_
          rintro _ ⟨⟨w1, hk⟩, rfl⟩
          clear L0 L1 L2 M0 M1 M2 N0 N1 d0 d1 d2 d3
          go_wp2_with fail
          go_ret
          exact ⟨by rw [H3.out]; rfl, kw.trans (hk.mono kw.size)⟩
      · have HE : Hid (decide (f = g) = true) := by
          show _ = _
          rw [List.take_of_length_le (by omega), List.take_of_length_le (by have := HL.out; omega)] at hall
          simpa using hall
        obtain rfl : j = f.length := by omega
        have HB2 : Hid (Below W1.heap.size W1 wr) := hbw
        clear hall
        go_wp2_with fail
        clear d0 d1 d2 d3
        go_loopw [6] (fun i wr => ∃ j : Nat, j ≤ rs.length ∧ i = .int .i64 j ∧ Below W1.heap.size W1 wr) (fun i _ => rs.length - (intOf i).toNat)
        case atStart => exact ⟨0, Nat.zero_le _, rfl, HB2.out⟩
        case round =>
          obtain ⟨j, hj, rfl, hbw⟩ := hrel
          rename World => U
          obtain ⟨d0, d1, d2, d3⟩ := HC.out U hbw
          have kw : Below w.heap.size w U := b1.trans (hbw.mono b1.size)
          by_cases hlt : j < rs.length
          · obtain ⟨p1, o1, q1, hv1, s1, t0, ⟨hv, t1, th⟩, t2, t3, bv, t4, tb⟩ := slice_cells (HR.out U kw) hlt
            obtain ⟨rfl, rfl⟩ : ra = some ⟨p1, o1, none⟩ ∧ rc = q1 := by simpa using hv1
            obtain ⟨p2, o2, q2, hv2, s2, u0, ⟨hv', u1, uh⟩, u2, u3, bv', u4, ub⟩ := slice_cells (HS.out U kw) hlt
            obtain ⟨rfl, rfl⟩ : sa = some ⟨p2, o2, none⟩ ∧ sc = q2 := by simpa using hv2
            have s3 : w.heap.size < U.heap.size := by have := hbw.size; omega
            have s4 : w.heap.size + 1 < U.heap.size := by have := hbw.size; omega
            have hjl : (j : Int) < (rs.length : Int) := by omega
            have hj0 : (0 : Int) ≤ (j : Int) := by omega
            clear hv1 hv2
            generalize rs[j] = y at *
            have HTH : Hid (∀ x, Below U.heap.size U x → termsAt x hv y.head.args ∧ termsAt x hv' y.head.args) := fun x hx => ⟨termsAt.lasts hx th, termsAt.lasts hx uh⟩
            have HTB : Hid (∀ x, Below U.heap.size U x → litsAt x bv y.body ∧ litsAt x bv' y.body) := fun x hx => ⟨litsAt.lasts hx tb, litsAt.lasts hx ub⟩
            obtain ⟨ha, hc, rfl, _⟩ := th
            obtain ⟨ha', hc', rfl, _⟩ := uh
            obtain ⟨ba, bc, rfl, _⟩ := tb
            obtain ⟨ba', bc', rfl, _⟩ := ub
            have KEEP : Hid (∀ x, Below U.heap.size U x → (fun x : World => x.cell? ⟨w.heap.size, 1, none⟩ = some (.slice (some ⟨p1, o1, none⟩) rs.length rc) ∧ x.cell? ⟨w.heap.size + 1, 1, none⟩ = some (.slice (some ⟨p2, o2, none⟩) rs.length sc) ∧ x.cell? ⟨p1, o1 + j * 5, none⟩ = some (.int .i64 y.head.pred) ∧ x.cell? ⟨p1, o1 + j * 5 + 1, none⟩ = some (.slice ha y.head.args.length hc) ∧ x.cell? ⟨p1, o1 + j * 5 + 2, none⟩ = some (.int .i64 y.src) ∧ x.cell? ⟨p1, o1 + j * 5 + 3, none⟩ = some (.int .i64 y.n) ∧ x.cell? ⟨p1, o1 + j * 5 + 4, none⟩ = some (.slice ba y.body.length bc) ∧ x.cell? ⟨p2, o2 + j * 5, none⟩ = some (.int .i64 y.head.pred) ∧ x.cell? ⟨p2, o2 + j * 5 + 1, none⟩ = some (.slice ha' y.head.args.length hc') ∧ x.cell? ⟨p2, o2 + j * 5 + 2, none⟩ = some (.int .i64 y.src) ∧ x.cell? ⟨p2, o2 + j * 5 + 3, none⟩ = some (.int .i64 y.n) ∧ x.cell? ⟨p2, o2 + j * 5 + 4, none⟩ = some (.slice ba' y.body.length bc')) x) := fun x hx => ⟨(cell_lasts hx s3).trans d1, (cell_lasts hx s4).trans d3, (cell_lasts hx s1).trans t0, (cell_lasts hx s1).trans t1, (cell_lasts hx s1).trans t2, (cell_lasts hx s1).trans t3, (cell_lasts hx s1).trans t4, (cell_lasts hx s2).trans u0, (cell_lasts hx s2).trans u1, (cell_lasts hx s2).trans u2, (cell_lasts hx s2).trans u3, (cell_lasts hx s2).trans u4⟩
            go_wp2_with fail
            clear t0 t1 t2 t3 t4 u0 u1 u2 u3 u4 d0 d1 d2 d3
            go_region_held3 (fun x : World => x.cell? ⟨w.heap.size, 1, none⟩ = some (.slice (some ⟨p1, o1, none⟩) rs.length rc) ∧ x.cell? ⟨w.heap.size + 1, 1, none⟩ = some (.slice (some ⟨p2, o2, none⟩) rs.length sc) ∧ x.cell? ⟨p1, o1 + j * 5, none⟩ = some (.int .i64 y.head.pred) ∧ x.cell? ⟨p1, o1 + j * 5 + 1, none⟩ = some (.slice ha y.head.args.length hc) ∧ x.cell? ⟨p1, o1 + j * 5 + 2, none⟩ = some (.int .i64 y.src) ∧ x.cell? ⟨p1, o1 + j * 5 + 3, none⟩ = some (.int .i64 y.n) ∧ x.cell? ⟨p1, o1 + j * 5 + 4, none⟩ = some (.slice ba y.body.length bc) ∧ x.cell? ⟨p2, o2 + j * 5, none⟩ = some (.int .i64 y.head.pred) ∧ x.cell? ⟨p2, o2 + j * 5 + 1, none⟩ = some (.slice ha' y.head.args.length hc') ∧ x.cell? ⟨p2, o2 + j * 5 + 2, none⟩ = some (.int .i64 y.src) ∧ x.cell? ⟨p2, o2 + j * 5 + 3, none⟩ = some (.int .i64 y.n) ∧ x.cell? ⟨p2, o2 + j * 5 + 4, none⟩ = some (.slice ba' y.body.length bc'))
              (first | (refine KEEP.out _ ?_; (repeat (first | with_reducible exact Below.refl _ _ | (with_reducible refine Below.drew ?_) | (with_reducible refine Below.setCell ?_ (by simp) _) | (with_reducible refine Below.alloc ?_ (by simp) _)))))
              (fail)
            · obtain ⟨V, hV⟩ : ∃ V, ((U.alloc (.cells #[.int .i64 y.head.pred, .slice ha y.head.args.length hc, .int .i64 y.src, .int .i64 y.n, .slice ba y.body.length bc] 58)).alloc (.cells #[.int .i64 y.head.pred, .slice ha' y.head.args.length hc', .int .i64 y.src, .int .i64 y.n, .slice ba' y.body.length bc'] 58)).drew = V := ⟨_, rfl⟩
              have bV : Below U.heap.size U V := by rw [← hV]; exact ((below_alloc _ _).alloc (by simp) _).drew
              have hsV : V.heap.size = U.heap.size + 2 := by rw [← hV]; simp [World.drew]
              have cV : (fun z : World => z.cell? ⟨U.heap.size, 0, none⟩ = some (.int .i64 y.head.pred) ∧ z.cell? ⟨U.heap.size, 1, none⟩ = some (.slice ha y.head.args.length hc) ∧ z.cell? ⟨U.heap.size, 2, none⟩ = some (.int .i64 y.src) ∧ z.cell? ⟨U.heap.size, 3, none⟩ = some (.int .i64 y.n) ∧ z.cell? ⟨U.heap.size, 4, none⟩ = some (.slice ba y.body.length bc) ∧ z.cell? ⟨U.heap.size + 1, 0, none⟩ = some (.int .i64 y.head.pred) ∧ z.cell? ⟨U.heap.size + 1, 1, none⟩ = some (.slice ha' y.head.args.length hc') ∧ z.cell? ⟨U.heap.size + 1, 2, none⟩ = some (.int .i64 y.src) ∧ z.cell? ⟨U.heap.size + 1, 3, none⟩ = some (.int .i64 y.n) ∧ z.cell? ⟨U.heap.size + 1, 4, none⟩ = some (.slice ba' y.body.length bc')) V := by
                rw [← hV]
                refine ⟨?_, ?_, ?_, ?_, ?_, ?_, ?_, ?_, ?_, ?_⟩ <;> simp [go_sem]
              have KV : Hid (∀ z, Below V.heap.size V z → (fun z : World => z.cell? ⟨U.heap.size, 0, none⟩ = some (.int .i64 y.head.pred) ∧ z.cell? ⟨U.heap.size, 1, none⟩ = some (.slice ha y.head.args.length hc) ∧ z.cell? ⟨U.heap.size, 2, none⟩ = some (.int .i64 y.src) ∧ z.cell? ⟨U.heap.size, 3, none⟩ = some (.int .i64 y.n) ∧ z.cell? ⟨U.heap.size, 4, none⟩ = some (.slice ba y.body.length bc) ∧ z.cell? ⟨U.heap.size + 1, 0, none⟩ = some (.int .i64 y.head.pred) ∧ z.cell? ⟨U.heap.size + 1, 1, none⟩ = some (.slice ha' y.head.args.length hc') ∧ z.cell? ⟨U.heap.size + 1, 2, none⟩ = some (.int .i64 y.src) ∧ z.cell? ⟨U.heap.size + 1, 3, none⟩ = some (.int .i64 y.n) ∧ z.cell? ⟨U.heap.size + 1, 4, none⟩ = some (.slice ba' y.body.length bc')) z) := fun z hz => by
                obtain ⟨e0, e1, e2, e3, e4, g0, g1, g2, g3, g4⟩ := cV
                exact ⟨(cell_lasts hz (by omega)).trans e0, (cell_lasts hz (by omega)).trans e1, (cell_lasts hz (by omega)).trans e2, (cell_lasts hz (by omega)).trans e3, (cell_lasts hz (by omega)).trans e4, (cell_lasts hz (by omega)).trans g0, (cell_lasts hz (by omega)).trans g1, (cell_lasts hz (by omega)).trans g2, (cell_lasts hz (by omega)).trans g3, (cell_lasts hz (by omega)).trans g4⟩
              have HSA : Hid (Calls Tryz.prog 55 #[.agg #[.int .i64 y.head.pred, .slice ha y.head.args.length hc], .agg #[.int .i64 y.head.pred, .slice ha' y.head.args.length hc']] V fun e w' => e = .returned (.bool true) ∧ Below V.heap.size V w') := sameAtoms_c V _ _ _ _ (HTH.out V bV).1 (HTH.out V bV).2
              rw [hV]
              clear hV
              obtain ⟨e0, e1, e2, e3, e4, g0, g1, g2, g3, g4⟩ := cV
              go_wp2_with (go_at_call 55; refine HSA.out.mono ?_; rintro e V2 ⟨rfl, hb2⟩; clear e0 e1 e2 e3 e4 g0 g1 g2 g3 g4; obtain ⟨e0, e1, e2, e3, e4, g0, g1, g2, g3, g4⟩ := KV.out V2 hb2)
              clear e0 e1 e2 e3 e4 g0 g1 g2 g3 g4
              go_loopw [9] (fun i wz => ∃ q : Nat, q ≤ y.body.length ∧ i = .int .i64 q ∧ Below V.heap.size V wz) (fun i _ => y.body.length - (intOf i).toNat)
              case atStart => exact ⟨0, Nat.zero_le _, rfl, hb2⟩
              case round =>
                obtain ⟨q, hq, rfl, hbz⟩ := hrel
                obtain ⟨e0, e1, e2, e3, e4, g0, g1, g2, g3, g4⟩ := KV.out _ hbz
                by_cases hql : q < y.body.length
                · have bU : Below U.heap.size U wr := bV.trans (hbz.mono bV.size)
                  obtain ⟨l1, m1, n1, hv1, s5, t0, t1, av, t2, ta⟩ := slice_cells (HTB.out wr bU).1 hql
                  obtain ⟨rfl, rfl⟩ : ba = some ⟨l1, m1, none⟩ ∧ bc = n1 := by simpa using hv1
                  obtain ⟨l2, m2, n2, hv2, s6, u0, u1, av', u2, ua⟩ := slice_cells (HTB.out wr bU).2 hql
                  obtain ⟨rfl, rfl⟩ : ba' = some ⟨l2, m2, none⟩ ∧ bc' = n2 := by simpa using hv2
                  have hq1 : (q : Int) < (y.body.length : Int) := by omega
                  have hq0 : (0 : Int) ≤ (q : Int) := by omega
                  have sX : U.heap.size < wr.heap.size := by have := hbz.size; omega
                  have sY : U.heap.size + 1 < wr.heap.size := by have := hbz.size; omega
                  clear hv1 hv2 e0 e1 e2 e3 g0 g1 g2 g3
                  generalize y.body[q] = z at *
                  have HSB : Hid (∀ x, Below wr.heap.size wr x → Calls Tryz.prog 55 #[.agg #[.int .i64 z.atom.pred, av], .agg #[.int .i64 z.atom.pred, av']] x fun e w' => e = .returned (.bool true) ∧ Below x.heap.size x w') := fun x hx => sameAtoms_c x _ _ _ _ (termsAt.lasts hx ta) (termsAt.lasts hx ua)
                  obtain ⟨aa, ac, rfl, _⟩ := ta
                  obtain ⟨aa', ac', rfl, _⟩ := ua
                  go_wp2_with fail
                  have L0 : ∀ x : Low wr.heap.size wr, x.wd.cell? ⟨l1, m1 + q * 3, none⟩ = some (.bool z.neg) := fun x => (cell_lasts x.low s5).trans t0
                  have L1 : ∀ x : Low wr.heap.size wr, x.wd.cell? ⟨l1, m1 + q * 3 + 1, none⟩ = some (.int .i64 z.atom.pred) := fun x => (cell_lasts x.low s5).trans t1
                  have L2 : ∀ x : Low wr.heap.size wr, x.wd.cell? ⟨l1, m1 + q * 3 + 1 + 1, none⟩ = some (.slice aa z.atom.args.length ac) := fun x => (cell_lasts x.low s5).trans t2
                  have M0 : ∀ x : Low wr.heap.size wr, x.wd.cell? ⟨l2, m2 + q * 3, none⟩ = some (.bool z.neg) := fun x => (cell_lasts x.low s6).trans u0
                  have M1 : ∀ x : Low wr.heap.size wr, x.wd.cell? ⟨l2, m2 + q * 3 + 1, none⟩ = some (.int .i64 z.atom.pred) := fun x => (cell_lasts x.low s6).trans u1
                  have M2 : ∀ x : Low wr.heap.size wr, x.wd.cell? ⟨l2, m2 + q * 3 + 1 + 1, none⟩ = some (.slice aa' z.atom.args.length ac') := fun x => (cell_lasts x.low s6).trans u2
                  have N0 : ∀ x : Low wr.heap.size wr, x.wd.cell? ⟨U.heap.size, 4, none⟩ = some (.slice (some ⟨l1, m1, none⟩) y.body.length bc) := fun x => (cell_lasts x.low sX).trans e4
                  have N1 : ∀ x : Low wr.heap.size wr, x.wd.cell? ⟨U.heap.size + 1, 4, none⟩ = some (.slice (some ⟨l2, m2, none⟩) y.body.length bc') := fun x => (cell_lasts x.low sY).trans g4
                  cases hzn : z.neg <;> rw [hzn] at L0 M0
                  all_goals
                    refine wp_region_low wr.heap.size (by kernel_rfl) (by kernel_rfl) ?_
                    repeat (go_big_quiet_step (first | (go_at_call 55; exact low_of (HSB.out _ (Low.low _)))))
                    refine wpQuiet_nil ?_
                    rintro _ ⟨⟨w1, hk⟩, rfl⟩
                    clear L0 L1 L2 M0 M1 M2 N0 N1 e4 g4
                    go_wp2_with fail
                    go_roundw
                    case rel => exact ⟨q + 1, by omega, by go_num, hbz.trans (hk.mono hbz.size)⟩
                    case measure => simp [intOf]; omega
                · obtain rfl : q = y.body.length := by omega
                  go_wp2_with fail
                  go_roundw
                  case rel => exact ⟨j + 1, by omega, by go_num, (hbw.trans (bV.mono hbw.size)).trans (hbz.mono (hbw.trans (bV.mono hbw.size)).size)⟩
                  case measure => simp [intOf]; omega
            · obtain ⟨V, hV⟩ : ∃ V, ((U.alloc (.cells #[.int .i64 y.head.pred, .slice ha' y.head.args.length hc', .int .i64 y.src, .int .i64 y.n, .slice ba' y.body.length bc'] 58)).alloc (.cells #[.int .i64 y.head.pred, .slice ha y.head.args.length hc, .int .i64 y.src, .int .i64 y.n, .slice ba y.body.length bc] 58)).drew = V := ⟨_, rfl⟩
              have bV : Below U.heap.size U V := by rw [← hV]; exact ((below_alloc _ _).alloc (by simp) _).drew
              have hsV : V.heap.size = U.heap.size + 2 := by rw [← hV]; simp [World.drew]
              have cV : (fun z : World => z.cell? ⟨U.heap.size + 1, 0, none⟩ = some (.int .i64 y.head.pred) ∧ z.cell? ⟨U.heap.size + 1, 1, none⟩ = some (.slice ha y.head.args.length hc) ∧ z.cell? ⟨U.heap.size + 1, 2, none⟩ = some (.int .i64 y.src) ∧ z.cell? ⟨U.heap.size + 1, 3, none⟩ = some (.int .i64 y.n) ∧ z.cell? ⟨U.heap.size + 1, 4, none⟩ = some (.slice ba y.body.length bc) ∧ z.cell? ⟨U.heap.size, 0, none⟩ = some (.int .i64 y.head.pred) ∧ z.cell? ⟨U.heap.size, 1, none⟩ = some (.slice ha' y.head.args.length hc') ∧ z.cell? ⟨U.heap.size, 2, none⟩ = some (.int .i64 y.src) ∧ z.cell? ⟨U.heap.size, 3, none⟩ = some (.int .i64 y.n) ∧ z.cell? ⟨U.heap.size, 4, none⟩ = some (.slice ba' y.body.length bc')) V := by
                rw [← hV]
                refine ⟨?_, ?_, ?_, ?_, ?_, ?_, ?_, ?_, ?_, ?_⟩ <;> simp [go_sem]
              have KV : Hid (∀ z, Below V.heap.size V z → (fun z : World => z.cell? ⟨U.heap.size + 1, 0, none⟩ = some (.int .i64 y.head.pred) ∧ z.cell? ⟨U.heap.size + 1, 1, none⟩ = some (.slice ha y.head.args.length hc) ∧ z.cell? ⟨U.heap.size + 1, 2, none⟩ = some (.int .i64 y.src) ∧ z.cell? ⟨U.heap.size + 1, 3, none⟩ = some (.int .i64 y.n) ∧ z.cell? ⟨U.heap.size + 1, 4, none⟩ = some (.slice ba y.body.length bc) ∧ z.cell? ⟨U.heap.size, 0, none⟩ = some (.int .i64 y.head.pred) ∧ z.cell? ⟨U.heap.size, 1, none⟩ = some (.slice ha' y.head.args.length hc') ∧ z.cell? ⟨U.heap.size, 2, none⟩ = some (.int .i64 y.src) ∧ z.cell? ⟨U.heap.size, 3, none⟩ = some (.int .i64 y.n) ∧ z.cell? ⟨U.heap.size, 4, none⟩ = some (.slice ba' y.body.length bc')) z) := fun z hz => by
                obtain ⟨e0, e1, e2, e3, e4, g0, g1, g2, g3, g4⟩ := cV
                exact ⟨(cell_lasts hz (by omega)).trans e0, (cell_lasts hz (by omega)).trans e1, (cell_lasts hz (by omega)).trans e2, (cell_lasts hz (by omega)).trans e3, (cell_lasts hz (by omega)).trans e4, (cell_lasts hz (by omega)).trans g0, (cell_lasts hz (by omega)).trans g1, (cell_lasts hz (by omega)).trans g2, (cell_lasts hz (by omega)).trans g3, (cell_lasts hz (by omega)).trans g4⟩
              have HSA : Hid (Calls Tryz.prog 55 #[.agg #[.int .i64 y.head.pred, .slice ha y.head.args.length hc], .agg #[.int .i64 y.head.pred, .slice ha' y.head.args.length hc']] V fun e w' => e = .returned (.bool true) ∧ Below V.heap.size V w') := sameAtoms_c V _ _ _ _ (HTH.out V bV).1 (HTH.out V bV).2
              rw [hV]
              clear hV
              obtain ⟨e0, e1, e2, e3, e4, g0, g1, g2, g3, g4⟩ := cV
              go_wp2_with (go_at_call 55; refine HSA.out.mono ?_; rintro e V2 ⟨rfl, hb2⟩; clear e0 e1 e2 e3 e4 g0 g1 g2 g3 g4; obtain ⟨e0, e1, e2, e3, e4, g0, g1, g2, g3, g4⟩ := KV.out V2 hb2)
              clear e0 e1 e2 e3 e4 g0 g1 g2 g3 g4
              go_loopw [9] (fun i wz => ∃ q : Nat, q ≤ y.body.length ∧ i = .int .i64 q ∧ Below V.heap.size V wz) (fun i _ => y.body.length - (intOf i).toNat)
              case atStart => exact ⟨0, Nat.zero_le _, rfl, hb2⟩
              case round =>
                obtain ⟨q, hq, rfl, hbz⟩ := hrel
                obtain ⟨e0, e1, e2, e3, e4, g0, g1, g2, g3, g4⟩ := KV.out _ hbz
                by_cases hql : q < y.body.length
                · have bU : Below U.heap.size U wr := bV.trans (hbz.mono bV.size)
                  obtain ⟨l1, m1, n1, hv1, s5, t0, t1, av, t2, ta⟩ := slice_cells (HTB.out wr bU).1 hql
                  obtain ⟨rfl, rfl⟩ : ba = some ⟨l1, m1, none⟩ ∧ bc = n1 := by simpa using hv1
                  obtain ⟨l2, m2, n2, hv2, s6, u0, u1, av', u2, ua⟩ := slice_cells (HTB.out wr bU).2 hql
                  obtain ⟨rfl, rfl⟩ : ba' = some ⟨l2, m2, none⟩ ∧ bc' = n2 := by simpa using hv2
                  have hq1 : (q : Int) < (y.body.length : Int) := by omega
                  have hq0 : (0 : Int) ≤ (q : Int) := by omega
                  have sX : U.heap.size + 1 < wr.heap.size := by have := hbz.size; omega
                  have sY : U.heap.size < wr.heap.size := by have := hbz.size; omega
                  clear hv1 hv2 e0 e1 e2 e3 g0 g1 g2 g3
                  generalize y.body[q] = z at *
                  have HSB : Hid (∀ x, Below wr.heap.size wr x → Calls Tryz.prog 55 #[.agg #[.int .i64 z.atom.pred, av], .agg #[.int .i64 z.atom.pred, av']] x fun e w' => e = .returned (.bool true) ∧ Below x.heap.size x w') := fun x hx => sameAtoms_c x _ _ _ _ (termsAt.lasts hx ta) (termsAt.lasts hx ua)
                  obtain ⟨aa, ac, rfl, _⟩ := ta
                  obtain ⟨aa', ac', rfl, _⟩ := ua
                  go_wp2_with fail
                  have L0 : ∀ x : Low wr.heap.size wr, x.wd.cell? ⟨l1, m1 + q * 3, none⟩ = some (.bool z.neg) := fun x => (cell_lasts x.low s5).trans t0
                  have L1 : ∀ x : Low wr.heap.size wr, x.wd.cell? ⟨l1, m1 + q * 3 + 1, none⟩ = some (.int .i64 z.atom.pred) := fun x => (cell_lasts x.low s5).trans t1
                  have L2 : ∀ x : Low wr.heap.size wr, x.wd.cell? ⟨l1, m1 + q * 3 + 1 + 1, none⟩ = some (.slice aa z.atom.args.length ac) := fun x => (cell_lasts x.low s5).trans t2
                  have M0 : ∀ x : Low wr.heap.size wr, x.wd.cell? ⟨l2, m2 + q * 3, none⟩ = some (.bool z.neg) := fun x => (cell_lasts x.low s6).trans u0
                  have M1 : ∀ x : Low wr.heap.size wr, x.wd.cell? ⟨l2, m2 + q * 3 + 1, none⟩ = some (.int .i64 z.atom.pred) := fun x => (cell_lasts x.low s6).trans u1
                  have M2 : ∀ x : Low wr.heap.size wr, x.wd.cell? ⟨l2, m2 + q * 3 + 1 + 1, none⟩ = some (.slice aa' z.atom.args.length ac') := fun x => (cell_lasts x.low s6).trans u2
                  have N0 : ∀ x : Low wr.heap.size wr, x.wd.cell? ⟨U.heap.size + 1, 4, none⟩ = some (.slice (some ⟨l1, m1, none⟩) y.body.length bc) := fun x => (cell_lasts x.low sX).trans e4
                  have N1 : ∀ x : Low wr.heap.size wr, x.wd.cell? ⟨U.heap.size, 4, none⟩ = some (.slice (some ⟨l2, m2, none⟩) y.body.length bc') := fun x => (cell_lasts x.low sY).trans g4
                  cases hzn : z.neg <;> rw [hzn] at L0 M0
                  all_goals
                    refine wp_region_low wr.heap.size (by kernel_rfl) (by kernel_rfl) ?_
                    repeat (go_big_quiet_step (first | (go_at_call 55; exact low_of (HSB.out _ (Low.low _)))))
                    refine wpQuiet_nil ?_
                    rintro _ ⟨⟨w1, hk⟩, rfl⟩
                    clear L0 L1 L2 M0 M1 M2 N0 N1 e4 g4
                    go_wp2_with fail
                    go_roundw
                    case rel => exact ⟨q + 1, by omega, by go_num, hbz.trans (hk.mono hbz.size)⟩
                    case measure => simp [intOf]; omega
                · obtain rfl : q = y.body.length := by omega
                  go_wp2_with fail
                  go_roundw
                  case rel => exact ⟨j + 1, by omega, by go_num, (hbw.trans (bV.mono hbw.size)).trans (hbz.mono (hbw.trans (bV.mono hbw.size)).size)⟩
                  case measure => simp [intOf]; omega
          · obtain rfl : j = rs.length := by omega
            go_wp2_with fail
            go_ret
            exact ⟨by rw [HE.out]; rfl, kw⟩
  · have hl' : ((f.length : Int) == (g.length : Int)) = false := by simpa using (by omega : ¬ (f.length : Int) = (g.length : Int))
    have H : Hid (decide (f = g) = false) := by show _ = _; simp only [decide_eq_false_iff_not]; rintro rfl; exact hl rfl
    obtain ⟨W1, hW1⟩ : ∃ W1, (w.alloc (.cells #[.slice fa f.length fc, .slice ra rs.length rc] 25)).alloc (.cells #[.slice ga g.length gc, .slice sa rs.length sc] 25) = W1 := ⟨_, rfl⟩
    have b1 : Below w.heap.size w W1 := by rw [← hW1]; exact (below_alloc _ _).alloc (by simp) _
    have c0 : W1.cell? ⟨w.heap.size, 0, none⟩ = some (.slice fa f.length fc) ∧ W1.cell? ⟨w.heap.size, 1, none⟩ = some (.slice ra rs.length rc) ∧ W1.cell? ⟨w.heap.size + 1, 0, none⟩ = some (.slice ga g.length gc) ∧ W1.cell? ⟨w.heap.size + 1, 1, none⟩ = some (.slice sa rs.length sc) := by rw [← hW1]; simp [go_sem]
    have hs : W1.heap.size = w.heap.size + 2 := by rw [← hW1]; simp
    have HC : Hid (∀ x, Below W1.heap.size W1 x → x.cell? ⟨w.heap.size, 0, none⟩ = some (.slice fa f.length fc) ∧ x.cell? ⟨w.heap.size, 1, none⟩ = some (.slice ra rs.length rc) ∧ x.cell? ⟨w.heap.size + 1, 0, none⟩ = some (.slice ga g.length gc) ∧ x.cell? ⟨w.heap.size + 1, 1, none⟩ = some (.slice sa rs.length sc)) := fun x hx => ⟨(cell_lasts hx (by omega)).trans c0.1, (cell_lasts hx (by omega)).trans c0.2.1, (cell_lasts hx (by omega)).trans c0.2.2.1, (cell_lasts hx (by omega)).trans c0.2.2.2⟩
    obtain ⟨d0, d1, d2, d3⟩ := id c0
    clear c0
    go_enter Tryz.func22, Tryz.ntmps22
    go_wp2_with fail
    go_ret
    exact ⟨by rw [H.out]; rfl, b1⟩
end Go.Proofs.YtlfccloaoopadagGreat.Sum

/-
  Two programs, in plain words: which error a union has, and a program without one of its rules.
-/
namespace Go.Proofs.YtlfccloaoopadagGreat.Sum
open Rule (atomErr ruleErr isPred arityOf)
open Prog (progErr)

def unionErr (ps : List Prd) (rs : List Rul) (qs : List Prd) (ss : List Rul) : Int :=
  if progErr ps rs ≠ 0 then progErr ps rs else if progErr qs ss ≠ 0 then progErr qs ss else if ps = qs then progErr ps (rs ++ ss) else 1
def unionP (ps : List Prd) (rs : List Rul) (qs : List Prd) (ss : List Rul) : List Prd := if unionErr ps rs qs ss = 0 then ps else []
def unionR (ps : List Prd) (rs : List Rul) (qs : List Prd) (ss : List Rul) : List Rul := if unionErr ps rs qs ss = 0 then rs ++ ss else []
def withoutErr (ps : List Prd) (rs : List Rul) (n : Int) : Int :=
  if progErr ps rs ≠ 0 then progErr ps rs else if n < 0 ∨ (rs.length : Int) ≤ n then 7 else 0
def dropR (rs : List Rul) (n : Nat) : List Rul := rs.take n ++ rs.drop (n + 1)
def withoutP (ps : List Prd) (rs : List Rul) (n : Int) : List Prd := if withoutErr ps rs n = 0 then ps else []
def withoutR (ps : List Prd) (rs : List Rul) (n : Int) : List Rul := if withoutErr ps rs n = 0 then dropR rs n.toNat else []

theorem atom_args {ps : List Prd} {a : Atm} (h : atomErr ps a = 0) (ha : ∀ q ∈ ps, q.arity ≤ 2) : a.args.length ≤ 500 := by
  unfold atomErr at h
  split at h
  · rename_i h1
    split at h
    · rename_i h2
      obtain ⟨k, hk, e⟩ := Rule.isPred_iff.1 h1
      have h3 := ha ps[k] (List.getElem_mem hk)
      have h4 : arityOf ps a.pred = ps[k].arity := by rw [e]; simp [arityOf, hk]
      omega
    · cases h
  · cases h
theorem rule_parts {ps : List Prd} {r : Rul} (h : ruleErr ps r = 0) : atomErr ps r.head = 0 ∧ (∀ l ∈ r.body, atomErr ps l.atom = 0) ∧ r.body.length ≤ 3 := by
  rw [ruleErr] at h
  split at h
  · contradiction
  · rename_i h1
    split at h
    · contradiction
    · rename_i h2
      split at h
      · contradiction
      · rename_i h3
        exact ⟨Classical.not_not.1 h1, Prog.body_all (Classical.not_not.1 h3), by omega⟩
structure Bounds (ps : List Prd) (rs : List Rul) : Prop where
  preds : ps.length ≤ 5
  rules : rs.length ≤ 8
  head : ∀ r ∈ rs, r.head.args.length ≤ 500
  body : ∀ r ∈ rs, r.body.length ≤ 500
  args : ∀ r ∈ rs, ∀ l ∈ r.body, l.atom.args.length ≤ 500
theorem prog_bounds {ps : List Prd} {rs : List Rul} (h : progErr ps rs = 0) : Bounds ps rs := by
  have h1 := (Prog.prog_zero h).1
  have h2 := Prog.parts_zero h1
  rw [Prog.partsErr] at h1
  split at h1
  · contradiction
  · split at h1
    · contradiction
    · split at h1
      · contradiction
      · split at h1
        · contradiction
        · rename_i ha
          split at h1
          · contradiction
          · have hr := Prog.rules_all h1
            have har : ∀ q ∈ ps, q.arity ≤ 2 := fun q hq => by
              have : ¬ (!Lat.within q.arity 0 2) = true := fun e => ha (List.any_eq_true.2 ⟨q, hq, e⟩)
              simp [Lat.within] at this
              exact this.2
            exact ⟨h2.1, h2.2.1, fun r hm => atom_args (rule_parts (hr r hm)).1 har, fun r hm => by have := (rule_parts (hr r hm)).2.2; omega, fun r hm l hl => atom_args ((rule_parts (hr r hm)).2.1 l hl) har⟩

open Go.ChangeShapes Go.WideShapes Go.ChangeAt Go.RowKit
/-- v is a program of the call's own memory -/
def ownP (base : Nat) (w : World) (v : Value) (ps : List Prd) (rs : List Rul) : Prop :=
  ∃ pa pc ra rc us, v = .agg #[.slice pa ps.length pc, .slice ra rs.length rc] ∧ w.ownsRow base 52 3 (.slice pa ps.length pc) ps.length (cellsP ps) ∧ w.ownsRow base 58 5 (.slice ra rs.length rc) rs.length (cellsR us) ∧ us.map RV.r = rs ∧ ∀ x ∈ us, Fresh base (fun y => RVok y x) w
theorem ownP_open {base : Nat} {w : World} {v : Value} {ps : List Prd} {rs : List Rul} (h : ownP base w v ps rs) (h1 : ps.length ≤ 500) (h2 : rs.length ≤ 500) : ∃ pa pc ra rc, v = .agg #[.slice pa ps.length pc, .slice ra rs.length rc] ∧ predsAt w (.slice pa ps.length pc) ps ∧ rulesAt w (.slice ra rs.length rc) rs := by
  obtain ⟨pa, pc, ra, rc, us, rfl, hp, hr, hm, hok⟩ := h
  have hl : us.length = rs.length := by rw [← hm, List.length_map]
  refine ⟨pa, pc, ra, rc, rfl, predsAt_own hp (by omega), ?_⟩
  have h := rulesAt_own (l := us) (by rw [hl]; exact hr) (by omega) fun x hx => (hok x hx).here
  rw [hm] at h
  exact h
theorem ownP_none (base : Nat) (w : World) : ownP base w (.agg #[.slice none 0 0, .slice none 0 0]) [] [] := ⟨none, 0, none, 0, [], rfl, ⟨rfl, .inl ⟨rfl, rfl⟩⟩, ⟨rfl, .inl ⟨rfl, rfl⟩⟩, rfl, by simp⟩
theorem ownP_lasts {base : Nat} {w w' : World} {v : Value} {ps : List Prd} {rs : List Rul} (h : ownP base w v ps rs) (hb : Below w.heap.size w w') : ownP base w' v ps rs := by
  obtain ⟨pa, pc, ra, rc, us, rfl, hp, hr, hm, hok⟩ := h
  exact ⟨pa, pc, ra, rc, us, rfl, own_lasts hp hb, own_lasts hr hb, hm, fun x hx => (hok x hx).keeps (KeepsFrom.below (n := base) hb) (Nat.le_refl _)⟩
theorem ownP_base {base b' : Nat} {w : World} {v : Value} {ps : List Prd} {rs : List Rul} (h : ownP base w v ps rs) (hb : b' ≤ base) : ownP b' w v ps rs := by
  obtain ⟨pa, pc, ra, rc, us, rfl, hp, hr, hm, hok⟩ := h
  exact ⟨pa, pc, ra, rc, us, rfl, own_base hp hb, own_base hr hb, hm, fun x hx => (hok x hx).mono hb⟩
theorem ownP_away {base g k : Nat} {w : World} {v u : Value} {ps : List Prd} {rs : List Rul} (h : ownP base w v ps rs) (hg : g < base) : ownP base (w.setCell ⟨g, k, none⟩ u) v ps rs := by
  obtain ⟨pa, pc, ra, rc, us, rfl, hp, hr, hm, hok⟩ := h
  exact ⟨pa, pc, ra, rc, us, rfl, own_away hp hg, own_away hr hg, hm, fun x hx => (hok x hx).keeps (KeepsFrom.set (n := base) hg) (Nat.le_refl _)⟩
end Go.Proofs.YtlfccloaoopadagGreat.Sum

/-
  The developers' Without and Union.
-/
namespace Go.Proofs.YtlfccloaoopadagGreat.Sum
open Go.ChangeShapes Go.WideShapes Go.ChangeAt Go.RowKit
open Prog (progErr small)

/-- a slice within its room -/
def capLe (v : Value) : Prop := ∃ a n c, v = .slice a n c ∧ n ≤ c
theorem cap_own {w : World} {base : Nat} {e : TypeId} {sz n : Nat} {v : Value} {xs : List Value} (h : w.ownsRow base e sz v n xs) : capLe v := by
  rcases h.2 with ⟨rfl, h0⟩ | ⟨g, cap, cur, rfl, _, _, hc, _⟩
  · exact ⟨none, 0, 0, rfl, Nat.le_refl _⟩
  · exact ⟨_, n, cap, rfl, hc⟩
theorem drop_map (vs : List RV) (k : Nat) : (vs.take k ++ vs.drop (k + 1)).map RV.r = dropR (vs.map RV.r) k := by
  rw [dropR, List.map_append, List.map_take, List.map_drop]
theorem piece_end {w : World} {ad : Addr} {n c : Nat} {vs : List RV} (h : vs = []) : pieceC w (.slice (some ad) n c) n (cellsR vs) := .inr ⟨ad, c, rfl, fun j u hu => by rw [h] at hu; simp [cellsR] at hu⟩
theorem drop_mem {vs : List RV} {k : Nat} {x : RV} (h : x ∈ vs.take k ++ vs.drop (k + 1)) : x ∈ vs := by
  rcases List.mem_append.1 h with h | h
  · exact List.mem_of_mem_take h
  · exact List.mem_of_mem_drop h

set_option maxRecDepth 100000 in
set_option maxHeartbeats 4000000 in
theorem Without_c (w : World) (pv rv : Value) (ps : List Prd) (rs : List Rul) (n : Int) (hnr : -9223372036854775808 ≤ n ∧ n ≤ 9223372036854775807) (hp : predsAt w pv ps) (hr : rulesAt w rv rs) (hn : small ps) (hcap : capLe rv) :
    Calls Tryz.prog 12 #[.agg #[pv, rv], .int .i64 n] w fun e w' => ∃ v, e = .returned (.tuple #[v, .int .i64 (withoutErr ps rs n)]) ∧ ownP w.heap.size w' v (withoutP ps rs n) (withoutR ps rs n) ∧ Below w.heap.size w w' := by
  have HPC : Hid (∀ x, Below w.heap.size w x → Calls Tryz.prog 23 #[.agg #[pv, rv]] x fun e w' => e = .returned (.int .i64 (progErr ps rs)) ∧ Below x.heap.size x w') := fun x hx => Prog.devCheck_c x pv rv ps rs (predsAt.lasts hx hp) (rulesAt.lasts hx hr) hn
  have HP : Hid (∀ x, Below w.heap.size w x → predsAt x pv ps) := fun x hx => predsAt.lasts hx hp
  have HR : Hid (∀ x, Below w.heap.size w x → rulesAt x rv rs) := fun x hx => rulesAt.lasts hx hr
  obtain ⟨pa, pc, rfl, _⟩ := hp
  obtain ⟨ra, rc, rfl, _⟩ := hr
  have hcap' : rs.length ≤ rc := by
    obtain ⟨a, m, c, h, hc⟩ := hcap
    simp only [Value.slice.injEq] at h
    omega
  obtain ⟨W0, hW0⟩ : ∃ W0, (w.alloc (.cells #[.slice pa ps.length pc, .slice ra rs.length rc] 25)).alloc (.cells #[.slice none 0 0, .slice none 0 0] 25) = W0 := ⟨_, rfl⟩
  have b0 : Below w.heap.size w W0 := by rw [← hW0]; exact (below_alloc _ _).alloc (by simp) _
  have hs0 : W0.heap.size = w.heap.size + 2 := by rw [← hW0]; simp
  have hBP : boxAt W0 w.heap.size (.slice pa ps.length pc) (.slice ra rs.length rc) := by
    rw [← hW0]
    exact ((below_alloc _ _).block w.heap.size (by simp)).trans (heap_alloc_new w _)
  have hBR : boxAt W0 (w.heap.size + 1) (.slice none 0 0) (.slice none 0 0) := by
    rw [← hW0]
    have h := heap_alloc_new (w.alloc (.cells #[.slice pa ps.length pc, .slice ra rs.length rc] 25)) (.cells #[.slice none 0 0, .slice none 0 0] 25)
    rw [World.size_alloc] at h
    exact h
  have HBX : Hid (∀ x, Below W0.heap.size W0 x → boxAt x w.heap.size (.slice pa ps.length pc) (.slice ra rs.length rc) ∧ boxAt x (w.heap.size + 1) (.slice none 0 0) (.slice none 0 0)) := fun x hx => ⟨(hx.block _ (by omega)).trans hBP, (hx.block _ (by omega)).trans hBR⟩
  obtain ⟨f0, f1, _, _, _⟩ := box_cells hBP
  clear hBP hBR
  go_enter Tryz.func12, Tryz.ntmps12
  go_wp2_with fail
  refine (HPC.out _ b0).mono ?_
  rintro e W1 ⟨rfl, hb1⟩
  have k1 : Below w.heap.size w W1 := b0.trans (hb1.mono b0.size)
  obtain ⟨hx0, hx1⟩ := HBX.out W1 hb1
  obtain ⟨c0, c1, _, _, _⟩ := box_cells hx0
  obtain ⟨e0, e1, e0f, e1f, _⟩ := box_cells hx1
  clear hW0 f0 f1
  by_cases hpe : progErr ps rs = 0
  · rw [hpe]
    by_cases hn0 : n < 0
    · have HE : Hid (withoutErr ps rs n = 7) := by show _ = _; simp [withoutErr, hpe, hn0]
      go_wp2_with fail
      refine bodyPost_ret (v := .tuple #[.agg #[.slice none 0 0, .slice none 0 0], .int .i64 7]) (by simp [results, Tryz.results12, go_sem, e0, e1]) rfl ⟨_, by rw [HE.out], ?_, (k1.setCell (p := ⟨w.heap.size + 1, 0, none⟩) (show w.heap.size ≤ w.heap.size + 1 by omega) _).setCell (p := ⟨w.heap.size + 1, 1, none⟩) (show w.heap.size ≤ w.heap.size + 1 by omega) _⟩
      rw [withoutP, withoutR, HE.out, if_neg (by omega), if_neg (by omega)]
      exact ownP_none _ _
    · by_cases hn1 : n ≥ (rs.length : Int)
      · have HE : Hid (withoutErr ps rs n = 7) := by show _ = _; simp [withoutErr, hpe, hn1]
        go_wp2_with fail
        refine bodyPost_ret (v := .tuple #[.agg #[.slice none 0 0, .slice none 0 0], .int .i64 7]) (by simp [results, Tryz.results12, go_sem, e0, e1]) rfl ⟨_, by rw [HE.out], ?_, (k1.setCell (p := ⟨w.heap.size + 1, 0, none⟩) (show w.heap.size ≤ w.heap.size + 1 by omega) _).setCell (p := ⟨w.heap.size + 1, 1, none⟩) (show w.heap.size ≤ w.heap.size + 1 by omega) _⟩
        rw [withoutP, withoutR, HE.out, if_neg (by omega), if_neg (by omega)]
        exact ownP_none _ _
      · have HE : Hid (withoutErr ps rs n = 0) := by show _ = _; simp [withoutErr, hpe, hn0]; omega
        obtain ⟨k, rfl⟩ : ∃ k : Nat, n = (k : Int) := ⟨n.toNat, by omega⟩
        have hkl : k < rs.length := by omega
        obtain ⟨vs, hvs, hok, hpi⟩ := rules_piece (HR.out w (Below.refl _ _))
        have hlen : vs.length = rs.length := by rw [← hvs, List.length_map]
        obtain ⟨rb, ro, rfl⟩ : ∃ rb ro, ra = some ⟨rb, ro, none⟩ := by
          obtain ⟨a, c, h, _, hx⟩ := HR.out w (Below.refl _ _)
          rcases hx with hx | ⟨b, o, rfl, _⟩
          · rw [hx] at hkl; simp at hkl
          · exact ⟨b, o, by simpa using (Value.slice.inj h).1⟩
        have HOK : Hid (∀ y ∈ vs, RVok w y) := hok
        have HLEN : Hid (vs.length = rs.length) := hlen
        have HBD : Hid (Bounds ps rs) := prog_bounds hpe
        have HMM : Hid (∀ y ∈ vs, y.r ∈ rs) := fun y hy => by rw [← hvs]; exact List.mem_map.2 ⟨y, hy, rfl⟩
        have HVS : Hid (vs.map RV.r = rs) := hvs
        have HPI : Hid (pieceC W1 (.slice (some ⟨rb, ro, none⟩) rs.length rc) rs.length (cellsR vs)) := by rw [← hlen]; rw [← hlen] at hpi; exact hpi.lasts k1
        have KEEP : Hid (∀ x, Below W1.heap.size W1 x → (fun x : World => x.cell? ⟨w.heap.size, 0, none⟩ = some (.slice pa ps.length pc) ∧ x.cell? ⟨w.heap.size, 1, none⟩ = some (.slice (some ⟨rb, ro, none⟩) rs.length rc)) x) := fun x hx => ⟨(cell_lasts hx (by have := hb1.size; omega)).trans c0, (cell_lasts hx (by have := hb1.size; omega)).trans c1⟩
        have KEEPb : Hid (∀ x, Below W1.heap.size W1 x → ∀ u v, (fun x : World => x.cell? ⟨w.heap.size, 0, none⟩ = some (.slice pa ps.length pc) ∧ x.cell? ⟨w.heap.size, 1, none⟩ = some (.slice (some ⟨rb, ro, none⟩) rs.length rc)) ((x.setCell ⟨w.heap.size + 1, 0, none⟩ u).setCell ⟨w.heap.size + 1, 1, none⟩ v)) := fun x hx u v => ⟨(cell_block (by omega)).trans ((cell_block (by omega)).trans (KEEP.out x hx).1), (cell_block (by omega)).trans ((cell_block (by omega)).trans (KEEP.out x hx).2)⟩
        have KX : Hid (∀ x, Below W1.heap.size W1 x → x.cell? ⟨w.heap.size + 1, 0, none⟩ = some (.slice none 0 0) ∧ x.cell? ⟨w.heap.size + 1, 1, none⟩ = some (.slice none 0 0) ∧ x.frozen? ⟨w.heap.size + 1, 0, none⟩ = false ∧ x.frozen? ⟨w.heap.size + 1, 1, none⟩ = false) := fun x hx => ⟨(cell_lasts hx (by have := hb1.size; omega)).trans e0, (cell_lasts hx (by have := hb1.size; omega)).trans e1, ((bcell hx).2 _ _ (by have := hb1.size; omega)).trans e0f, ((bcell hx).2 _ _ (by have := hb1.size; omega)).trans e1f⟩
        have hk1 : (k : Int) < (rs.length : Int) := by omega
        have hk2 : (k : Int) ≤ (rc : Int) := by omega
        have hk7 : ¬ ((k : Int) + 1 < 0) := by omega
        have hk8 : (0 : Int) ≤ (k : Int) + 1 := by omega
        have hk3 : (k : Int) + 1 ≤ (rs.length : Int) := by omega
        have hk4 : (rs.length : Int) ≤ (rc : Int) := by omega
        have hk5 : IntKind.i64.wrap ((k : Int) + 1) = (k : Int) + 1 := by rw [IntKind.wrap_i64]; have := prog_bounds hpe |>.rules; omega
        have hkn : k + 1 ≤ rs.length := by omega
        clear hvs hok hpi hlen e0 e1 e0f e1f
        by_cases hrk : rc = k + 1
        · have hrl : rs.length = k + 1 := by omega
          have hk6 : (k : Int) ≤ (k : Int) + 1 := by omega
          have KEEP' := KEEP.out
          have KEEPb' := KEEPb.out
          have HPI' := HPI.out
          rw [hrk, hrl] at KEEP' KEEPb' HPI'
          have KEEP : Hid _ := KEEP'
          have KEEPb : Hid _ := KEEPb'
          have HPI : Hid _ := HPI'
          have HRL : Hid (rs.length = k + 1) := hrl
          clear KEEP' KEEPb' HPI' hk1 hk2 hk3 hk4 hkn hcap'
          go_wp2_with fail
          clear hrk hrl
          have HPG : Hid (∀ x, Below W1.heap.size W1 x → x.cell? ⟨W1.heap.size, 0, none⟩ = some (.slice (some ⟨rb, ro, none⟩) k (k + 1)) → x.cell? ⟨W1.heap.size, 1, none⟩ = some (.slice (some ⟨rb, ro, none⟩) 0 0) → Calls Tryz.prog 25 #[.slice pa ps.length pc, .slice (some ⟨W1.heap.size, 0, none⟩) 2 2] x fun e w' => ∃ pa pc ra rc us, e = .returned (.agg #[.slice pa ps.length pc, .slice ra us.length rc]) ∧ w'.ownsRow x.heap.size 52 3 (.slice pa ps.length pc) ps.length (cellsP ps) ∧ w'.ownsRow x.heap.size 58 5 (.slice ra us.length rc) us.length (cellsR us) ∧ us.map RV.r = (vs.take k ++ vs.drop (k + 1)).map RV.r ∧ (∀ y ∈ us, Fresh x.heap.size (fun z => RVok z y) w') ∧ Below x.heap.size x w') := fun x hx h0 h1 => program_is x _ ps W1.heap.size _ _ _ _ k 0 (vs.take k) (vs.drop (k + 1)) (by rw [List.length_take, HLEN.out, HRL.out]; omega) (by rw [List.length_drop, HLEN.out, HRL.out]; omega) (HP.out x (k1.trans (hx.mono k1.size))) (by have := HBD.out.preds; omega) h0 h1 ((piece_take HPI.out).lasts hx) ((piece_end (show vs.drop (k + 1) = [] by apply List.drop_eq_nil_of_le; rw [HLEN.out, HRL.out]; exact Nat.le_refl _)).lasts hx) (fun y hy => RVok.lasts (k1.trans (hx.mono k1.size)) (HOK.out y (List.mem_of_mem_take hy))) (fun y hy => RVok.lasts (k1.trans (hx.mono k1.size)) (HOK.out y (List.mem_of_mem_drop hy))) (by have := HBD.out.rules; have := HRL.out; omega) (fun y hy => HBD.out.head _ (HMM.out y (drop_mem hy))) (fun y hy => HBD.out.body _ (HMM.out y (drop_mem hy))) (fun y hy => HBD.out.args _ (HMM.out y (drop_mem hy)))
          go_region_held3 (fun x : World => x.cell? ⟨w.heap.size, 0, none⟩ = some (.slice pa ps.length pc) ∧ x.cell? ⟨w.heap.size, 1, none⟩ = some (.slice (some ⟨rb, ro, none⟩) (k + 1) (k + 1)))
            (first | (refine KEEP.out _ ?_; (first | exact hk | ((repeat (first | with_reducible exact Below.refl _ _ | (with_reducible refine Below.drew ?_) | (with_reducible refine Below.alloc ?_ (by simp) _))); done))) | exact KEEPb.out _ hk _ _)
            (first | (go_at_call 25; refine Calls.mono (HPG.out _ ?g0 ?g1 ?g2) ?_; (case g0 => (repeat (first | with_reducible exact Below.refl _ _ | (with_reducible refine Below.drew ?_) | (with_reducible refine Below.alloc ?_ (by simp) _)))); (case g1 => simp [go_sem]); (case g2 => simp [go_sem]); rintro e w5 ⟨qa, qc, ta, tc, us, rfl, ho1, ho2, hmm, hok5, hb5⟩; have hsz : W1.heap.size + 1 ≤ w5.heap.size := (by have := hb5.size; simpa [World.drew] using this); have hk : Below W1.heap.size W1 w5 := (by refine Below.trans ?_ (hb5.mono ?_); (repeat (first | with_reducible exact Below.refl _ _ | (with_reducible refine Below.drew ?_) | (with_reducible refine Below.alloc ?_ (by simp) _))); (simp [World.drew])); obtain ⟨z0, z1, z0f, z1f⟩ := KX.out _ hk))
          have hkw : Below w.heap.size w w5 := k1.trans (hk.mono k1.size)
          go_wp2_with fail
          have hul : us.length = (dropR rs k).length := by
            have h := congrArg List.length hmm
            rw [drop_map, HVS.out] at h
            simpa using h
          refine bodyPost_ret (v := .tuple #[.agg #[.slice qa ps.length qc, .slice ta us.length tc], .int .i64 0]) (by simp [results, Tryz.results12, go_sem, z0, z1]) rfl ⟨_, by rw [HE.out], ?_, (hkw.setCell (p := ⟨w.heap.size + 1, 0, none⟩) (show w.heap.size ≤ w.heap.size + 1 by omega) _).setCell (p := ⟨w.heap.size + 1, 1, none⟩) (show w.heap.size ≤ w.heap.size + 1 by omega) _⟩
          rw [withoutP, withoutR, HE.out, if_pos rfl, if_pos rfl, Int.toNat_natCast]
          have ho : ownP W1.heap.size w5 (.agg #[.slice qa ps.length qc, .slice ta us.length tc]) ps (dropR rs k) := by
            refine ⟨qa, qc, ta, tc, us, by rw [hul], own_base ho1 (by simp [World.drew]), ?_, by rw [hmm, drop_map, HVS.out], fun x hx => (hok5 x hx).mono (by simp [World.drew])⟩
            rw [← hul]
            exact own_base ho2 (by simp [World.drew])
          exact ownP_base (ownP_away (ownP_away ho (by have := hb1.size; omega)) (by have := hb1.size; omega)) k1.size
        · have hr2 : ¬ (k + 1 = rc) := fun e => hrk e.symm
          have hr3 : ¬ ((rc : Int) = (k : Int) + 1) := by omega
          have hr4 : ¬ ((k : Int) + 1 = (rc : Int)) := by omega
          go_wp2_with fail
          have HPG : Hid (∀ x, Below W1.heap.size W1 x → x.cell? ⟨W1.heap.size, 0, none⟩ = some (.slice (some ⟨rb, ro, none⟩) k rc) → x.cell? ⟨W1.heap.size, 1, none⟩ = some (.slice (some ⟨rb, ro + (k + 1) * 5, none⟩) (rs.length - (k + 1)) (rc - (k + 1))) → Calls Tryz.prog 25 #[.slice pa ps.length pc, .slice (some ⟨W1.heap.size, 0, none⟩) 2 2] x fun e w' => ∃ pa pc ra rc us, e = .returned (.agg #[.slice pa ps.length pc, .slice ra us.length rc]) ∧ w'.ownsRow x.heap.size 52 3 (.slice pa ps.length pc) ps.length (cellsP ps) ∧ w'.ownsRow x.heap.size 58 5 (.slice ra us.length rc) us.length (cellsR us) ∧ us.map RV.r = (vs.take k ++ vs.drop (k + 1)).map RV.r ∧ (∀ y ∈ us, Fresh x.heap.size (fun z => RVok z y) w') ∧ Below x.heap.size x w') := fun x hx h0 h1 => program_is x _ ps W1.heap.size _ _ _ _ k (rs.length - (k + 1)) (vs.take k) (vs.drop (k + 1)) (by rw [List.length_take, HLEN.out]; omega) (by rw [List.length_drop, HLEN.out]) (HP.out x (k1.trans (hx.mono k1.size))) (by have := HBD.out.preds; omega) h0 h1 ((piece_take HPI.out).lasts hx) ((piece_drop HPI.out).lasts hx) (fun y hy => RVok.lasts (k1.trans (hx.mono k1.size)) (HOK.out y (List.mem_of_mem_take hy))) (fun y hy => RVok.lasts (k1.trans (hx.mono k1.size)) (HOK.out y (List.mem_of_mem_drop hy))) (by have := HBD.out.rules; omega) (fun y hy => HBD.out.head _ (HMM.out y (drop_mem hy))) (fun y hy => HBD.out.body _ (HMM.out y (drop_mem hy))) (fun y hy => HBD.out.args _ (HMM.out y (drop_mem hy)))
          go_region_held3 (fun x : World => x.cell? ⟨w.heap.size, 0, none⟩ = some (.slice pa ps.length pc) ∧ x.cell? ⟨w.heap.size, 1, none⟩ = some (.slice (some ⟨rb, ro, none⟩) rs.length rc))
            (first | (refine KEEP.out _ ?_; (first | exact hk | ((repeat (first | with_reducible exact Below.refl _ _ | (with_reducible refine Below.drew ?_) | (with_reducible refine Below.alloc ?_ (by simp) _))); done))) | exact KEEPb.out _ hk _ _)
            (first | (go_at_call 25; refine Calls.mono (HPG.out _ ?g0 ?g1 ?g2) ?_; (case g0 => (repeat (first | with_reducible exact Below.refl _ _ | (with_reducible refine Below.drew ?_) | (with_reducible refine Below.alloc ?_ (by simp) _)))); (case g1 => simp [go_sem]); (case g2 => simp [go_sem]); rintro e w5 ⟨qa, qc, ta, tc, us, rfl, ho1, ho2, hmm, hok5, hb5⟩; have hsz : W1.heap.size + 1 ≤ w5.heap.size := (by have := hb5.size; simpa [World.drew] using this); have hk : Below W1.heap.size W1 w5 := (by refine Below.trans ?_ (hb5.mono ?_); (repeat (first | with_reducible exact Below.refl _ _ | (with_reducible refine Below.drew ?_) | (with_reducible refine Below.alloc ?_ (by simp) _))); (simp [World.drew])); obtain ⟨z0, z1, z0f, z1f⟩ := KX.out _ hk))
          have hkw : Below w.heap.size w w5 := k1.trans (hk.mono k1.size)
          go_wp2_with fail
          have hul : us.length = (dropR rs k).length := by
            have h := congrArg List.length hmm
            rw [drop_map, HVS.out] at h
            simpa using h
          refine bodyPost_ret (v := .tuple #[.agg #[.slice qa ps.length qc, .slice ta us.length tc], .int .i64 0]) (by simp [results, Tryz.results12, go_sem, z0, z1]) rfl ⟨_, by rw [HE.out], ?_, (hkw.setCell (p := ⟨w.heap.size + 1, 0, none⟩) (show w.heap.size ≤ w.heap.size + 1 by omega) _).setCell (p := ⟨w.heap.size + 1, 1, none⟩) (show w.heap.size ≤ w.heap.size + 1 by omega) _⟩
          rw [withoutP, withoutR, HE.out, if_pos rfl, if_pos rfl, Int.toNat_natCast]
          have ho : ownP W1.heap.size w5 (.agg #[.slice qa ps.length qc, .slice ta us.length tc]) ps (dropR rs k) := by
            refine ⟨qa, qc, ta, tc, us, by rw [hul], own_base ho1 (by simp [World.drew]), ?_, by rw [hmm, drop_map, HVS.out], fun x hx => (hok5 x hx).mono (by simp [World.drew])⟩
            rw [← hul]
            exact own_base ho2 (by simp [World.drew])
          exact ownP_base (ownP_away (ownP_away ho (by have := hb1.size; omega)) (by have := hb1.size; omega)) k1.size
  · have hpe' : progErr ps rs ≠ 0 := hpe
    have HE : Hid (withoutErr ps rs n = progErr ps rs) := by show _ = _; simp [withoutErr, hpe]
    go_wp2_with fail
    refine bodyPost_ret (v := .tuple #[.agg #[.slice none 0 0, .slice none 0 0], .int .i64 (progErr ps rs)]) (by simp [results, Tryz.results12, go_sem, e0, e1]) rfl ⟨_, by rw [HE.out], ?_, (k1.setCell (p := ⟨w.heap.size + 1, 0, none⟩) (show w.heap.size ≤ w.heap.size + 1 by omega) _).setCell (p := ⟨w.heap.size + 1, 1, none⟩) (show w.heap.size ≤ w.heap.size + 1 by omega) _⟩
    rw [withoutP, withoutR, HE.out, if_neg hpe', if_neg hpe']
    exact ownP_none _ _

set_option maxRecDepth 100000 in
set_option maxHeartbeats 4000000 in
theorem Union_c (w : World) (pv rv qv sv : Value) (ps qs : List Prd) (rs ss : List Rul) (hp : predsAt w pv ps) (hr : rulesAt w rv rs) (hq : predsAt w qv qs) (hs : rulesAt w sv ss) (hn : small ps) (hn' : small qs) :
    Calls Tryz.prog 6 #[.agg #[pv, rv], .agg #[qv, sv]] w fun e w' => ∃ v, e = .returned (.tuple #[v, .int .i64 (unionErr ps rs qs ss)]) ∧ ownP w.heap.size w' v (unionP ps rs qs ss) (unionR ps rs qs ss) ∧ Below w.heap.size w w' := by
  have HPC : Hid (∀ x, Below w.heap.size w x → Calls Tryz.prog 23 #[.agg #[pv, rv]] x fun e w' => e = .returned (.int .i64 (progErr ps rs)) ∧ Below x.heap.size x w') := fun x hx => Prog.devCheck_c x pv rv ps rs (predsAt.lasts hx hp) (rulesAt.lasts hx hr) hn
  have HQC : Hid (∀ x, Below w.heap.size w x → Calls Tryz.prog 23 #[.agg #[qv, sv]] x fun e w' => e = .returned (.int .i64 (progErr qs ss)) ∧ Below x.heap.size x w') := fun x hx => Prog.devCheck_c x qv sv qs ss (predsAt.lasts hx hq) (rulesAt.lasts hx hs) hn'
  have HEQ : Hid (∀ x, Below w.heap.size w x → Calls Tryz.prog 24 #[pv, qv] x fun e w' => e = .returned (.bool (decide (ps = qs))) ∧ Below x.heap.size x w') := fun x hx => equal_c x pv qv ps qs (predsAt.lasts hx hp) (predsAt.lasts hx hq)
  have HP : Hid (∀ x, Below w.heap.size w x → predsAt x pv ps) := fun x hx => predsAt.lasts hx hp
  have HR : Hid (rulesAt w rv rs) := hr
  have HS : Hid (rulesAt w sv ss) := hs
  have HN : Hid (small ps) := hn
  obtain ⟨pa, pc, rfl, _⟩ := hp
  obtain ⟨ra, rc, rfl, _⟩ := hr
  obtain ⟨qa, qc, rfl, _⟩ := hq
  obtain ⟨sa, sc, rfl, _⟩ := hs
  obtain ⟨W0, hW0⟩ : ∃ W0, ((w.alloc (.cells #[.slice pa ps.length pc, .slice ra rs.length rc] 25)).alloc (.cells #[.slice qa qs.length qc, .slice sa ss.length sc] 25)).alloc (.cells #[.slice none 0 0, .slice none 0 0] 25) = W0 := ⟨_, rfl⟩
  have b0 : Below w.heap.size w W0 := by rw [← hW0]; exact ((below_alloc _ _).alloc (by simp) _).alloc (by simp; omega) _
  have hs0 : W0.heap.size = w.heap.size + 3 := by rw [← hW0]; simp
  have hc0 : W0.cell? ⟨w.heap.size, 0, none⟩ = some (.slice pa ps.length pc) ∧ W0.cell? ⟨w.heap.size, 1, none⟩ = some (.slice ra rs.length rc) ∧ W0.cell? ⟨w.heap.size + 1, 0, none⟩ = some (.slice qa qs.length qc) ∧ W0.cell? ⟨w.heap.size + 1, 1, none⟩ = some (.slice sa ss.length sc) ∧ W0.cell? ⟨w.heap.size + 2, 0, none⟩ = some (.slice none 0 0) ∧ W0.cell? ⟨w.heap.size + 2, 1, none⟩ = some (.slice none 0 0) ∧ W0.frozen? ⟨w.heap.size + 2, 0, none⟩ = false ∧ W0.frozen? ⟨w.heap.size + 2, 1, none⟩ = false := by
    rw [← hW0]
    refine ⟨?_, ?_, ?_, ?_, ?_, ?_, ?_, ?_⟩ <;> simp [go_sem, Nat.add_assoc]
  have HC : Hid (∀ x, Below W0.heap.size W0 x → x.cell? ⟨w.heap.size, 0, none⟩ = some (.slice pa ps.length pc) ∧ x.cell? ⟨w.heap.size, 1, none⟩ = some (.slice ra rs.length rc) ∧ x.cell? ⟨w.heap.size + 1, 0, none⟩ = some (.slice qa qs.length qc) ∧ x.cell? ⟨w.heap.size + 1, 1, none⟩ = some (.slice sa ss.length sc) ∧ x.cell? ⟨w.heap.size + 2, 0, none⟩ = some (.slice none 0 0) ∧ x.cell? ⟨w.heap.size + 2, 1, none⟩ = some (.slice none 0 0) ∧ x.frozen? ⟨w.heap.size + 2, 0, none⟩ = false ∧ x.frozen? ⟨w.heap.size + 2, 1, none⟩ = false) := fun x hx => ⟨(cell_lasts hx (by omega)).trans hc0.1, (cell_lasts hx (by omega)).trans hc0.2.1, (cell_lasts hx (by omega)).trans hc0.2.2.1, (cell_lasts hx (by omega)).trans hc0.2.2.2.1, (cell_lasts hx (by omega)).trans hc0.2.2.2.2.1, (cell_lasts hx (by omega)).trans hc0.2.2.2.2.2.1, ((bcell hx).2 _ _ (by omega)).trans hc0.2.2.2.2.2.2.1, ((bcell hx).2 _ _ (by omega)).trans hc0.2.2.2.2.2.2.2⟩
  obtain ⟨d0, d1, d2, d3, e0, e1, e0f, e1f⟩ := id hc0
  clear hc0
  go_enter Tryz.func6, Tryz.ntmps6
  go_wp2_with fail
  refine (HPC.out _ b0).mono ?_
  rintro e W1 ⟨rfl, hb1⟩
  have k1 : Below w.heap.size w W1 := b0.trans (hb1.mono b0.size)
  clear hW0 d0 d1 d2 d3 e0 e1 e0f e1f
  obtain ⟨d0, d1, d2, d3, e0, e1, e0f, e1f⟩ := HC.out W1 hb1
  by_cases hpe : progErr ps rs = 0
  · rw [hpe]
    go_wp2_with fail
    refine (HQC.out _ k1).mono ?_
    rintro e W2 ⟨rfl, hb2⟩
    have q2 : Below W0.heap.size W0 W2 := hb1.trans (hb2.mono hb1.size)
    have k2 : Below w.heap.size w W2 := b0.trans (q2.mono b0.size)
    clear d0 d1 d2 d3 e0 e1 e0f e1f
    obtain ⟨d0, d1, d2, d3, e0, e1, e0f, e1f⟩ := HC.out W2 q2
    by_cases hqe : progErr qs ss = 0
    · rw [hqe]
      go_wp2_with fail
      refine (HEQ.out _ k2).mono ?_
      rintro e W3 ⟨rfl, hb3⟩
      have q3 : Below W0.heap.size W0 W3 := q2.trans (hb3.mono q2.size)
      have k3 : Below w.heap.size w W3 := b0.trans (q3.mono b0.size)
      clear d0 d1 d2 d3 e0 e1 e0f e1f
      obtain ⟨d0, d1, d2, d3, e0, e1, e0f, e1f⟩ := HC.out W3 q3
      by_cases hpq : ps = qs
      · subst hpq
        rw [decide_eq_true rfl]
        obtain ⟨vs, hvs, hok, hpi⟩ := rules_piece HR.out
        obtain ⟨us', hus, hok', hpi'⟩ := rules_piece HS.out
        have hl1 : vs.length = rs.length := by rw [← hvs, List.length_map]
        have hl2 : us'.length = ss.length := by rw [← hus, List.length_map]
        have HBD := prog_bounds hpe
        have HBE := prog_bounds hqe
        have hmm1 : ∀ y ∈ vs ++ us', y.r ∈ rs ∨ y.r ∈ ss := fun y hy => by
          rcases List.mem_append.1 hy with h | h
          · exact .inl (by rw [← hvs]; exact List.mem_map.2 ⟨y, h, rfl⟩)
          · exact .inr (by rw [← hus]; exact List.mem_map.2 ⟨y, h, rfl⟩)
        rw [hl1] at hpi
        rw [hl2] at hpi'
        obtain ⟨W4, hW4⟩ : ∃ W4, W3.alloc (.cells #[.slice ra rs.length rc, .slice sa ss.length sc] 23) = W4 := ⟨_, rfl⟩
        have b4 : Below W3.heap.size W3 W4 := by rw [← hW4]; exact below_alloc _ _
        have k4 : Below w.heap.size w W4 := k3.trans (b4.mono k3.size)
        have f0 : W4.cell? ⟨W3.heap.size, 0, none⟩ = some (.slice ra rs.length rc) ∧ W4.cell? ⟨W3.heap.size, 1, none⟩ = some (.slice sa ss.length sc) := by rw [← hW4]; simp [go_sem]
        have HPG := program_is W4 _ ps W3.heap.size ra sa rc sc rs.length ss.length vs us' hl1 hl2 (HP.out W4 k4) (by have := HBD.preds; omega) f0.1 f0.2 (hpi.lasts k4) (hpi'.lasts k4) (fun y hy => RVok.lasts k4 (hok y hy)) (fun y hy => RVok.lasts k4 (hok' y hy)) (by have := HBD.rules; have := HBE.rules; omega)
          (fun y hy => (hmm1 y hy).elim (HBD.head _) (HBE.head _)) (fun y hy => (hmm1 y hy).elim (HBD.body _) (HBE.body _)) (fun y hy => (hmm1 y hy).elim (HBD.args _) (HBE.args _))
        have HLR : Hid ((rs ++ ss).length ≤ 500) := by show _ ≤ _; rw [List.length_append]; have := HBD.rules; have := HBE.rules; omega
        have HLP : Hid (ps.length ≤ 500) := by show _ ≤ _; have := HBD.preds; omega
        have HMP : Hid ((vs ++ us').map RV.r = rs ++ ss) := by show _ = _; rw [List.map_append, hvs, hus]
        have hsz4 : W4.heap.size = W3.heap.size + 1 := by rw [← hW4]; simp
        have HUE : Hid (unionErr ps rs ps ss = progErr ps (rs ++ ss)) := by show _ = _; simp [unionErr, hpe, hqe]
        obtain ⟨RS, hRS⟩ : ∃ RS, rs ++ ss = RS := ⟨_, rfl⟩
        have HRS : Hid (rs ++ ss = RS) := hRS
        rw [hRS] at HLR HMP HUE
        clear hRS
        clear hvs hus hok hok' hpi hpi' hl1 hl2 HBD HBE hmm1 f0
        go_wp2_with fail
        refine HPG.mono ?_
        rintro e W5 ⟨xa, xc, ya, yc, us, rfl, ho1, ho2, hmm, hok5, hb5⟩
        have hul : us.length = RS.length := by
          have h := congrArg List.length hmm
          rw [HMP.out] at h
          simpa using h
        have HOP : Hid (ownP W4.heap.size W5 (.agg #[.slice xa ps.length xc, .slice ya RS.length yc]) ps RS) := by
          refine ⟨xa, xc, ya, yc, us, rfl, ho1, ?_, by rw [hmm, HMP.out], hok5⟩
          rw [← hul]
          exact ho2
        have q5 : Below W0.heap.size W0 W5 := q3.trans ((b4.trans (hb5.mono b4.size)).mono q3.size)
        have k5 : Below w.heap.size w W5 := b0.trans (q5.mono b0.size)
        have HCK : Hid (∀ x, Below W5.heap.size W5 x → Calls Tryz.prog 23 #[.agg #[.slice xa ps.length xc, .slice ya RS.length yc]] x fun e w' => e = .returned (.int .i64 (progErr ps RS)) ∧ Below x.heap.size x w') := fun x hx => by
          obtain ⟨a1, b1, a2, b2, hv, h1, h2⟩ := ownP_open (ownP_lasts HOP.out hx) HLP.out HLR.out
          have hv' : (Value.agg #[.slice xa ps.length xc, .slice ya RS.length yc]) = .agg #[.slice a1 ps.length b1, .slice a2 RS.length b2] := hv
          rw [hv']
          exact Prog.devCheck_c x _ _ ps RS h1 h2 HN.out
        rw [hul]
        clear hul hmm ho1 ho2 hok5 hW4 HPG d0 d1 d2 d3 e0 e1 e0f e1f
        obtain ⟨W6, hW6⟩ : ∃ W6, W5.alloc (.cells #[.slice xa ps.length xc, .slice ya RS.length yc] 25) = W6 := ⟨_, rfl⟩
        have b6 : Below W5.heap.size W5 W6 := by rw [← hW6]; exact below_alloc _ _
        have f6 : W6.cell? ⟨W5.heap.size, 0, none⟩ = some (.slice xa ps.length xc) ∧ W6.cell? ⟨W5.heap.size, 1, none⟩ = some (.slice ya RS.length yc) ∧ W5.heap.size < W6.heap.size := by rw [← hW6]; simp [go_sem]
        obtain ⟨f60, f61, f6s⟩ := f6
        go_wp2_with fail
        refine (HCK.out _ b6).mono ?_
        rintro e W7 ⟨rfl, hb7⟩
        have q57 : Below W5.heap.size W5 W7 := b6.trans (hb7.mono b6.size)
        have q7 : Below W0.heap.size W0 W7 := q5.trans (q57.mono q5.size)
        have k7 : Below w.heap.size w W7 := b0.trans (q7.mono b0.size)
        obtain ⟨d0, d1, d2, d3, e0, e1, e0f, e1f⟩ := HC.out W7 q7
        have f70 := (cell_lasts (o := 0) hb7 f6s).trans f60
        have f71 := (cell_lasts (o := 1) hb7 f6s).trans f61
        clear f60 f61 hW6
        by_cases hue : progErr ps RS = 0
        · rw [hue]
          have HE : Hid (unionErr ps rs ps ss = 0) := by show _ = _; rw [HUE.out, hue]
          go_wp2_with fail
          refine bodyPost_ret (v := .tuple #[.agg #[.slice xa ps.length xc, .slice ya RS.length yc], .int .i64 0]) (by simp [results, Tryz.results6, go_sem, e0, e1]) rfl ⟨_, by rw [HE.out], ?_, (k7.setCell (p := ⟨w.heap.size + 2, 0, none⟩) (show w.heap.size ≤ w.heap.size + 2 by omega) _).setCell (p := ⟨w.heap.size + 2, 1, none⟩) (show w.heap.size ≤ w.heap.size + 2 by omega) _⟩
          rw [unionP, unionR, HE.out, if_pos rfl, if_pos rfl, HRS.out]
          exact ownP_base (ownP_away (ownP_away (ownP_lasts HOP.out q57) (by have := q3.size; omega)) (by have := q3.size; omega)) k4.size
        · have hue' : progErr ps RS ≠ 0 := hue
          have HE : Hid (unionErr ps rs ps ss = progErr ps RS) := HUE
          go_wp2_with fail
          refine bodyPost_ret (v := .tuple #[.agg #[.slice none 0 0, .slice none 0 0], .int .i64 (progErr ps RS)]) (by simp [results, Tryz.results6, go_sem, e0, e1]) rfl ⟨_, by rw [HE.out], ?_, (k7.setCell (p := ⟨w.heap.size + 2, 0, none⟩) (show w.heap.size ≤ w.heap.size + 2 by omega) _).setCell (p := ⟨w.heap.size + 2, 1, none⟩) (show w.heap.size ≤ w.heap.size + 2 by omega) _⟩
          rw [unionP, unionR, HE.out, if_neg (by first | assumption | omega), if_neg (by first | assumption | omega)]
          exact ownP_none _ _
      · rw [decide_eq_false hpq]
        have HE : Hid (unionErr ps rs qs ss = 1) := by show _ = _; simp [unionErr, hpe, hqe, hpq]
        go_wp2_with fail
        refine bodyPost_ret (v := .tuple #[.agg #[.slice none 0 0, .slice none 0 0], .int .i64 1]) (by simp [results, Tryz.results6, go_sem, e0, e1]) rfl ⟨_, by rw [HE.out], ?_, (k3.setCell (p := ⟨w.heap.size + 2, 0, none⟩) (show w.heap.size ≤ w.heap.size + 2 by omega) _).setCell (p := ⟨w.heap.size + 2, 1, none⟩) (show w.heap.size ≤ w.heap.size + 2 by omega) _⟩
        rw [unionP, unionR, HE.out, if_neg (by first | assumption | omega), if_neg (by first | assumption | omega)]
        exact ownP_none _ _
    · have hqe' : progErr qs ss ≠ 0 := hqe
      have HE : Hid (unionErr ps rs qs ss = progErr qs ss) := by show _ = _; simp [unionErr, hpe, hqe]
      go_wp2_with fail
      refine bodyPost_ret (v := .tuple #[.agg #[.slice none 0 0, .slice none 0 0], .int .i64 (progErr qs ss)]) (by simp [results, Tryz.results6, go_sem, e0, e1]) rfl ⟨_, by rw [HE.out], ?_, (k2.setCell (p := ⟨w.heap.size + 2, 0, none⟩) (show w.heap.size ≤ w.heap.size + 2 by omega) _).setCell (p := ⟨w.heap.size + 2, 1, none⟩) (show w.heap.size ≤ w.heap.size + 2 by omega) _⟩
      rw [unionP, unionR, HE.out, if_neg (by first | assumption | omega), if_neg (by first | assumption | omega)]
      exact ownP_none _ _
  · have hpe' : progErr ps rs ≠ 0 := hpe
    have HE : Hid (unionErr ps rs qs ss = progErr ps rs) := by show _ = _; simp [unionErr, hpe]
    go_wp2_with fail
    refine bodyPost_ret (v := .tuple #[.agg #[.slice none 0 0, .slice none 0 0], .int .i64 (progErr ps rs)]) (by simp [results, Tryz.results6, go_sem, e0, e1]) rfl ⟨_, by rw [HE.out], ?_, (k1.setCell (p := ⟨w.heap.size + 2, 0, none⟩) (show w.heap.size ≤ w.heap.size + 2 by omega) _).setCell (p := ⟨w.heap.size + 2, 1, none⟩) (show w.heap.size ≤ w.heap.size + 2 by omega) _⟩
    rw [unionP, unionR, HE.out, if_neg (by first | assumption | omega), if_neg (by first | assumption | omega)]
    exact ownP_none _ _
end Go.Proofs.YtlfccloaoopadagGreat.Sum

/-
  Appends inside a region whose order Go leaves open: rows of the call's own are kept apart by what they hold.
-/
namespace Go.Proofs.YtlfccloaoopadagGreat.Sum
open Go.ChangeShapes Go.WideShapes Go.ChangeAt Go.RowKit

section
variable {P : Program}
/-- a piece is put behind a row of the call's own: a step of a region -/
theorem step_append_cells {w : World} {ops : Array Oper} {o : Oper} {a : Act} {K : Act → World → Prop} {Q : Exit → Act → World → Prop} {E : Prop} (hgd : o.guard = none) (s x : Operand) (t : TypeId)
    (ho : o.op = .call { callee := .builtin .append, args := #[s, x], argTypes := #[t, t] }) (e : TypeId) {z : Value} {size bytes : Nat} (ht : P.underlying t = some (.slice e)) (hinfo : (P.info? e).map (fun i => (i.zero, i.size, i.bytes)) = some (some z, size, bytes)) (hzs : z.cells.size = size) (hsz : 0 < size) (hby : bytes ≤ 1000)
    (base : Nat) (v : Value) (n : Nat) (xs : List Value) (hs : a.eval s = v) (hown : w.ownsRow base e size v n xs) (y : Value) (hy : a.eval x = y) (m : Nat) (ys : List Value) (hp : pieceC w y m ys) (hl : ys.length = m * size) (h1 : ∀ u ∈ ys, u.oneCell' = true)
    (hb : n + m ≤ 1000) (hbase : base ≤ w.heap.size) (N : Nat) (hN : n + m = N)
    (h : ∀ a' c' w', w'.ownsRow base e size (.slice a' N c') N (xs ++ ys) → w.grownBy w' v.ownBlock → K (a.put o.dst (.slice a' N c')) w') :
    if Region.wanted o (yielded ops a.tmps) = true then Oper.wp P o a w K Q else E := by
  subst hN
  have hw : Region.wanted o (yielded ops a.tmps) = true := by simp [Region.wanted, hgd]
  rw [if_pos hw]
  obtain ⟨i, hi, hz, hsz', hby'⟩ := info_parts hinfo
  rcases hp with ⟨c, rfl, rfl, rfl⟩ | ⟨ad, c, rfl, hc⟩
  · obtain ⟨a', c', rfl⟩ := own_slice hown
    have hcap : n ≤ c' := by
      rcases hown.2 with ⟨h, h0⟩ | ⟨g, cap, cur, h, _, _, hc, _⟩
      · omega
      · simp only [Value.slice.injEq] at h
        omega
    have hr : (Builtin.append_ #[t, t] o.type #[.slice a' n c', .slice none 0 c]).run P w = .ok (.slice a' n c') w := by
      cases a' <;> simp [Builtin.append_, run_underlying ht, sizeOf, typeInfo, hi, Builtin.lenOf, Builtin.firstCells, hcap, storeCells]
    unfold Oper.wp execOp
    simp only [ho, resolve, invoke, builtin, Sem.run_bind, Sem.run_pure, Result.andThen_ok, List.map_toArray, List.map_cons, List.map_nil, hs, hy, hr]
    exact h a' c' w (by rw [List.append_nil]; exact hown) ⟨rfl, rfl, rfl, Nat.le_refl _, fun _ _ _ => rfl⟩
  · have hmul : (n + m + (n + m) / 4 + 192) * bytes ≤ 2000 * 1000 := Nat.mul_le_mul (by omega) hby
    refine wp_append_own_wide w s x t ho base e i z size bytes ht hi hz hsz' hby' hzs hsz v n xs hs hown ad m c ys hy hl hc h1 (by unfold maxLen; omega) (by omega) hbase ?_
    intro v' w' h2 h3 _
    obtain ⟨a', c', rfl⟩ := own_slice h2
    exact h a' c' w' h2 h3
end
/-- an empty row -/
theorem own_at {w : World} {base N sz : Nat} {e : TypeId} (h : w.heap[N]? = some (.cells #[] e (0, 0))) (hb : base ≤ N) : w.ownsRow base e sz (.slice (some ⟨N, 0, none⟩) 0 0) 0 [] := ⟨by simp, .inr ⟨N, 0, #[], rfl, hb, h, Nat.le_refl _, Nat.zero_le _, by simp, by simp⟩⟩
/-- a row is in no block that holds something else -/
theorem own_apart {w : World} {base sz n N : Nat} {e e' : TypeId} {v : Value} {xs : List Value} {c : Array Value} {f : Nat × Nat} (h : w.ownsRow base e sz v n xs) (hN : w.heap[N]? = some (.cells c e' f)) (he : e ≠ e') : some N ≠ v.ownBlock := by
  rcases h.2 with ⟨rfl, _⟩ | ⟨g, cap, cur, rfl, _, hg, _⟩
  · intro h; cases h
  · intro h
    have h' : N = g := Option.some.inj h
    subst h'
    rw [hg] at hN
    cases hN
    exact he rfl
/-- a row lasts where another one has grown -/
theorem own_grown {w w' : World} {base base' sz sz' n n' : Nat} {e e' : TypeId} {v v' : Value} {xs xs' : List Value} (h : w.ownsRow base e sz v n xs) (h' : w.ownsRow base' e' sz' v' n' xs') (he : e ≠ e') (hg : w.grownBy w' v'.ownBlock) : w'.ownsRow base e sz v n xs := by
  obtain ⟨h0, h1⟩ := h
  refine ⟨h0, ?_⟩
  rcases h1 with h1 | ⟨g, cap, cur, h1, h2, h3, h4⟩
  · exact .inl h1
  · exact .inr ⟨g, cap, cur, h1, h2, (hg.block g (Array.getElem?_eq_some_iff.1 h3).1 (own_apart h' h3 (fun x => he x.symm))).trans h3, h4⟩
theorem below_grown {w w1 w2 : World} {base base' sz : Nat} {e : TypeId} {v : Value} {n : Nat} {xs : List Value} (hb : Below base' w w1) (hown : w1.ownsRow base e sz v n xs) (hg : w1.grownBy w2 v.ownBlock) (hs : base' ≤ w1.heap.size) (hle : base' ≤ base) : Below base' w w2 :=
  hb.grown hg hs (fun k hk => Nat.le_trans hle (hown.lt k hk).1)
theorem new0 (w : World) (o : Obj) : (w.alloc o).heap[w.heap.size]? = some o := heap_alloc_new w o
theorem old0 {w : World} {o : Obj} {N : Nat} {x : Obj} (h : w.heap[N]? = some x) : (w.alloc o).heap[N]? = some x := ((below_alloc w o).block N (Array.getElem?_eq_some_iff.1 h).1).trans h
theorem new1 (w : World) (a o : Obj) : ((w.alloc a).alloc o).heap[w.heap.size + 1]? = some o := by
  have h := new0 (w.alloc a) o
  rw [World.size_alloc] at h
  exact h
theorem new2 (w : World) (a b o : Obj) : (((w.alloc a).alloc b).alloc o).heap[w.heap.size + 1 + 1]? = some o := by
  have h := new1 (w.alloc a) b o
  rw [World.size_alloc] at h
  exact h
theorem obj_grown {w w' : World} {base sz n N : Nat} {e e' : TypeId} {v : Value} {xs : List Value} {c : Array Value} {f : Nat × Nat} (hN : w.heap[N]? = some (.cells c e' f)) (h : w.ownsRow base e sz v n xs) (he : e ≠ e') (hg : w.grownBy w' v.ownBlock) : w'.heap[N]? = some (.cells c e' f) := (hg.block N (Array.getElem?_eq_some_iff.1 hN).1 (own_apart h hN he)).trans hN
theorem bal {w w' : World} (h : Below w.heap.size w w') (o : Obj) : Below w.heap.size w (w'.alloc o) := h.alloc h.size o
theorem bdr {w w' : World} {n : Nat} (h : Below n w w') : Below n w w'.drew := h.drew
theorem drew_at {w : World} {N : Nat} {x : Option Obj} (h : w.heap[N]? = x) : w.drew.heap[N]? = x := h
theorem bsz {w w' : World} (h : Below w.heap.size w w') : w.heap.size ≤ w'.heap.size := h.size
theorem own_set_apart {w : World} {base sz n N k : Nat} {e e' : TypeId} {v u : Value} {xs : List Value} {c : Array Value} {f : Nat × Nat} (h : w.ownsRow base e sz v n xs) (hN : w.heap[N]? = some (.cells c e' f)) (he : e ≠ e') : (w.setCell ⟨N, k, none⟩ u).ownsRow base e sz v n xs := by
  have ha := own_apart h hN he
  obtain ⟨h0, h1⟩ := h
  refine ⟨h0, ?_⟩
  rcases h1 with h1 | ⟨g, cap, cur, rfl, h2, h3, h4⟩
  · exact .inl h1
  · refine .inr ⟨g, cap, cur, rfl, h2, ?_, h4⟩
    rw [heap_other (fun x => ha (by subst x; rfl))]
    exact h3
theorem own_set2 {w : World} {base sz n N : Nat} {e : TypeId} {v u u' : Value} {xs : List Value} (h : w.ownsRow base e sz v n xs) (hN : w.heap[N]? = some (.cells #[.slice none 0 0, .slice none 0 0] 25 (0, 0))) (he : e ≠ 25) : ((w.setCell ⟨N, 0, none⟩ u).setCell ⟨N, 1, none⟩ u').ownsRow base e sz v n xs :=
  own_set_apart (own_set_apart h hN he) (heap_setCell_same w N 0 _ _ u hN) he
theorem box_set2' {x : World} {b : Nat} {u v : Value} (h : x.heap[b]? = some (.cells #[u, v] 25 (0, 0))) (u' v' : Value) : boxAt ((x.setCell ⟨b, 0, none⟩ u').setCell ⟨b, 1, none⟩ v') b u' v' := heap_setCell_same _ b 1 _ _ v' (heap_setCell_same x b 0 _ _ u' h)
theorem box_new' (w : World) (u v : Value) : boxAt (w.alloc (.cells #[u, v] 25)) w.heap.size u v := heap_alloc_new w _
end Go.Proofs.YtlfccloaoopadagGreat.Sum

/-
  What the document's own WithoutOf and UnionOf answer.
-/
namespace Go.Proofs.YtlfccloaoopadagGreat.Sum
open Go.ChangeShapes Go.WideShapes Go.ChangeAt Go.RowKit
open Prog (progErr small)

set_option maxRecDepth 100000 in
set_option maxHeartbeats 4000000 in
theorem withoutOf_c (w : World) (pv rv : Value) (ps : List Prd) (rs : List Rul) (n : Int) (hnr : -9223372036854775808 ≤ n ∧ n ≤ 9223372036854775807) (hp : predsAt w pv ps) (hr : rulesAt w rv rs) (hn : small ps) (hcap : capLe rv) :
    Calls Tryz.prog 21 #[.agg #[pv, rv], .int .i64 n] w fun e w' => ∃ pa pc ra rc, e = .returned (.tuple #[.agg #[.slice pa (withoutP ps rs n).length pc, .slice ra (withoutR ps rs n).length rc], .int .i64 (withoutErr ps rs n)]) ∧ predsAt w' (.slice pa (withoutP ps rs n).length pc) (withoutP ps rs n) ∧ rulesAt w' (.slice ra (withoutR ps rs n).length rc) (withoutR ps rs n) ∧ Below w.heap.size w w' := by
  have HPC : Hid (∀ x, Below w.heap.size w x → Calls Tryz.prog 37 #[.agg #[pv, rv]] x fun e w' => e = .returned (.int .i64 (progErr ps rs)) ∧ Below x.heap.size x w') := fun x hx => Prog.checkProg_c x pv rv ps rs (predsAt.lasts hx hp) (rulesAt.lasts hx hr) hn
  have HP : Hid (∀ x, Below w.heap.size w x → predsAt x pv ps) := fun x hx => predsAt.lasts hx hp
  have HR : Hid (∀ x, Below w.heap.size w x → rulesAt x rv rs) := fun x hx => rulesAt.lasts hx hr
  obtain ⟨pa, pc, rfl, _⟩ := hp
  obtain ⟨ra, rc, rfl, _⟩ := hr
  have hcap' : rs.length ≤ rc := by
    obtain ⟨a, m, c, h, hc⟩ := hcap
    simp only [Value.slice.injEq] at h
    omega
  obtain ⟨W0, hW0⟩ : ∃ W0, (w.alloc (.cells #[.slice pa ps.length pc, .slice ra rs.length rc] 25)).alloc (.cells #[.slice none 0 0, .slice none 0 0] 25) = W0 := ⟨_, rfl⟩
  have b0 : Below w.heap.size w W0 := by rw [← hW0]; exact (below_alloc _ _).alloc (by simp) _
  have hs0 : W0.heap.size = w.heap.size + 2 := by rw [← hW0]; simp
  have hBP : boxAt W0 w.heap.size (.slice pa ps.length pc) (.slice ra rs.length rc) := by
    rw [← hW0]
    exact ((below_alloc _ _).block w.heap.size (by simp)).trans (heap_alloc_new w _)
  have hBR : boxAt W0 (w.heap.size + 1) (.slice none 0 0) (.slice none 0 0) := by
    rw [← hW0]
    have h := heap_alloc_new (w.alloc (.cells #[.slice pa ps.length pc, .slice ra rs.length rc] 25)) (.cells #[.slice none 0 0, .slice none 0 0] 25)
    rw [World.size_alloc] at h
    exact h
  have HBX : Hid (∀ x, Below W0.heap.size W0 x → boxAt x w.heap.size (.slice pa ps.length pc) (.slice ra rs.length rc) ∧ boxAt x (w.heap.size + 1) (.slice none 0 0) (.slice none 0 0)) := fun x hx => ⟨(hx.block _ (by omega)).trans hBP, (hx.block _ (by omega)).trans hBR⟩
  obtain ⟨f0, f1, _, _, _⟩ := box_cells hBP
  clear hBP hBR
  go_enter Tryz.func21, Tryz.ntmps21
  go_wp2_with fail
  refine (HPC.out _ b0).mono ?_
  rintro e W1 ⟨rfl, hb1⟩
  have k1 : Below w.heap.size w W1 := b0.trans (hb1.mono b0.size)
  obtain ⟨hx0, hx1⟩ := HBX.out W1 hb1
  obtain ⟨c0, c1, _, _, _⟩ := box_cells hx0
  obtain ⟨e0, e1, e0f, e1f, _⟩ := box_cells hx1
  clear hW0 f0 f1
  by_cases hpe : progErr ps rs = 0
  · rw [hpe]
    have hwi := Lat.within_c n 0 ((rs.length : Int) - 1) W1
    go_wp2_with fail
    refine hwi.mono ?_
    rintro e W2 ⟨rfl, rfl⟩
    clear hwi
    by_cases hn0 : 0 ≤ n ∧ n ≤ (rs.length : Int) - 1
    · have hwt : Lat.within n 0 ((rs.length : Int) - 1) = true := by simp [Lat.within, hn0.1, hn0.2]
      rw [hwt]
      have HE : Hid (withoutErr ps rs n = 0) := by show _ = _; simp [withoutErr, hpe]; omega
      have HE1 : Hid (withoutP ps rs n = ps) := by show _ = _; rw [withoutP, HE.out, if_pos rfl]
      have HE2 : Hid (withoutR ps rs n = dropR rs n.toNat) := by show _ = _; rw [withoutR, HE.out, if_pos rfl]
      obtain ⟨k, rfl⟩ : ∃ k : Nat, n = (k : Int) := ⟨n.toNat, by omega⟩
      rw [Int.toNat_natCast] at HE2
      have hkl : k < rs.length := by omega
      obtain ⟨vs, hvs, hok, hpi⟩ := rules_piece (HR.out w (Below.refl _ _))
      have hlen : vs.length = rs.length := by rw [← hvs, List.length_map]
      obtain ⟨rb, ro, rfl⟩ : ∃ rb ro, ra = some ⟨rb, ro, none⟩ := by
        obtain ⟨a, c, h, _, hx⟩ := HR.out w (Below.refl _ _)
        rcases hx with hx | ⟨b, o, rfl, _⟩
        · rw [hx] at hkl; simp at hkl
        · exact ⟨b, o, by simpa using (Value.slice.inj h).1⟩
      have HOK : Hid (∀ y ∈ vs, RVok w y) := hok
      have HLEN : Hid (vs.length = rs.length) := hlen
      have HKL : Hid (k < rs.length) := hkl
      have HRL8 : Hid (rs.length ≤ 8) := (prog_bounds hpe).rules
      have HPL : Hid (ps.length ≤ 5) := (prog_bounds hpe).preds
      have HVS : Hid (vs.map RV.r = rs) := hvs
      have HPP : Hid (pieceC W2 (.slice pa ps.length pc) ps.length (cellsP ps)) := preds_piece (HP.out W2 k1)
      have HPI : Hid (pieceC W2 (.slice (some ⟨rb, ro, none⟩) rs.length rc) rs.length (cellsR vs)) := by rw [← hlen]; rw [← hlen] at hpi; exact hpi.lasts k1
      have KEEP : Hid (∀ x, Below W2.heap.size W2 x → (fun x : World => x.cell? ⟨w.heap.size, 0, none⟩ = some (.slice pa ps.length pc) ∧ x.cell? ⟨w.heap.size, 1, none⟩ = some (.slice (some ⟨rb, ro, none⟩) rs.length rc)) x) := fun x hx => ⟨(cell_lasts hx (by have := hb1.size; omega)).trans c0, (cell_lasts hx (by have := hb1.size; omega)).trans c1⟩
      have KEEPb : Hid (∀ x, Below W2.heap.size W2 x → ∀ u v, (fun x : World => x.cell? ⟨w.heap.size, 0, none⟩ = some (.slice pa ps.length pc) ∧ x.cell? ⟨w.heap.size, 1, none⟩ = some (.slice (some ⟨rb, ro, none⟩) rs.length rc)) ((x.setCell ⟨w.heap.size + 1, 0, none⟩ u).setCell ⟨w.heap.size + 1, 1, none⟩ v)) := fun x hx u v => ⟨(cell_block (by omega)).trans ((cell_block (by omega)).trans (KEEP.out x hx).1), (cell_block (by omega)).trans ((cell_block (by omega)).trans (KEEP.out x hx).2)⟩
      have KX : Hid (∀ x, Below W2.heap.size W2 x → x.cell? ⟨w.heap.size + 1, 0, none⟩ = some (.slice none 0 0) ∧ x.cell? ⟨w.heap.size + 1, 1, none⟩ = some (.slice none 0 0) ∧ x.frozen? ⟨w.heap.size + 1, 0, none⟩ = false ∧ x.frozen? ⟨w.heap.size + 1, 1, none⟩ = false) := fun x hx => ⟨(cell_lasts hx (by have := hb1.size; omega)).trans e0, (cell_lasts hx (by have := hb1.size; omega)).trans e1, ((bcell hx).2 _ _ (by have := hb1.size; omega)).trans e0f, ((bcell hx).2 _ _ (by have := hb1.size; omega)).trans e1f⟩
      have hk1 : (k : Int) < (rs.length : Int) := by omega
      have hk2 : (k : Int) ≤ (rc : Int) := by omega
      have hk7 : ¬ ((k : Int) + 1 < 0) := by omega
      have hk8 : (0 : Int) ≤ (k : Int) + 1 := by omega
      have hk3 : (k : Int) + 1 ≤ (rs.length : Int) := by omega
      have hk4 : (rs.length : Int) ≤ (rc : Int) := by omega
      have hk5 : IntKind.i64.wrap ((k : Int) + 1) = (k : Int) + 1 := by rw [IntKind.wrap_i64]; have := prog_bounds hpe |>.rules; omega
      have hkn : k + 1 ≤ rs.length := by omega
      clear hvs hok hpi hlen e0 e1 e0f e1f
      by_cases hrk : rc = k + 1
      · have hrl : rs.length = k + 1 := by omega
        have hk6 : (k : Int) ≤ (k : Int) + 1 := by omega
        have KEEP' := KEEP.out
        have KEEPb' := KEEPb.out
        have HPI' := HPI.out
        rw [hrk, hrl] at KEEP' KEEPb' HPI'
        have KEEP : Hid _ := KEEP'
        have KEEPb : Hid _ := KEEPb'
        have HPI : Hid _ := HPI'
        have HRL : Hid (rs.length = k + 1) := hrl
        clear KEEP' KEEPb' HPI' hk1 hk2 hk3 hk4 hkn hcap' hkl
        go_wp2_with fail
        clear hrk hrl
        have HT : Hid (pieceC W2 (.slice (some ⟨rb, ro, none⟩) k (k + 1)) k (cellsR (vs.take k))) := piece_take HPI.out
        have HDR : Hid (pieceC W2 (.slice (some ⟨rb, ro, none⟩) 0 0) 0 (cellsR (vs.drop (k + 1)))) := (piece_end (show vs.drop (k + 1) = [] by apply List.drop_eq_nil_of_le; rw [HLEN.out, HRL.out]; exact Nat.le_refl _))
        have HL1 : Hid ((cellsR (vs.take k)).length = k * 5) := by show _ = _; rw [cellsR_length, List.length_take, HLEN.out]; have := HKL.out; rw [Nat.min_eq_left (by omega)]
        have HL2 : Hid ((cellsR (vs.drop (k + 1))).length = 0 * 5) := by show _ = _; rw [cellsR_length, List.length_drop, HLEN.out]; rw [HRL.out]; omega
        have HN0 : Hid (0 + ps.length ≤ 1000) := by show _ ≤ _; have := HPL.out; omega
        have HN1 : Hid (0 + k ≤ 1000) := by show _ ≤ _; have := HRL8.out; have := HKL.out; omega
        have HN2 : Hid (k + 0 ≤ 1000) := by show _ ≤ _; have := HRL8.out; have := HKL.out; omega
        have HO1 : Hid (∀ u ∈ cellsR (vs.take k), u.oneCell' = true) := cellsR_one fun y hy => HOK.out y (List.mem_of_mem_take hy)
        have HO2 : Hid (∀ u ∈ cellsR (vs.drop (k + 1)), u.oneCell' = true) := cellsR_one fun y hy => HOK.out y (List.mem_of_mem_drop hy)
        go_region_held3 (fun x : World => x.cell? ⟨w.heap.size, 0, none⟩ = some (.slice pa ps.length pc) ∧ x.cell? ⟨w.heap.size, 1, none⟩ = some (.slice (some ⟨rb, ro, none⟩) (k + 1) (k + 1)))
          (first | (refine KEEP.out _ ?_; ((repeat (first | with_reducible exact Below.refl _ _ | with_reducible exact b10 | with_reducible exact b7 | with_reducible exact b3 | (with_reducible refine bdr ?_) | (with_reducible refine bal ?_ _))); done)) | exact KEEPb.out _ b10 _ _)
          (first
            | (refine step_append_cells rfl _ _ 22 rfl 52 Tryz.underlying22 infoPred rfl (by decide) (by decide) W2.heap.size (.slice (some ⟨W2.heap.size, 0, none⟩) 0 0) 0 [] (by rfl) (own_at (sz := 3) (by ((try with_reducible refine drew_at ?_); (first | with_reducible exact new0 _ _ | with_reducible exact old0 (new0 _ _) | with_reducible exact new1 _ _ _ | with_reducible exact old0 (new1 _ _ _) | with_reducible exact old0 (old0 (new0 _ _)) | with_reducible exact new2 _ _ _ _))) (by first | exact Nat.le_refl _ | exact Nat.le_succ _ | exact Nat.le_succ_of_le (Nat.le_succ _) | exact b3.size | exact Nat.le_succ_of_le b3.size | exact b7.size)) (.slice pa ps.length pc) (by rfl) ps.length (cellsP ps) (HPP.out.lasts (by ((repeat (first | with_reducible exact Below.refl _ _ | with_reducible exact b10 | with_reducible exact b7 | with_reducible exact b3 | (with_reducible refine bdr ?_) | (with_reducible refine bal ?_ _))); done))) (cellsP_length ps) (cellsP_one ps) HN0.out (bsz (by ((repeat (first | with_reducible exact Below.refl _ _ | with_reducible exact b10 | with_reducible exact b7 | with_reducible exact b3 | (with_reducible refine bdr ?_) | (with_reducible refine bal ?_ _))); done))) ps.length (Nat.zero_add _) ?_; intro xa xc V3 ho3 hg3; have b3 : Below W2.heap.size W2 V3 := below_grown (by ((repeat (first | with_reducible exact Below.refl _ _ | with_reducible exact b10 | with_reducible exact b7 | with_reducible exact b3 | (with_reducible refine bdr ?_) | (with_reducible refine bal ?_ _))); done)) (own_at (N := W2.heap.size) (sz := 3) (by ((try with_reducible refine drew_at ?_); (first | with_reducible exact new0 _ _ | with_reducible exact old0 (new0 _ _) | with_reducible exact new1 _ _ _ | with_reducible exact old0 (new1 _ _ _) | with_reducible exact old0 (old0 (new0 _ _)) | with_reducible exact new2 _ _ _ _))) (by first | exact Nat.le_refl _ | exact Nat.le_succ _ | exact Nat.le_succ_of_le (Nat.le_succ _) | exact b3.size | exact Nat.le_succ_of_le b3.size | exact b7.size)) hg3 (bsz (by ((repeat (first | with_reducible exact Below.refl _ _ | with_reducible exact b10 | with_reducible exact b7 | with_reducible exact b3 | (with_reducible refine bdr ?_) | (with_reducible refine bal ?_ _))); done))) (Nat.le_refl _); (try have zR : V3.heap[W2.heap.size]? = some (.cells #[] 58 (0, 0)) := obj_grown (by ((try with_reducible refine drew_at ?_); (first | with_reducible exact new0 _ _ | with_reducible exact old0 (new0 _ _) | with_reducible exact new1 _ _ _ | with_reducible exact old0 (new1 _ _ _) | with_reducible exact old0 (old0 (new0 _ _)) | with_reducible exact new2 _ _ _ _))) (own_at (sz := 3) (by ((try with_reducible refine drew_at ?_); (first | with_reducible exact new0 _ _ | with_reducible exact old0 (new0 _ _) | with_reducible exact new1 _ _ _ | with_reducible exact old0 (new1 _ _ _) | with_reducible exact old0 (old0 (new0 _ _)) | with_reducible exact new2 _ _ _ _))) (by first | exact Nat.le_refl _ | exact Nat.le_succ _ | exact Nat.le_succ_of_le (Nat.le_succ _) | exact b3.size | exact Nat.le_succ_of_le b3.size | exact b7.size)) (by decide) hg3); (try have zR : V3.heap[W2.heap.size + 1]? = some (.cells #[] 58 (0, 0)) := obj_grown (by ((try with_reducible refine drew_at ?_); (first | with_reducible exact new0 _ _ | with_reducible exact old0 (new0 _ _) | with_reducible exact new1 _ _ _ | with_reducible exact old0 (new1 _ _ _) | with_reducible exact old0 (old0 (new0 _ _)) | with_reducible exact new2 _ _ _ _))) (own_at (sz := 3) (by ((try with_reducible refine drew_at ?_); (first | with_reducible exact new0 _ _ | with_reducible exact old0 (new0 _ _) | with_reducible exact new1 _ _ _ | with_reducible exact old0 (new1 _ _ _) | with_reducible exact old0 (old0 (new0 _ _)) | with_reducible exact new2 _ _ _ _))) (by first | exact Nat.le_refl _ | exact Nat.le_succ _ | exact Nat.le_succ_of_le (Nat.le_succ _) | exact b3.size | exact Nat.le_succ_of_le b3.size | exact b7.size)) (by decide) hg3))
            | (refine step_append_cells rfl _ _ 22 rfl 52 Tryz.underlying22 infoPred rfl (by decide) (by decide) W2.heap.size (.slice (some ⟨W2.heap.size + 1, 0, none⟩) 0 0) 0 [] (by rfl) (own_at (sz := 3) (by ((try with_reducible refine drew_at ?_); (first | with_reducible exact new0 _ _ | with_reducible exact old0 (new0 _ _) | with_reducible exact new1 _ _ _ | with_reducible exact old0 (new1 _ _ _) | with_reducible exact old0 (old0 (new0 _ _)) | with_reducible exact new2 _ _ _ _))) (by first | exact Nat.le_refl _ | exact Nat.le_succ _ | exact Nat.le_succ_of_le (Nat.le_succ _) | exact b3.size | exact Nat.le_succ_of_le b3.size | exact b7.size)) (.slice pa ps.length pc) (by rfl) ps.length (cellsP ps) (HPP.out.lasts (by ((repeat (first | with_reducible exact Below.refl _ _ | with_reducible exact b10 | with_reducible exact b7 | with_reducible exact b3 | (with_reducible refine bdr ?_) | (with_reducible refine bal ?_ _))); done))) (cellsP_length ps) (cellsP_one ps) HN0.out (bsz (by ((repeat (first | with_reducible exact Below.refl _ _ | with_reducible exact b10 | with_reducible exact b7 | with_reducible exact b3 | (with_reducible refine bdr ?_) | (with_reducible refine bal ?_ _))); done))) ps.length (Nat.zero_add _) ?_; intro xa xc V3 ho3 hg3; have b3 : Below W2.heap.size W2 V3 := below_grown (by ((repeat (first | with_reducible exact Below.refl _ _ | with_reducible exact b10 | with_reducible exact b7 | with_reducible exact b3 | (with_reducible refine bdr ?_) | (with_reducible refine bal ?_ _))); done)) (own_at (N := W2.heap.size + 1) (sz := 3) (by ((try with_reducible refine drew_at ?_); (first | with_reducible exact new0 _ _ | with_reducible exact old0 (new0 _ _) | with_reducible exact new1 _ _ _ | with_reducible exact old0 (new1 _ _ _) | with_reducible exact old0 (old0 (new0 _ _)) | with_reducible exact new2 _ _ _ _))) (by first | exact Nat.le_refl _ | exact Nat.le_succ _ | exact Nat.le_succ_of_le (Nat.le_succ _) | exact b3.size | exact Nat.le_succ_of_le b3.size | exact b7.size)) hg3 (bsz (by ((repeat (first | with_reducible exact Below.refl _ _ | with_reducible exact b10 | with_reducible exact b7 | with_reducible exact b3 | (with_reducible refine bdr ?_) | (with_reducible refine bal ?_ _))); done))) (Nat.le_refl _); (try have zR : V3.heap[W2.heap.size]? = some (.cells #[] 58 (0, 0)) := obj_grown (by ((try with_reducible refine drew_at ?_); (first | with_reducible exact new0 _ _ | with_reducible exact old0 (new0 _ _) | with_reducible exact new1 _ _ _ | with_reducible exact old0 (new1 _ _ _) | with_reducible exact old0 (old0 (new0 _ _)) | with_reducible exact new2 _ _ _ _))) (own_at (sz := 3) (by ((try with_reducible refine drew_at ?_); (first | with_reducible exact new0 _ _ | with_reducible exact old0 (new0 _ _) | with_reducible exact new1 _ _ _ | with_reducible exact old0 (new1 _ _ _) | with_reducible exact old0 (old0 (new0 _ _)) | with_reducible exact new2 _ _ _ _))) (by first | exact Nat.le_refl _ | exact Nat.le_succ _ | exact Nat.le_succ_of_le (Nat.le_succ _) | exact b3.size | exact Nat.le_succ_of_le b3.size | exact b7.size)) (by decide) hg3); (try have zR : V3.heap[W2.heap.size + 1]? = some (.cells #[] 58 (0, 0)) := obj_grown (by ((try with_reducible refine drew_at ?_); (first | with_reducible exact new0 _ _ | with_reducible exact old0 (new0 _ _) | with_reducible exact new1 _ _ _ | with_reducible exact old0 (new1 _ _ _) | with_reducible exact old0 (old0 (new0 _ _)) | with_reducible exact new2 _ _ _ _))) (own_at (sz := 3) (by ((try with_reducible refine drew_at ?_); (first | with_reducible exact new0 _ _ | with_reducible exact old0 (new0 _ _) | with_reducible exact new1 _ _ _ | with_reducible exact old0 (new1 _ _ _) | with_reducible exact old0 (old0 (new0 _ _)) | with_reducible exact new2 _ _ _ _))) (by first | exact Nat.le_refl _ | exact Nat.le_succ _ | exact Nat.le_succ_of_le (Nat.le_succ _) | exact b3.size | exact Nat.le_succ_of_le b3.size | exact b7.size)) (by decide) hg3))
            | (refine step_append_cells rfl _ _ 23 rfl 58 Tryz.underlying23 infoRule rfl (by decide) (by decide) W2.heap.size (.slice ya k yc) k _ (by rfl) (own_lasts ho7 (by ((repeat (first | with_reducible exact Below.refl _ _ | with_reducible exact b10 | with_reducible exact b7 | with_reducible exact b3 | (with_reducible refine bdr ?_) | (with_reducible refine bal ?_ _))); done))) (.slice (some ⟨rb, ro, none⟩) 0 0) (by rfl) 0 (cellsR (vs.drop (k + 1))) (HDR.out.lasts (by ((repeat (first | with_reducible exact Below.refl _ _ | with_reducible exact b10 | with_reducible exact b7 | with_reducible exact b3 | (with_reducible refine bdr ?_) | (with_reducible refine bal ?_ _))); done))) HL2.out HO2.out HN2.out (bsz (by ((repeat (first | with_reducible exact Below.refl _ _ | with_reducible exact b10 | with_reducible exact b7 | with_reducible exact b3 | (with_reducible refine bdr ?_) | (with_reducible refine bal ?_ _))); done))) (k + 0) rfl ?_; intro za zc V10 ho10 hg10; have b10 : Below W2.heap.size W2 V10 := below_grown (by ((repeat (first | with_reducible exact Below.refl _ _ | with_reducible exact b10 | with_reducible exact b7 | with_reducible exact b3 | (with_reducible refine bdr ?_) | (with_reducible refine bal ?_ _))); done)) (own_lasts ho7 (by ((repeat (first | with_reducible exact Below.refl _ _ | with_reducible exact b10 | with_reducible exact b7 | with_reducible exact b3 | (with_reducible refine bdr ?_) | (with_reducible refine bal ?_ _))); done))) hg10 (bsz (by ((repeat (first | with_reducible exact Below.refl _ _ | with_reducible exact b10 | with_reducible exact b7 | with_reducible exact b3 | (with_reducible refine bdr ?_) | (with_reducible refine bal ?_ _))); done))) (Nat.le_refl _); have oPz := own_grown (own_lasts oP7 (by ((repeat (first | with_reducible exact Below.refl _ _ | with_reducible exact b10 | with_reducible exact b7 | with_reducible exact b3 | (with_reducible refine bdr ?_) | (with_reducible refine bal ?_ _))); done))) (own_lasts ho7 (by ((repeat (first | with_reducible exact Below.refl _ _ | with_reducible exact b10 | with_reducible exact b7 | with_reducible exact b3 | (with_reducible refine bdr ?_) | (with_reducible refine bal ?_ _))); done))) (by decide) hg10; obtain ⟨z0, z1, z0f, z1f⟩ := KX.out _ b10)
            | (refine step_append_cells rfl _ _ 23 rfl 58 Tryz.underlying23 infoRule rfl (by decide) (by decide) W2.heap.size (.slice (some ⟨W2.heap.size, 0, none⟩) 0 0) 0 [] (by rfl) (own_at (sz := 5) (by ((try with_reducible refine drew_at ?_); (first | with_reducible exact zR | with_reducible exact old0 zR | with_reducible exact old0 (old0 zR) | with_reducible exact new0 _ _ | with_reducible exact old0 (new0 _ _) | with_reducible exact new1 _ _ _ | with_reducible exact old0 (new1 _ _ _) | with_reducible exact old0 (old0 (new0 _ _)) | with_reducible exact new2 _ _ _ _))) (by first | exact Nat.le_refl _ | exact Nat.le_succ _ | exact Nat.le_succ_of_le (Nat.le_succ _) | exact b3.size | exact Nat.le_succ_of_le b3.size | exact b7.size)) (.slice (some ⟨rb, ro, none⟩) k (k + 1)) (by rfl) k (cellsR (vs.take k)) (HT.out.lasts (by ((repeat (first | with_reducible exact Below.refl _ _ | with_reducible exact b10 | with_reducible exact b7 | with_reducible exact b3 | (with_reducible refine bdr ?_) | (with_reducible refine bal ?_ _))); done))) HL1.out HO1.out HN1.out (bsz (by ((repeat (first | with_reducible exact Below.refl _ _ | with_reducible exact b10 | with_reducible exact b7 | with_reducible exact b3 | (with_reducible refine bdr ?_) | (with_reducible refine bal ?_ _))); done))) k (Nat.zero_add _) ?_; intro ya yc V7 ho7 hg7; have b7 : Below W2.heap.size W2 V7 := below_grown (by ((repeat (first | with_reducible exact Below.refl _ _ | with_reducible exact b10 | with_reducible exact b7 | with_reducible exact b3 | (with_reducible refine bdr ?_) | (with_reducible refine bal ?_ _))); done)) (own_at (N := W2.heap.size) (sz := 5) (by ((try with_reducible refine drew_at ?_); (first | with_reducible exact zR | with_reducible exact old0 zR | with_reducible exact old0 (old0 zR) | with_reducible exact new0 _ _ | with_reducible exact old0 (new0 _ _) | with_reducible exact new1 _ _ _ | with_reducible exact old0 (new1 _ _ _) | with_reducible exact old0 (old0 (new0 _ _)) | with_reducible exact new2 _ _ _ _))) (by first | exact Nat.le_refl _ | exact Nat.le_succ _ | exact Nat.le_succ_of_le (Nat.le_succ _) | exact b3.size | exact Nat.le_succ_of_le b3.size | exact b7.size)) hg7 (bsz (by ((repeat (first | with_reducible exact Below.refl _ _ | with_reducible exact b10 | with_reducible exact b7 | with_reducible exact b3 | (with_reducible refine bdr ?_) | (with_reducible refine bal ?_ _))); done))) (Nat.le_refl _); have oP7 := own_grown (own_lasts ho3 (by ((repeat (first | with_reducible exact Below.refl _ _ | with_reducible exact b10 | with_reducible exact b7 | with_reducible exact b3 | (with_reducible refine bdr ?_) | (with_reducible refine bal ?_ _))); done))) (own_at (N := W2.heap.size) (sz := 5) (by ((try with_reducible refine drew_at ?_); (first | with_reducible exact zR | with_reducible exact old0 zR | with_reducible exact old0 (old0 zR) | with_reducible exact new0 _ _ | with_reducible exact old0 (new0 _ _) | with_reducible exact new1 _ _ _ | with_reducible exact old0 (new1 _ _ _) | with_reducible exact old0 (old0 (new0 _ _)) | with_reducible exact new2 _ _ _ _))) (by first | exact Nat.le_refl _ | exact Nat.le_succ _ | exact Nat.le_succ_of_le (Nat.le_succ _) | exact b3.size | exact Nat.le_succ_of_le b3.size | exact b7.size)) (by decide) hg7)
            | (refine step_append_cells rfl _ _ 23 rfl 58 Tryz.underlying23 infoRule rfl (by decide) (by decide) W2.heap.size (.slice (some ⟨W2.heap.size + 1, 0, none⟩) 0 0) 0 [] (by rfl) (own_at (sz := 5) (by ((try with_reducible refine drew_at ?_); (first | with_reducible exact zR | with_reducible exact old0 zR | with_reducible exact old0 (old0 zR) | with_reducible exact new0 _ _ | with_reducible exact old0 (new0 _ _) | with_reducible exact new1 _ _ _ | with_reducible exact old0 (new1 _ _ _) | with_reducible exact old0 (old0 (new0 _ _)) | with_reducible exact new2 _ _ _ _))) (by first | exact Nat.le_refl _ | exact Nat.le_succ _ | exact Nat.le_succ_of_le (Nat.le_succ _) | exact b3.size | exact Nat.le_succ_of_le b3.size | exact b7.size)) (.slice (some ⟨rb, ro, none⟩) k (k + 1)) (by rfl) k (cellsR (vs.take k)) (HT.out.lasts (by ((repeat (first | with_reducible exact Below.refl _ _ | with_reducible exact b10 | with_reducible exact b7 | with_reducible exact b3 | (with_reducible refine bdr ?_) | (with_reducible refine bal ?_ _))); done))) HL1.out HO1.out HN1.out (bsz (by ((repeat (first | with_reducible exact Below.refl _ _ | with_reducible exact b10 | with_reducible exact b7 | with_reducible exact b3 | (with_reducible refine bdr ?_) | (with_reducible refine bal ?_ _))); done))) k (Nat.zero_add _) ?_; intro ya yc V7 ho7 hg7; have b7 : Below W2.heap.size W2 V7 := below_grown (by ((repeat (first | with_reducible exact Below.refl _ _ | with_reducible exact b10 | with_reducible exact b7 | with_reducible exact b3 | (with_reducible refine bdr ?_) | (with_reducible refine bal ?_ _))); done)) (own_at (N := W2.heap.size + 1) (sz := 5) (by ((try with_reducible refine drew_at ?_); (first | with_reducible exact zR | with_reducible exact old0 zR | with_reducible exact old0 (old0 zR) | with_reducible exact new0 _ _ | with_reducible exact old0 (new0 _ _) | with_reducible exact new1 _ _ _ | with_reducible exact old0 (new1 _ _ _) | with_reducible exact old0 (old0 (new0 _ _)) | with_reducible exact new2 _ _ _ _))) (by first | exact Nat.le_refl _ | exact Nat.le_succ _ | exact Nat.le_succ_of_le (Nat.le_succ _) | exact b3.size | exact Nat.le_succ_of_le b3.size | exact b7.size)) hg7 (bsz (by ((repeat (first | with_reducible exact Below.refl _ _ | with_reducible exact b10 | with_reducible exact b7 | with_reducible exact b3 | (with_reducible refine bdr ?_) | (with_reducible refine bal ?_ _))); done))) (Nat.le_refl _); have oP7 := own_grown (own_lasts ho3 (by ((repeat (first | with_reducible exact Below.refl _ _ | with_reducible exact b10 | with_reducible exact b7 | with_reducible exact b3 | (with_reducible refine bdr ?_) | (with_reducible refine bal ?_ _))); done))) (own_at (N := W2.heap.size + 1) (sz := 5) (by ((try with_reducible refine drew_at ?_); (first | with_reducible exact zR | with_reducible exact old0 zR | with_reducible exact old0 (old0 zR) | with_reducible exact new0 _ _ | with_reducible exact old0 (new0 _ _) | with_reducible exact new1 _ _ _ | with_reducible exact old0 (new1 _ _ _) | with_reducible exact old0 (old0 (new0 _ _)) | with_reducible exact new2 _ _ _ _))) (by first | exact Nat.le_refl _ | exact Nat.le_succ _ | exact Nat.le_succ_of_le (Nat.le_succ _) | exact b3.size | exact Nat.le_succ_of_le b3.size | exact b7.size)) (by decide) hg7)
            | (refine step_append_cells rfl _ _ 23 rfl 58 Tryz.underlying23 infoRule rfl (by decide) (by decide) W2.heap.size (.slice (some ⟨V3.heap.size, 0, none⟩) 0 0) 0 [] (by rfl) (own_at (sz := 5) (by ((try with_reducible refine drew_at ?_); (first | with_reducible exact zR | with_reducible exact old0 zR | with_reducible exact old0 (old0 zR) | with_reducible exact new0 _ _ | with_reducible exact old0 (new0 _ _) | with_reducible exact new1 _ _ _ | with_reducible exact old0 (new1 _ _ _) | with_reducible exact old0 (old0 (new0 _ _)) | with_reducible exact new2 _ _ _ _))) (by first | exact Nat.le_refl _ | exact Nat.le_succ _ | exact Nat.le_succ_of_le (Nat.le_succ _) | exact b3.size | exact Nat.le_succ_of_le b3.size | exact b7.size)) (.slice (some ⟨rb, ro, none⟩) k (k + 1)) (by rfl) k (cellsR (vs.take k)) (HT.out.lasts (by ((repeat (first | with_reducible exact Below.refl _ _ | with_reducible exact b10 | with_reducible exact b7 | with_reducible exact b3 | (with_reducible refine bdr ?_) | (with_reducible refine bal ?_ _))); done))) HL1.out HO1.out HN1.out (bsz (by ((repeat (first | with_reducible exact Below.refl _ _ | with_reducible exact b10 | with_reducible exact b7 | with_reducible exact b3 | (with_reducible refine bdr ?_) | (with_reducible refine bal ?_ _))); done))) k (Nat.zero_add _) ?_; intro ya yc V7 ho7 hg7; have b7 : Below W2.heap.size W2 V7 := below_grown (by ((repeat (first | with_reducible exact Below.refl _ _ | with_reducible exact b10 | with_reducible exact b7 | with_reducible exact b3 | (with_reducible refine bdr ?_) | (with_reducible refine bal ?_ _))); done)) (own_at (N := V3.heap.size) (sz := 5) (by ((try with_reducible refine drew_at ?_); (first | with_reducible exact zR | with_reducible exact old0 zR | with_reducible exact old0 (old0 zR) | with_reducible exact new0 _ _ | with_reducible exact old0 (new0 _ _) | with_reducible exact new1 _ _ _ | with_reducible exact old0 (new1 _ _ _) | with_reducible exact old0 (old0 (new0 _ _)) | with_reducible exact new2 _ _ _ _))) (by first | exact Nat.le_refl _ | exact Nat.le_succ _ | exact Nat.le_succ_of_le (Nat.le_succ _) | exact b3.size | exact Nat.le_succ_of_le b3.size | exact b7.size)) hg7 (bsz (by ((repeat (first | with_reducible exact Below.refl _ _ | with_reducible exact b10 | with_reducible exact b7 | with_reducible exact b3 | (with_reducible refine bdr ?_) | (with_reducible refine bal ?_ _))); done))) (Nat.le_refl _); have oP7 := own_grown (own_lasts ho3 (by ((repeat (first | with_reducible exact Below.refl _ _ | with_reducible exact b10 | with_reducible exact b7 | with_reducible exact b3 | (with_reducible refine bdr ?_) | (with_reducible refine bal ?_ _))); done))) (own_at (N := V3.heap.size) (sz := 5) (by ((try with_reducible refine drew_at ?_); (first | with_reducible exact zR | with_reducible exact old0 zR | with_reducible exact old0 (old0 zR) | with_reducible exact new0 _ _ | with_reducible exact old0 (new0 _ _) | with_reducible exact new1 _ _ _ | with_reducible exact old0 (new1 _ _ _) | with_reducible exact old0 (old0 (new0 _ _)) | with_reducible exact new2 _ _ _ _))) (by first | exact Nat.le_refl _ | exact Nat.le_succ _ | exact Nat.le_succ_of_le (Nat.le_succ _) | exact b3.size | exact Nat.le_succ_of_le b3.size | exact b7.size)) (by decide) hg7))
        all_goals
          have hkw : Below w.heap.size w V10 := k1.trans (b10.mono k1.size)
          have hlen : (dropR rs k).length = k + 0 := by rw [dropR, List.length_append, List.length_take, List.length_drop]; have := HKL.out; have := HRL.out; omega
          have HRA : Hid (Fresh W2.heap.size (fun x => predsAt x (.slice xa ps.length xc) ps) V10) := fun x hx => predsAt_own (own_keeps oPz hx (Nat.le_refl _)) (by have := HPL.out; omega)
          go_wp2_with fail
          refine bodyPost_ret (v := .tuple #[.agg #[.slice xa ps.length xc, .slice za (k + 0) zc], .int .i64 0]) (by simp [results, Tryz.results21, go_sem, z0, z1]) rfl ⟨xa, xc, za, zc, by rw [HE.out, HE1.out, HE2.out, hlen], ?_, ?_, (hkw.setCell (p := ⟨w.heap.size + 1, 0, none⟩) (show w.heap.size ≤ w.heap.size + 1 by omega) _).setCell (p := ⟨w.heap.size + 1, 1, none⟩) (show w.heap.size ≤ w.heap.size + 1 by omega) _⟩
          · rw [HE1.out]
            exact HRA.out _ ((KeepsFrom.set (by have := hb1.size; omega)).trans (KeepsFrom.set (by have := hb1.size; omega)))
          · rw [HE2.out]
            have hm : (vs.take k ++ vs.drop (k + 1)).length = k + 0 := by rw [← List.length_map (f := RV.r), drop_map, HVS.out, hlen]
            have hkw2 : Below w.heap.size w ((V10.setCell ⟨w.heap.size + 1, 0, none⟩ (.slice xa ps.length xc)).setCell ⟨w.heap.size + 1, 1, none⟩ (.slice za (k + 0) zc)) := (hkw.setCell (p := ⟨w.heap.size + 1, 0, none⟩) (show w.heap.size ≤ w.heap.size + 1 by omega) _).setCell (p := ⟨w.heap.size + 1, 1, none⟩) (show w.heap.size ≤ w.heap.size + 1 by omega) _
            have ho : V10.ownsRow W2.heap.size 58 5 (.slice za (vs.take k ++ vs.drop (k + 1)).length zc) (vs.take k ++ vs.drop (k + 1)).length (cellsR (vs.take k ++ vs.drop (k + 1))) := by
              rw [hm, cellsR_append]
              rw [List.nil_append] at ho10
              exact ho10
            have h := rulesAt_own (own_away (k := 1) (u := .slice za (k + 0) zc) (own_away (g := w.heap.size + 1) (k := 0) (u := .slice xa ps.length xc) ho (by have := hb1.size; omega)) (by have := hb1.size; omega)) (by rw [hm]; have := HRL8.out; have := HKL.out; omega) (fun x hx => RVok.lasts hkw2 (HOK.out x (drop_mem hx)))
            rw [drop_map, HVS.out, hm] at h
            rw [hlen]
            exact h
      · have hr2 : ¬ (k + 1 = rc) := fun e => hrk e.symm
        have hr3 : ¬ ((rc : Int) = (k : Int) + 1) := by omega
        have hr4 : ¬ ((k : Int) + 1 = (rc : Int)) := by omega
        go_wp2_with fail
        have HT : Hid (pieceC W2 (.slice (some ⟨rb, ro, none⟩) k rc) k (cellsR (vs.take k))) := piece_take HPI.out
        have HDR : Hid (pieceC W2 (.slice (some ⟨rb, ro + (k + 1) * 5, none⟩) (rs.length - (k + 1)) (rc - (k + 1))) (rs.length - (k + 1)) (cellsR (vs.drop (k + 1)))) := (piece_drop HPI.out)
        have HL1 : Hid ((cellsR (vs.take k)).length = k * 5) := by show _ = _; rw [cellsR_length, List.length_take, HLEN.out]; have := HKL.out; rw [Nat.min_eq_left (by omega)]
        have HL2 : Hid ((cellsR (vs.drop (k + 1))).length = (rs.length - (k + 1)) * 5) := by show _ = _; rw [cellsR_length, List.length_drop, HLEN.out]
        have HN0 : Hid (0 + ps.length ≤ 1000) := by show _ ≤ _; have := HPL.out; omega
        have HN1 : Hid (0 + k ≤ 1000) := by show _ ≤ _; have := HRL8.out; have := HKL.out; omega
        have HN2 : Hid (k + (rs.length - (k + 1)) ≤ 1000) := by show _ ≤ _; have := HRL8.out; have := HKL.out; omega
        have HO1 : Hid (∀ u ∈ cellsR (vs.take k), u.oneCell' = true) := cellsR_one fun y hy => HOK.out y (List.mem_of_mem_take hy)
        have HO2 : Hid (∀ u ∈ cellsR (vs.drop (k + 1)), u.oneCell' = true) := cellsR_one fun y hy => HOK.out y (List.mem_of_mem_drop hy)
        go_region_held3 (fun x : World => x.cell? ⟨w.heap.size, 0, none⟩ = some (.slice pa ps.length pc) ∧ x.cell? ⟨w.heap.size, 1, none⟩ = some (.slice (some ⟨rb, ro, none⟩) rs.length rc))
          (first | (refine KEEP.out _ ?_; ((repeat (first | with_reducible exact Below.refl _ _ | with_reducible exact b10 | with_reducible exact b7 | with_reducible exact b3 | (with_reducible refine bdr ?_) | (with_reducible refine bal ?_ _))); done)) | exact KEEPb.out _ b10 _ _)
          (first
            | (refine step_append_cells rfl _ _ 22 rfl 52 Tryz.underlying22 infoPred rfl (by decide) (by decide) W2.heap.size (.slice (some ⟨W2.heap.size, 0, none⟩) 0 0) 0 [] (by rfl) (own_at (sz := 3) (by ((try with_reducible refine drew_at ?_); (first | with_reducible exact new0 _ _ | with_reducible exact old0 (new0 _ _) | with_reducible exact new1 _ _ _ | with_reducible exact old0 (new1 _ _ _) | with_reducible exact old0 (old0 (new0 _ _)) | with_reducible exact new2 _ _ _ _))) (by first | exact Nat.le_refl _ | exact Nat.le_succ _ | exact Nat.le_succ_of_le (Nat.le_succ _) | exact b3.size | exact Nat.le_succ_of_le b3.size | exact b7.size)) (.slice pa ps.length pc) (by rfl) ps.length (cellsP ps) (HPP.out.lasts (by ((repeat (first | with_reducible exact Below.refl _ _ | with_reducible exact b10 | with_reducible exact b7 | with_reducible exact b3 | (with_reducible refine bdr ?_) | (with_reducible refine bal ?_ _))); done))) (cellsP_length ps) (cellsP_one ps) HN0.out (bsz (by ((repeat (first | with_reducible exact Below.refl _ _ | with_reducible exact b10 | with_reducible exact b7 | with_reducible exact b3 | (with_reducible refine bdr ?_) | (with_reducible refine bal ?_ _))); done))) ps.length (Nat.zero_add _) ?_; intro xa xc V3 ho3 hg3; have b3 : Below W2.heap.size W2 V3 := below_grown (by ((repeat (first | with_reducible exact Below.refl _ _ | with_reducible exact b10 | with_reducible exact b7 | with_reducible exact b3 | (with_reducible refine bdr ?_) | (with_reducible refine bal ?_ _))); done)) (own_at (N := W2.heap.size) (sz := 3) (by ((try with_reducible refine drew_at ?_); (first | with_reducible exact new0 _ _ | with_reducible exact old0 (new0 _ _) | with_reducible exact new1 _ _ _ | with_reducible exact old0 (new1 _ _ _) | with_reducible exact old0 (old0 (new0 _ _)) | with_reducible exact new2 _ _ _ _))) (by first | exact Nat.le_refl _ | exact Nat.le_succ _ | exact Nat.le_succ_of_le (Nat.le_succ _) | exact b3.size | exact Nat.le_succ_of_le b3.size | exact b7.size)) hg3 (bsz (by ((repeat (first | with_reducible exact Below.refl _ _ | with_reducible exact b10 | with_reducible exact b7 | with_reducible exact b3 | (with_reducible refine bdr ?_) | (with_reducible refine bal ?_ _))); done))) (Nat.le_refl _); (try have zR : V3.heap[W2.heap.size]? = some (.cells #[] 58 (0, 0)) := obj_grown (by ((try with_reducible refine drew_at ?_); (first | with_reducible exact new0 _ _ | with_reducible exact old0 (new0 _ _) | with_reducible exact new1 _ _ _ | with_reducible exact old0 (new1 _ _ _) | with_reducible exact old0 (old0 (new0 _ _)) | with_reducible exact new2 _ _ _ _))) (own_at (sz := 3) (by ((try with_reducible refine drew_at ?_); (first | with_reducible exact new0 _ _ | with_reducible exact old0 (new0 _ _) | with_reducible exact new1 _ _ _ | with_reducible exact old0 (new1 _ _ _) | with_reducible exact old0 (old0 (new0 _ _)) | with_reducible exact new2 _ _ _ _))) (by first | exact Nat.le_refl _ | exact Nat.le_succ _ | exact Nat.le_succ_of_le (Nat.le_succ _) | exact b3.size | exact Nat.le_succ_of_le b3.size | exact b7.size)) (by decide) hg3); (try have zR : V3.heap[W2.heap.size + 1]? = some (.cells #[] 58 (0, 0)) := obj_grown (by ((try with_reducible refine drew_at ?_); (first | with_reducible exact new0 _ _ | with_reducible exact old0 (new0 _ _) | with_reducible exact new1 _ _ _ | with_reducible exact old0 (new1 _ _ _) | with_reducible exact old0 (old0 (new0 _ _)) | with_reducible exact new2 _ _ _ _))) (own_at (sz := 3) (by ((try with_reducible refine drew_at ?_); (first | with_reducible exact new0 _ _ | with_reducible exact old0 (new0 _ _) | with_reducible exact new1 _ _ _ | with_reducible exact old0 (new1 _ _ _) | with_reducible exact old0 (old0 (new0 _ _)) | with_reducible exact new2 _ _ _ _))) (by first | exact Nat.le_refl _ | exact Nat.le_succ _ | exact Nat.le_succ_of_le (Nat.le_succ _) | exact b3.size | exact Nat.le_succ_of_le b3.size | exact b7.size)) (by decide) hg3))
            | (refine step_append_cells rfl _ _ 22 rfl 52 Tryz.underlying22 infoPred rfl (by decide) (by decide) W2.heap.size (.slice (some ⟨W2.heap.size + 1, 0, none⟩) 0 0) 0 [] (by rfl) (own_at (sz := 3) (by ((try with_reducible refine drew_at ?_); (first | with_reducible exact new0 _ _ | with_reducible exact old0 (new0 _ _) | with_reducible exact new1 _ _ _ | with_reducible exact old0 (new1 _ _ _) | with_reducible exact old0 (old0 (new0 _ _)) | with_reducible exact new2 _ _ _ _))) (by first | exact Nat.le_refl _ | exact Nat.le_succ _ | exact Nat.le_succ_of_le (Nat.le_succ _) | exact b3.size | exact Nat.le_succ_of_le b3.size | exact b7.size)) (.slice pa ps.length pc) (by rfl) ps.length (cellsP ps) (HPP.out.lasts (by ((repeat (first | with_reducible exact Below.refl _ _ | with_reducible exact b10 | with_reducible exact b7 | with_reducible exact b3 | (with_reducible refine bdr ?_) | (with_reducible refine bal ?_ _))); done))) (cellsP_length ps) (cellsP_one ps) HN0.out (bsz (by ((repeat (first | with_reducible exact Below.refl _ _ | with_reducible exact b10 | with_reducible exact b7 | with_reducible exact b3 | (with_reducible refine bdr ?_) | (with_reducible refine bal ?_ _))); done))) ps.length (Nat.zero_add _) ?_; intro xa xc V3 ho3 hg3; have b3 : Below W2.heap.size W2 V3 := below_grown (by ((repeat (first | with_reducible exact Below.refl _ _ | with_reducible exact b10 | with_reducible exact b7 | with_reducible exact b3 | (with_reducible refine bdr ?_) | (with_reducible refine bal ?_ _))); done)) (own_at (N := W2.heap.size + 1) (sz := 3) (by ((try with_reducible refine drew_at ?_); (first | with_reducible exact new0 _ _ | with_reducible exact old0 (new0 _ _) | with_reducible exact new1 _ _ _ | with_reducible exact old0 (new1 _ _ _) | with_reducible exact old0 (old0 (new0 _ _)) | with_reducible exact new2 _ _ _ _))) (by first | exact Nat.le_refl _ | exact Nat.le_succ _ | exact Nat.le_succ_of_le (Nat.le_succ _) | exact b3.size | exact Nat.le_succ_of_le b3.size | exact b7.size)) hg3 (bsz (by ((repeat (first | with_reducible exact Below.refl _ _ | with_reducible exact b10 | with_reducible exact b7 | with_reducible exact b3 | (with_reducible refine bdr ?_) | (with_reducible refine bal ?_ _))); done))) (Nat.le_refl _); (try have zR : V3.heap[W2.heap.size]? = some (.cells #[] 58 (0, 0)) := obj_grown (by ((try with_reducible refine drew_at ?_); (first | with_reducible exact new0 _ _ | with_reducible exact old0 (new0 _ _) | with_reducible exact new1 _ _ _ | with_reducible exact old0 (new1 _ _ _) | with_reducible exact old0 (old0 (new0 _ _)) | with_reducible exact new2 _ _ _ _))) (own_at (sz := 3) (by ((try with_reducible refine drew_at ?_); (first | with_reducible exact new0 _ _ | with_reducible exact old0 (new0 _ _) | with_reducible exact new1 _ _ _ | with_reducible exact old0 (new1 _ _ _) | with_reducible exact old0 (old0 (new0 _ _)) | with_reducible exact new2 _ _ _ _))) (by first | exact Nat.le_refl _ | exact Nat.le_succ _ | exact Nat.le_succ_of_le (Nat.le_succ _) | exact b3.size | exact Nat.le_succ_of_le b3.size | exact b7.size)) (by decide) hg3); (try have zR : V3.heap[W2.heap.size + 1]? = some (.cells #[] 58 (0, 0)) := obj_grown (by ((try with_reducible refine drew_at ?_); (first | with_reducible exact new0 _ _ | with_reducible exact old0 (new0 _ _) | with_reducible exact new1 _ _ _ | with_reducible exact old0 (new1 _ _ _) | with_reducible exact old0 (old0 (new0 _ _)) | with_reducible exact new2 _ _ _ _))) (own_at (sz := 3) (by ((try with_reducible refine drew_at ?_); (first | with_reducible exact new0 _ _ | with_reducible exact old0 (new0 _ _) | with_reducible exact new1 _ _ _ | with_reducible exact old0 (new1 _ _ _) | with_reducible exact old0 (old0 (new0 _ _)) | with_reducible exact new2 _ _ _ _))) (by first | exact Nat.le_refl _ | exact Nat.le_succ _ | exact Nat.le_succ_of_le (Nat.le_succ _) | exact b3.size | exact Nat.le_succ_of_le b3.size | exact b7.size)) (by decide) hg3))
            | (refine step_append_cells rfl _ _ 23 rfl 58 Tryz.underlying23 infoRule rfl (by decide) (by decide) W2.heap.size (.slice ya k yc) k _ (by rfl) (own_lasts ho7 (by ((repeat (first | with_reducible exact Below.refl _ _ | with_reducible exact b10 | with_reducible exact b7 | with_reducible exact b3 | (with_reducible refine bdr ?_) | (with_reducible refine bal ?_ _))); done))) (.slice (some ⟨rb, ro + (k + 1) * 5, none⟩) (rs.length - (k + 1)) (rc - (k + 1))) (by rfl) (rs.length - (k + 1)) (cellsR (vs.drop (k + 1))) (HDR.out.lasts (by ((repeat (first | with_reducible exact Below.refl _ _ | with_reducible exact b10 | with_reducible exact b7 | with_reducible exact b3 | (with_reducible refine bdr ?_) | (with_reducible refine bal ?_ _))); done))) HL2.out HO2.out HN2.out (bsz (by ((repeat (first | with_reducible exact Below.refl _ _ | with_reducible exact b10 | with_reducible exact b7 | with_reducible exact b3 | (with_reducible refine bdr ?_) | (with_reducible refine bal ?_ _))); done))) (k + (rs.length - (k + 1))) rfl ?_; intro za zc V10 ho10 hg10; have b10 : Below W2.heap.size W2 V10 := below_grown (by ((repeat (first | with_reducible exact Below.refl _ _ | with_reducible exact b10 | with_reducible exact b7 | with_reducible exact b3 | (with_reducible refine bdr ?_) | (with_reducible refine bal ?_ _))); done)) (own_lasts ho7 (by ((repeat (first | with_reducible exact Below.refl _ _ | with_reducible exact b10 | with_reducible exact b7 | with_reducible exact b3 | (with_reducible refine bdr ?_) | (with_reducible refine bal ?_ _))); done))) hg10 (bsz (by ((repeat (first | with_reducible exact Below.refl _ _ | with_reducible exact b10 | with_reducible exact b7 | with_reducible exact b3 | (with_reducible refine bdr ?_) | (with_reducible refine bal ?_ _))); done))) (Nat.le_refl _); have oPz := own_grown (own_lasts oP7 (by ((repeat (first | with_reducible exact Below.refl _ _ | with_reducible exact b10 | with_reducible exact b7 | with_reducible exact b3 | (with_reducible refine bdr ?_) | (with_reducible refine bal ?_ _))); done))) (own_lasts ho7 (by ((repeat (first | with_reducible exact Below.refl _ _ | with_reducible exact b10 | with_reducible exact b7 | with_reducible exact b3 | (with_reducible refine bdr ?_) | (with_reducible refine bal ?_ _))); done))) (by decide) hg10; obtain ⟨z0, z1, z0f, z1f⟩ := KX.out _ b10)
            | (refine step_append_cells rfl _ _ 23 rfl 58 Tryz.underlying23 infoRule rfl (by decide) (by decide) W2.heap.size (.slice (some ⟨W2.heap.size, 0, none⟩) 0 0) 0 [] (by rfl) (own_at (sz := 5) (by ((try with_reducible refine drew_at ?_); (first | with_reducible exact zR | with_reducible exact old0 zR | with_reducible exact old0 (old0 zR) | with_reducible exact new0 _ _ | with_reducible exact old0 (new0 _ _) | with_reducible exact new1 _ _ _ | with_reducible exact old0 (new1 _ _ _) | with_reducible exact old0 (old0 (new0 _ _)) | with_reducible exact new2 _ _ _ _))) (by first | exact Nat.le_refl _ | exact Nat.le_succ _ | exact Nat.le_succ_of_le (Nat.le_succ _) | exact b3.size | exact Nat.le_succ_of_le b3.size | exact b7.size)) (.slice (some ⟨rb, ro, none⟩) k rc) (by rfl) k (cellsR (vs.take k)) (HT.out.lasts (by ((repeat (first | with_reducible exact Below.refl _ _ | with_reducible exact b10 | with_reducible exact b7 | with_reducible exact b3 | (with_reducible refine bdr ?_) | (with_reducible refine bal ?_ _))); done))) HL1.out HO1.out HN1.out (bsz (by ((repeat (first | with_reducible exact Below.refl _ _ | with_reducible exact b10 | with_reducible exact b7 | with_reducible exact b3 | (with_reducible refine bdr ?_) | (with_reducible refine bal ?_ _))); done))) k (Nat.zero_add _) ?_; intro ya yc V7 ho7 hg7; have b7 : Below W2.heap.size W2 V7 := below_grown (by ((repeat (first | with_reducible exact Below.refl _ _ | with_reducible exact b10 | with_reducible exact b7 | with_reducible exact b3 | (with_reducible refine bdr ?_) | (with_reducible refine bal ?_ _))); done)) (own_at (N := W2.heap.size) (sz := 5) (by ((try with_reducible refine drew_at ?_); (first | with_reducible exact zR | with_reducible exact old0 zR | with_reducible exact old0 (old0 zR) | with_reducible exact new0 _ _ | with_reducible exact old0 (new0 _ _) | with_reducible exact new1 _ _ _ | with_reducible exact old0 (new1 _ _ _) | with_reducible exact old0 (old0 (new0 _ _)) | with_reducible exact new2 _ _ _ _))) (by first | exact Nat.le_refl _ | exact Nat.le_succ _ | exact Nat.le_succ_of_le (Nat.le_succ _) | exact b3.size | exact Nat.le_succ_of_le b3.size | exact b7.size)) hg7 (bsz (by ((repeat (first | with_reducible exact Below.refl _ _ | with_reducible exact b10 | with_reducible exact b7 | with_reducible exact b3 | (with_reducible refine bdr ?_) | (with_reducible refine bal ?_ _))); done))) (Nat.le_refl _); have oP7 := own_grown (own_lasts ho3 (by ((repeat (first | with_reducible exact Below.refl _ _ | with_reducible exact b10 | with_reducible exact b7 | with_reducible exact b3 | (with_reducible refine bdr ?_) | (with_reducible refine bal ?_ _))); done))) (own_at (N := W2.heap.size) (sz := 5) (by ((try with_reducible refine drew_at ?_); (first | with_reducible exact zR | with_reducible exact old0 zR | with_reducible exact old0 (old0 zR) | with_reducible exact new0 _ _ | with_reducible exact old0 (new0 _ _) | with_reducible exact new1 _ _ _ | with_reducible exact old0 (new1 _ _ _) | with_reducible exact old0 (old0 (new0 _ _)) | with_reducible exact new2 _ _ _ _))) (by first | exact Nat.le_refl _ | exact Nat.le_succ _ | exact Nat.le_succ_of_le (Nat.le_succ _) | exact b3.size | exact Nat.le_succ_of_le b3.size | exact b7.size)) (by decide) hg7)
            | (refine step_append_cells rfl _ _ 23 rfl 58 Tryz.underlying23 infoRule rfl (by decide) (by decide) W2.heap.size (.slice (some ⟨W2.heap.size + 1, 0, none⟩) 0 0) 0 [] (by rfl) (own_at (sz := 5) (by ((try with_reducible refine drew_at ?_); (first | with_reducible exact zR | with_reducible exact old0 zR | with_reducible exact old0 (old0 zR) | with_reducible exact new0 _ _ | with_reducible exact old0 (new0 _ _) | with_reducible exact new1 _ _ _ | with_reducible exact old0 (new1 _ _ _) | with_reducible exact old0 (old0 (new0 _ _)) | with_reducible exact new2 _ _ _ _))) (by first | exact Nat.le_refl _ | exact Nat.le_succ _ | exact Nat.le_succ_of_le (Nat.le_succ _) | exact b3.size | exact Nat.le_succ_of_le b3.size | exact b7.size)) (.slice (some ⟨rb, ro, none⟩) k rc) (by rfl) k (cellsR (vs.take k)) (HT.out.lasts (by ((repeat (first | with_reducible exact Below.refl _ _ | with_reducible exact b10 | with_reducible exact b7 | with_reducible exact b3 | (with_reducible refine bdr ?_) | (with_reducible refine bal ?_ _))); done))) HL1.out HO1.out HN1.out (bsz (by ((repeat (first | with_reducible exact Below.refl _ _ | with_reducible exact b10 | with_reducible exact b7 | with_reducible exact b3 | (with_reducible refine bdr ?_) | (with_reducible refine bal ?_ _))); done))) k (Nat.zero_add _) ?_; intro ya yc V7 ho7 hg7; have b7 : Below W2.heap.size W2 V7 := below_grown (by ((repeat (first | with_reducible exact Below.refl _ _ | with_reducible exact b10 | with_reducible exact b7 | with_reducible exact b3 | (with_reducible refine bdr ?_) | (with_reducible refine bal ?_ _))); done)) (own_at (N := W2.heap.size + 1) (sz := 5) (by ((try with_reducible refine drew_at ?_); (first | with_reducible exact zR | with_reducible exact old0 zR | with_reducible exact old0 (old0 zR) | with_reducible exact new0 _ _ | with_reducible exact old0 (new0 _ _) | with_reducible exact new1 _ _ _ | with_reducible exact old0 (new1 _ _ _) | with_reducible exact old0 (old0 (new0 _ _)) | with_reducible exact new2 _ _ _ _))) (by first | exact Nat.le_refl _ | exact Nat.le_succ _ | exact Nat.le_succ_of_le (Nat.le_succ _) | exact b3.size | exact Nat.le_succ_of_le b3.size | exact b7.size)) hg7 (bsz (by ((repeat (first | with_reducible exact Below.refl _ _ | with_reducible exact b10 | with_reducible exact b7 | with_reducible exact b3 | (with_reducible refine bdr ?_) | (with_reducible refine bal ?_ _))); done))) (Nat.le_refl _); have oP7 := own_grown (own_lasts ho3 (by ((repeat (first | with_reducible exact Below.refl _ _ | with_reducible exact b10 | with_reducible exact b7 | with_reducible exact b3 | (with_reducible refine bdr ?_) | (with_reducible refine bal ?_ _))); done))) (own_at (N := W2.heap.size + 1) (sz := 5) (by ((try with_reducible refine drew_at ?_); (first | with_reducible exact zR | with_reducible exact old0 zR | with_reducible exact old0 (old0 zR) | with_reducible exact new0 _ _ | with_reducible exact old0 (new0 _ _) | with_reducible exact new1 _ _ _ | with_reducible exact old0 (new1 _ _ _) | with_reducible exact old0 (old0 (new0 _ _)) | with_reducible exact new2 _ _ _ _))) (by first | exact Nat.le_refl _ | exact Nat.le_succ _ | exact Nat.le_succ_of_le (Nat.le_succ _) | exact b3.size | exact Nat.le_succ_of_le b3.size | exact b7.size)) (by decide) hg7)
            | (refine step_append_cells rfl _ _ 23 rfl 58 Tryz.underlying23 infoRule rfl (by decide) (by decide) W2.heap.size (.slice (some ⟨V3.heap.size, 0, none⟩) 0 0) 0 [] (by rfl) (own_at (sz := 5) (by ((try with_reducible refine drew_at ?_); (first | with_reducible exact zR | with_reducible exact old0 zR | with_reducible exact old0 (old0 zR) | with_reducible exact new0 _ _ | with_reducible exact old0 (new0 _ _) | with_reducible exact new1 _ _ _ | with_reducible exact old0 (new1 _ _ _) | with_reducible exact old0 (old0 (new0 _ _)) | with_reducible exact new2 _ _ _ _))) (by first | exact Nat.le_refl _ | exact Nat.le_succ _ | exact Nat.le_succ_of_le (Nat.le_succ _) | exact b3.size | exact Nat.le_succ_of_le b3.size | exact b7.size)) (.slice (some ⟨rb, ro, none⟩) k rc) (by rfl) k (cellsR (vs.take k)) (HT.out.lasts (by ((repeat (first | with_reducible exact Below.refl _ _ | with_reducible exact b10 | with_reducible exact b7 | with_reducible exact b3 | (with_reducible refine bdr ?_) | (with_reducible refine bal ?_ _))); done))) HL1.out HO1.out HN1.out (bsz (by ((repeat (first | with_reducible exact Below.refl _ _ | with_reducible exact b10 | with_reducible exact b7 | with_reducible exact b3 | (with_reducible refine bdr ?_) | (with_reducible refine bal ?_ _))); done))) k (Nat.zero_add _) ?_; intro ya yc V7 ho7 hg7; have b7 : Below W2.heap.size W2 V7 := below_grown (by ((repeat (first | with_reducible exact Below.refl _ _ | with_reducible exact b10 | with_reducible exact b7 | with_reducible exact b3 | (with_reducible refine bdr ?_) | (with_reducible refine bal ?_ _))); done)) (own_at (N := V3.heap.size) (sz := 5) (by ((try with_reducible refine drew_at ?_); (first | with_reducible exact zR | with_reducible exact old0 zR | with_reducible exact old0 (old0 zR) | with_reducible exact new0 _ _ | with_reducible exact old0 (new0 _ _) | with_reducible exact new1 _ _ _ | with_reducible exact old0 (new1 _ _ _) | with_reducible exact old0 (old0 (new0 _ _)) | with_reducible exact new2 _ _ _ _))) (by first | exact Nat.le_refl _ | exact Nat.le_succ _ | exact Nat.le_succ_of_le (Nat.le_succ _) | exact b3.size | exact Nat.le_succ_of_le b3.size | exact b7.size)) hg7 (bsz (by ((repeat (first | with_reducible exact Below.refl _ _ | with_reducible exact b10 | with_reducible exact b7 | with_reducible exact b3 | (with_reducible refine bdr ?_) | (with_reducible refine bal ?_ _))); done))) (Nat.le_refl _); have oP7 := own_grown (own_lasts ho3 (by ((repeat (first | with_reducible exact Below.refl _ _ | with_reducible exact b10 | with_reducible exact b7 | with_reducible exact b3 | (with_reducible refine bdr ?_) | (with_reducible refine bal ?_ _))); done))) (own_at (N := V3.heap.size) (sz := 5) (by ((try with_reducible refine drew_at ?_); (first | with_reducible exact zR | with_reducible exact old0 zR | with_reducible exact old0 (old0 zR) | with_reducible exact new0 _ _ | with_reducible exact old0 (new0 _ _) | with_reducible exact new1 _ _ _ | with_reducible exact old0 (new1 _ _ _) | with_reducible exact old0 (old0 (new0 _ _)) | with_reducible exact new2 _ _ _ _))) (by first | exact Nat.le_refl _ | exact Nat.le_succ _ | exact Nat.le_succ_of_le (Nat.le_succ _) | exact b3.size | exact Nat.le_succ_of_le b3.size | exact b7.size)) (by decide) hg7))
        all_goals
          have hkw : Below w.heap.size w V10 := k1.trans (b10.mono k1.size)
          have hlen : (dropR rs k).length = k + (rs.length - (k + 1)) := by rw [dropR, List.length_append, List.length_take, List.length_drop]; have := HKL.out; omega
          have HRA : Hid (Fresh W2.heap.size (fun x => predsAt x (.slice xa ps.length xc) ps) V10) := fun x hx => predsAt_own (own_keeps oPz hx (Nat.le_refl _)) (by have := HPL.out; omega)
          go_wp2_with fail
          refine bodyPost_ret (v := .tuple #[.agg #[.slice xa ps.length xc, .slice za (k + (rs.length - (k + 1))) zc], .int .i64 0]) (by simp [results, Tryz.results21, go_sem, z0, z1]) rfl ⟨xa, xc, za, zc, by rw [HE.out, HE1.out, HE2.out, hlen], ?_, ?_, (hkw.setCell (p := ⟨w.heap.size + 1, 0, none⟩) (show w.heap.size ≤ w.heap.size + 1 by omega) _).setCell (p := ⟨w.heap.size + 1, 1, none⟩) (show w.heap.size ≤ w.heap.size + 1 by omega) _⟩
          · rw [HE1.out]
            exact HRA.out _ ((KeepsFrom.set (by have := hb1.size; omega)).trans (KeepsFrom.set (by have := hb1.size; omega)))
          · rw [HE2.out]
            have hm : (vs.take k ++ vs.drop (k + 1)).length = k + (rs.length - (k + 1)) := by rw [← List.length_map (f := RV.r), drop_map, HVS.out, hlen]
            have hkw2 : Below w.heap.size w ((V10.setCell ⟨w.heap.size + 1, 0, none⟩ (.slice xa ps.length xc)).setCell ⟨w.heap.size + 1, 1, none⟩ (.slice za (k + (rs.length - (k + 1))) zc)) := (hkw.setCell (p := ⟨w.heap.size + 1, 0, none⟩) (show w.heap.size ≤ w.heap.size + 1 by omega) _).setCell (p := ⟨w.heap.size + 1, 1, none⟩) (show w.heap.size ≤ w.heap.size + 1 by omega) _
            have ho : V10.ownsRow W2.heap.size 58 5 (.slice za (vs.take k ++ vs.drop (k + 1)).length zc) (vs.take k ++ vs.drop (k + 1)).length (cellsR (vs.take k ++ vs.drop (k + 1))) := by
              rw [hm, cellsR_append]
              rw [List.nil_append] at ho10
              exact ho10
            have h := rulesAt_own (own_away (k := 1) (u := .slice za (k + (rs.length - (k + 1))) zc) (own_away (g := w.heap.size + 1) (k := 0) (u := .slice xa ps.length xc) ho (by have := hb1.size; omega)) (by have := hb1.size; omega)) (by rw [hm]; have := HRL8.out; have := HKL.out; omega) (fun x hx => RVok.lasts hkw2 (HOK.out x (drop_mem hx)))
            rw [drop_map, HVS.out, hm] at h
            rw [hlen]
            exact h
    · have hwt : Lat.within n 0 ((rs.length : Int) - 1) = false := by simp only [Lat.within, Bool.and_eq_false_iff, decide_eq_false_iff_not]; omega
      rw [hwt]
      have HE : Hid (withoutErr ps rs n = 7) := by show _ = _; simp only [withoutErr, hpe, ne_eq, not_true_eq_false, if_false]; rw [if_pos]; omega
      have HE1 : Hid (withoutP ps rs n = []) := by show _ = _; rw [withoutP, HE.out, if_neg (by omega)]
      have HE2 : Hid (withoutR ps rs n = []) := by show _ = _; rw [withoutR, HE.out, if_neg (by omega)]
      go_wp2_with fail
      refine bodyPost_ret (v := .tuple #[.agg #[.slice none 0 0, .slice none 0 0], .int .i64 7]) (by simp [results, Tryz.results21, go_sem, e0, e1]) rfl ⟨none, 0, none, 0, by rw [HE.out, HE1.out, HE2.out]; rfl, ?_, ?_, (k1.setCell (p := ⟨w.heap.size + 1, 0, none⟩) (show w.heap.size ≤ w.heap.size + 1 by omega) _).setCell (p := ⟨w.heap.size + 1, 1, none⟩) (show w.heap.size ≤ w.heap.size + 1 by omega) _⟩
      · rw [HE1.out]; exact ⟨none, 0, rfl, by simp, .inl rfl⟩
      · rw [HE2.out]; exact ⟨none, 0, rfl, by simp, .inl rfl⟩
  · have hpe' : progErr ps rs ≠ 0 := hpe
    have HE : Hid (withoutErr ps rs n = progErr ps rs) := by show _ = _; simp [withoutErr, hpe]
    have HE1 : Hid (withoutP ps rs n = []) := by show _ = _; rw [withoutP, HE.out, if_neg hpe']
    have HE2 : Hid (withoutR ps rs n = []) := by show _ = _; rw [withoutR, HE.out, if_neg hpe']
    go_wp2_with fail
    refine bodyPost_ret (v := .tuple #[.agg #[.slice none 0 0, .slice none 0 0], .int .i64 (progErr ps rs)]) (by simp [results, Tryz.results21, go_sem, e0, e1]) rfl ⟨none, 0, none, 0, by rw [HE.out, HE1.out, HE2.out]; rfl, ?_, ?_, (k1.setCell (p := ⟨w.heap.size + 1, 0, none⟩) (show w.heap.size ≤ w.heap.size + 1 by omega) _).setCell (p := ⟨w.heap.size + 1, 1, none⟩) (show w.heap.size ≤ w.heap.size + 1 by omega) _⟩
    · rw [HE1.out]; exact ⟨none, 0, rfl, by simp, .inl rfl⟩
    · rw [HE2.out]; exact ⟨none, 0, rfl, by simp, .inl rfl⟩
end Go.Proofs.YtlfccloaoopadagGreat.Sum
