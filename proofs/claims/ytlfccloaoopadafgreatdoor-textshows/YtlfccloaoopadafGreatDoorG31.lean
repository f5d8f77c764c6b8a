/-
  Two lists of predicates are held against each other (the library's Equal); what the document's own SameProgs answers where the rules are the same.
-/
import Derived.Laws.StructEq
import Derived.Test.YtlfccloaoopadafGreatDoorG12
import Derived.Test.YtlfccloaoopadafGreatDoorG24
namespace Go.Proofs.YtlfccloaoopadafGreatDoor.Sum
open Go.ChangeShapes Go.WideShapes Go.ChangeAt Go.RowKit
open Prog (slice_cells)

deriving instance DecidableEq for Prd

def predV (p : Prd) : Value := .agg #[.string p.name, .int .i64 p.arity, .int .i64 p.kind]
set_option maxRecDepth 100000 in
theorem pred_equal (a b : Prd) (w : World) : (Op.equalIn 10000 47 (predV a) (predV b)).run Tryz.prog w = .ok (decide (a = b)) w := by
  have hS : Tryz.prog.underlying 47 = some (.struct (Tryz.prog.fieldsOf 47)) := by kernel_rfl
  have hp : Tryz.prog.stoodInHeld 47 = false := by kernel_rfl
  rw [show (10000 : Nat) = 9999 + 1 from rfl, predV, predV, run_equalIn_agg w 9999 47 _ _ hS hp]
  simp only [Program.fieldsOf, Tryz.underlying47]
  go_simp
  obtain ⟨r, x, y⟩ := a
  obtain ⟨r', x', y'⟩ := b
  have hr : r.toList = r'.toList ↔ r = r' := ⟨fun h => by
    rw [ByteArray.toList_eq, ByteArray.toList_eq] at h
    exact ByteArray.ext (Array.toList_inj.1 h), fun h => by rw [h]⟩
  by_cases h1 : r = r' <;> by_cases h2 : x = x' <;> by_cases h3 : y = y' <;> simp [h1, h2, h3, hr]
theorem pred_neq (a b : Prd) (w : World) : (binOp .neq 47 (.agg #[.string a.name, .int .i64 a.arity, .int .i64 a.kind]) (.agg #[.string b.name, .int .i64 b.arity, .int .i64 b.kind])).run Tryz.prog w = .ok (.bool (!decide (a = b))) w := by
  have := pred_equal a b w
  rw [predV, predV] at this
  simp [binOp, Op.equal, Op.maxDepth, this]
theorem term_same (a : Tm) (w : World) : (binOp .neq 94 (.agg #[.bool a.var, .int .i64 a.n]) (.agg #[.bool a.var, .int .i64 a.n])).run Tryz.prog w = .ok (.bool false) w := by
  have hS : Tryz.prog.underlying 94 = some (.struct (Tryz.prog.fieldsOf 94)) := by kernel_rfl
  have hp : Tryz.prog.stoodInHeld 94 = false := by kernel_rfl
  have h : (Op.equalIn 10000 94 (.agg #[.bool a.var, .int .i64 a.n]) (.agg #[.bool a.var, .int .i64 a.n])).run Tryz.prog w = .ok true w := by
    rw [show (10000 : Nat) = 9999 + 1 from rfl, run_equalIn_agg w 9999 94 _ _ hS hp]
    simp only [Program.fieldsOf, Tryz.underlying94]
    go_simp
  simp [binOp, Op.equal, Op.maxDepth, h]
theorem take_same {α : Type} {f g : List α} {j : Nat} (h1 : j < f.length) (h2 : j < g.length) : f.take (j + 1) = g.take (j + 1) ↔ f.take j = g.take j ∧ f[j] = g[j] := by
  rw [List.take_succ_eq_append_getElem h1, List.take_succ_eq_append_getElem h2]
  constructor
  · intro h
    have := List.append_inj' h rfl
    exact ⟨this.1, by simpa using this.2⟩
  · rintro ⟨h, h'⟩
    rw [h, h']

set_option maxRecDepth 100000 in
set_option maxHeartbeats 1000000 in
theorem sameAtoms_c (w : World) (k : Int) (fv gv : Value) (f : List Tm) (hf : termsAt w fv f) (hg : termsAt w gv f) :
    Calls Tryz.prog 37 #[.agg #[.int .i64 k, fv], .agg #[.int .i64 k, gv]] w fun e w' => e = .returned (.bool true) ∧ Below w.heap.size w w' := by
  have HF : Hid (∀ x, Below w.heap.size w x → termsAt x fv f) := fun x hx => termsAt.lasts hx hf
  have HG : Hid (∀ x, Below w.heap.size w x → termsAt x gv f) := fun x hx => termsAt.lasts hx hg
  obtain ⟨fa, fc, rfl, hfm, hfx⟩ := hf
  obtain ⟨ga, gc, rfl, hgm, hgx⟩ := hg
  clear hfx hgx
  obtain ⟨W1, hW1⟩ : ∃ W1, (w.alloc (.cells #[.int .i64 k, .slice fa f.length fc] 51)).alloc (.cells #[.int .i64 k, .slice ga f.length gc] 51) = W1 := ⟨_, rfl⟩
  have b1 : Below w.heap.size w W1 := by rw [← hW1]; exact (below_alloc _ _).alloc (by simp) _
  have c0 : W1.cell? ⟨w.heap.size, 1, none⟩ = some (.slice fa f.length fc) := by rw [← hW1]; simp [go_sem]
  have c1 : W1.cell? ⟨w.heap.size + 1, 1, none⟩ = some (.slice ga f.length gc) := by rw [← hW1]; simp [go_sem]
  have c2 : W1.cell? ⟨w.heap.size, 0, none⟩ = some (.int .i64 k) := by rw [← hW1]; simp [go_sem]
  have c3 : W1.cell? ⟨w.heap.size + 1, 0, none⟩ = some (.int .i64 k) := by rw [← hW1]; simp [go_sem]
  have hs : W1.heap.size = w.heap.size + 2 := by rw [← hW1]; simp
  have HC : Hid (∀ x, Below W1.heap.size W1 x → x.cell? ⟨w.heap.size, 1, none⟩ = some (.slice fa f.length fc) ∧ x.cell? ⟨w.heap.size + 1, 1, none⟩ = some (.slice ga f.length gc)) := fun x hx => ⟨(cell_lasts hx (by omega)).trans c0, (cell_lasts hx (by omega)).trans c1⟩
  go_enter Tryz.func37, Tryz.ntmps37
  go_wp2_with fail
  clear hW1 c0 c1 c2 c3
  go_loopw [5] (fun i wr => ∃ j : Nat, j ≤ f.length ∧ i = .int .i64 j ∧ Below W1.heap.size W1 wr) (fun i _ => f.length - (intOf i).toNat)
  case atStart => exact ⟨0, Nat.zero_le _, rfl, Below.refl _ _⟩
  case round =>
    obtain ⟨j, hj, rfl, hbw⟩ := hrel
    obtain ⟨d0, d1⟩ := HC.out wr hbw
    have kw : Below w.heap.size w wr := b1.trans (hbw.mono b1.size)
    by_cases hlt : j < f.length
    · obtain ⟨x1, o1, q1, hv1, hx1, t0, t1⟩ := slice_cells (HF.out wr kw) hlt
      obtain ⟨rfl, rfl⟩ : fa = some ⟨x1, o1, none⟩ ∧ fc = q1 := by simpa using hv1
      obtain ⟨x2, o2, q2, hv2, hx2, u0, u1⟩ := slice_cells (HG.out wr kw) hlt
      obtain ⟨rfl, rfl⟩ : ga = some ⟨x2, o2, none⟩ ∧ gc = q2 := by simpa using hv2
      have hjl : (j : Int) < (f.length : Int) := by omega
      have hj0 : (0 : Int) ≤ (j : Int) := by omega
      have s1 : w.heap.size < wr.heap.size := by have := hbw.size; omega
      have s2 : w.heap.size + 1 < wr.heap.size := by have := hbw.size; omega
      clear hv1 hv2
      generalize f[j] = y at *
      have hq := term_same y
      have heg : Tryz.prog.eqGuardType Tryz.prog.depth 94 = false := by kernel_rfl
      go_wp2_with fail
      have L0 : ∀ x : Low wr.heap.size wr, x.wd.cell? ⟨x1, o1 + j * 2, none⟩ = some (.bool y.var) := fun x => (cell_lasts x.low hx1).trans t0
      have L1 : ∀ x : Low wr.heap.size wr, x.wd.cell? ⟨x1, o1 + j * 2 + 1, none⟩ = some (.int .i64 y.n) := fun x => (cell_lasts x.low hx1).trans t1
      have M0 : ∀ x : Low wr.heap.size wr, x.wd.cell? ⟨x2, o2 + j * 2, none⟩ = some (.bool y.var) := fun x => (cell_lasts x.low hx2).trans u0
      have M1 : ∀ x : Low wr.heap.size wr, x.wd.cell? ⟨x2, o2 + j * 2 + 1, none⟩ = some (.int .i64 y.n) := fun x => (cell_lasts x.low hx2).trans u1
      have N0 : ∀ x : Low wr.heap.size wr, x.wd.cell? ⟨w.heap.size, 1, none⟩ = some (.slice (some ⟨x1, o1, none⟩) f.length fc) := fun x => (cell_lasts x.low s1).trans d0
      have N1 : ∀ x : Low wr.heap.size wr, x.wd.cell? ⟨w.heap.size + 1, 1, none⟩ = some (.slice (some ⟨x2, o2, none⟩) f.length gc) := fun x => (cell_lasts x.low s2).trans d1
      refine wp_region_low wr.heap.size (by kernel_rfl) (by kernel_rfl) ?_
      repeat (go_big_quiet_step (fail))
      refine wpQuiet_nil ?_
      rintro _ ⟨⟨w1, hk⟩, rfl⟩
      clear L0 L1 M0 M1 N0 N1 d0 d1
      go_wp2_with fail
      go_roundw
      case rel => exact ⟨j + 1, by omega, by go_num, hbw.trans (hk.mono hbw.size)⟩
      case measure => simp [intOf]; omega
    · obtain rfl : j = f.length := by omega
      go_wp2_with fail
      go_ret
      exact ⟨rfl, kw⟩

set_option maxRecDepth 100000 in
set_option maxHeartbeats 4000000 in
theorem sameProgs_c (w : World) (pv rv qv sv : Value) (f g : List Prd) (rs : List Rul) (hf : predsAt w pv f) (hg : predsAt w qv g) (hr : rulesAt w rv rs) (hs : rulesAt w sv rs) :
    Calls Tryz.prog 11 #[.agg #[pv, rv], .agg #[qv, sv]] w fun e w' => e = .returned (.bool (decide (f = g))) ∧ Below w.heap.size w w' := by
  have HF : Hid (∀ x, Below w.heap.size w x → predsAt x pv f) := fun x hx => predsAt.lasts hx hf
  have HG : Hid (∀ x, Below w.heap.size w x → predsAt x qv g) := fun x hx => predsAt.lasts hx hg
  have HR : Hid (∀ x, Below w.heap.size w x → rulesAt x rv rs) := fun x hx => rulesAt.lasts hx hr
  have HS : Hid (∀ x, Below w.heap.size w x → rulesAt x sv rs) := fun x hx => rulesAt.lasts hx hs
  obtain ⟨fa, fc, rfl, hfm, hfx⟩ := hf
  obtain ⟨ga, gc, rfl, hgm, hgx⟩ := hg
  obtain ⟨ra, rc, rfl, hrm, hrx⟩ := hr
  obtain ⟨sa, sc, rfl, hsm, hsx⟩ := hs
  clear hfx hgx hrx hsx
  by_cases hl : f.length = g.length
  · have HL : Hid (f.length = g.length) := hl
    rw [← hl]
    clear hl hgm
    obtain ⟨W1, hW1⟩ : ∃ W1, (w.alloc (.cells #[.slice fa f.length fc, .slice ra rs.length rc] 25)).alloc (.cells #[.slice ga f.length gc, .slice sa rs.length sc] 25) = W1 := ⟨_, rfl⟩
    have b1 : Below w.heap.size w W1 := by rw [← hW1]; exact (below_alloc _ _).alloc (by simp) _
    have c0 : W1.cell? ⟨w.heap.size, 0, none⟩ = some (.slice fa f.length fc) ∧ W1.cell? ⟨w.heap.size, 1, none⟩ = some (.slice ra rs.length rc) ∧ W1.cell? ⟨w.heap.size + 1, 0, none⟩ = some (.slice ga f.length gc) ∧ W1.cell? ⟨w.heap.size + 1, 1, none⟩ = some (.slice sa rs.length sc) := by rw [← hW1]; simp [go_sem]
    have hs : W1.heap.size = w.heap.size + 2 := by rw [← hW1]; simp
    have HC : Hid (∀ x, Below W1.heap.size W1 x → x.cell? ⟨w.heap.size, 0, none⟩ = some (.slice fa f.length fc) ∧ x.cell? ⟨w.heap.size, 1, none⟩ = some (.slice ra rs.length rc) ∧ x.cell? ⟨w.heap.size + 1, 0, none⟩ = some (.slice ga f.length gc) ∧ x.cell? ⟨w.heap.size + 1, 1, none⟩ = some (.slice sa rs.length sc)) := fun x hx => ⟨(cell_lasts hx (by omega)).trans c0.1, (cell_lasts hx (by omega)).trans c0.2.1, (cell_lasts hx (by omega)).trans c0.2.2.1, (cell_lasts hx (by omega)).trans c0.2.2.2⟩
    obtain ⟨d0, d1, d2, d3⟩ := id c0
    go_enter Tryz.func11, Tryz.ntmps11
    go_wp2_with fail
    clear hW1 c0 d0 d1 d2 d3
    go_loopw [5] (fun i wr => ∃ j : Nat, j ≤ f.length ∧ i = .int .i64 j ∧ f.take j = g.take j ∧ Below W1.heap.size W1 wr) (fun i _ => f.length - (intOf i).toNat)
    case atStart => exact ⟨0, Nat.zero_le _, rfl, rfl, Below.refl _ _⟩
    case round =>
      obtain ⟨j, hj, rfl, hall, hbw⟩ := hrel
      obtain ⟨d0, d1, d2, d3⟩ := HC.out wr hbw
      have kw : Below w.heap.size w wr := b1.trans (hbw.mono b1.size)
      by_cases hlt : j < f.length
      · have hlt2 : j < g.length := by have := HL.out; omega
        have HT : Hid (f[j] = g[j] → f.take (j + 1) = g.take (j + 1)) := fun h => (take_same hlt hlt2).2 ⟨hall, h⟩
        have HN : Hid (f[j] ≠ g[j] → decide (f = g) = false) := fun h => by simp only [decide_eq_false_iff_not]; rintro rfl; exact h rfl
        obtain ⟨p1, o1, q1, hv1, s1, t0, t1, t2⟩ := slice_cells (HF.out wr kw) hlt
        obtain ⟨rfl, rfl⟩ : fa = some ⟨p1, o1, none⟩ ∧ fc = q1 := by simpa using hv1
        obtain ⟨p2, o2, q2, hv2, s2, u0, u1, u2⟩ := slice_cells (HG.out wr kw) hlt2
        obtain ⟨rfl, rfl⟩ : ga = some ⟨p2, o2, none⟩ ∧ gc = q2 := by simpa using hv2
        have s3 : w.heap.size < wr.heap.size := by have := hbw.size; omega
        have s4 : w.heap.size + 1 < wr.heap.size := by have := hbw.size; omega
        have hjl : (j : Int) < (f.length : Int) := by omega
        have hj0 : (0 : Int) ≤ (j : Int) := by omega
        clear hv1 hv2 hall
        generalize f[j] = y at *
        generalize g[j] = z at *
        have hq := pred_neq y z
        have heg : Tryz.prog.eqGuardType Tryz.prog.depth 47 = false := by kernel_rfl
        by_cases h0 : y = z
        · subst h0
          have h0 : y = y := rfl
          have H3 : Hid (f.take (j + 1) = g.take (j + 1)) := HT.out h0
          rw [decide_eq_true h0, Bool.not_true] at hq
          clear HN HT
          go_wp2_with fail
          have L0 : ∀ x : Low wr.heap.size wr, x.wd.cell? ⟨p1, o1 + j * 3, none⟩ = some (.string y.name) := fun x => (cell_lasts x.low s1).trans t0
          have L1 : ∀ x : Low wr.heap.size wr, x.wd.cell? ⟨p1, o1 + j * 3 + 1, none⟩ = some (.int .i64 y.arity) := fun x => (cell_lasts x.low s1).trans t1
          have L2 : ∀ x : Low wr.heap.size wr, x.wd.cell? ⟨p1, o1 + j * 3 + 2, none⟩ = some (.int .i64 y.kind) := fun x => (cell_lasts x.low s1).trans t2
          have M0 : ∀ x : Low wr.heap.size wr, x.wd.cell? ⟨p2, o2 + j * 3, none⟩ = some (.string y.name) := fun x => (cell_lasts x.low s2).trans u0
          have M1 : ∀ x : Low wr.heap.size wr, x.wd.cell? ⟨p2, o2 + j * 3 + 1, none⟩ = some (.int .i64 y.arity) := fun x => (cell_lasts x.low s2).trans u1
          have M2 : ∀ x : Low wr.heap.size wr, x.wd.cell? ⟨p2, o2 + j * 3 + 2, none⟩ = some (.int .i64 y.kind) := fun x => (cell_lasts x.low s2).trans u2
          have N0 : ∀ x : Low wr.heap.size wr, x.wd.cell? ⟨w.heap.size, 0, none⟩ = some (.slice (some ⟨p1, o1, none⟩) f.length fc) := fun x => (cell_lasts x.low s3).trans d0
          have N1 : ∀ x : Low wr.heap.size wr, x.wd.cell? ⟨w.heap.size + 1, 0, none⟩ = some (.slice (some ⟨p2, o2, none⟩) f.length gc) := fun x => (cell_lasts x.low s4).trans d2
          refine wp_region_low wr.heap.size (by kernel_rfl) (by kernel_rfl) ?_
          repeat (go_big_quiet_step (fail))
          refine wpQuiet_nil ?_
          rintro _ ⟨⟨w1, hk⟩, rfl⟩
          clear L0 L1 L2 M0 M1 M2 N0 N1 d0 d1 d2 d3
          go_wp2_with fail
          go_roundw
          case rel => exact ⟨j + 1, by omega, by go_num, H3.out, hbw.trans (hk.mono hbw.size)⟩
          case measure => simp [intOf]; omega
        · have H3 : Hid (decide (f = g) = false) := HN.out h0
          rw [decide_eq_false h0, Bool.not_false] at hq
          clear HN HT
          go_wp2_with fail
          have L0 : ∀ x : Low wr.heap.size wr, x.wd.cell? ⟨p1, o1 + j * 3, none⟩ = some (.string y.name) := fun x => (cell_lasts x.low s1).trans t0
          have L1 : ∀ x : Low wr.heap.size wr, x.wd.cell? ⟨p1, o1 + j * 3 + 1, none⟩ = some (.int .i64 y.arity) := fun x => (cell_lasts x.low s1).trans t1
          have L2 : ∀ x : Low wr.heap.size wr, x.wd.cell? ⟨p1, o1 + j * 3 + 2, none⟩ = some (.int .i64 y.kind) := fun x => (cell_lasts x.low s1).trans t2
          have M0 : ∀ x : Low wr.heap.size wr, x.wd.cell? ⟨p2, o2 + j * 3, none⟩ = some (.string z.name) := fun x => (cell_lasts x.low s2).trans u0
          have M1 : ∀ x : Low wr.heap.size wr, x.wd.cell? ⟨p2, o2 + j * 3 + 1, none⟩ = some (.int .i64 z.arity) := fun x => (cell_lasts x.low s2).trans u1
          have M2 : ∀ x : Low wr.heap.size wr, x.wd.cell? ⟨p2, o2 + j * 3 + 2, none⟩ = some (.int .i64 z.kind) := fun x => (cell_lasts x.low s2).trans u2
          have N0 : ∀ x : Low wr.heap.size wr, x.wd.cell? ⟨w.heap.size, 0, none⟩ = some (.slice (some ⟨p1, o1, none⟩) f.length fc) := fun x => (cell_lasts x.low s3).trans d0
          have N1 : ∀ x : Low wr.heap.size wr, x.wd.cell? ⟨w.heap.size + 1, 0, none⟩ = some (.slice (some ⟨p2, o2, none⟩) f.length gc) := fun x => (cell_lasts x.low s4).trans d2
          refine wp_region_low wr.heap.size (by kernel_rfl) (by kernel_rfl) ?_
          repeat (go_big_quiet_step (fail))
          refine wpQuiet_nil ?_
          rintro _ ⟨⟨w1, hk⟩, rfl⟩
          clear L0 L1 L2 M0 M1 M2 N0 N1 d0 d1 d2 d3
          go_wp2_with fail
          go_ret
          exact ⟨by rw [H3.out]; rfl, kw.trans (hk.mono kw.size)⟩
      · have HE : Hid (decide (f = g) = true) := by
          show _ = _
          rw [List.take_of_length_le (by omega), List.take_of_length_le (by have := HL.out; omega)] at hall
          simpa using hall
        obtain rfl : j = f.length := by omega
        have HB2 : Hid (Below W1.heap.size W1 wr) := hbw
        clear hall
        go_wp2_with fail
        clear d0 d1 d2 d3
        go_loopw [6] (fun i wr => ∃ j : Nat, j ≤ rs.length ∧ i = .int .i64 j ∧ Below W1.heap.size W1 wr) (fun i _ => rs.length - (intOf i).toNat)
        case atStart => exact ⟨0, Nat.zero_le _, rfl, HB2.out⟩
        case round =>
          obtain ⟨j, hj, rfl, hbw⟩ := hrel
          rename World => U
          obtain ⟨d0, d1, d2, d3⟩ := HC.out U hbw
          have kw : Below w.heap.size w U := b1.trans (hbw.mono b1.size)
          by_cases hlt : j < rs.length
          · obtain ⟨p1, o1, q1, hv1, s1, t0, ⟨hv, t1, th⟩, t2, t3, bv, t4, tb⟩ := slice_cells (HR.out U kw) hlt
            obtain ⟨rfl, rfl⟩ : ra = some ⟨p1, o1, none⟩ ∧ rc = q1 := by simpa using hv1
            obtain ⟨p2, o2, q2, hv2, s2, u0, ⟨hv', u1, uh⟩, u2, u3, bv', u4, ub⟩ := slice_cells (HS.out U kw) hlt
            obtain ⟨rfl, rfl⟩ : sa = some ⟨p2, o2, none⟩ ∧ sc = q2 := by simpa using hv2
            have s3 : w.heap.size < U.heap.size := by have := hbw.size; omega
            have s4 : w.heap.size + 1 < U.heap.size := by have := hbw.size; omega
            have hjl : (j : Int) < (rs.length : Int) := by omega
            have hj0 : (0 : Int) ≤ (j : Int) := by omega
            clear hv1 hv2
            generalize rs[j] = y at *
            have HTH : Hid (∀ x, Below U.heap.size U x → termsAt x hv y.head.args ∧ termsAt x hv' y.head.args) := fun x hx => ⟨termsAt.lasts hx th, termsAt.lasts hx uh⟩
            have HTB : Hid (∀ x, Below U.heap.size U x → litsAt x bv y.body ∧ litsAt x bv' y.body) := fun x hx => ⟨litsAt.lasts hx tb, litsAt.lasts hx ub⟩
            obtain ⟨ha, hc, rfl, _⟩ := th
            obtain ⟨ha', hc', rfl, _⟩ := uh
            obtain ⟨ba, bc, rfl, _⟩ := tb
            obtain ⟨ba', bc', rfl, _⟩ := ub
            have KEEP : Hid (∀ x, Below U.heap.size U x → (fun x : World => x.cell? ⟨w.heap.size, 1, none⟩ = some (.slice (some ⟨p1, o1, none⟩) rs.length rc) ∧ x.cell? ⟨w.heap.size + 1, 1, none⟩ = some (.slice (some ⟨p2, o2, none⟩) rs.length sc) ∧ x.cell? ⟨p1, o1 + j * 5, none⟩ = some (.int .i64 y.head.pred) ∧ x.cell? ⟨p1, o1 + j * 5 + 1, none⟩ = some (.slice ha y.head.args.length hc) ∧ x.cell? ⟨p1, o1 + j * 5 + 2, none⟩ = some (.int .i64 y.src) ∧ x.cell? ⟨p1, o1 + j * 5 + 3, none⟩ = some (.int .i64 y.n) ∧ x.cell? ⟨p1, o1 + j * 5 + 4, none⟩ = some (.slice ba y.body.length bc) ∧ x.cell? ⟨p2, o2 + j * 5, none⟩ = some (.int .i64 y.head.pred) ∧ x.cell? ⟨p2, o2 + j * 5 + 1, none⟩ = some (.slice ha' y.head.args.length hc') ∧ x.cell? ⟨p2, o2 + j * 5 + 2, none⟩ = some (.int .i64 y.src) ∧ x.cell? ⟨p2, o2 + j * 5 + 3, none⟩ = some (.int .i64 y.n) ∧ x.cell? ⟨p2, o2 + j * 5 + 4, none⟩ = some (.slice ba' y.body.length bc')) x) := fun x hx => ⟨(cell_lasts hx s3).trans d1, (cell_lasts hx s4).trans d3, (cell_lasts hx s1).trans t0, (cell_lasts hx s1).trans t1, (cell_lasts hx s1).trans t2, (cell_lasts hx s1).trans t3, (cell_lasts hx s1).trans t4, (cell_lasts hx s2).trans u0, (cell_lasts hx s2).trans u1, (cell_lasts hx s2).trans u2, (cell_lasts hx s2).trans u3, (cell_lasts hx s2).trans u4⟩
            go_wp2_with fail
            clear t0 t1 t2 t3 t4 u0 u1 u2 u3 u4 d0 d1 d2 d3
            go_region_held3 (fun x : World => x.cell? ⟨w.heap.size, 1, none⟩ = some (.slice (some ⟨p1, o1, none⟩) rs.length rc) ∧ x.cell? ⟨w.heap.size + 1, 1, none⟩ = some (.slice (some ⟨p2, o2, none⟩) rs.length sc) ∧ x.cell? ⟨p1, o1 + j * 5, none⟩ = some (.int .i64 y.head.pred) ∧ x.cell? ⟨p1, o1 + j * 5 + 1, none⟩ = some (.slice ha y.head.args.length hc) ∧ x.cell? ⟨p1, o1 + j * 5 + 2, none⟩ = some (.int .i64 y.src) ∧ x.cell? ⟨p1, o1 + j * 5 + 3, none⟩ = some (.int .i64 y.n) ∧ x.cell? ⟨p1, o1 + j * 5 + 4, none⟩ = some (.slice ba y.body.length bc) ∧ x.cell? ⟨p2, o2 + j * 5, none⟩ = some (.int .i64 y.head.pred) ∧ x.cell? ⟨p2, o2 + j * 5 + 1, none⟩ = some (.slice ha' y.head.args.length hc') ∧ x.cell? ⟨p2, o2 + j * 5 + 2, none⟩ = some (.int .i64 y.src) ∧ x.cell? ⟨p2, o2 + j * 5 + 3, none⟩ = some (.int .i64 y.n) ∧ x.cell? ⟨p2, o2 + j * 5 + 4, none⟩ = some (.slice ba' y.body.length bc'))
              (first | (refine KEEP.out _ ?_; (repeat (first | with_reducible exact Below.refl _ _ | (with_reducible refine Below.drew ?_) | (with_reducible refine Below.setCell ?_ (by simp) _) | (with_reducible refine Below.alloc ?_ (by simp) _)))))
              (fail)
            · obtain ⟨V, hV⟩ : ∃ V, ((U.alloc (.cells #[.int .i64 y.head.pred, .slice ha y.head.args.length hc, .int .i64 y.src, .int .i64 y.n, .slice ba y.body.length bc] 54)).alloc (.cells #[.int .i64 y.head.pred, .slice ha' y.head.args.length hc', .int .i64 y.src, .int .i64 y.n, .slice ba' y.body.length bc'] 54)).drew = V := ⟨_, rfl⟩
              have bV : Below U.heap.size U V := by rw [← hV]; exact ((below_alloc _ _).alloc (by simp) _).drew
              have hsV : V.heap.size = U.heap.size + 2 := by rw [← hV]; simp [World.drew]
              have cV : (fun z : World => z.cell? ⟨U.heap.size, 0, none⟩ = some (.int .i64 y.head.pred) ∧ z.cell? ⟨U.heap.size, 1, none⟩ = some (.slice ha y.head.args.length hc) ∧ z.cell? ⟨U.heap.size, 2, none⟩ = some (.int .i64 y.src) ∧ z.cell? ⟨U.heap.size, 3, none⟩ = some (.int .i64 y.n) ∧ z.cell? ⟨U.heap.size, 4, none⟩ = some (.slice ba y.body.length bc) ∧ z.cell? ⟨U.heap.size + 1, 0, none⟩ = some (.int .i64 y.head.pred) ∧ z.cell? ⟨U.heap.size + 1, 1, none⟩ = some (.slice ha' y.head.args.length hc') ∧ z.cell? ⟨U.heap.size + 1, 2, none⟩ = some (.int .i64 y.src) ∧ z.cell? ⟨U.heap.size + 1, 3, none⟩ = some (.int .i64 y.n) ∧ z.cell? ⟨U.heap.size + 1, 4, none⟩ = some (.slice ba' y.body.length bc')) V := by
                rw [← hV]
                refine ⟨?_, ?_, ?_, ?_, ?_, ?_, ?_, ?_, ?_, ?_⟩ <;> simp [go_sem]
              have KV : Hid (∀ z, Below V.heap.size V z → (fun z : World => z.cell? ⟨U.heap.size, 0, none⟩ = some (.int .i64 y.head.pred) ∧ z.cell? ⟨U.heap.size, 1, none⟩ = some (.slice ha y.head.args.length hc) ∧ z.cell? ⟨U.heap.size, 2, none⟩ = some (.int .i64 y.src) ∧ z.cell? ⟨U.heap.size, 3, none⟩ = some (.int .i64 y.n) ∧ z.cell? ⟨U.heap.size, 4, none⟩ = some (.slice ba y.body.length bc) ∧ z.cell? ⟨U.heap.size + 1, 0, none⟩ = some (.int .i64 y.head.pred) ∧ z.cell? ⟨U.heap.size + 1, 1, none⟩ = some (.slice ha' y.head.args.length hc') ∧ z.cell? ⟨U.heap.size + 1, 2, none⟩ = some (.int .i64 y.src) ∧ z.cell? ⟨U.heap.size + 1, 3, none⟩ = some (.int .i64 y.n) ∧ z.cell? ⟨U.heap.size + 1, 4, none⟩ = some (.slice ba' y.body.length bc')) z) := fun z hz => by
                obtain ⟨e0, e1, e2, e3, e4, g0, g1, g2, g3, g4⟩ := cV
                exact ⟨(cell_lasts hz (by omega)).trans e0, (cell_lasts hz (by omega)).trans e1, (cell_lasts hz (by omega)).trans e2, (cell_lasts hz (by omega)).trans e3, (cell_lasts hz (by omega)).trans e4, (cell_lasts hz (by omega)).trans g0, (cell_lasts hz (by omega)).trans g1, (cell_lasts hz (by omega)).trans g2, (cell_lasts hz (by omega)).trans g3, (cell_lasts hz (by omega)).trans g4⟩
              have HSA : Hid (Calls Tryz.prog 37 #[.agg #[.int .i64 y.head.pred, .slice ha y.head.args.length hc], .agg #[.int .i64 y.head.pred, .slice ha' y.head.args.length hc']] V fun e w' => e = .returned (.bool true) ∧ Below V.heap.size V w') := sameAtoms_c V _ _ _ _ (HTH.out V bV).1 (HTH.out V bV).2
              rw [hV]
              clear hV
              obtain ⟨e0, e1, e2, e3, e4, g0, g1, g2, g3, g4⟩ := cV
              go_wp2_with (go_at_call 37; refine HSA.out.mono ?_; rintro e V2 ⟨rfl, hb2⟩; clear e0 e1 e2 e3 e4 g0 g1 g2 g3 g4; obtain ⟨e0, e1, e2, e3, e4, g0, g1, g2, g3, g4⟩ := KV.out V2 hb2)
              clear e0 e1 e2 e3 e4 g0 g1 g2 g3 g4
              go_loopw [9] (fun i wz => ∃ q : Nat, q ≤ y.body.length ∧ i = .int .i64 q ∧ Below V.heap.size V wz) (fun i _ => y.body.length - (intOf i).toNat)
              case atStart => exact ⟨0, Nat.zero_le _, rfl, hb2⟩
              case round =>
                obtain ⟨q, hq, rfl, hbz⟩ := hrel
                obtain ⟨e0, e1, e2, e3, e4, g0, g1, g2, g3, g4⟩ := KV.out _ hbz
                by_cases hql : q < y.body.length
                · have bU : Below U.heap.size U wr := bV.trans (hbz.mono bV.size)
                  obtain ⟨l1, m1, n1, hv1, s5, t0, t1, av, t2, ta⟩ := slice_cells (HTB.out wr bU).1 hql
                  obtain ⟨rfl, rfl⟩ : ba = some ⟨l1, m1, none⟩ ∧ bc = n1 := by simpa using hv1
                  obtain ⟨l2, m2, n2, hv2, s6, u0, u1, av', u2, ua⟩ := slice_cells (HTB.out wr bU).2 hql
                  obtain ⟨rfl, rfl⟩ : ba' = some ⟨l2, m2, none⟩ ∧ bc' = n2 := by simpa using hv2
                  have hq1 : (q : Int) < (y.body.length : Int) := by omega
                  have hq0 : (0 : Int) ≤ (q : Int) := by omega
                  have sX : U.heap.size < wr.heap.size := by have := hbz.size; omega
                  have sY : U.heap.size + 1 < wr.heap.size := by have := hbz.size; omega
                  clear hv1 hv2 e0 e1 e2 e3 g0 g1 g2 g3
                  generalize y.body[q] = z at *
                  have HSB : Hid (∀ x, Below wr.heap.size wr x → Calls Tryz.prog 37 #[.agg #[.int .i64 z.atom.pred, av], .agg #[.int .i64 z.atom.pred, av']] x fun e w' => e = .returned (.bool true) ∧ Below x.heap.size x w') := fun x hx => sameAtoms_c x _ _ _ _ (termsAt.lasts hx ta) (termsAt.lasts hx ua)
                  obtain ⟨aa, ac, rfl, _⟩ := ta
                  obtain ⟨aa', ac', rfl, _⟩ := ua
                  go_wp2_with fail
                  have L0 : ∀ x : Low wr.heap.size wr, x.wd.cell? ⟨l1, m1 + q * 3, none⟩ = some (.bool z.neg) := fun x => (cell_lasts x.low s5).trans t0
                  have L1 : ∀ x : Low wr.heap.size wr, x.wd.cell? ⟨l1, m1 + q * 3 + 1, none⟩ = some (.int .i64 z.atom.pred) := fun x => (cell_lasts x.low s5).trans t1
                  have L2 : ∀ x : Low wr.heap.size wr, x.wd.cell? ⟨l1, m1 + q * 3 + 1 + 1, none⟩ = some (.slice aa z.atom.args.length ac) := fun x => (cell_lasts x.low s5).trans t2
                  have M0 : ∀ x : Low wr.heap.size wr, x.wd.cell? ⟨l2, m2 + q * 3, none⟩ = some (.bool z.neg) := fun x => (cell_lasts x.low s6).trans u0
                  have M1 : ∀ x : Low wr.heap.size wr, x.wd.cell? ⟨l2, m2 + q * 3 + 1, none⟩ = some (.int .i64 z.atom.pred) := fun x => (cell_lasts x.low s6).trans u1
                  have M2 : ∀ x : Low wr.heap.size wr, x.wd.cell? ⟨l2, m2 + q * 3 + 1 + 1, none⟩ = some (.slice aa' z.atom.args.length ac') := fun x => (cell_lasts x.low s6).trans u2
                  have N0 : ∀ x : Low wr.heap.size wr, x.wd.cell? ⟨U.heap.size, 4, none⟩ = some (.slice (some ⟨l1, m1, none⟩) y.body.length bc) := fun x => (cell_lasts x.low sX).trans e4
                  have N1 : ∀ x : Low wr.heap.size wr, x.wd.cell? ⟨U.heap.size + 1, 4, none⟩ = some (.slice (some ⟨l2, m2, none⟩) y.body.length bc') := fun x => (cell_lasts x.low sY).trans g4
                  cases hzn : z.neg <;> rw [hzn] at L0 M0
                  all_goals
                    refine wp_region_low wr.heap.size (by kernel_rfl) (by kernel_rfl) ?_
                    repeat (go_big_quiet_step (first | (go_at_call 37; exact low_of (HSB.out _ (Low.low _)))))
                    refine wpQuiet_nil ?_
                    rintro _ ⟨⟨w1, hk⟩, rfl⟩
                    clear L0 L1 L2 M0 M1 M2 N0 N1 e4 g4
                    go_wp2_with fail
                    go_roundw
                    case rel => exact ⟨q + 1, by omega, by go_num, hbz.trans (hk.mono hbz.size)⟩
                    case measure => simp [intOf]; omega
                · obtain rfl : q = y.body.length := by omega
                  go_wp2_with fail
                  go_roundw
                  case rel => exact ⟨j + 1, by omega, by go_num, (hbw.trans (bV.mono hbw.size)).trans (hbz.mono (hbw.trans (bV.mono hbw.size)).size)⟩
                  case measure => simp [intOf]; omega
            · obtain ⟨V, hV⟩ : ∃ V, ((U.alloc (.cells #[.int .i64 y.head.pred, .slice ha' y.head.args.length hc', .int .i64 y.src, .int .i64 y.n, .slice ba' y.body.length bc'] 54)).alloc (.cells #[.int .i64 y.head.pred, .slice ha y.head.args.length hc, .int .i64 y.src, .int .i64 y.n, .slice ba y.body.length bc] 54)).drew = V := ⟨_, rfl⟩
              have bV : Below U.heap.size U V := by rw [← hV]; exact ((below_alloc _ _).alloc (by simp) _).drew
              have hsV : V.heap.size = U.heap.size + 2 := by rw [← hV]; simp [World.drew]
              have cV : (fun z : World => z.cell? ⟨U.heap.size + 1, 0, none⟩ = some (.int .i64 y.head.pred) ∧ z.cell? ⟨U.heap.size + 1, 1, none⟩ = some (.slice ha y.head.args.length hc) ∧ z.cell? ⟨U.heap.size + 1, 2, none⟩ = some (.int .i64 y.src) ∧ z.cell? ⟨U.heap.size + 1, 3, none⟩ = some (.int .i64 y.n) ∧ z.cell? ⟨U.heap.size + 1, 4, none⟩ = some (.slice ba y.body.length bc) ∧ z.cell? ⟨U.heap.size, 0, none⟩ = some (.int .i64 y.head.pred) ∧ z.cell? ⟨U.heap.size, 1, none⟩ = some (.slice ha' y.head.args.length hc') ∧ z.cell? ⟨U.heap.size, 2, none⟩ = some (.int .i64 y.src) ∧ z.cell? ⟨U.heap.size, 3, none⟩ = some (.int .i64 y.n) ∧ z.cell? ⟨U.heap.size, 4, none⟩ = some (.slice ba' y.body.length bc')) V := by
                rw [← hV]
                refine ⟨?_, ?_, ?_, ?_, ?_, ?_, ?_, ?_, ?_, ?_⟩ <;> simp [go_sem]
              have KV : Hid (∀ z, Below V.heap.size V z → (fun z : World => z.cell? ⟨U.heap.size + 1, 0, none⟩ = some (.int .i64 y.head.pred) ∧ z.cell? ⟨U.heap.size + 1, 1, none⟩ = some (.slice ha y.head.args.length hc) ∧ z.cell? ⟨U.heap.size + 1, 2, none⟩ = some (.int .i64 y.src) ∧ z.cell? ⟨U.heap.size + 1, 3, none⟩ = some (.int .i64 y.n) ∧ z.cell? ⟨U.heap.size + 1, 4, none⟩ = some (.slice ba y.body.length bc) ∧ z.cell? ⟨U.heap.size, 0, none⟩ = some (.int .i64 y.head.pred) ∧ z.cell? ⟨U.heap.size, 1, none⟩ = some (.slice ha' y.head.args.length hc') ∧ z.cell? ⟨U.heap.size, 2, none⟩ = some (.int .i64 y.src) ∧ z.cell? ⟨U.heap.size, 3, none⟩ = some (.int .i64 y.n) ∧ z.cell? ⟨U.heap.size, 4, none⟩ = some (.slice ba' y.body.length bc')) z) := fun z hz => by
                obtain ⟨e0, e1, e2, e3, e4, g0, g1, g2, g3, g4⟩ := cV
                exact ⟨(cell_lasts hz (by omega)).trans e0, (cell_lasts hz (by omega)).trans e1, (cell_lasts hz (by omega)).trans e2, (cell_lasts hz (by omega)).trans e3, (cell_lasts hz (by omega)).trans e4, (cell_lasts hz (by omega)).trans g0, (cell_lasts hz (by omega)).trans g1, (cell_lasts hz (by omega)).trans g2, (cell_lasts hz (by omega)).trans g3, (cell_lasts hz (by omega)).trans g4⟩
              have HSA : Hid (Calls Tryz.prog 37 #[.agg #[.int .i64 y.head.pred, .slice ha y.head.args.length hc], .agg #[.int .i64 y.head.pred, .slice ha' y.head.args.length hc']] V fun e w' => e = .returned (.bool true) ∧ Below V.heap.size V w') := sameAtoms_c V _ _ _ _ (HTH.out V bV).1 (HTH.out V bV).2
              rw [hV]
              clear hV
              obtain ⟨e0, e1, e2, e3, e4, g0, g1, g2, g3, g4⟩ := cV
              go_wp2_with (go_at_call 37; refine HSA.out.mono ?_; rintro e V2 ⟨rfl, hb2⟩; clear e0 e1 e2 e3 e4 g0 g1 g2 g3 g4; obtain ⟨e0, e1, e2, e3, e4, g0, g1, g2, g3, g4⟩ := KV.out V2 hb2)
              clear e0 e1 e2 e3 e4 g0 g1 g2 g3 g4
              go_loopw [9] (fun i wz => ∃ q : Nat, q ≤ y.body.length ∧ i = .int .i64 q ∧ Below V.heap.size V wz) (fun i _ => y.body.length - (intOf i).toNat)
              case atStart => exact ⟨0, Nat.zero_le _, rfl, hb2⟩
              case round =>
                obtain ⟨q, hq, rfl, hbz⟩ := hrel
                obtain ⟨e0, e1, e2, e3, e4, g0, g1, g2, g3, g4⟩ := KV.out _ hbz
                by_cases hql : q < y.body.length
                · have bU : Below U.heap.size U wr := bV.trans (hbz.mono bV.size)
                  obtain ⟨l1, m1, n1, hv1, s5, t0, t1, av, t2, ta⟩ := slice_cells (HTB.out wr bU).1 hql
                  obtain ⟨rfl, rfl⟩ : ba = some ⟨l1, m1, none⟩ ∧ bc = n1 := by simpa using hv1
                  obtain ⟨l2, m2, n2, hv2, s6, u0, u1, av', u2, ua⟩ := slice_cells (HTB.out wr bU).2 hql
                  obtain ⟨rfl, rfl⟩ : ba' = some ⟨l2, m2, none⟩ ∧ bc' = n2 := by simpa using hv2
                  have hq1 : (q : Int) < (y.body.length : Int) := by omega
                  have hq0 : (0 : Int) ≤ (q : Int) := by omega
                  have sX : U.heap.size + 1 < wr.heap.size := by have := hbz.size; omega
                  have sY : U.heap.size < wr.heap.size := by have := hbz.size; omega
                  clear hv1 hv2 e0 e1 e2 e3 g0 g1 g2 g3
                  generalize y.body[q] = z at *
                  have HSB : Hid (∀ x, Below wr.heap.size wr x → Calls Tryz.prog 37 #[.agg #[.int .i64 z.atom.pred, av], .agg #[.int .i64 z.atom.pred, av']] x fun e w' => e = .returned (.bool true) ∧ Below x.heap.size x w') := fun x hx => sameAtoms_c x _ _ _ _ (termsAt.lasts hx ta) (termsAt.lasts hx ua)
                  obtain ⟨aa, ac, rfl, _⟩ := ta
                  obtain ⟨aa', ac', rfl, _⟩ := ua
                  go_wp2_with fail
                  have L0 : ∀ x : Low wr.heap.size wr, x.wd.cell? ⟨l1, m1 + q * 3, none⟩ = some (.bool z.neg) := fun x => (cell_lasts x.low s5).trans t0
                  have L1 : ∀ x : Low wr.heap.size wr, x.wd.cell? ⟨l1, m1 + q * 3 + 1, none⟩ = some (.int .i64 z.atom.pred) := fun x => (cell_lasts x.low s5).trans t1
                  have L2 : ∀ x : Low wr.heap.size wr, x.wd.cell? ⟨l1, m1 + q * 3 + 1 + 1, none⟩ = some (.slice aa z.atom.args.length ac) := fun x => (cell_lasts x.low s5).trans t2
                  have M0 : ∀ x : Low wr.heap.size wr, x.wd.cell? ⟨l2, m2 + q * 3, none⟩ = some (.bool z.neg) := fun x => (cell_lasts x.low s6).trans u0
                  have M1 : ∀ x : Low wr.heap.size wr, x.wd.cell? ⟨l2, m2 + q * 3 + 1, none⟩ = some (.int .i64 z.atom.pred) := fun x => (cell_lasts x.low s6).trans u1
                  have M2 : ∀ x : Low wr.heap.size wr, x.wd.cell? ⟨l2, m2 + q * 3 + 1 + 1, none⟩ = some (.slice aa' z.atom.args.length ac') := fun x => (cell_lasts x.low s6).trans u2
                  have N0 : ∀ x : Low wr.heap.size wr, x.wd.cell? ⟨U.heap.size + 1, 4, none⟩ = some (.slice (some ⟨l1, m1, none⟩) y.body.length bc) := fun x => (cell_lasts x.low sX).trans e4
                  have N1 : ∀ x : Low wr.heap.size wr, x.wd.cell? ⟨U.heap.size, 4, none⟩ = some (.slice (some ⟨l2, m2, none⟩) y.body.length bc') := fun x => (cell_lasts x.low sY).trans g4
                  cases hzn : z.neg <;> rw [hzn] at L0 M0
                  all_goals
                    refine wp_region_low wr.heap.size (by kernel_rfl) (by kernel_rfl) ?_
                    repeat (go_big_quiet_step (first | (go_at_call 37; exact low_of (HSB.out _ (Low.low _)))))
                    refine wpQuiet_nil ?_
                    rintro _ ⟨⟨w1, hk⟩, rfl⟩
                    clear L0 L1 L2 M0 M1 M2 N0 N1 e4 g4
                    go_wp2_with fail
                    go_roundw
                    case rel => exact ⟨q + 1, by omega, by go_num, hbz.trans (hk.mono hbz.size)⟩
                    case measure => simp [intOf]; omega
                · obtain rfl : q = y.body.length := by omega
                  go_wp2_with fail
                  go_roundw
                  case rel => exact ⟨j + 1, by omega, by go_num, (hbw.trans (bV.mono hbw.size)).trans (hbz.mono (hbw.trans (bV.mono hbw.size)).size)⟩
                  case measure => simp [intOf]; omega
          · obtain rfl : j = rs.length := by omega
            go_wp2_with fail
            go_ret
            exact ⟨by rw [HE.out]; rfl, kw⟩
  · have hl' : ((f.length : Int) == (g.length : Int)) = false := by simpa using (by omega : ¬ (f.length : Int) = (g.length : Int))
    have H : Hid (decide (f = g) = false) := by show _ = _; simp only [decide_eq_false_iff_not]; rintro rfl; exact hl rfl
    obtain ⟨W1, hW1⟩ : ∃ W1, (w.alloc (.cells #[.slice fa f.length fc, .slice ra rs.length rc] 25)).alloc (.cells #[.slice ga g.length gc, .slice sa rs.length sc] 25) = W1 := ⟨_, rfl⟩
    have b1 : Below w.heap.size w W1 := by rw [← hW1]; exact (below_alloc _ _).alloc (by simp) _
    have c0 : W1.cell? ⟨w.heap.size, 0, none⟩ = some (.slice fa f.length fc) ∧ W1.cell? ⟨w.heap.size, 1, none⟩ = some (.slice ra rs.length rc) ∧ W1.cell? ⟨w.heap.size + 1, 0, none⟩ = some (.slice ga g.length gc) ∧ W1.cell? ⟨w.heap.size + 1, 1, none⟩ = some (.slice sa rs.length sc) := by rw [← hW1]; simp [go_sem]
    have hs : W1.heap.size = w.heap.size + 2 := by rw [← hW1]; simp
    have HC : Hid (∀ x, Below W1.heap.size W1 x → x.cell? ⟨w.heap.size, 0, none⟩ = some (.slice fa f.length fc) ∧ x.cell? ⟨w.heap.size, 1, none⟩ = some (.slice ra rs.length rc) ∧ x.cell? ⟨w.heap.size + 1, 0, none⟩ = some (.slice ga g.length gc) ∧ x.cell? ⟨w.heap.size + 1, 1, none⟩ = some (.slice sa rs.length sc)) := fun x hx => ⟨(cell_lasts hx (by omega)).trans c0.1, (cell_lasts hx (by omega)).trans c0.2.1, (cell_lasts hx (by omega)).trans c0.2.2.1, (cell_lasts hx (by omega)).trans c0.2.2.2⟩
    obtain ⟨d0, d1, d2, d3⟩ := id c0
    clear c0
    go_enter Tryz.func11, Tryz.ntmps11
    go_wp2_with fail
    go_ret
    exact ⟨by rw [H.out]; rfl, b1⟩
end Go.Proofs.YtlfccloaoopadafGreatDoor.Sum
