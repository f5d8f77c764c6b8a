/-
  What the document's own 'SameFacts' answers.
-/
import Derived.Test.YtgbacodellfacacBaseRef4
namespace Go.Proofs.Ytgbacodellfacac.Base
open Go.ChangeShapes Go.WideShapes Go.ChangeAt Go.RowKit

deriving instance DecidableEq for Fct

theorem take_same {f g : List Fct} {j : Nat} (h1 : j < f.length) (h2 : j < g.length) : f.take (j + 1) = g.take (j + 1) ↔ f.take j = g.take j ∧ f[j] = g[j] := by
  rw [List.take_succ_eq_append_getElem h1, List.take_succ_eq_append_getElem h2]
  constructor
  · intro h
    have := List.append_inj' h rfl
    exact ⟨this.1, by simpa using this.2⟩
  · rintro ⟨h, h'⟩
    rw [h, h']

set_option maxRecDepth 100000 in
set_option maxHeartbeats 4000000 in
theorem sameFacts_c (w : World) (fv gv : Value) (f g : List Fct) (hf : factsAt w fv f) (hg : factsAt w gv g) :
    Calls Try.prog 7 #[fv, gv] w fun e w' => e = .returned (.bool (decide (f = g))) ∧ Below w.heap.size w w' := by
  have HF : Hid (factsAt w fv f) := hf
  have HG : Hid (factsAt w gv g) := hg
  obtain ⟨fa, fc, rfl, hfm, hfx⟩ := hf
  obtain ⟨ga, gc, rfl, hgm, hgx⟩ := hg
  clear hfx hgx
  by_cases hl : f.length = g.length
  · have HL : Hid (f.length = g.length) := hl
    rw [← hl]
    clear hl
    go_enter Try.func7, Try.ntmps7
    go_wp2_with fail
    go_loopw [5] (fun i wr => ∃ j : Nat, j ≤ f.length ∧ i = .int .i64 j ∧ f.take j = g.take j ∧ Below w.heap.size w wr) (fun i _ => f.length - (intOf i).toNat)
    case atStart => exact ⟨0, Nat.zero_le _, rfl, rfl, Below.refl _ _⟩
    case round =>
      obtain ⟨j, hj, rfl, hall, hbw⟩ := hrel
      by_cases hlt : j < f.length
      · have hlt2 : j < g.length := by have := HL.out; omega
        have HT : Hid (f[j] = g[j] → f.take (j + 1) = g.take (j + 1)) := fun h => (take_same hlt hlt2).2 ⟨hall, h⟩
        have HN : Hid (f[j] ≠ g[j] → decide (f = g) = false) := fun h => by simp only [decide_eq_false_iff_not]; rintro rfl; exact h rfl
        obtain ⟨b1, o1, c1, hv1, hb1, hc1⟩ := fact_cells HF.out hlt
        obtain ⟨rfl, rfl⟩ : fa = some ⟨b1, o1, none⟩ ∧ fc = c1 := by simpa using hv1
        obtain ⟨b2, o2, c2, hv2, hb2, hc2⟩ := fact_cells HG.out hlt2
        obtain ⟨rfl, rfl⟩ : ga = some ⟨b2, o2, none⟩ ∧ gc = c2 := by simpa using hv2
        obtain ⟨t0, t1, t2, t3⟩ := factAt.lasts w wr b1 _ _ hbw hb1 hc1
        obtain ⟨u0, u1, u2, u3⟩ := factAt.lasts w wr b2 _ _ hbw hb2 hc2
        have s1 : b1 < wr.heap.size := Nat.lt_of_lt_of_le hb1 hbw.size
        have s2 : b2 < wr.heap.size := Nat.lt_of_lt_of_le hb2 hbw.size
        have hjl : (j : Int) < (f.length : Int) := by omega
        have hjg : (j : Int) < (g.length : Int) := by omega
        have hj0 : (0 : Int) ≤ (j : Int) := by omega
        clear hv1 hv2 hc1 hc2 hall HF HG
        generalize f[j] = y at *
        generalize g[j] = z at *
        obtain ⟨yp, ya, yb, yv⟩ := y
        obtain ⟨zp, za, zb, zv⟩ := z
        by_cases h0 : yp ≠ zp
        · have H3 : Hid (decide (f = g) = false) := HN.out (by simp [h0])
          clear HN HT
          go_wp2_with fail
          have L0 : ∀ x : Low wr.heap.size wr, x.wd.cell? ⟨b1, o1 + j * 4, none⟩ = some (.int .i64 yp) := fun x => (cell_lasts x.low s1).trans t0
          have L1 : ∀ x : Low wr.heap.size wr, x.wd.cell? ⟨b1, o1 + j * 4 + 1, none⟩ = some (.int .i64 ya) := fun x => (cell_lasts x.low s1).trans t1
          have L2 : ∀ x : Low wr.heap.size wr, x.wd.cell? ⟨b1, o1 + j * 4 + 2, none⟩ = some (.int .i64 yb) := fun x => (cell_lasts x.low s1).trans t2
          have L3 : ∀ x : Low wr.heap.size wr, x.wd.cell? ⟨b1, o1 + j * 4 + 3, none⟩ = some (.int .i64 yv) := fun x => (cell_lasts x.low s1).trans t3
          have M0 : ∀ x : Low wr.heap.size wr, x.wd.cell? ⟨b2, o2 + j * 4, none⟩ = some (.int .i64 zp) := fun x => (cell_lasts x.low s2).trans u0
          have M1 : ∀ x : Low wr.heap.size wr, x.wd.cell? ⟨b2, o2 + j * 4 + 1, none⟩ = some (.int .i64 za) := fun x => (cell_lasts x.low s2).trans u1
          have M2 : ∀ x : Low wr.heap.size wr, x.wd.cell? ⟨b2, o2 + j * 4 + 2, none⟩ = some (.int .i64 zb) := fun x => (cell_lasts x.low s2).trans u2
          have M3 : ∀ x : Low wr.heap.size wr, x.wd.cell? ⟨b2, o2 + j * 4 + 3, none⟩ = some (.int .i64 zv) := fun x => (cell_lasts x.low s2).trans u3
          refine wp_region_low wr.heap.size (by kernel_rfl) (by kernel_rfl) ?_
          repeat (go_big_quiet_step (fail))
          refine wpQuiet_nil ?_
          rintro _ ⟨⟨w1, hk⟩, rfl⟩
          clear L0 L1 L2 L3 M0 M1 M2 M3
          go_wp2_with fail
          go_ret
          exact ⟨by rw [H3.out]; rfl, hbw.trans (hk.mono hbw.size)⟩
        obtain rfl : yp = zp := Decidable.not_not.1 h0
        clear h0
        by_cases h1 : ya ≠ za
        · have H3 : Hid (decide (f = g) = false) := HN.out (by simp [h1])
          clear HN HT
          go_wp2_with fail
          have L0 : ∀ x : Low wr.heap.size wr, x.wd.cell? ⟨b1, o1 + j * 4, none⟩ = some (.int .i64 yp) := fun x => (cell_lasts x.low s1).trans t0
          have L1 : ∀ x : Low wr.heap.size wr, x.wd.cell? ⟨b1, o1 + j * 4 + 1, none⟩ = some (.int .i64 ya) := fun x => (cell_lasts x.low s1).trans t1
          have L2 : ∀ x : Low wr.heap.size wr, x.wd.cell? ⟨b1, o1 + j * 4 + 2, none⟩ = some (.int .i64 yb) := fun x => (cell_lasts x.low s1).trans t2
          have L3 : ∀ x : Low wr.heap.size wr, x.wd.cell? ⟨b1, o1 + j * 4 + 3, none⟩ = some (.int .i64 yv) := fun x => (cell_lasts x.low s1).trans t3
          have M0 : ∀ x : Low wr.heap.size wr, x.wd.cell? ⟨b2, o2 + j * 4, none⟩ = some (.int .i64 yp) := fun x => (cell_lasts x.low s2).trans u0
          have M1 : ∀ x : Low wr.heap.size wr, x.wd.cell? ⟨b2, o2 + j * 4 + 1, none⟩ = some (.int .i64 za) := fun x => (cell_lasts x.low s2).trans u1
          have M2 : ∀ x : Low wr.heap.size wr, x.wd.cell? ⟨b2, o2 + j * 4 + 2, none⟩ = some (.int .i64 zb) := fun x => (cell_lasts x.low s2).trans u2
          have M3 : ∀ x : Low wr.heap.size wr, x.wd.cell? ⟨b2, o2 + j * 4 + 3, none⟩ = some (.int .i64 zv) := fun x => (cell_lasts x.low s2).trans u3
          refine wp_region_low wr.heap.size (by kernel_rfl) (by kernel_rfl) ?_
          repeat (go_big_quiet_step (fail))
          refine wpQuiet_nil ?_
          rintro _ ⟨⟨w1, hk⟩, rfl⟩
          clear L0 L1 L2 L3 M0 M1 M2 M3
          go_wp2_with fail
          go_ret
          exact ⟨by rw [H3.out]; rfl, hbw.trans (hk.mono hbw.size)⟩
        obtain rfl : ya = za := Decidable.not_not.1 h1
        clear h1
        by_cases h2 : yb ≠ zb
        · have H3 : Hid (decide (f = g) = false) := HN.out (by simp [h2])
          clear HN HT
          go_wp2_with fail
          have L0 : ∀ x : Low wr.heap.size wr, x.wd.cell? ⟨b1, o1 + j * 4, none⟩ = some (.int .i64 yp) := fun x => (cell_lasts x.low s1).trans t0
          have L1 : ∀ x : Low wr.heap.size wr, x.wd.cell? ⟨b1, o1 + j * 4 + 1, none⟩ = some (.int .i64 ya) := fun x => (cell_lasts x.low s1).trans t1
          have L2 : ∀ x : Low wr.heap.size wr, x.wd.cell? ⟨b1, o1 + j * 4 + 2, none⟩ = some (.int .i64 yb) := fun x => (cell_lasts x.low s1).trans t2
          have L3 : ∀ x : Low wr.heap.size wr, x.wd.cell? ⟨b1, o1 + j * 4 + 3, none⟩ = some (.int .i64 yv) := fun x => (cell_lasts x.low s1).trans t3
          have M0 : ∀ x : Low wr.heap.size wr, x.wd.cell? ⟨b2, o2 + j * 4, none⟩ = some (.int .i64 yp) := fun x => (cell_lasts x.low s2).trans u0
          have M1 : ∀ x : Low wr.heap.size wr, x.wd.cell? ⟨b2, o2 + j * 4 + 1, none⟩ = some (.int .i64 ya) := fun x => (cell_lasts x.low s2).trans u1
          have M2 : ∀ x : Low wr.heap.size wr, x.wd.cell? ⟨b2, o2 + j * 4 + 2, none⟩ = some (.int .i64 zb) := fun x => (cell_lasts x.low s2).trans u2
          have M3 : ∀ x : Low wr.heap.size wr, x.wd.cell? ⟨b2, o2 + j * 4 + 3, none⟩ = some (.int .i64 zv) := fun x => (cell_lasts x.low s2).trans u3
          refine wp_region_low wr.heap.size (by kernel_rfl) (by kernel_rfl) ?_
          repeat (go_big_quiet_step (fail))
          refine wpQuiet_nil ?_
          rintro _ ⟨⟨w1, hk⟩, rfl⟩
          clear L0 L1 L2 L3 M0 M1 M2 M3
          go_wp2_with fail
          go_ret
          exact ⟨by rw [H3.out]; rfl, hbw.trans (hk.mono hbw.size)⟩
        obtain rfl : yb = zb := Decidable.not_not.1 h2
        clear h2
        by_cases h3 : yv ≠ zv
        · have H3 : Hid (decide (f = g) = false) := HN.out (by simp [h3])
          clear HN HT
          go_wp2_with fail
          have L0 : ∀ x : Low wr.heap.size wr, x.wd.cell? ⟨b1, o1 + j * 4, none⟩ = some (.int .i64 yp) := fun x => (cell_lasts x.low s1).trans t0
          have L1 : ∀ x : Low wr.heap.size wr, x.wd.cell? ⟨b1, o1 + j * 4 + 1, none⟩ = some (.int .i64 ya) := fun x => (cell_lasts x.low s1).trans t1
          have L2 : ∀ x : Low wr.heap.size wr, x.wd.cell? ⟨b1, o1 + j * 4 + 2, none⟩ = some (.int .i64 yb) := fun x => (cell_lasts x.low s1).trans t2
          have L3 : ∀ x : Low wr.heap.size wr, x.wd.cell? ⟨b1, o1 + j * 4 + 3, none⟩ = some (.int .i64 yv) := fun x => (cell_lasts x.low s1).trans t3
          have M0 : ∀ x : Low wr.heap.size wr, x.wd.cell? ⟨b2, o2 + j * 4, none⟩ = some (.int .i64 yp) := fun x => (cell_lasts x.low s2).trans u0
          have M1 : ∀ x : Low wr.heap.size wr, x.wd.cell? ⟨b2, o2 + j * 4 + 1, none⟩ = some (.int .i64 ya) := fun x => (cell_lasts x.low s2).trans u1
          have M2 : ∀ x : Low wr.heap.size wr, x.wd.cell? ⟨b2, o2 + j * 4 + 2, none⟩ = some (.int .i64 yb) := fun x => (cell_lasts x.low s2).trans u2
          have M3 : ∀ x : Low wr.heap.size wr, x.wd.cell? ⟨b2, o2 + j * 4 + 3, none⟩ = some (.int .i64 zv) := fun x => (cell_lasts x.low s2).trans u3
          refine wp_region_low wr.heap.size (by kernel_rfl) (by kernel_rfl) ?_
          repeat (go_big_quiet_step (fail))
          refine wpQuiet_nil ?_
          rintro _ ⟨⟨w1, hk⟩, rfl⟩
          clear L0 L1 L2 L3 M0 M1 M2 M3
          go_wp2_with fail
          go_ret
          exact ⟨by rw [H3.out]; rfl, hbw.trans (hk.mono hbw.size)⟩
        obtain rfl : yv = zv := Decidable.not_not.1 h3
        clear h3
        · have H3 : Hid (f.take (j + 1) = g.take (j + 1)) := HT.out rfl
          clear HN HT
          go_wp2_with fail
          have L0 : ∀ x : Low wr.heap.size wr, x.wd.cell? ⟨b1, o1 + j * 4, none⟩ = some (.int .i64 yp) := fun x => (cell_lasts x.low s1).trans t0
          have L1 : ∀ x : Low wr.heap.size wr, x.wd.cell? ⟨b1, o1 + j * 4 + 1, none⟩ = some (.int .i64 ya) := fun x => (cell_lasts x.low s1).trans t1
          have L2 : ∀ x : Low wr.heap.size wr, x.wd.cell? ⟨b1, o1 + j * 4 + 2, none⟩ = some (.int .i64 yb) := fun x => (cell_lasts x.low s1).trans t2
          have L3 : ∀ x : Low wr.heap.size wr, x.wd.cell? ⟨b1, o1 + j * 4 + 3, none⟩ = some (.int .i64 yv) := fun x => (cell_lasts x.low s1).trans t3
          have M0 : ∀ x : Low wr.heap.size wr, x.wd.cell? ⟨b2, o2 + j * 4, none⟩ = some (.int .i64 yp) := fun x => (cell_lasts x.low s2).trans u0
          have M1 : ∀ x : Low wr.heap.size wr, x.wd.cell? ⟨b2, o2 + j * 4 + 1, none⟩ = some (.int .i64 ya) := fun x => (cell_lasts x.low s2).trans u1
          have M2 : ∀ x : Low wr.heap.size wr, x.wd.cell? ⟨b2, o2 + j * 4 + 2, none⟩ = some (.int .i64 yb) := fun x => (cell_lasts x.low s2).trans u2
          have M3 : ∀ x : Low wr.heap.size wr, x.wd.cell? ⟨b2, o2 + j * 4 + 3, none⟩ = some (.int .i64 yv) := fun x => (cell_lasts x.low s2).trans u3
          refine wp_region_low wr.heap.size (by kernel_rfl) (by kernel_rfl) ?_
          repeat (go_big_quiet_step (fail))
          refine wpQuiet_nil ?_
          rintro _ ⟨⟨w1, hk⟩, rfl⟩
          clear L0 L1 L2 L3 M0 M1 M2 M3
          go_wp2_with fail
          go_roundw
          case rel => exact ⟨j + 1, by omega, by go_num, H3.out, hbw.trans (hk.mono hbw.size)⟩
          case measure => simp [intOf]; omega
      · have HE : Hid (decide (f = g) = true) := by
          show _ = _
          rw [List.take_of_length_le (by omega), List.take_of_length_le (by have := HL.out; omega)] at hall
          simpa using hall
        clear hall HF HG
        go_wp2_with fail
        go_ret
        exact ⟨by rw [HE.out]; rfl, hbw⟩
  · have hl' : ((f.length : Int) == (g.length : Int)) = false := by simpa using (by omega : ¬ (f.length : Int) = (g.length : Int))
    have H : Hid (decide (f = g) = false) := by show _ = _; simp only [decide_eq_false_iff_not]; rintro rfl; exact hl rfl
    go_enter Try.func7, Try.ntmps7
    go_wp2_with fail
    go_ret
    exact ⟨by rw [H.out]; rfl, Below.refl _ _⟩
end Go.Proofs.Ytgbacodellfacac.Base
