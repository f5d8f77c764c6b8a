/-
  What the document's own reckoning of programs answers: names, and lists of numbers held against each other.
-/
import Derived.Test.YtgbacodellfacabProgPlain
import Derived.Test.YtgbacodellfacabLow
import Derived.Test.YtgbacodellfacabIdx
namespace Go.Proofs.Ytgbacodellfacab.Prog
open Go.ChangeShapes Go.WideShapes Go.ChangeAt Go.RowKit
open Lat (within within_c)
open Strata

theorem bytes_length (s : ByteArray) : (bytes s).length = s.size := by
  unfold bytes
  rw [List.length_map, Array.length_toList]
  rfl
theorem bytes_at {s : ByteArray} {j : Nat} (h : j < s.size) (h' : j < (bytes s).length) : (bytes s)[j] = s[j].toNat := by
  have e : (bytes s)[j]? = some s[j].toNat := by
    unfold bytes
    rw [List.getElem?_map, Array.getElem?_toList, Array.getElem?_eq_getElem h]
    rfl
  rw [List.getElem?_eq_getElem h'] at e
  exact Option.some.inj e
theorem letter_iff {b : Nat} : letter b = true ↔ 97 ≤ (b : Int) ∧ (b : Int) ≤ 122 := by
  unfold letter
  rw [Bool.and_eq_true, decide_eq_true_eq, decide_eq_true_eq]
  omega
theorem letter_not {b : Nat} (h : ¬ (97 ≤ (b : Int) ∧ (b : Int) ≤ 122)) : letter b = false := by
  cases hl : letter b
  · rfl
  · exact absurd (letter_iff.1 hl) h

set_option maxRecDepth 100000 in
set_option maxHeartbeats 4000000 in
theorem isName_c (w : World) (s : ByteArray) (hm : s.size ≤ 9223372036854775807) :
    Calls Try.prog 13 #[.string s] w fun e w' => e = .returned (.bool (isName s)) ∧ Below w.heap.size w w' := by
  go_enter Try.func13, Try.ntmps13
  go_wp2_with fail
  go_loopw [3] (fun i wr => ∃ j : Nat, j ≤ s.size ∧ i = .int .i64 j ∧ ((bytes s).take j).all letter = true ∧ Below w.heap.size w wr) (fun i _ => s.size - (intOf i).toNat)
  case atStart => exact ⟨0, Nat.zero_le _, rfl, rfl, Below.refl _ _⟩
  case round =>
    obtain ⟨j, hj, rfl, hall, hbw⟩ := hrel
    by_cases hlt : j < s.size
    · have hlt' : j < (bytes s).length := by rw [bytes_length]; exact hlt
      have HT : Hid (letter s[j].toNat = true → ((bytes s).take (j + 1)).all letter = true) := fun h => by rw [all_take hlt', hall, bytes_at hlt, h]; rfl
      have HN : Hid (letter s[j].toNat = false → isName s = false) := fun h => by rw [isName, all_not hlt' (by rw [bytes_at hlt]; exact h)]; rfl
      clear hall
      go_wp2_with fail
      case roundEnd =>
        rename_i h2
        refine ⟨⟨j + 1, by omega, by go_num, HT.out (letter_iff.2 h2), hbw⟩, ?_⟩
        simp [intOf]; omega
      all_goals
        go_ret
        exact ⟨by rw [HN.out (letter_not (by omega))]; rfl, hbw⟩
    · have HN : Hid (isName s = within (s.size : Int) 1 8) := by
        have : (bytes s).all letter = true := all_take_end (by rw [bytes_length]; exact hlt) hall
        show _ = _
        rw [isName, this, Bool.true_and]
      clear hall
      obtain rfl : j = s.size := by omega
      go_wp2_with (first | (go_at_call 35; refine (within_c _ _ _ _).mono ?_; rintro e w1 ⟨rfl, rfl⟩))
      go_ret
      exact ⟨by rw [HN.out]; rfl, hbw⟩

/-! ### Lists of numbers, of truths -/
def intAt (w : World) (b o : Nat) (x : Nat) : Prop := w.cell? ⟨b, o, none⟩ = some (.int .i64 (x : Int))
abbrev intsAt : World → Value → List Nat → Prop := sliceAt 1 intAt
def boolAt (w : World) (b o : Nat) (x : Bool) : Prop := w.cell? ⟨b, o, none⟩ = some (.bool x)
abbrev boolsAt : World → Value → List Bool → Prop := sliceAt 1 boolAt
theorem intAt.lasts : Lasts intAt := fun _ _ _ _ _ hb hlt h => (cell_lasts hb hlt).trans h
theorem intsAt.lasts {w w' : World} {v : Value} {xs : List Nat} (hb : Below w.heap.size w w') (h : intsAt w v xs) : intsAt w' v xs := sliceAt.lasts intAt.lasts hb h
theorem boolAt.lasts : Lasts boolAt := fun _ _ _ _ _ hb hlt h => (cell_lasts hb hlt).trans h
theorem boolsAt.lasts {w w' : World} {v : Value} {xs : List Bool} (hb : Below w.heap.size w w') (h : boolsAt w v xs) : boolsAt w' v xs := sliceAt.lasts boolAt.lasts hb h
theorem slice_cells {α : Type} {sz : Nat} {At : World → Nat → Nat → α → Prop} {w : World} {v : Value} {f : List α} (h : sliceAt sz At w v f) {j : Nat} (hj : j < f.length) : ∃ b off cap, v = .slice (some ⟨b, off, none⟩) f.length cap ∧ b < w.heap.size ∧ At w b (off + j * sz) f[j] := by
  obtain ⟨a, cap, rfl, hm, hx⟩ := h
  rcases hx with rfl | ⟨b, off, rfl, hb, hx⟩
  · simp at hj
  · exact ⟨b, off, cap, rfl, hb, hx j f[j] (by simp [hj])⟩
theorem take_same {α : Type} {f g : List α} {j : Nat} (h1 : j < f.length) (h2 : j < g.length) : f.take (j + 1) = g.take (j + 1) ↔ f.take j = g.take j ∧ f[j] = g[j] := by
  rw [List.take_succ_eq_append_getElem h1, List.take_succ_eq_append_getElem h2]
  constructor
  · intro h
    have := List.append_inj' h rfl
    exact ⟨this.1, by simpa using this.2⟩
  · rintro ⟨h, h'⟩
    rw [h, h']

set_option maxRecDepth 100000 in
set_option maxHeartbeats 4000000 in
theorem sameInts_c (w : World) (fv gv : Value) (f g : List Nat) (hf : intsAt w fv f) (hg : intsAt w gv g) :
    Calls Try.prog 18 #[fv, gv] w fun e w' => e = .returned (.bool (decide (f = g))) ∧ Below w.heap.size w w' := by
  have HF : Hid (intsAt w fv f) := hf
  have HG : Hid (intsAt w gv g) := hg
  obtain ⟨fa, fc, rfl, hfm, hfx⟩ := hf
  obtain ⟨ga, gc, rfl, hgm, hgx⟩ := hg
  clear hfx hgx
  by_cases hl : f.length = g.length
  · have HL : Hid (f.length = g.length) := hl
    rw [← hl]
    clear hl
    go_enter Try.func18, Try.ntmps18
    go_wp2_with fail
    go_loopw [5] (fun i wr => ∃ j : Nat, j ≤ f.length ∧ i = .int .i64 j ∧ f.take j = g.take j ∧ Below w.heap.size w wr) (fun i _ => f.length - (intOf i).toNat)
    case atStart => exact ⟨0, Nat.zero_le _, rfl, rfl, Below.refl _ _⟩
    case round =>
      obtain ⟨j, hj, rfl, hall, hbw⟩ := hrel
      by_cases hlt : j < f.length
      · have hlt2 : j < g.length := by have := HL.out; omega
        have HT : Hid (f[j] = g[j] → f.take (j + 1) = g.take (j + 1)) := fun h => (take_same hlt hlt2).2 ⟨hall, h⟩
        have HN : Hid (f[j] ≠ g[j] → decide (f = g) = false) := fun h => by simp only [decide_eq_false_iff_not]; rintro rfl; exact h rfl
        obtain ⟨b1, o1, c1, hv1, hb1, hc1⟩ := slice_cells HF.out hlt
        obtain ⟨rfl, rfl⟩ : fa = some ⟨b1, o1, none⟩ ∧ fc = c1 := by simpa using hv1
        obtain ⟨b2, o2, c2, hv2, hb2, hc2⟩ := slice_cells HG.out hlt2
        obtain ⟨rfl, rfl⟩ : ga = some ⟨b2, o2, none⟩ ∧ gc = c2 := by simpa using hv2
        have t0 := intAt.lasts w wr b1 _ _ hbw hb1 hc1
        have u0 := intAt.lasts w wr b2 _ _ hbw hb2 hc2
        have s1 : b1 < wr.heap.size := Nat.lt_of_lt_of_le hb1 hbw.size
        have s2 : b2 < wr.heap.size := Nat.lt_of_lt_of_le hb2 hbw.size
        have hjl : (j : Int) < (f.length : Int) := by omega
        have hjg : (j : Int) < (g.length : Int) := by omega
        have hj0 : (0 : Int) ≤ (j : Int) := by omega
        clear hv1 hv2 hc1 hc2 hall HF HG
        generalize f[j] = y at *
        generalize g[j] = z at *
        have L0 : ∀ x : Low wr.heap.size wr, x.wd.cell? ⟨b1, o1 + j, none⟩ = some (.int .i64 (y : Int)) := fun x => (cell_lasts x.low s1).trans (by rw [← Nat.mul_one j]; exact t0)
        have M0 : ∀ x : Low wr.heap.size wr, x.wd.cell? ⟨b2, o2 + j, none⟩ = some (.int .i64 (z : Int)) := fun x => (cell_lasts x.low s2).trans (by rw [← Nat.mul_one j]; exact u0)
        by_cases h0 : y = z
        · have H3 : Hid (f.take (j + 1) = g.take (j + 1)) := HT.out h0
          have hd : (decide (y = z)) = true := by subst h0; simp
          clear HN HT
          go_wp2_with fail
          refine wp_region_low wr.heap.size (by kernel_rfl) (by kernel_rfl) ?_
          repeat (go_big_quiet_step (fail))
          refine wpQuiet_nil ?_
          rintro _ ⟨⟨w1, hk⟩, rfl⟩
          clear L0 M0
          go_wp2_with fail
          go_roundw
          case rel => exact ⟨j + 1, by omega, by go_num, H3.out, hbw.trans (hk.mono hbw.size)⟩
          case measure => simp [intOf]; omega
        · have H3 : Hid (decide (f = g) = false) := HN.out h0
          have hd : decide ((y : Int) = (z : Int)) = false := by simpa using (fun q => h0 (Int.ofNat.inj q))
          clear HN HT
          go_wp2_with fail
          refine wp_region_low wr.heap.size (by kernel_rfl) (by kernel_rfl) ?_
          repeat (go_big_quiet_step (fail))
          refine wpQuiet_nil ?_
          rintro _ ⟨⟨w1, hk⟩, rfl⟩
          clear L0 M0
          go_wp2_with fail
          go_ret
          exact ⟨by rw [H3.out]; rfl, hbw.trans (hk.mono hbw.size)⟩
      · obtain rfl : j = f.length := by omega
        have H3 : Hid (decide (f = g) = true) := by
          have := HL.out
          rw [List.take_length, this, List.take_length] at hall
          exact decide_eq_true hall
        clear hall HF HG
        go_wp2_with fail
        go_ret
        exact ⟨by rw [H3.out]; rfl, hbw⟩
  · have H3 : Hid (decide (f = g) = false) := decide_eq_false (by rintro rfl; exact hl rfl)
    have hd : decide ((f.length : Int) = (g.length : Int)) = false := decide_eq_false (by omega)
    go_enter Try.func18, Try.ntmps18
    go_wp2_with fail
    go_ret
    exact ⟨by rw [H3.out]; rfl, Below.refl _ _⟩

set_option maxRecDepth 100000 in
set_option maxHeartbeats 4000000 in
theorem sameBools_c (w : World) (fv gv : Value) (f g : List Bool) (hf : boolsAt w fv f) (hg : boolsAt w gv g) :
    Calls Try.prog 19 #[fv, gv] w fun e w' => e = .returned (.bool (decide (f = g))) ∧ Below w.heap.size w w' := by
  have HF : Hid (boolsAt w fv f) := hf
  have HG : Hid (boolsAt w gv g) := hg
  obtain ⟨fa, fc, rfl, hfm, hfx⟩ := hf
  obtain ⟨ga, gc, rfl, hgm, hgx⟩ := hg
  clear hfx hgx
  by_cases hl : f.length = g.length
  · have HL : Hid (f.length = g.length) := hl
    rw [← hl]
    clear hl
    go_enter Try.func19, Try.ntmps19
    go_wp2_with fail
    go_loopw [5] (fun i wr => ∃ j : Nat, j ≤ f.length ∧ i = .int .i64 j ∧ f.take j = g.take j ∧ Below w.heap.size w wr) (fun i _ => f.length - (intOf i).toNat)
    case atStart => exact ⟨0, Nat.zero_le _, rfl, rfl, Below.refl _ _⟩
    case round =>
      obtain ⟨j, hj, rfl, hall, hbw⟩ := hrel
      by_cases hlt : j < f.length
      · have hlt2 : j < g.length := by have := HL.out; omega
        have HT : Hid (f[j] = g[j] → f.take (j + 1) = g.take (j + 1)) := fun h => (take_same hlt hlt2).2 ⟨hall, h⟩
        have HN : Hid (f[j] ≠ g[j] → decide (f = g) = false) := fun h => by simp only [decide_eq_false_iff_not]; rintro rfl; exact h rfl
        obtain ⟨b1, o1, c1, hv1, hb1, hc1⟩ := slice_cells HF.out hlt
        obtain ⟨rfl, rfl⟩ : fa = some ⟨b1, o1, none⟩ ∧ fc = c1 := by simpa using hv1
        obtain ⟨b2, o2, c2, hv2, hb2, hc2⟩ := slice_cells HG.out hlt2
        obtain ⟨rfl, rfl⟩ : ga = some ⟨b2, o2, none⟩ ∧ gc = c2 := by simpa using hv2
        have t0 := boolAt.lasts w wr b1 _ _ hbw hb1 hc1
        have u0 := boolAt.lasts w wr b2 _ _ hbw hb2 hc2
        have s1 : b1 < wr.heap.size := Nat.lt_of_lt_of_le hb1 hbw.size
        have s2 : b2 < wr.heap.size := Nat.lt_of_lt_of_le hb2 hbw.size
        have hjl : (j : Int) < (f.length : Int) := by omega
        have hjg : (j : Int) < (g.length : Int) := by omega
        have hj0 : (0 : Int) ≤ (j : Int) := by omega
        clear hv1 hv2 hc1 hc2 hall HF HG
        generalize f[j] = y at *
        generalize g[j] = z at *
        have L0 : ∀ x : Low wr.heap.size wr, x.wd.cell? ⟨b1, o1 + j, none⟩ = some (.bool y) := fun x => (cell_lasts x.low s1).trans (by rw [← Nat.mul_one j]; exact t0)
        have M0 : ∀ x : Low wr.heap.size wr, x.wd.cell? ⟨b2, o2 + j, none⟩ = some (.bool z) := fun x => (cell_lasts x.low s2).trans (by rw [← Nat.mul_one j]; exact u0)
        by_cases h0 : y = z
        · have H3 : Hid (f.take (j + 1) = g.take (j + 1)) := HT.out h0
          have hd : (y == z) = true := by subst h0; simp
          clear HN HT
          go_wp2_with fail
          refine wp_region_low wr.heap.size (by kernel_rfl) (by kernel_rfl) ?_
          repeat (go_big_quiet_step (fail))
          refine wpQuiet_nil ?_
          rintro _ ⟨⟨w1, hk⟩, rfl⟩
          clear L0 M0
          go_wp2_with fail
          go_roundw
          case rel => exact ⟨j + 1, by omega, by go_num, H3.out, hbw.trans (hk.mono hbw.size)⟩
          case measure => simp [intOf]; omega
        · have H3 : Hid (decide (f = g) = false) := HN.out h0
          have hd : (y == z) = false := by simpa using h0
          clear HN HT
          go_wp2_with fail
          refine wp_region_low wr.heap.size (by kernel_rfl) (by kernel_rfl) ?_
          repeat (go_big_quiet_step (fail))
          refine wpQuiet_nil ?_
          rintro _ ⟨⟨w1, hk⟩, rfl⟩
          clear L0 M0
          go_wp2_with fail
          go_ret
          exact ⟨by rw [H3.out]; rfl, hbw.trans (hk.mono hbw.size)⟩
      · obtain rfl : j = f.length := by omega
        have H3 : Hid (decide (f = g) = true) := by
          have := HL.out
          rw [List.take_length, this, List.take_length] at hall
          exact decide_eq_true hall
        clear hall HF HG
        go_wp2_with fail
        go_ret
        exact ⟨by rw [H3.out]; rfl, hbw⟩
  · have H3 : Hid (decide (f = g) = false) := decide_eq_false (by rintro rfl; exact hl rfl)
    have hd : decide ((f.length : Int) = (g.length : Int)) = false := decide_eq_false (by omega)
    go_enter Try.func19, Try.ntmps19
    go_wp2_with fail
    go_ret
    exact ⟨by rw [H3.out]; rfl, Below.refl _ _⟩
end Go.Proofs.Ytgbacodellfacab.Prog
