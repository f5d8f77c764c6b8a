/-
  What the parts of Check of package rule answer that ask for variables that are bound and for the value that a rule tells; and the document's own.
-/
import Derived.Test.YtgbacodellfacabRule2
namespace Go.Proofs.Ytgbacodellfacab.Rule
open Go.ChangeShapes Go.WideShapes Go.ChangeAt Go.RowKit
open Lat (within within_c)

def boundIn (v : Int) (l : Ltr) : Bool := !l.neg && stands l.atom.args v
def bound (r : Rul) (v : Int) : Bool := r.body.any (boundIn v)
def handed (ps : List Prd) (r : Rul) : Bool := (r.body[r.src.toNat]?.map fun l => !l.neg && kindOf ps l.atom.pred == kindOf ps r.head.pred).getD false
/-- B2, the last part: what a rule's value asks -/
def valueErr (ps : List Prd) (r : Rul) : Int :=
  if r.src < -1 ∨ (r.body.length : Int) ≤ r.src then 3
  else if kindOf ps r.head.pred = 0 ∧ (r.src ≠ -1 ∨ r.n ≠ 0) then 1
  else if 0 ≤ r.src ∧ handed ps r = false then 1
  else if r.n < 0 ∨ 15 < r.n then 3 else 0

set_option maxHeartbeats 1000000 in
theorem bound_c (w : World) (r : Rul) (hv bv : Value) (v : Int) (hb : litsAt w bv r.body) :
    Calls Try.prog 66 #[.agg #[.int .i64 r.head.pred, hv, .int .i64 r.src, .int .i64 r.n, bv], .int .i64 v] w fun e w' => e = .returned (.bool (bound r v)) ∧ Below w.heap.size w w' := by
  obtain ⟨a, cap, rfl, hm, hx⟩ := hb
  have HX : Hid (r.body = [] ∨ ∃ b off, a = some ⟨b, off, none⟩ ∧ b < w.heap.size ∧ ∀ i x, r.body[i]? = some x → litAt w b (off + i * 3) x) := hx
  clear hx
  go_enter Try.func66, Try.ntmps66
  go_wp2_with fail
  go_loopw [5] (fun i wr => ∃ j : Nat, j ≤ r.body.length ∧ i = .int .i64 j ∧ (r.body.take j).any (boundIn v) = false ∧
      Below (w.heap.size + 1) (w.alloc (.cells #[.int .i64 r.head.pred, hv, .int .i64 r.src, .int .i64 r.n, .slice a r.body.length cap] 48)) wr) (fun i _ => r.body.length - (intOf i).toNat)
  case atStart => exact ⟨0, Nat.zero_le _, rfl, rfl, Below.refl _ _⟩
  case round =>
    obtain ⟨j, hj, rfl, hall, hbr⟩ := hrel
    have hbw : Below w.heap.size w wr := (below_alloc _ _).trans (hbr.mono (by omega))
    have c4 : wr.cell? ⟨w.heap.size, 4, none⟩ = some (.slice a r.body.length cap) := by rw [hbr.cell (p := ⟨w.heap.size, 4, none⟩) (by simp)]; simp [go_sem]
    by_cases hlt : j < r.body.length
    · obtain ⟨b', off', rfl, hbl', hx⟩ := HX.out.resolve_left (by intro e; rw [e] at hlt; simp at hlt)
      obtain ⟨ht1, ht2, ta, tc, ht3, ht4⟩ := (litAt.lasts w wr b' _ _ hbw hbl' (hx j r.body[j] (by simp [hlt]))).open
      have H : Hid ((r.body.take (j + 1)).any (boundIn v) = boundIn v r.body[j]) := by show _ = _; rw [any_take hlt, hall, Bool.false_or]
      have H2 : Hid (boundIn v r.body[j] = true → bound r v = true) := fun h => any_of hlt h
      clear hx hall HX
      generalize r.body[j] = l at *
      obtain ⟨ln, lp, lt⟩ := l
      have HT : Hid (termsAt wr (.slice ta lt.length tc) lt) := ht4
      clear ht4
      cases ln
      · have hS : boundIn v ⟨false, lp, lt⟩ = stands lt v := rfl
        rw [hS] at H H2
        clear hS
        go_wp2_with fail
        refine (stands_c _ _ _ _ lt HT.out).mono ?_
        rintro e w1 ⟨rfl, hb1⟩
        have hbn : Below (w.heap.size + 1) (w.alloc (.cells #[.int .i64 r.head.pred, hv, .int .i64 r.src, .int .i64 r.n, .slice (some ⟨b', off', none⟩) r.body.length cap] 48)) w1 := hbr.trans (hb1.mono (by have := hbr.size; simp at this; omega))
        cases hs : stands lt v
        · rw [hs] at H
          clear H2
          go_wp2_with fail
          go_roundw
          case rel => exact ⟨j + 1, by omega, by go_num, H.out, hbn⟩
          case measure => simp [intOf]; omega
        · have H3 : Hid (bound r v = true) := H2.out hs
          clear H H2
          go_wp2_with fail
          go_ret
          exact ⟨ret_bool H3.out.symm, (below_alloc _ _).trans (hbn.mono (by omega))⟩
      · have H3 : Hid ((r.body.take (j + 1)).any (boundIn v) = false) := H.out
        clear H H2
        go_wp2_with fail
        go_roundw
        case rel => exact ⟨j + 1, by omega, by go_num, H3.out, hbr⟩
        case measure => simp [intOf]; omega
    · have H : Hid (bound r v = false) := any_take_end hlt hall
      go_wp2_with fail
      go_ret
      exact ⟨ret_bool H.out.symm, hbw⟩

theorem hands_c (w : World) (pv : Value) (ps : List Prd) (ln : Bool) (lp : Int) (lv : Value) (k : Int) (hp : predsAt w pv ps) (hl : isPred ps lp = true) :
    Calls Try.prog 99 #[pv, .agg #[.bool ln, .int .i64 lp, lv], .int .i64 k] w fun e w' => e = .returned (.bool (!ln && kindOf ps lp == k)) ∧ Below w.heap.size w w' := by
  obtain ⟨pa, pcap, rfl, hpm, hpx⟩ := hp
  obtain ⟨m, hk, rfl⟩ := isPred_iff.1 hl
  obtain ⟨b, off, rfl, hbl, hpx⟩ := hpx.resolve_left (by rintro rfl; simp at hk)
  obtain ⟨hc0, hc1, hc2⟩ := hpx m ps[m] (by simp [hk])
  have ha : kindOf ps (m : Int) = ps[m].kind := by simp [kindOf, hk]
  rw [ha]
  clear hpx ha hl
  cases ln
  · cases h : (ps[m].kind == k)
    all_goals
      go_enter Try.func99, Try.ntmps99
      go_wp2_with fail
      go_ret
      exact ⟨rfl, below_alloc _ _⟩
  · go_enter Try.func99, Try.ntmps99
    go_wp2_with fail
    go_ret
    exact ⟨rfl, below_alloc _ _⟩

theorem valueErr_range {ps : List Prd} {r : Rul} (h : r.src < -1 ∨ (r.body.length : Int) ≤ r.src) : valueErr ps r = 3 := by rw [valueErr, if_pos h]
theorem valueErr_plain {ps : List Prd} {r : Rul} (h : ¬ (r.src < -1 ∨ (r.body.length : Int) ≤ r.src)) (hk : kindOf ps r.head.pred = 0) (g : r.src ≠ -1 ∨ r.n ≠ 0) : valueErr ps r = 1 := by rw [valueErr, if_neg h, if_pos ⟨hk, g⟩]
theorem valueErr_hand {ps : List Prd} {r : Rul} (h : ¬ (r.src < -1 ∨ (r.body.length : Int) ≤ r.src)) (hk : kindOf ps r.head.pred ≠ 0) (h0 : 0 ≤ r.src) (g : handed ps r = false) : valueErr ps r = 1 := by
  rw [valueErr, if_neg h, if_neg (fun x => hk x.1), if_pos ⟨h0, g⟩]
theorem valueErr_n {ps : List Prd} {r : Rul} (h : ¬ (r.src < -1 ∨ (r.body.length : Int) ≤ r.src)) (hk : kindOf ps r.head.pred = 0 → r.src = -1 ∧ r.n = 0) (g : 0 ≤ r.src → handed ps r = true) :
    valueErr ps r = if r.n < 0 ∨ 15 < r.n then 3 else 0 := by
  rw [valueErr, if_neg h, if_neg (fun x => by obtain ⟨x1, x2⟩ := x; have := hk x1; omega), if_neg (fun x => by rw [g x.1] at x; cases x.2)]

set_option maxHeartbeats 4000000 in
theorem checkValue_c (w : World) (pv : Value) (ps : List Prd) (r : Rul) (hv bv : Value) (hp : predsAt w pv ps) (hb : litsAt w bv r.body) (hh : isPred ps r.head.pred = true) (hls : ∀ l ∈ r.body, isPred ps l.atom.pred = true) :
    Calls Try.prog 89 #[pv, .agg #[.int .i64 r.head.pred, hv, .int .i64 r.src, .int .i64 r.n, bv]] w fun e w' => e = .returned (.int .i64 (valueErr ps r)) ∧ Below w.heap.size w w' := by
  have hp' := hp
  have HP : Hid (∀ (w1 : World), Below w.heap.size w w1 → predsAt w1 pv ps) := fun w1 hb => predsAt.lasts hb hp'
  clear hp'
  obtain ⟨a, cap, rfl, hm, hx⟩ := hb
  obtain ⟨pa, pcap, rfl, hpm, hpx⟩ := hp
  obtain ⟨m, hk, hhp⟩ := isPred_iff.1 hh
  obtain ⟨b, off, rfl, hbl, hpx⟩ := hpx.resolve_left (by rintro rfl; simp at hk)
  obtain ⟨hc0, hc1, hc2⟩ := hpx m ps[m] (by simp [hk])
  have ha : kindOf ps r.head.pred = ps[m].kind := by rw [hhp]; simp [kindOf, hk]
  clear hpx hc0 hc1
  by_cases h1 : r.src < -1 ∨ (r.body.length : Int) ≤ r.src
  · rw [valueErr_range h1, hhp]
    clear ha hx hls hh
    rcases h1 with h1 | h1
    · go_enter Try.func89, Try.ntmps89
      go_wp2_with fail
      go_ret
      exact ⟨rfl, below_alloc _ _⟩
    · have h1' : decide (r.src < -1) = false := by simp; omega
      go_enter Try.func89, Try.ntmps89
      go_wp2_with fail
      go_ret
      exact ⟨rfl, below_alloc _ _⟩
  · have hs1 : decide (r.src < -1) = false := by simp; omega
    have hs2 : decide ((r.body.length : Int) ≤ r.src) = false := by simp; omega
    by_cases h0 : ps[m].kind = 0
    · have h0' : (ps[m].kind == 0) = true := by simp [h0]
      by_cases h2 : r.src = -1
      · have h2' : (r.src != -1) = false := by simp [h2]
        have h3' : decide (0 ≤ r.src) = false := by simp; omega
        by_cases h3 : r.n = 0
        · rw [valueErr_n h1 (fun _ => ⟨h2, h3⟩) (fun g => by omega), if_neg (by omega), hhp]
          clear ha hx hls hh h0 h1 h2
          have h4' : (r.n != 0) = false := by simp [h3]
          have h5' : decide (r.n < 0) = false := by simp; omega
          have h6' : decide (15 < r.n) = false := by simp; omega
          clear h3
          go_enter Try.func89, Try.ntmps89
          go_wp2_with fail
          go_ret
          exact ⟨rfl, below_alloc _ _⟩
        · rw [valueErr_plain h1 (ha.trans h0) (.inr h3), hhp]
          clear ha hx hls hh h0 h1 h2
          have h4' : (r.n != 0) = true := by simpa using h3
          clear h3
          go_enter Try.func89, Try.ntmps89
          go_wp2_with fail
          go_ret
          exact ⟨rfl, below_alloc _ _⟩
      · rw [valueErr_plain h1 (ha.trans h0) (.inl h2), hhp]
        clear ha hx hls hh h0 h1
        have h2' : (r.src != -1) = true := by simpa using h2
        clear h2
        go_enter Try.func89, Try.ntmps89
        go_wp2_with fail
        go_ret
        exact ⟨rfl, below_alloc _ _⟩
    · have h0' : (ps[m].kind == 0) = false := by simpa using h0
      by_cases h2 : 0 ≤ r.src
      · have h2' : decide (0 ≤ r.src) = true := by simpa using h2
        obtain ⟨j, hj⟩ : ∃ j : Nat, r.src = (j : Int) := ⟨r.src.toNat, by omega⟩
        have hlt : j < r.body.length := by omega
        obtain ⟨b', off', rfl, hbl', hx⟩ := hx.resolve_left (by intro e; rw [e] at hlt; simp at hlt)
        obtain ⟨ht1, ht2, ta, tc, ht3, _⟩ := (hx j r.body[j] (by simp [hlt])).open
        have hl := hls r.body[j] (List.getElem_mem hlt)
        have hhd : handed ps r = (!r.body[j].neg && kindOf ps r.body[j].atom.pred == ps[m].kind) := by simp [handed, hj, hlt, ha]
        clear hx hls hh
        rw [hhp]
        generalize r.body[j] = l at *
        cases hd : (!l.neg && kindOf ps l.atom.pred == ps[m].kind)
        · rw [valueErr_hand h1 (by rw [ha]; exact h0) h2 (hhd.trans hd)]
          clear ha hhd h0 h1 h2 hhp
          have HP2 : Hid (r.src = (j : Int)) := hj
          rw [HP2.out]
          rw [HP2.out] at hs1 hs2 h2'
          clear hj HP2
          go_enter Try.func89, Try.ntmps89
          go_wp2_with fail
          refine (hands_c _ _ ps _ _ _ _ (HP.out _ (by exact below_alloc _ _)) hl).mono ?_
          rintro e w1 ⟨rfl, hb1⟩
          obtain ⟨hc, hf⟩ := bcell hb1
          go_wp2_with fail
          go_ret
          exact ⟨rfl, below_trans (below_alloc _ _) hb1⟩
        · have hn := valueErr_n (ps := ps) (r := r) h1 (fun e => absurd (ha.symm.trans e) h0) (fun _ => hhd.trans hd)
          clear ha hhd h0 h1 h2 hhp
          have HP2 : Hid (r.src = (j : Int)) := hj
          have HN : Hid (valueErr ps r = if r.n < 0 ∨ 15 < r.n then 3 else 0) := hn
          rw [HP2.out]
          rw [HP2.out] at hs1 hs2 h2'
          clear hj HP2 hn
          by_cases h3 : r.n < 0
          · rw [HN.out, if_pos (.inl h3)]
            clear HN
            have h3' : decide (r.n < 0) = true := by simpa using h3
            clear h3
            go_enter Try.func89, Try.ntmps89
            go_wp2_with fail
            refine (hands_c _ _ ps _ _ _ _ (HP.out _ (by exact below_alloc _ _)) hl).mono ?_
            rintro e w1 ⟨rfl, hb1⟩
            obtain ⟨hc, hf⟩ := bcell hb1
            go_wp2_with fail
            go_ret
            exact ⟨rfl, below_trans (below_alloc _ _) hb1⟩
          · have h3' : decide (r.n < 0) = false := by simpa using h3
            by_cases h4 : 15 < r.n
            · rw [HN.out, if_pos (.inr h4)]
              clear HN h3
              have h4' : decide (15 < r.n) = true := by simpa using h4
              clear h4
              go_enter Try.func89, Try.ntmps89
              go_wp2_with fail
              refine (hands_c _ _ ps _ _ _ _ (HP.out _ (by exact below_alloc _ _)) hl).mono ?_
              rintro e w1 ⟨rfl, hb1⟩
              obtain ⟨hc, hf⟩ := bcell hb1
              go_wp2_with fail
              go_ret
              exact ⟨rfl, below_trans (below_alloc _ _) hb1⟩
            · rw [HN.out, if_neg (by omega)]
              clear HN h3
              have h4' : decide (15 < r.n) = false := by simpa using h4
              clear h4
              go_enter Try.func89, Try.ntmps89
              go_wp2_with fail
              refine (hands_c _ _ ps _ _ _ _ (HP.out _ (by exact below_alloc _ _)) hl).mono ?_
              rintro e w1 ⟨rfl, hb1⟩
              obtain ⟨hc, hf⟩ := bcell hb1
              go_wp2_with fail
              go_ret
              exact ⟨rfl, below_trans (below_alloc _ _) hb1⟩
      · have h2' : decide (0 ≤ r.src) = false := by simpa using h2
        have hn := valueErr_n (ps := ps) (r := r) h1 (fun e => absurd (ha.symm.trans e) h0) (fun e => absurd e h2)
        rw [hn, hhp]
        clear ha hx hls hh h0 h1 h2 hn hhp
        by_cases h3 : r.n < 0
        · rw [if_pos (.inl h3)]
          have h3' : decide (r.n < 0) = true := by simpa using h3
          clear h3
          go_enter Try.func89, Try.ntmps89
          go_wp2_with fail
          go_ret
          exact ⟨rfl, below_alloc _ _⟩
        · have h3' : decide (r.n < 0) = false := by simpa using h3
          by_cases h4 : 15 < r.n
          · rw [if_pos (.inr h4)]
            clear h3
            have h4' : decide (15 < r.n) = true := by simpa using h4
            clear h4
            go_enter Try.func89, Try.ntmps89
            go_wp2_with fail
            go_ret
            exact ⟨rfl, below_alloc _ _⟩
          · rw [if_neg (by omega)]
            clear h3
            have h4' : decide (15 < r.n) = false := by simpa using h4
            clear h4
            go_enter Try.func89, Try.ntmps89
            go_wp2_with fail
            go_ret
            exact ⟨rfl, below_alloc _ _⟩
end Go.Proofs.Ytgbacodellfacab.Rule
