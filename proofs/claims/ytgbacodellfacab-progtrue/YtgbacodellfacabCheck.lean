/-
  What Check of package rule answers.
-/
import Derived.Test.YtgbacodellfacabHasFree
import Derived.Test.YtgbacodellfacabRulePlain
namespace Go.Proofs.Ytgbacodellfacab.Rule
open Go.ChangeShapes Go.WideShapes Go.ChangeAt Go.RowKit Go.Maps
open Lat (within within_c)

theorem cnt_pos {ts : List Tm} {v : Int} : 0 < cnt ts v ↔ stands ts v = true := by
  rw [cnt, List.countP_pos_iff, stands, List.any_eq_true]
theorem countA_pos : ∀ {ats : List Atm} {v : Int}, 0 < countA ats v ↔ ∃ a ∈ ats, stands a.args v = true
  | [], v => by simp [countA]
  | a :: l, v => by
    have ih := countA_pos (ats := l) (v := v)
    have hc := cnt_pos (ts := a.args) (v := v)
    have e : countA (a :: l) v = cnt a.args v + countA l v := by simp [countA]
    rw [e]
    constructor
    · intro h
      by_cases h1 : 0 < cnt a.args v
      · exact ⟨a, by simp, hc.1 h1⟩
      · obtain ⟨x, hx, hs⟩ := ih.1 (by omega)
        exact ⟨x, by simp [hx], hs⟩
    · rintro ⟨x, hx, hs⟩
      rcases List.mem_cons.1 hx with rfl | hx
      · have := hc.2 hs; omega
      · have := ih.2 ⟨x, hx, hs⟩; omega
theorem mem_picked {ls : List Ltr} {not : Bool} {a : Atm} : a ∈ picked ls not ↔ ∃ l ∈ ls, l.neg = not ∧ l.atom = a := by
  simp only [picked, List.mem_map, List.mem_filter, beq_iff_eq]
  constructor
  · rintro ⟨l, ⟨h1, h2⟩, h3⟩; exact ⟨l, h1, h2, h3⟩
  · rintro ⟨l, h1, h2, h3⟩; exact ⟨l, ⟨h1, h2⟩, h3⟩
/-- the code's way to ask for free variables is the document's -/
theorem free_same (r : Rul) (v : Int) : freeAt r v = freeR r v := by
  have hb : bound r v = true ↔ 0 < countA (picked r.body false) v := by
    rw [countA_pos, bound, List.any_eq_true]
    constructor
    · rintro ⟨l, hl, h⟩
      simp only [boundIn, Bool.and_eq_true, Bool.not_eq_true'] at h
      exact ⟨l.atom, mem_picked.2 ⟨l, hl, h.1, rfl⟩, h.2⟩
    · rintro ⟨a, ha, hs⟩
      obtain ⟨l, hl, hn, rfl⟩ := mem_picked.1 ha
      exact ⟨l, hl, by simp only [boundIn, hn, Bool.not_false, Bool.true_and]; exact hs⟩
  have ha : 0 < countA (picked r.body true ++ [r.head]) v → asked r v = true := by
    rw [countA_pos]
    rintro ⟨a, ha, hs⟩
    simp only [asked, Bool.or_eq_true]
    rcases List.mem_append.1 ha with ha | ha
    · obtain ⟨l, hl, _, rfl⟩ := mem_picked.1 ha
      exact .inr (List.any_eq_true.2 ⟨l, hl, hs⟩)
    · obtain rfl := List.mem_singleton.1 ha
      exact .inl hs
  have hc : asked r v = true → bound r v = false → 0 < countA (picked r.body true ++ [r.head]) v := by
    intro h1 h2
    rw [countA_pos]
    simp only [asked, Bool.or_eq_true] at h1
    rcases h1 with h1 | h1
    · exact ⟨r.head, by simp, h1⟩
    · obtain ⟨l, hl, hs⟩ := List.any_eq_true.1 h1
      cases hn : l.neg
      · have : bound r v = true := List.any_eq_true.2 ⟨l, hl, by simp only [boundIn, hn, Bool.not_false, Bool.true_and]; exact hs⟩
        rw [this] at h2
        cases h2
      · exact ⟨l.atom, List.mem_append.2 (.inl (mem_picked.2 ⟨l, hl, hn, rfl⟩)), hs⟩
  rw [Bool.eq_iff_iff]
  simp only [freeAt, freeR, Bool.and_eq_true, decide_eq_true_eq, beq_iff_eq, Bool.not_eq_true']
  constructor
  · rintro ⟨h1, h2⟩
    refine ⟨ha h1, ?_⟩
    cases hx : bound r v
    · rfl
    · have := hb.1 hx; omega
  · rintro ⟨h1, h2⟩
    refine ⟨hc h1 h2, ?_⟩
    have : ¬ 0 < countA (picked r.body false) v := fun h => by rw [hb.2 h] at h2; cases h2
    omega

theorem free_all (r : Rul) : free r = (freeR r 0 || (freeR r 1 || freeR r 2)) := by rw [free, free_same, free_same, free_same]

set_option maxRecDepth 100000 in
set_option maxHeartbeats 4000000 in
theorem check_c (w : World) (pv : Value) (ps : List Prd) (r : Rul) (hv bv : Value) (hp : predsAt w pv ps) (hh : termsAt w hv r.head.args) (hb : litsAt w bv r.body) :
    Calls Try.prog 69 #[pv, .agg #[.int .i64 r.head.pred, hv, .int .i64 r.src, .int .i64 r.n, bv]] w fun e w' => e = .returned (.int .i64 (ruleErr ps r)) ∧ Below w.heap.size w w' := by
  have HP : Hid (∀ (w1 : World), Below w.heap.size w w1 → predsAt w1 pv ps) := fun w1 hb1 => predsAt.lasts hb1 hp
  have HH : Hid (∀ (w1 : World), Below w.heap.size w w1 → termsAt w1 hv r.head.args) := fun w1 hb1 => termsAt.lasts hb1 hh
  have HB : Hid (∀ (w1 : World), Below w.heap.size w w1 → litsAt w1 bv r.body) := fun w1 hb1 => litsAt.lasts hb1 hb
  obtain ⟨ha, hcap, rfl, _⟩ := hh
  obtain ⟨pa, pcap, rfl, _⟩ := hp
  obtain ⟨a, cap, rfl, hm, hx⟩ := hb
  have HX : Hid (r.body = [] ∨ ∃ b off, a = some ⟨b, off, none⟩ ∧ b < w.heap.size ∧ ∀ i x, r.body[i]? = some x → litAt w b (off + i * 3) x) := hx
  clear hx
  by_cases h1 : atomErr ps r.head = 0
  · by_cases h3 : 3 < r.body.length
    · rw [ruleErr_many h1 h3]
      have h1' : atomErr ps ⟨r.head.pred, r.head.args⟩ = 0 := h1
      have h3' : (3 : Int) < (r.body.length : Int) := by omega
      clear h1 HX
      go_enter Try.func69, Try.ntmps69
      go_wp2_with fail
      refine (atom_c _ _ _ ps _ _ (HP.out _ (by exact below_alloc _ _)) (HH.out _ (by exact below_alloc _ _))).mono ?_
      rintro e w1 ⟨rfl, hb1⟩
      have c4 : w1.cell? ⟨w.heap.size, 4, none⟩ = some (.slice a r.body.length cap) := by rw [hb1.cell (p := ⟨w.heap.size, 4, none⟩) (by simp)]; simp [go_sem]
      go_wp2_with fail
      go_ret
      exact ⟨rfl, below_trans (below_alloc _ _) hb1⟩
    · have h1' : atomErr ps ⟨r.head.pred, r.head.args⟩ = 0 := h1
      have H1 : Hid (atomErr ps r.head = 0) := h1
      have h3' : ¬ (3 : Int) < (r.body.length : Int) := by omega
      clear h1
      go_enter Try.func69, Try.ntmps69
      go_wp2_with fail
      refine (atom_c _ _ _ ps _ _ (HP.out _ (by exact below_alloc _ _)) (HH.out _ (by exact below_alloc _ _))).mono ?_
      rintro e w1 ⟨rfl, hb1⟩
      have c4 : w1.cell? ⟨w.heap.size, 4, none⟩ = some (.slice a r.body.length cap) := by rw [hb1.cell (p := ⟨w.heap.size, 4, none⟩) (by simp)]; simp [go_sem]
      have HB1 : Hid (Below (w.heap.size + 1) (w.alloc (.cells #[.int .i64 r.head.pred, .slice ha r.head.args.length hcap, .int .i64 r.src, .int .i64 r.n, .slice a r.body.length cap] 48)) w1) := hb1.mono (by simp)
      clear hb1
      go_wp2_with fail
      clear c4
      go_loopw [23] (fun i wr => ∃ j : Nat, j ≤ r.body.length ∧ i = .int .i64 j ∧ (r.body.take j).all (atomOk ps) = true ∧
          Below (w.heap.size + 1) (w.alloc (.cells #[.int .i64 r.head.pred, .slice ha r.head.args.length hcap, .int .i64 r.src, .int .i64 r.n, .slice a r.body.length cap] 48)) wr) (fun i _ => r.body.length - (intOf i).toNat)
      case atStart => exact ⟨0, Nat.zero_le _, rfl, rfl, HB1.out⟩
      case round =>
        obtain ⟨j, hj, rfl, hall, hbr⟩ := hrel
        have hbw : Below w.heap.size w wr := (below_alloc _ _).trans (hbr.mono (by omega))
        by_cases hlt : j < r.body.length
        · obtain ⟨b', off', rfl, hbl', hx⟩ := HX.out.resolve_left (by intro e; rw [e] at hlt; simp at hlt)
          obtain ⟨ht1, ht2, ta, tc, ht3, ht4⟩ := (litAt.lasts w wr b' _ _ hbw hbl' (hx j r.body[j] (by simp [hlt]))).open
          have H : Hid ((r.body.take (j + 1)).all (atomOk ps) = atomOk ps r.body[j]) := by show _ = _; rw [all_take hlt, hall, Bool.true_and]
          have H2 : Hid (atomErr ps r.body[j].atom ≠ 0 → ruleErr ps r = atomErr ps r.body[j].atom) := fun hn => ruleErr_body H1.out h3 hlt hall hn
          clear hx hall HX
          generalize r.body[j] = l at *
          obtain ⟨ln, lp, lt⟩ := l
          have HT : Hid (∀ w1, Below wr.heap.size wr w1 → termsAt w1 (.slice ta lt.length tc) lt) := fun w1 h => termsAt.lasts h ht4
          clear ht4
          go_wp2_with fail
          refine (atom_c _ _ _ ps _ _ (HP.out _ (hbw.alloc hbw.size _)) (HT.out _ (by exact below_alloc _ _))).mono ?_
          rintro e w2 ⟨rfl, hb2⟩
          have hb3 : Below wr.heap.size wr w2 := below_trans (below_alloc _ _) hb2
          clear hb2
          by_cases hn : atomErr ps ⟨lp, lt⟩ = 0
          · have H3 : Hid ((r.body.take (j + 1)).all (atomOk ps) = true) := by show _ = _; rw [H.out, atomOk]; simpa using hn
            clear H H2
            go_wp2_with fail
            go_roundw
            case rel => exact ⟨j + 1, by omega, by go_num, H3.out, hbr.trans (hb3.mono (by have := hbr.size; simp at this; omega))⟩
            case measure => simp [intOf]; omega
          · have H3 : Hid (ruleErr ps r = atomErr ps ⟨lp, lt⟩) := H2.out hn
            have hn' : (atomErr ps ⟨lp, lt⟩ != 0) = true := by simpa using hn
            clear H H2 hn
            go_wp2_with fail
            go_ret
            exact ⟨ret_int H3.out.symm, hbw.trans (hb3.mono hbw.size)⟩
        · have hall' : r.body.all (atomOk ps) = true := all_take_end hlt hall
          have hat : ∀ l ∈ r.body, isPred ps l.atom.pred = true ∧ l.atom.args.all termOk = true := fun l hl => atom_right (by have := List.all_eq_true.1 hall' l hl; simpa [atomOk] using this)
          have HAT : Hid (∀ l ∈ r.body, isPred ps l.atom.pred = true ∧ l.atom.args.all termOk = true) := hat
          have HF : Hid (free r = true → ruleErr ps r = 9) := fun h => ruleErr_free H1.out h3 hall' (by rw [← free_all]; exact h)
          have HV : Hid (free r = false → ruleErr ps r = valueErr ps r) := fun h => ruleErr_value H1.out h3 hall' (by rw [← free_all]; exact h)
          clear hall hall' hat HX
          have y0 : wr.cell? ⟨w.heap.size, 0, none⟩ = some (.int .i64 r.head.pred) := by rw [hbr.cell (p := ⟨w.heap.size, 0, none⟩) (by simp)]; simp [go_sem]
          have y1 : wr.cell? ⟨w.heap.size, 1, none⟩ = some (.slice ha r.head.args.length hcap) := by rw [hbr.cell (p := ⟨w.heap.size, 1, none⟩) (by simp)]; simp [go_sem]
          have y2 : wr.cell? ⟨w.heap.size, 2, none⟩ = some (.int .i64 r.src) := by rw [hbr.cell (p := ⟨w.heap.size, 2, none⟩) (by simp)]; simp [go_sem]
          have y3 : wr.cell? ⟨w.heap.size, 3, none⟩ = some (.int .i64 r.n) := by rw [hbr.cell (p := ⟨w.heap.size, 3, none⟩) (by simp)]; simp [go_sem]
          have y4 : wr.cell? ⟨w.heap.size, 4, none⟩ = some (.slice a r.body.length cap) := by rw [hbr.cell (p := ⟨w.heap.size, 4, none⟩) (by simp)]; simp [go_sem]
          have hsz : w.heap.size < wr.heap.size := by have := hbr.size; simp at this; omega
          go_wp2_with fail
          refine (hasFree_c _ r ha hcap _ (HH.out _ hbw) (HB.out _ hbw) (by omega) (atom_right H1.out).2 (fun l hl => (HAT.out l hl).2)).mono ?_
          rintro e w2 ⟨rfl, hb2⟩
          have hbw2 : Below w.heap.size w w2 := hbw.trans (hb2.mono hbw.size)
          cases hf : free r
          · have H3 : Hid (ruleErr ps r = valueErr ps r) := HV.out hf
            clear HF HV
            have q0 := (cell_lasts hb2 hsz).trans y0
            have q1 := (cell_lasts hb2 hsz).trans y1
            have q2 := (cell_lasts hb2 hsz).trans y2
            have q3 := (cell_lasts hb2 hsz).trans y3
            have q4 := (cell_lasts hb2 hsz).trans y4
            clear y0 y1 y2 y3 y4
            go_wp2_with fail
            refine (checkValue_c _ _ ps r _ _ (HP.out _ hbw2) (HB.out _ hbw2) (atom_right H1.out).1 (fun l hl => (HAT.out l hl).1)).mono ?_
            rintro e w3 ⟨rfl, hb3⟩
            go_wp2_with fail
            go_ret
            exact ⟨ret_int H3.out.symm, hbw2.trans (hb3.mono hbw2.size)⟩
          · have H3 : Hid (ruleErr ps r = 9) := HF.out hf
            clear HF HV y0 y1 y2 y3 y4
            go_wp2_with fail
            go_ret
            exact ⟨ret_int H3.out.symm, hbw2⟩
  · rw [ruleErr_head h1]
    have h1' : (atomErr ps ⟨r.head.pred, r.head.args⟩ != 0) = true := by simpa using h1
    clear h1 HX
    go_enter Try.func69, Try.ntmps69
    go_wp2_with fail
    refine (atom_c _ _ _ ps _ _ (HP.out _ (by exact below_alloc _ _)) (HH.out _ (by exact below_alloc _ _))).mono ?_
    rintro e w1 ⟨rfl, hb1⟩
    go_wp2_with fail
    go_ret
    exact ⟨rfl, below_trans (below_alloc _ _) hb1⟩
end Go.Proofs.Ytgbacodellfacab.Rule
