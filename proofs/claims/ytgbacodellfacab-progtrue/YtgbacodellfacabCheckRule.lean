/-
  What the document's own reckoning of a rule's errors answers.
-/
import Derived.Test.YtgbacodellfacabRulePlain
namespace Go.Proofs.Ytgbacodellfacab.Rule
open Go.ChangeShapes Go.WideShapes Go.ChangeAt Go.RowKit
open Lat (within within_c)

/-- some variable below j is free -/
def anyFree (r : Rul) (j : Nat) : Bool := (List.range j).any fun (v : Nat) => freeR r (v : Int)
theorem anyFree_3 (r : Rul) : anyFree r 3 = (freeR r 0 || (freeR r 1 || freeR r 2)) := by simp [anyFree, List.range_succ]
theorem anyFree_succ (r : Rul) (j : Nat) : anyFree r (j + 1) = (anyFree r j || freeR r (j : Int)) := by simp [anyFree, List.range_succ]
theorem anyFree_le {r : Rul} {j : Nat} (h : j < 3) (hf : freeR r (j : Int) = true) : (freeR r 0 || (freeR r 1 || freeR r 2)) = true := by
  rcases (show j = 0 ∨ j = 1 ∨ j = 2 by omega) with rfl | rfl | rfl
  · rw [show freeR r 0 = true from hf]; rfl
  · rw [show freeR r 1 = true from hf]; simp
  · rw [show freeR r 2 = true from hf]; simp

set_option maxRecDepth 100000 in
set_option maxHeartbeats 8000000 in
theorem checkRule_c (w : World) (pv : Value) (ps : List Prd) (r : Rul) (hv bv : Value) (hp : predsAt w pv ps) (hh : termsAt w hv r.head.args) (hb : litsAt w bv r.body) :
    Calls Try.prog 36 #[pv, .agg #[.int .i64 r.head.pred, hv, .int .i64 r.src, .int .i64 r.n, bv]] w fun e w' => e = .returned (.int .i64 (ruleErr ps r)) ∧ Below w.heap.size w w' := by
  have HP : Hid (∀ (w1 : World), Below w.heap.size w w1 → predsAt w1 pv ps) := fun w1 hb1 => predsAt.lasts hb1 hp
  have HH : Hid (∀ (w1 : World), Below w.heap.size w w1 → termsAt w1 hv r.head.args) := fun w1 hb1 => termsAt.lasts hb1 hh
  have HB : Hid (∀ (w1 : World), Below w.heap.size w w1 → litsAt w1 bv r.body) := fun w1 hb1 => litsAt.lasts hb1 hb
  obtain ⟨ha, hcap, rfl, _⟩ := hh
  obtain ⟨pa, pcap, rfl, hpm, hpx⟩ := hp
  obtain ⟨a, cap, rfl, hm, hx⟩ := hb
  have HX : Hid (r.body = [] ∨ ∃ b off, a = some ⟨b, off, none⟩ ∧ b < w.heap.size ∧ ∀ i x, r.body[i]? = some x → litAt w b (off + i * 3) x) := hx
  have HPX : Hid (ps = [] ∨ ∃ b off, pa = some ⟨b, off, none⟩ ∧ b < w.heap.size ∧ ∀ i x, ps[i]? = some x → predAt w b (off + i * 3) x) := hpx
  clear hx hpx
  by_cases h1 : atomErr ps r.head = 0
  · by_cases h3 : 3 < r.body.length
    · rw [ruleErr_many h1 h3]
      have h1' : atomErr ps ⟨r.head.pred, r.head.args⟩ = 0 := h1
      have h3' : (3 : Int) < (r.body.length : Int) := by omega
      clear h1 HX HPX
      go_enter Try.func36, Try.ntmps36
      go_wp2_with fail
      refine (checkAtom_c _ _ _ ps _ _ (HP.out _ (by exact below_alloc _ _)) (HH.out _ (by exact below_alloc _ _))).mono ?_
      rintro e w1 ⟨rfl, hb1⟩
      have c4 : w1.cell? ⟨w.heap.size, 4, none⟩ = some (.slice a r.body.length cap) := by rw [hb1.cell (p := ⟨w.heap.size, 4, none⟩) (by simp)]; simp [go_sem]
      go_wp2_with fail
      go_ret
      exact ⟨rfl, below_trans (below_alloc _ _) hb1⟩
    · have h1' : atomErr ps ⟨r.head.pred, r.head.args⟩ = 0 := h1
      have H1 : Hid (atomErr ps r.head = 0) := h1
      have h3' : ¬ (3 : Int) < (r.body.length : Int) := by omega
      clear h1
      go_enter Try.func36, Try.ntmps36
      go_wp2_with fail
      refine (checkAtom_c _ _ _ ps _ _ (HP.out _ (by exact below_alloc _ _)) (HH.out _ (by exact below_alloc _ _))).mono ?_
      rintro e w1 ⟨rfl, hb1⟩
      have c4 : w1.cell? ⟨w.heap.size, 4, none⟩ = some (.slice a r.body.length cap) := by rw [hb1.cell (p := ⟨w.heap.size, 4, none⟩) (by simp)]; simp [go_sem]
      have HB1 : Hid (Below (w.heap.size + 1) (w.alloc (.cells #[.int .i64 r.head.pred, .slice ha r.head.args.length hcap, .int .i64 r.src, .int .i64 r.n, .slice a r.body.length cap] 48)) w1) := hb1.mono (by simp)
      clear hb1
      go_wp2_with fail
      clear c4
      go_loopw [6] (fun i wr => ∃ j : Nat, j ≤ r.body.length ∧ i = .int .i64 j ∧ (r.body.take j).all (atomOk ps) = true ∧ Below (w.heap.size + 1) (w.alloc (.cells #[.int .i64 r.head.pred, .slice ha r.head.args.length hcap, .int .i64 r.src, .int .i64 r.n, .slice a r.body.length cap] 48)) wr) (fun i _ => r.body.length - (intOf i).toNat)
      case atStart => exact ⟨0, Nat.zero_le _, rfl, rfl, HB1.out⟩
      case round =>
        clear HB1
        obtain ⟨j, hj, rfl, hall, hbr⟩ := hrel
        have hbw : Below w.heap.size w wr := (below_alloc _ _).trans (hbr.mono (by omega))
        have y4 : wr.cell? ⟨w.heap.size, 4, none⟩ = some (.slice a r.body.length cap) := by rw [hbr.cell (p := ⟨w.heap.size, 4, none⟩) (by simp)]; simp [go_sem]
        by_cases hlt : j < r.body.length
        · obtain ⟨b', off', rfl, hbl', hx⟩ := HX.out.resolve_left (by intro e; rw [e] at hlt; simp at hlt)
          obtain ⟨ht1, ht2, ta, tc, ht3, ht4⟩ := (litAt.lasts w wr b' _ _ hbw hbl' (hx j r.body[j] (by simp [hlt]))).open
          have H : Hid ((r.body.take (j + 1)).all (atomOk ps) = atomOk ps r.body[j]) := by show _ = _; rw [all_take hlt, hall, Bool.true_and]
          have H2 : Hid (atomErr ps r.body[j].atom ≠ 0 → ruleErr ps r = atomErr ps r.body[j].atom) := fun hn => ruleErr_body H1.out h3 hlt hall hn
          clear hx hall HX HPX
          generalize r.body[j] = l at *
          obtain ⟨ln, lp, lt⟩ := l
          have HT : Hid (termsAt wr (.slice ta lt.length tc) lt) := ht4
          clear ht4
          go_wp2_with fail
          refine (checkAtom_c _ _ _ ps _ _ (HP.out _ hbw) HT.out).mono ?_
          rintro e w2 ⟨rfl, hb3⟩
          by_cases hn : atomErr ps ⟨lp, lt⟩ = 0
          · have H3 : Hid ((r.body.take (j + 1)).all (atomOk ps) = true) := by show _ = _; rw [H.out, atomOk]; simpa using hn
            clear H H2
            go_wp2_with fail
            go_roundw
            case rel => exact ⟨j + 1, by omega, by go_num, H3.out, hbr.trans (hb3.mono (by have := hbr.size; simp at this; omega))⟩
            case measure => simp [intOf]; omega
          · have H3 : Hid (ruleErr ps r = atomErr ps ⟨lp, lt⟩) := H2.out hn
            have hn' : (atomErr ps ⟨lp, lt⟩ != 0) = true := by simpa using hn
            clear H H2 hn
            go_wp2_with fail
            go_ret
            exact ⟨ret_int H3.out.symm, hbw.trans (hb3.mono hbw.size)⟩
        · have hall' : r.body.all (atomOk ps) = true := all_take_end hlt hall
          have hat : ∀ l ∈ r.body, isPred ps l.atom.pred = true ∧ l.atom.args.all termOk = true := fun l hl => atom_right (by have := List.all_eq_true.1 hall' l hl; simpa [atomOk] using this)
          have HAT : Hid (∀ l ∈ r.body, isPred ps l.atom.pred = true ∧ l.atom.args.all termOk = true) := hat
          have HF : Hid (∀ v : Nat, v < 3 → freeR r (v : Int) = true → ruleErr ps r = 9) := fun v hv h => ruleErr_free H1.out h3 hall' (anyFree_le hv h)
          have HV : Hid (anyFree r 3 = false → ruleErr ps r = valueErr ps r) := fun h => ruleErr_value H1.out h3 hall' (by rw [← anyFree_3]; exact h)
          have HB2 : Hid (Below (w.heap.size + 1) (w.alloc (.cells #[.int .i64 r.head.pred, .slice ha r.head.args.length hcap, .int .i64 r.src, .int .i64 r.n, .slice a r.body.length cap] 48)) wr) := hbr
          clear hall hall' hat hbr hbw
          go_wp2_with fail
          clear y4 hlt hj
          go_loopw [8] (fun i wr => ∃ j : Nat, j ≤ 3 ∧ i = .int .i64 j ∧ anyFree r j = false ∧ Below (w.heap.size + 1) (w.alloc (.cells #[.int .i64 r.head.pred, .slice ha r.head.args.length hcap, .int .i64 r.src, .int .i64 r.n, .slice a r.body.length cap] 48)) wr) (fun i _ => 3 - (intOf i).toNat)
          case atStart => exact ⟨0, Nat.zero_le _, rfl, rfl, HB2.out⟩
          case round =>
            clear HB2
            obtain ⟨v, hv, rfl, hfr, hbr⟩ := hrel
            have hbw : Below w.heap.size w wr := (below_alloc _ _).trans (hbr.mono (by omega))
            have y0 : wr.cell? ⟨w.heap.size, 0, none⟩ = some (.int .i64 r.head.pred) := by rw [hbr.cell (p := ⟨w.heap.size, 0, none⟩) (by simp)]; simp [go_sem]
            have y1 : wr.cell? ⟨w.heap.size, 1, none⟩ = some (.slice ha r.head.args.length hcap) := by rw [hbr.cell (p := ⟨w.heap.size, 1, none⟩) (by simp)]; simp [go_sem]
            have y2 : wr.cell? ⟨w.heap.size, 2, none⟩ = some (.int .i64 r.src) := by rw [hbr.cell (p := ⟨w.heap.size, 2, none⟩) (by simp)]; simp [go_sem]
            have y3 : wr.cell? ⟨w.heap.size, 3, none⟩ = some (.int .i64 r.n) := by rw [hbr.cell (p := ⟨w.heap.size, 3, none⟩) (by simp)]; simp [go_sem]
            have y4 : wr.cell? ⟨w.heap.size, 4, none⟩ = some (.slice a r.body.length cap) := by rw [hbr.cell (p := ⟨w.heap.size, 4, none⟩) (by simp)]; simp [go_sem]
            have hsz : w.heap.size < wr.heap.size := by have := hbr.size; simp at this; omega
            by_cases hlt : v < 3
            · have HN : Hid (freeR r (v : Int) = false → anyFree r (v + 1) = false) := fun h => by rw [anyFree_succ, hfr, h]; rfl
              have HFV : Hid (freeR r (v : Int) = true → ruleErr ps r = 9) := HF.out v hlt
              clear hfr HF HV
              go_wp2_with fail
              refine (stands_c _ _ _ _ r.head.args (HH.out _ hbw)).mono ?_
              rintro e w2 ⟨rfl, hb2⟩
              have HB3 : Hid (Below (w.heap.size + 1) (w.alloc (.cells #[.int .i64 r.head.pred, .slice ha r.head.args.length hcap, .int .i64 r.src, .int .i64 r.n, .slice a r.body.length cap] 48)) w2) := hbr.trans (hb2.mono (by have := hbr.size; simp at this; omega))
              clear y0 y1 y2 y3 y4 hb2
              go_wp2_with fail
              go_loopw [9, 10] (fun is i wr => ∃ k : Nat, k ≤ r.body.length ∧ i = .int .i64 k ∧ is = .bool (stands r.head.args (v : Int) || (r.body.take k).any fun l => stands l.atom.args (v : Int)) ∧ Below (w.heap.size + 1) (w.alloc (.cells #[.int .i64 r.head.pred, .slice ha r.head.args.length hcap, .int .i64 r.src, .int .i64 r.n, .slice a r.body.length cap] 48)) wr) (fun _ i _ => r.body.length - (intOf i).toNat)
              case atStart => exact ⟨0, Nat.zero_le _, rfl, by simp, HB3.out⟩
              case round =>
                clear HB3 hbw hbr
                obtain ⟨k, hk, rfl, rfl, hbr⟩ := hrel
                have hbw : Below w.heap.size w wr := (below_alloc _ _).trans (hbr.mono (by omega))
                have y0 : wr.cell? ⟨w.heap.size, 0, none⟩ = some (.int .i64 r.head.pred) := by rw [hbr.cell (p := ⟨w.heap.size, 0, none⟩) (by simp)]; simp [go_sem]
                have y1 : wr.cell? ⟨w.heap.size, 1, none⟩ = some (.slice ha r.head.args.length hcap) := by rw [hbr.cell (p := ⟨w.heap.size, 1, none⟩) (by simp)]; simp [go_sem]
                have y2 : wr.cell? ⟨w.heap.size, 2, none⟩ = some (.int .i64 r.src) := by rw [hbr.cell (p := ⟨w.heap.size, 2, none⟩) (by simp)]; simp [go_sem]
                have y3 : wr.cell? ⟨w.heap.size, 3, none⟩ = some (.int .i64 r.n) := by rw [hbr.cell (p := ⟨w.heap.size, 3, none⟩) (by simp)]; simp [go_sem]
                have y4 : wr.cell? ⟨w.heap.size, 4, none⟩ = some (.slice a r.body.length cap) := by rw [hbr.cell (p := ⟨w.heap.size, 4, none⟩) (by simp)]; simp [go_sem]
                by_cases hkt : k < r.body.length
                · obtain ⟨b', off', rfl, hbl', hx⟩ := HX.out.resolve_left (by intro e; rw [e] at hkt; simp at hkt)
                  obtain ⟨ht1, ht2, ta, tc, ht3, ht4⟩ := (litAt.lasts w wr b' _ _ hbw hbl' (hx k r.body[k] (by simp [hkt]))).open
                  have HS : Hid ((stands r.head.args (v : Int) || (r.body.take (k + 1)).any fun l => stands l.atom.args (v : Int)) = ((stands r.head.args (v : Int) || (r.body.take k).any fun l => stands l.atom.args (v : Int)) || stands r.body[k].atom.args (v : Int))) := by
                    show _ = _
                    rw [any_take hkt, Bool.or_assoc]
                  have HT : Hid (termsAt wr (.slice ta r.body[k].atom.args.length tc) r.body[k].atom.args) := ht4
                  clear hx ht4 HX HPX y0 y1 y2 y3 HN HFV
                  generalize r.body[k] = l at *
                  generalize (stands r.head.args (v : Int) || (r.body.take k).any fun l => stands l.atom.args (v : Int)) = B at *
                  cases B
                  · go_wp2_with fail
                    refine (stands_c _ _ _ _ l.atom.args HT.out).mono ?_
                    rintro e w3 ⟨rfl, hb3⟩
                    go_wp2_with fail
                    go_roundw
                    case rel => exact ⟨k + 1, by omega, by go_num, by rw [HS.out, Bool.false_or], hbr.trans (hb3.mono (by have := hbr.size; simp at this; omega))⟩
                    case measure => simp [intOf]; omega
                  · go_wp2_with fail
                    go_roundw
                    case rel => exact ⟨k + 1, by omega, by go_num, by rw [HS.out, Bool.true_or], hbr⟩
                    case measure => simp [intOf]; omega
                · have HA : Hid ((stands r.head.args (v : Int) || (r.body.take k).any fun l => stands l.atom.args (v : Int)) = asked r (v : Int)) := by show _ = _; rw [List.take_of_length_le (by omega)]; rfl
                  have HFR : Hid (freeR r (v : Int) = (asked r (v : Int) && !bound r (v : Int))) := rfl
                  rw [HA.out]
                  clear HA HPX HX
                  cases hask : asked r (v : Int)
                  · have HN' : Hid (anyFree r (v + 1) = false) := HN.out (by rw [HFR.out, hask]; rfl)
                    clear HN HFV HFR y0 y1 y2 y3
                    go_wp2_with fail
                    go_roundw
                    case rel => exact ⟨v + 1, by omega, by go_num, HN'.out, hbr⟩
                    case measure => simp [intOf]; omega
                  · go_wp2_with fail
                    refine (bound_c _ r _ _ _ (HB.out _ hbw)).mono ?_
                    rintro e w3 ⟨rfl, hb3⟩
                    cases hbd : bound r (v : Int)
                    · have HR : Hid (ruleErr ps r = 9) := HFV.out (by rw [HFR.out, hask, hbd]; rfl)
                      clear HN HFV HFR y0 y1 y2 y3 y4
                      go_wp2_with fail
                      go_ret
                      exact ⟨ret_int HR.out.symm, hbw.trans (hb3.mono hbw.size)⟩
                    · have HN' : Hid (anyFree r (v + 1) = false) := HN.out (by rw [HFR.out, hask, hbd]; rfl)
                      clear HN HFV HFR y0 y1 y2 y3 y4
                      go_wp2_with fail
                      go_roundw
                      case rel => exact ⟨v + 1, by omega, by go_num, HN'.out, hbr.trans (hb3.mono (by have := hbr.size; simp at this; omega))⟩
                      case measure => simp [intOf]; omega
            · have HR : Hid (ruleErr ps r = valueErr ps r) := HV.out (by obtain rfl : v = 3 := (by omega); exact hfr)
              clear HF HV hfr
              obtain ⟨m, hk, hhp⟩ := isPred_iff.1 (atom_right H1.out).1
              obtain ⟨b, off, rfl, hbl, hpx⟩ := HPX.out.resolve_left (by rintro rfl; simp at hk)
              obtain ⟨_, _, hc2⟩ := predAt.lasts w wr b _ _ hbw hbl (hpx m ps[m] (by simp [hk]))
              have hka : kindOf ps r.head.pred = ps[m].kind := by rw [hhp]; simp [kindOf, hk]
              rw [hhp] at y0
              clear hpx
              by_cases g1 : r.src < -1 ∨ (r.body.length : Int) ≤ r.src
              · have HE : Hid (ruleErr ps r = 3) := HR.out.trans (valueErr_range g1)
                have hw1 : within r.src (-1) ((r.body.length : Int) - 1) = false := by simp [within]; omega
                clear g1 HX HPX hka hhp H1
                go_wp2_with (go_at_call 35; refine (within_c _ _ _ _).mono ?_; rintro e w' ⟨rfl, rfl⟩)
                go_ret
                exact ⟨ret_int HE.out.symm, hbw⟩
              · have hw1 : within r.src (-1) ((r.body.length : Int) - 1) = true := by simp [within]; omega
                by_cases h0 : ps[m].kind = 0
                · have h0' : (ps[m].kind == 0) = true := by simp [h0]
                  by_cases g2 : r.src = -1
                  · have g2' : (r.src != -1) = false := by simp [g2]
                    have g3' : decide (0 ≤ r.src) = false := by simp; omega
                    by_cases g3 : r.n = 0
                    · have HE : Hid (ruleErr ps r = 0) := HR.out.trans (by rw [valueErr_n g1 (fun _ => ⟨g2, g3⟩) (fun g => by omega), if_neg (by omega)])
                      have g4' : (r.n != 0) = false := by simp [g3]
                      have hw2 : within r.n 0 15 = true := by simp [within]; omega
                      clear g1 HX HPX hka hhp H1 h0 g2 g3
                      go_wp2_with (go_at_call 35; refine (within_c _ _ _ _).mono ?_; rintro e w' ⟨rfl, rfl⟩)
                      go_ret
                      exact ⟨ret_int HE.out.symm, hbw⟩
                    · have HE : Hid (ruleErr ps r = 1) := HR.out.trans (valueErr_plain g1 (hka.trans h0) (.inr g3))
                      have g4' : (r.n != 0) = true := by simpa using g3
                      clear g1 HX HPX hka hhp H1 h0 g2 g3
                      go_wp2_with (go_at_call 35; refine (within_c _ _ _ _).mono ?_; rintro e w' ⟨rfl, rfl⟩)
                      go_ret
                      exact ⟨ret_int HE.out.symm, hbw⟩
                  · have HE : Hid (ruleErr ps r = 1) := HR.out.trans (valueErr_plain g1 (hka.trans h0) (.inl g2))
                    have g2' : (r.src != -1) = true := by simpa using g2
                    clear g1 HX HPX hka hhp H1 h0 g2
                    go_wp2_with (go_at_call 35; refine (within_c _ _ _ _).mono ?_; rintro e w' ⟨rfl, rfl⟩)
                    go_ret
                    exact ⟨ret_int HE.out.symm, hbw⟩
                · have h0' : (ps[m].kind == 0) = false := by simpa using h0
                  by_cases g2 : 0 ≤ r.src
                  · have g2' : decide (0 ≤ r.src) = true := by simpa using g2
                    obtain ⟨j, hjs⟩ : ∃ j : Nat, r.src = (j : Int) := ⟨r.src.toNat, by omega⟩
                    have hjl : j < r.body.length := by omega
                    obtain ⟨b', off', rfl, hbl', hx⟩ := HX.out.resolve_left (by intro e; rw [e] at hjl; simp at hjl)
                    obtain ⟨ht1, ht2, ta, tc, ht3, _⟩ := (litAt.lasts w wr b' _ _ hbw hbl' (hx j r.body[j] (by simp [hjl]))).open
                    obtain ⟨q, hq, hql⟩ := isPred_iff.1 (HAT.out r.body[j] (List.getElem_mem hjl)).1
                    obtain ⟨b2, off2, e2, hbl2, hpx⟩ := HPX.out.resolve_left (by rintro rfl; simp at hk)
                    obtain ⟨rfl, rfl⟩ : b = b2 ∧ off = off2 := by simpa using e2
                    obtain ⟨_, _, hd2⟩ := predAt.lasts w wr b _ _ hbw hbl2 (hpx q ps[q] (by simp [hq]))
                    have hkl : kindOf ps r.body[j].atom.pred = ps[q].kind := by rw [hql]; simp [kindOf, hq]
                    have hhd : handed ps r = (!r.body[j].neg && ps[q].kind == ps[m].kind) := by simp [handed, hjs, hjl, hka, hkl]
                    rw [hql] at ht2
                    have HVH : Hid (handed ps r = false → valueErr ps r = 1) := fun g => valueErr_hand g1 (by rw [hka]; exact h0) g2 g
                    have HVN : Hid (handed ps r = true → valueErr ps r = if r.n < 0 ∨ 15 < r.n then 3 else 0) := fun g => valueErr_n g1 (fun e => absurd (hka.symm.trans e) h0) (fun _ => g)
                    have HHD : Hid (handed ps r = (!r.body[j].neg && ps[q].kind == ps[m].kind)) := hhd
                    have HJS : Hid (r.src = (j : Int)) := hjs
                    rw [HJS.out] at y2 hw1 g2'
                    clear hx hpx hka hhp hkl hhd hjs g1 g2 h0 HX HPX H1 hql e2
                    cases hln : r.body[j].neg
                    · rw [hln] at ht1 HHD
                      cases hkk : (ps[q].kind == ps[m].kind)
                      · have HE : Hid (ruleErr ps r = 1) := HR.out.trans (HVH.out (by rw [HHD.out, hkk]; rfl))
                        have hkk' : (ps[q].kind != ps[m].kind) = true := by simpa using hkk
                        clear HVH HVN HHD HJS hkk
                        go_wp2_with (go_at_call 35; refine (within_c _ _ _ _).mono ?_; rintro e w' ⟨rfl, rfl⟩)
                        go_ret
                        exact ⟨ret_int HE.out.symm, hbw⟩
                      · have HV2 : Hid (ruleErr ps r = if r.n < 0 ∨ 15 < r.n then 3 else 0) := HR.out.trans (HVN.out (by rw [HHD.out, hkk]; rfl))
                        have hkk' : (ps[q].kind != ps[m].kind) = false := by simpa using hkk
                        clear HVH HVN HHD HJS hkk
                        cases hw2 : within r.n 0 15
                        · have HE : Hid (ruleErr ps r = 3) := HV2.out.trans (if_pos (show r.n < 0 ∨ 15 < r.n by simp [within] at hw2; omega))
                          go_wp2_with (go_at_call 35; refine (within_c _ _ _ _).mono ?_; rintro e w' ⟨rfl, rfl⟩)
                          go_ret
                          exact ⟨ret_int HE.out.symm, hbw⟩
                        · have HE : Hid (ruleErr ps r = 0) := HV2.out.trans (if_neg (show ¬ (r.n < 0 ∨ 15 < r.n) by simp [within] at hw2; omega))
                          go_wp2_with (go_at_call 35; refine (within_c _ _ _ _).mono ?_; rintro e w' ⟨rfl, rfl⟩)
                          go_ret
                          exact ⟨ret_int HE.out.symm, hbw⟩
                    · rw [hln] at ht1 HHD
                      have HE : Hid (ruleErr ps r = 1) := HR.out.trans (HVH.out (by rw [HHD.out]; rfl))
                      clear HVH HVN HHD HJS
                      go_wp2_with (go_at_call 35; refine (within_c _ _ _ _).mono ?_; rintro e w' ⟨rfl, rfl⟩)
                      go_ret
                      exact ⟨ret_int HE.out.symm, hbw⟩
                  · have g2' : decide (0 ≤ r.src) = false := by simpa using g2
                    have HV2 : Hid (ruleErr ps r = if r.n < 0 ∨ 15 < r.n then 3 else 0) := HR.out.trans (valueErr_n g1 (fun e => absurd (hka.symm.trans e) h0) (fun e => absurd e g2))
                    clear g1 HX HPX hka hhp H1 h0 g2
                    cases hw2 : within r.n 0 15
                    · have HE : Hid (ruleErr ps r = 3) := HV2.out.trans (if_pos (show r.n < 0 ∨ 15 < r.n by simp [within] at hw2; omega))
                      go_wp2_with (go_at_call 35; refine (within_c _ _ _ _).mono ?_; rintro e w' ⟨rfl, rfl⟩)
                      go_ret
                      exact ⟨ret_int HE.out.symm, hbw⟩
                    · have HE : Hid (ruleErr ps r = 0) := HV2.out.trans (if_neg (show ¬ (r.n < 0 ∨ 15 < r.n) by simp [within] at hw2; omega))
                      go_wp2_with (go_at_call 35; refine (within_c _ _ _ _).mono ?_; rintro e w' ⟨rfl, rfl⟩)
                      go_ret
                      exact ⟨ret_int HE.out.symm, hbw⟩
  · rw [ruleErr_head h1]
    have h1' : (atomErr ps ⟨r.head.pred, r.head.args⟩ != 0) = true := by simpa using h1
    clear h1 HX HPX
    go_enter Try.func36, Try.ntmps36
    go_wp2_with fail
    refine (checkAtom_c _ _ _ ps _ _ (HP.out _ (by exact below_alloc _ _)) (HH.out _ (by exact below_alloc _ _))).mono ?_
    rintro e w1 ⟨rfl, hb1⟩
    go_wp2_with fail
    go_ret
    exact ⟨rfl, below_trans (below_alloc _ _) hb1⟩
end Go.Proofs.Ytgbacodellfacab.Rule
