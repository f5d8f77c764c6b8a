/-
  Whether a variable is asked for that nothing binds: hasFree of package rule.
-/
import Derived.Deep.RegionHeld3
import Derived.Deep.AppendLies
import Derived.Test.YtlfccloaoopadafGreatDoorG19
import Derived.Test.YtlfccloaoopadafGreatDoorG8
namespace Go.Proofs.YtlfccloaoopadafGreatDoor.Rule
open Go.ChangeShapes Go.WideShapes Go.ChangeAt Go.RowKit Go.Maps
open Lat (within within_c)

def freeAt (r : Rul) (v : Int) : Bool := decide (0 < countA (picked r.body true ++ [r.head]) v) && countA (picked r.body false) v == 0
def free (r : Rul) : Bool := freeAt r 0 || (freeAt r 1 || freeAt r 2)

theorem gathered.length {w wr : World} {base : Nat} {v : Value} {ats : List Atm} (h : gathered w wr base v ats) : ∃ l : List (Atm × Value), l.length = ats.length ∧ l.map Prod.fst = ats ∧ (∀ x ∈ l, termsAt w x.2 x.1.args ∧ x.2.oneCell' = true) ∧ wr.ownsRow base 51 2 v l.length (cellsOf l) := by
  obtain ⟨l, h1, h2, h3⟩ := h
  exact ⟨l, by rw [← h1, List.length_map], h1, h2, h3⟩
theorem gathered.atoms {w wr : World} {base : Nat} {v : Value} {ats : List Atm} (h : gathered w wr base v ats) (hb : Below w.heap.size w wr) (hl : ats.length ≤ 140737488355328) : atomsAt wr v ats := by
  obtain ⟨l, h0, rfl, h2, h3⟩ := h.length
  rw [List.length_map] at hl
  exact atomsAt_of h3 hl (fun x hx => termsAt.lasts hb (h2 x hx).1)
theorem picked_mem {ls : List Ltr} {not : Bool} {a : Atm} (h : a ∈ picked ls not) : ∃ l ∈ ls, l.atom = a := by
  obtain ⟨l, hl, rfl⟩ := List.mem_map.1 h
  exact ⟨l, (List.mem_filter.1 hl).1, rfl⟩
theorem picked_length (ls : List Ltr) (not : Bool) : (picked ls not).length ≤ ls.length := by
  rw [picked, List.length_map]
  exact List.length_filter_le _ _
theorem lits_short {w : World} {v : Value} {ls : List Ltr} (h : litsAt w v ls) : ∀ l ∈ ls, l.atom.args.length ≤ 140737488355328 := by
  obtain ⟨a, cap, rfl, hm, hx⟩ := h
  intro l hl
  rcases hx with rfl | ⟨b, off, _, _, hx⟩
  · cases hl
  · obtain ⟨i, hi, rfl⟩ := List.mem_iff_getElem.1 hl
    obtain ⟨_, _, v, _, a, cap, _, hm, _⟩ := hx i ls[i] (by simp [hi])
    exact hm
theorem terms_short {w : World} {v : Value} {ts : List Tm} (h : termsAt w v ts) : ts.length ≤ 140737488355328 := by
  obtain ⟨a, cap, rfl, hm, hx⟩ := h
  exact hm

theorem owns_mono {w : World} {base base' : Nat} {e : TypeId} {size : Nat} {v : Value} {n : Nat} {xs : List Value} (h : w.ownsRow base e size v n xs) (hb : base' ≤ base) : w.ownsRow base' e size v n xs := by
  obtain ⟨h0, h1⟩ := h
  refine ⟨h0, ?_⟩
  rcases h1 with h1 | ⟨g, cap, cur, h1, h2, h3⟩
  · exact .inl h1
  · exact .inr ⟨g, cap, cur, h1, Nat.le_trans hb h2, h3⟩
theorem news_at {w : World} {x y : Value} {t : TypeId} : ∀ (j : Nat) (u : Value), [x, y][j]? = some u → (w.alloc (.cells #[x, y] t)).cell? ((⟨w.heap.size, 0, none⟩ : Addr).add j) = some u := by
  intro j u hu
  match j, hu with
  | 0, hu => simp at hu; subst hu; simp [Addr.add, go_sem]
  | 1, hu => simp at hu; subst hu; simp [Addr.add, go_sem]
theorem news_later {w w3 : World} {x y : Value} {t : TypeId} (hb : Below (w.heap.size + 1) (w.alloc (.cells #[x, y] t)) w3) : ∀ (j : Nat) (u : Value), [x, y][j]? = some u → w3.cell? ((⟨w.heap.size, 0, none⟩ : Addr).add j) = some u := by
  intro j u hu
  rw [← news_at j u hu]
  refine hb.cell ?_
  unfold Addr.add
  split <;> simp
theorem one2 {x y : Value} (hx : x.oneCell' = true) (hy : y.oneCell' = true) : ∀ u ∈ [x, y], u.oneCell' = true := by
  intro u hu
  simp at hu
  rcases hu with rfl | rfl <;> assumption

theorem app_atoms {w0 w : World} {base g cap : Nat} {l : List (Atm × Value)} {ats : List Atm} {p : Int} {ts : List Tm} {hv : Value} (hown : w.ownsRow base 51 2 (.slice (some ⟨g, 0, none⟩) (l.length + 1) cap) (l.length + 1) (cellsOf l ++ [.int .i64 p, hv]))
    (hl : l.map Prod.fst = ats) (ht : ∀ x ∈ l, termsAt w0 x.2 x.1.args ∧ x.2.oneCell' = true) (hh : termsAt w0 hv ts) (hb : Below w0.heap.size w0 w) (h3 : ats.length ≤ 3) : atomsAt w (.slice (some ⟨g, 0, none⟩) (l.length + 1) cap) (ats ++ [⟨p, ts⟩]) := by
  have e : (l ++ [((⟨p, ts⟩ : Atm), hv)]).map Prod.fst = ats ++ [⟨p, ts⟩] := by rw [List.map_append, hl]; rfl
  have hlen : l.length = ats.length := by rw [← hl, List.length_map]
  rw [← e]
  refine atomsAt_of (base := base) (e := 51) (by rw [cellsOf_append, List.length_append]; exact hown) (by rw [List.length_append]; simp; omega) ?_
  intro x hx
  rcases List.mem_append.1 hx with hx | hx
  · exact termsAt.lasts hb (ht x hx).1
  · obtain rfl := List.mem_singleton.1 hx
    exact termsAt.lasts hb hh

/-- what a look into such a map tells -/
theorem look {w : World} {b n : Nat} {D : DataW Unit} {f : Int → Nat} (h : Places w b n D) (hc : Cnt D f) (v : Int) (h0 : 0 ≤ v) (h2 : v ≤ 2) : (Instr.lookup 204 (.map (some b)) (.int .i64 v) false).run Tryz.prog w = .ok (.int .i64 (f v : Nat)) w := by
  obtain ⟨c, hrun, hat, _⟩ := h.lookup_int law3 Tryz.underlying204 Tryz.underlying3 (zero3 _) (keyOf_int_mk Tryz.underlying3 (wf_small h0 h2))
  rw [hc.2 v h0 h2] at hat
  simp at hat
  rw [hat]
  exact hrun

theorem keepS {w w2 w' : World} {a b c : Value} (hs : w.heap.size < w2.heap.size) (z0 : w2.cell? ⟨w.heap.size, 0, none⟩ = some a) (z1 : w2.cell? ⟨w.heap.size, 1, none⟩ = some b) (z4 : w2.cell? ⟨w.heap.size, 4, none⟩ = some c) (h : Below w2.heap.size w2 w') :
    Below w2.heap.size w2 w' ∧ w'.cell? ⟨w.heap.size, 0, none⟩ = some a ∧ w'.cell? ⟨w.heap.size, 1, none⟩ = some b ∧ w'.cell? ⟨w.heap.size, 4, none⟩ = some c :=
  ⟨h, by rw [cell_lasts h hs, z0], by rw [cell_lasts h hs, z1], by rw [cell_lasts h hs, z4]⟩

set_option maxRecDepth 100000 in
set_option maxHeartbeats 4000000 in
theorem hasFree_c (w : World) (r : Rul) (ha : Option Addr) (hcap : Nat) (bv : Value) (hh : termsAt w (.slice ha r.head.args.length hcap) r.head.args) (hb : litsAt w bv r.body) (h3 : r.body.length ≤ 3) (hok : r.head.args.all termOk = true) (hoks : ∀ l ∈ r.body, l.atom.args.all termOk = true) :
    Calls Tryz.prog 125 #[.agg #[.int .i64 r.head.pred, .slice ha r.head.args.length hcap, .int .i64 r.src, .int .i64 r.n, bv]] w fun e w' => e = .returned (.bool (free r)) ∧ Below w.heap.size w w' := by
  obtain ⟨i0, hi, hz0, hz1, hz2⟩ := info_parts infoAtom
  have HH0 : Hid (termsAt w (.slice ha r.head.args.length hcap) r.head.args) := hh
  have HB0 : Hid (litsAt w bv r.body) := hb
  have hshort := lits_short hb
  have hshort2 := terms_short hh
  have HPK : Hid (∀ not, ∀ a ∈ picked r.body not, a.args.length ≤ 140737488355328 ∧ a.args.all termOk = true) := by
    intro not a ha
    obtain ⟨l, hl, rfl⟩ := picked_mem ha
    exact ⟨hshort l hl, hoks l hl⟩
  have HPH : Hid (∀ a ∈ picked r.body true ++ [r.head], a.args.length ≤ 140737488355328 ∧ a.args.all termOk = true) := by
    intro a ha
    rcases List.mem_append.1 ha with ha | ha
    · exact HPK.out true a ha
    · obtain rfl := List.mem_singleton.1 ha
      exact ⟨hshort2, hok⟩
  have hp1 := picked_length r.body false
  have hp2 := picked_length r.body true
  obtain ⟨ba, bcap, rfl, _⟩ := hb
  clear hh hshort hshort2 hok hoks
  go_enter Tryz.func125, Tryz.ntmps125
  go_wp2_with fail
  refine (atoms_c w _ _ r.body false HB0.out (by exact below_alloc _ _) h3).mono ?_
  rintro e w1 ⟨v1, rfl, hg1, hb1⟩
  have hbw1 : Below w.heap.size w w1 := below_trans (below_alloc _ _) hb1
  have y0 : w1.cell? ⟨w.heap.size, 0, none⟩ = some (.int .i64 r.head.pred) := by rw [hb1.cell (p := ⟨w.heap.size, 0, none⟩) (by simp)]; simp [go_sem]
  have y1 : w1.cell? ⟨w.heap.size, 1, none⟩ = some (.slice ha r.head.args.length hcap) := by rw [hb1.cell (p := ⟨w.heap.size, 1, none⟩) (by simp)]; simp [go_sem]
  have y4 : w1.cell? ⟨w.heap.size, 4, none⟩ = some (.slice ba r.body.length bcap) := by rw [hb1.cell (p := ⟨w.heap.size, 4, none⟩) (by simp)]; simp [go_sem]
  have hs1 : w.heap.size < w1.heap.size := by have := hb1.size; simp at this; omega
  have HA1 : Hid (atomsAt w1 v1 (picked r.body false)) := hg1.atoms hbw1 (by omega)
  clear hg1 hb1
  go_wp2_with fail
  refine (variables_c _ _ _ HA1.out (by omega) (HPK.out false)).mono ?_
  rintro e w2 ⟨rfl, hb2, n1, D1, hown1, hcnt1⟩
  have HM1 : Hid (∀ w3, Below w2.heap.size w2 w3 → Places w3 w1.heap.size n1 D1) := fun w3 h => ownsMap_lasts hown1 h
  have HC1 : Hid (Cnt D1 (countA (picked r.body false))) := hcnt1
  have z0 : w2.cell? ⟨w.heap.size, 0, none⟩ = some (.int .i64 r.head.pred) := by rw [cell_lasts hb2 hs1, y0]
  have z1 : w2.cell? ⟨w.heap.size, 1, none⟩ = some (.slice ha r.head.args.length hcap) := by rw [cell_lasts hb2 hs1, y1]
  have z4 : w2.cell? ⟨w.heap.size, 4, none⟩ = some (.slice ba r.body.length bcap) := by rw [cell_lasts hb2 hs1, y4]
  have hbw2 : Below w.heap.size w w2 := hbw1.trans (hb2.mono hbw1.size)
  have hs2 : w.heap.size < w2.heap.size := by have := hb2.size; omega
  clear y0 y1 y4 HA1 hown1 hcnt1
  go_wp2_with fail
  go_region_held3 (fun w' => Below w2.heap.size w2 w' ∧ w'.cell? ⟨w.heap.size, 0, none⟩ = some (.int .i64 r.head.pred) ∧ w'.cell? ⟨w.heap.size, 1, none⟩ = some (.slice ha r.head.args.length hcap) ∧ w'.cell? ⟨w.heap.size, 4, none⟩ = some (.slice ba r.body.length bcap))
    ((refine keepS hs2 z0 z1 z4 ?_; (first | exact Below.refl _ _ | exact (Below.refl _ _).drew | exact (Below.refl _ _).alloc (Nat.le_refl _) _ | exact ((Below.refl _ _).alloc (Nat.le_refl _) _).drew | exact ((Below.refl _ _).drew).alloc (Nat.le_refl _) _ | exact hk3 | exact hk3.drew | exact hk3.alloc hk3.size _ | exact (hk3.alloc hk3.size _).drew | exact (hk3.drew).alloc hk3.size _ | exact hk4 | exact hk5)))
    (first
      | (go_at_call 155; refine (atoms_c w _ _ r.body true HB0.out (hbw2.trans (Below.mono (by (first | exact Below.refl _ _ | exact (Below.refl _ _).drew | exact (Below.refl _ _).alloc (Nat.le_refl _) _ | exact ((Below.refl _ _).alloc (Nat.le_refl _) _).drew | exact ((Below.refl _ _).drew).alloc (Nat.le_refl _) _ | exact hk3 | exact hk3.drew | exact hk3.alloc hk3.size _ | exact (hk3.alloc hk3.size _).drew | exact (hk3.drew).alloc hk3.size _ | exact hk4 | exact hk5)) hbw2.size)) h3).mono ?_; rintro e w3 ⟨v3, rfl, hg3, hb3⟩; have hk3 : Below w2.heap.size w2 w3 := Below.trans (by (first | exact Below.refl _ _ | exact (Below.refl _ _).drew | exact (Below.refl _ _).alloc (Nat.le_refl _) _ | exact ((Below.refl _ _).alloc (Nat.le_refl _) _).drew | exact ((Below.refl _ _).drew).alloc (Nat.le_refl _) _ | exact hk3 | exact hk3.drew | exact hk3.alloc hk3.size _ | exact (hk3.alloc hk3.size _).drew | exact (hk3.drew).alloc hk3.size _ | exact hk4 | exact hk5)) (hb3.mono (by simp)); obtain ⟨l3, hl0, hl1, hl2, hl3⟩ := hg3.length; have hl4 := owns_mono (base' := w2.heap.size) hl3 (by simp); have hl5 : l3.length ≤ 3 := (by omega); have HL1 : Hid (l3.map Prod.fst = picked r.body true) := hl1; have HL2 : Hid (∀ x ∈ l3, termsAt w x.2 x.1.args ∧ x.2.oneCell' = true) := hl2; clear hg3 hl0 hl1 hl2 hl3)
      | (refine step_append_lies _ (by rfl) _ _ 206 (by rfl) w2.heap.size 51 i0 (.agg #[.int .i64 0, .slice none 0 0]) 2 32 Tryz.underlying206 hi hz0 hz1 hz2 (by rfl) (by omega) v3 l3.length (cellsOf l3) (by rfl) (hl4.alloc _) ⟨w3.heap.size, 0, none⟩ 1 1 [.int .i64 r.head.pred, .slice ha r.head.args.length hcap] (by rfl) (by rfl) news_at (one2 rfl rfl) (by omega) (by unfold maxLen; omega) (by omega) (by have := hk3.size; simp; omega) (w3.heap.size + 1) (by simp) ?_; intro g cap w4 hown4 hgrow4 hat hltg; have hk4 : Below w2.heap.size w2 w4 := (hk3.alloc hk3.size _).grown hgrow4 (by have := hk3.size; simp; omega) (fun k hk => (hl4.lt k hk).1))
      | (refine step_append_lies _ (by rfl) _ _ 206 (by rfl) w2.heap.size 51 i0 (.agg #[.int .i64 0, .slice none 0 0]) 2 32 Tryz.underlying206 hi hz0 hz1 hz2 (by rfl) (by omega) v3 l3.length (cellsOf l3) (by rfl) hl4 ⟨w2.heap.size, 0, none⟩ 1 1 [.int .i64 r.head.pred, .slice ha r.head.args.length hcap] (by rfl) (by rfl) (news_later (w := w2) (t := 51) (Below.trans (Below.drew (Below.refl _ _)) (hb3.mono (by simp)))) (one2 rfl rfl) (by omega) (by unfold maxLen; omega) (by omega) (by have := hk3.size; simp; omega) w3.heap.size (by simp) ?_; intro g cap w4 hown4 hgrow4 hat hltg; have hk4 : Below w2.heap.size w2 w4 := hk3.grown hgrow4 (by have := hk3.size; simp; omega) (fun k hk => (hl4.lt k hk).1))
      | (go_at_call 154; refine (variables_c _ _ (picked r.body true ++ [r.head]) (app_atoms hown4 HL1.out HL2.out HH0.out (hbw2.trans (hk4.mono hbw2.size)) (by omega)) (by simp; omega) HPH.out).mono ?_; rintro e w5 ⟨rfl, hb5, n2, D2, hown5, hcnt5⟩; have hk5 : Below w2.heap.size w2 w5 := hk4.trans (hb5.mono hk4.size)))
  all_goals
    have HP1 : Hid (Places w5 w1.heap.size n1 D1) := HM1.out w5 hk5
    have HP2 : Hid (Places w5 w4.heap.size n2 D2) := hown5
    have HC2 : Hid (Cnt D2 (countA (picked r.body true ++ [r.head]))) := hcnt5
    have hbw5 : Below w.heap.size w w5 := hbw2.trans (hk5.mono hbw2.size)
    clear hown5 hcnt5 hown4 hgrow4 hat hb3 hl4 hl5 HL1 HL2 z0 z1 z4 hi hz0 hz1 hz2
    go_wp2_with fail
    go_loop [18] (fun i => ∃ j : Nat, j ≤ 3 ∧ i = .int .i64 j ∧ ∀ k : Nat, k < j → freeAt r (k : Int) = false) (fun i => 3 - (intOf i).toNat)
    case atStart => exact ⟨0, Nat.zero_le _, rfl, fun k hk => absurd hk (Nat.not_lt_zero _)⟩
    case round =>
      obtain ⟨j, hj, rfl, hfr⟩ := hrel
      by_cases hlt : j < 3
      · have e1 := look HP1.out HC1.out (j : Int) (by omega) (by omega)
        have e2 := look HP2.out HC2.out (j : Int) (by omega) (by omega)
        have HF : Hid (freeAt r (j : Int) = (decide (0 < countA (picked r.body true ++ [r.head]) (j : Int)) && countA (picked r.body false) (j : Int) == 0)) := rfl
        have HFR : Hid (∀ k : Nat, k < j → freeAt r (k : Int) = false) := hfr
        have HT : Hid (freeAt r (j : Int) = true → free r = true) := by
          intro h
          rcases (show j = 0 ∨ j = 1 ∨ j = 2 by omega) with rfl | rfl | rfl
          · simp only [free]; rw [show freeAt r 0 = true from h]; rfl
          · simp only [free]; rw [show freeAt r 1 = true from h]; simp
          · simp only [free]; rw [show freeAt r 2 = true from h]; simp
        have HN : Hid (freeAt r (j : Int) = false → ∀ k : Nat, k < j + 1 → freeAt r (k : Int) = false) := by
          intro h k hk
          rcases Nat.lt_succ_iff_lt_or_eq.1 hk with hk | rfl
          · exact HFR.out k hk
          · exact h
        clear hfr HFR
        generalize countA (picked r.body true ++ [r.head]) (j : Int) = A at *
        generalize countA (picked r.body false) (j : Int) = B at *
        by_cases hA : 0 < A
        · have hA' : (0 : Int) < (A : Int) := by omega
          by_cases hB : B = 0
          · subst hB
            have HT' : Hid (free r = true) := HT.out (by rw [HF.out]; simp [hA])
            clear HF HT HN
            go_wp2_with fail
            go_ret
            exact ⟨ret_bool HT'.out.symm, hbw5⟩
          · have HN' : Hid (∀ k : Nat, k < j + 1 → freeAt r (k : Int) = false) := HN.out (by rw [HF.out]; simp [hB])
            have hB' : (((B : Nat) : Int) == 0) = false := by simp; omega
            clear HF HT HN hB
            go_wp2_with fail
            go_round
            case rel => exact ⟨j + 1, by omega, by go_num, HN'.out⟩
            case measure => simp [intOf]; omega
        · have HN' : Hid (∀ k : Nat, k < j + 1 → freeAt r (k : Int) = false) := HN.out (by rw [HF.out]; simp [hA])
          obtain rfl : A = 0 := by omega
          clear HF HT HN hA
          go_wp2_with fail
          go_round
          case rel => exact ⟨j + 1, by omega, by go_num, HN'.out⟩
          case measure => simp [intOf]; omega
      · have HF : Hid (free r = false) := by
          show free r = false
          have h0 : freeAt r 0 = false := hfr 0 (by omega)
          have h1 : freeAt r 1 = false := hfr 1 (by omega)
          have h2 : freeAt r 2 = false := hfr 2 (by omega)
          rw [free, h0, h1, h2]; rfl
        clear hfr
        go_wp2_with fail
        go_ret
        exact ⟨ret_bool HF.out.symm, hbw5⟩
end Go.Proofs.YtlfccloaoopadafGreatDoor.Rule

/-
  What Check of package rule answers.
-/
namespace Go.Proofs.YtlfccloaoopadafGreatDoor.Rule
open Go.ChangeShapes Go.WideShapes Go.ChangeAt Go.RowKit Go.Maps
open Lat (within within_c)

theorem cnt_pos {ts : List Tm} {v : Int} : 0 < cnt ts v ↔ stands ts v = true := by
  rw [cnt, List.countP_pos_iff, stands, List.any_eq_true]
theorem countA_pos : ∀ {ats : List Atm} {v : Int}, 0 < countA ats v ↔ ∃ a ∈ ats, stands a.args v = true
  | [], v => by simp [countA]
  | a :: l, v => by
    have ih := countA_pos (ats := l) (v := v)
    have hc := cnt_pos (ts := a.args) (v := v)
    have e : countA (a :: l) v = cnt a.args v + countA l v := by simp [countA]
    rw [e]
    constructor
    · intro h
      by_cases h1 : 0 < cnt a.args v
      · exact ⟨a, by simp, hc.1 h1⟩
      · obtain ⟨x, hx, hs⟩ := ih.1 (by omega)
        exact ⟨x, by simp [hx], hs⟩
    · rintro ⟨x, hx, hs⟩
      rcases List.mem_cons.1 hx with rfl | hx
      · have := hc.2 hs; omega
      · have := ih.2 ⟨x, hx, hs⟩; omega
theorem mem_picked {ls : List Ltr} {not : Bool} {a : Atm} : a ∈ picked ls not ↔ ∃ l ∈ ls, l.neg = not ∧ l.atom = a := by
  simp only [picked, List.mem_map, List.mem_filter, beq_iff_eq]
  constructor
  · rintro ⟨l, ⟨h1, h2⟩, h3⟩; exact ⟨l, h1, h2, h3⟩
  · rintro ⟨l, h1, h2, h3⟩; exact ⟨l, ⟨h1, h2⟩, h3⟩
/-- the code's way to ask for free variables is the document's -/
theorem free_same (r : Rul) (v : Int) : freeAt r v = freeR r v := by
  have hb : bound r v = true ↔ 0 < countA (picked r.body false) v := by
    rw [countA_pos, bound, List.any_eq_true]
    constructor
    · rintro ⟨l, hl, h⟩
      simp only [boundIn, Bool.and_eq_true, Bool.not_eq_true'] at h
      exact ⟨l.atom, mem_picked.2 ⟨l, hl, h.1, rfl⟩, h.2⟩
    · rintro ⟨a, ha, hs⟩
      obtain ⟨l, hl, hn, rfl⟩ := mem_picked.1 ha
      exact ⟨l, hl, by simp only [boundIn, hn, Bool.not_false, Bool.true_and]; exact hs⟩
  have ha : 0 < countA (picked r.body true ++ [r.head]) v → asked r v = true := by
    rw [countA_pos]
    rintro ⟨a, ha, hs⟩
    simp only [asked, Bool.or_eq_true]
    rcases List.mem_append.1 ha with ha | ha
    · obtain ⟨l, hl, _, rfl⟩ := mem_picked.1 ha
      exact .inr (List.any_eq_true.2 ⟨l, hl, hs⟩)
    · obtain rfl := List.mem_singleton.1 ha
      exact .inl hs
  have hc : asked r v = true → bound r v = false → 0 < countA (picked r.body true ++ [r.head]) v := by
    intro h1 h2
    rw [countA_pos]
    simp only [asked, Bool.or_eq_true] at h1
    rcases h1 with h1 | h1
    · exact ⟨r.head, by simp, h1⟩
    · obtain ⟨l, hl, hs⟩ := List.any_eq_true.1 h1
      cases hn : l.neg
      · have : bound r v = true := List.any_eq_true.2 ⟨l, hl, by simp only [boundIn, hn, Bool.not_false, Bool.true_and]; exact hs⟩
        rw [this] at h2
        cases h2
      · exact ⟨l.atom, List.mem_append.2 (.inl (mem_picked.2 ⟨l, hl, hn, rfl⟩)), hs⟩
  rw [Bool.eq_iff_iff]
  simp only [freeAt, freeR, Bool.and_eq_true, decide_eq_true_eq, beq_iff_eq, Bool.not_eq_true']
  constructor
  · rintro ⟨h1, h2⟩
    refine ⟨ha h1, ?_⟩
    cases hx : bound r v
    · rfl
    · have := hb.1 hx; omega
  · rintro ⟨h1, h2⟩
    refine ⟨hc h1 h2, ?_⟩
    have : ¬ 0 < countA (picked r.body false) v := fun h => by rw [hb.2 h] at h2; cases h2
    omega

theorem free_all (r : Rul) : free r = (freeR r 0 || (freeR r 1 || freeR r 2)) := by rw [free, free_same, free_same, free_same]

set_option maxRecDepth 100000 in
set_option maxHeartbeats 4000000 in
theorem check_c (w : World) (pv : Value) (ps : List Prd) (r : Rul) (hv bv : Value) (hp : predsAt w pv ps) (hh : termsAt w hv r.head.args) (hb : litsAt w bv r.body) :
    Calls Tryz.prog 102 #[pv, .agg #[.int .i64 r.head.pred, hv, .int .i64 r.src, .int .i64 r.n, bv]] w fun e w' => e = .returned (.int .i64 (ruleErr ps r)) ∧ Below w.heap.size w w' := by
  have HP : Hid (∀ (w1 : World), Below w.heap.size w w1 → predsAt w1 pv ps) := fun w1 hb1 => predsAt.lasts hb1 hp
  have HH : Hid (∀ (w1 : World), Below w.heap.size w w1 → termsAt w1 hv r.head.args) := fun w1 hb1 => termsAt.lasts hb1 hh
  have HB : Hid (∀ (w1 : World), Below w.heap.size w w1 → litsAt w1 bv r.body) := fun w1 hb1 => litsAt.lasts hb1 hb
  obtain ⟨ha, hcap, rfl, _⟩ := hh
  obtain ⟨pa, pcap, rfl, _⟩ := hp
  obtain ⟨a, cap, rfl, hm, hx⟩ := hb
  have HX : Hid (r.body = [] ∨ ∃ b off, a = some ⟨b, off, none⟩ ∧ b < w.heap.size ∧ ∀ i x, r.body[i]? = some x → litAt w b (off + i * 3) x) := hx
  clear hx
  by_cases h1 : atomErr ps r.head = 0
  · by_cases h3 : 3 < r.body.length
    · rw [ruleErr_many h1 h3]
      have h1' : atomErr ps ⟨r.head.pred, r.head.args⟩ = 0 := h1
      have h3' : (3 : Int) < (r.body.length : Int) := by omega
      clear h1 HX
      go_enter Tryz.func102, Tryz.ntmps102
      go_wp2_with fail
      refine (atom_c _ _ _ ps _ _ (HP.out _ (by exact below_alloc _ _)) (HH.out _ (by exact below_alloc _ _))).mono ?_
      rintro e w1 ⟨rfl, hb1⟩
      have c4 : w1.cell? ⟨w.heap.size, 4, none⟩ = some (.slice a r.body.length cap) := by rw [hb1.cell (p := ⟨w.heap.size, 4, none⟩) (by simp)]; simp [go_sem]
      go_wp2_with fail
      go_ret
      exact ⟨rfl, below_trans (below_alloc _ _) hb1⟩
    · have h1' : atomErr ps ⟨r.head.pred, r.head.args⟩ = 0 := h1
      have H1 : Hid (atomErr ps r.head = 0) := h1
      have h3' : ¬ (3 : Int) < (r.body.length : Int) := by omega
      clear h1
      go_enter Tryz.func102, Tryz.ntmps102
      go_wp2_with fail
      refine (atom_c _ _ _ ps _ _ (HP.out _ (by exact below_alloc _ _)) (HH.out _ (by exact below_alloc _ _))).mono ?_
      rintro e w1 ⟨rfl, hb1⟩
      have c4 : w1.cell? ⟨w.heap.size, 4, none⟩ = some (.slice a r.body.length cap) := by rw [hb1.cell (p := ⟨w.heap.size, 4, none⟩) (by simp)]; simp [go_sem]
      have HB1 : Hid (Below (w.heap.size + 1) (w.alloc (.cells #[.int .i64 r.head.pred, .slice ha r.head.args.length hcap, .int .i64 r.src, .int .i64 r.n, .slice a r.body.length cap] 54)) w1) := hb1.mono (by simp)
      clear hb1
      go_wp2_with fail
      clear c4
      go_loopw [23] (fun i wr => ∃ j : Nat, j ≤ r.body.length ∧ i = .int .i64 j ∧ (r.body.take j).all (atomOk ps) = true ∧
          Below (w.heap.size + 1) (w.alloc (.cells #[.int .i64 r.head.pred, .slice ha r.head.args.length hcap, .int .i64 r.src, .int .i64 r.n, .slice a r.body.length cap] 54)) wr) (fun i _ => r.body.length - (intOf i).toNat)
      case atStart => exact ⟨0, Nat.zero_le _, rfl, rfl, HB1.out⟩
      case round =>
        obtain ⟨j, hj, rfl, hall, hbr⟩ := hrel
        have hbw : Below w.heap.size w wr := (below_alloc _ _).trans (hbr.mono (by omega))
        by_cases hlt : j < r.body.length
        · obtain ⟨b', off', rfl, hbl', hx⟩ := HX.out.resolve_left (by intro e; rw [e] at hlt; simp at hlt)
          obtain ⟨ht1, ht2, ta, tc, ht3, ht4⟩ := (litAt.lasts w wr b' _ _ hbw hbl' (hx j r.body[j] (by simp [hlt]))).open
          have H : Hid ((r.body.take (j + 1)).all (atomOk ps) = atomOk ps r.body[j]) := by show _ = _; rw [all_take hlt, hall, Bool.true_and]
          have H2 : Hid (atomErr ps r.body[j].atom ≠ 0 → ruleErr ps r = atomErr ps r.body[j].atom) := fun hn => ruleErr_body H1.out h3 hlt hall hn
          clear hx hall HX
          generalize r.body[j] = l at *
          obtain ⟨ln, lp, lt⟩ := l
          have HT : Hid (∀ w1, Below wr.heap.size wr w1 → termsAt w1 (.slice ta lt.length tc) lt) := fun w1 h => termsAt.lasts h ht4
          clear ht4
          go_wp2_with fail
          refine (atom_c _ _ _ ps _ _ (HP.out _ (hbw.alloc hbw.size _)) (HT.out _ (by exact below_alloc _ _))).mono ?_
          rintro e w2 ⟨rfl, hb2⟩
          have hb3 : Below wr.heap.size wr w2 := below_trans (below_alloc _ _) hb2
          clear hb2
          by_cases hn : atomErr ps ⟨lp, lt⟩ = 0
          · have H3 : Hid ((r.body.take (j + 1)).all (atomOk ps) = true) := by show _ = _; rw [H.out, atomOk]; simpa using hn
            clear H H2
            go_wp2_with fail
            go_roundw
            case rel => exact ⟨j + 1, by omega, by go_num, H3.out, hbr.trans (hb3.mono (by have := hbr.size; simp at this; omega))⟩
            case measure => simp [intOf]; omega
          · have H3 : Hid (ruleErr ps r = atomErr ps ⟨lp, lt⟩) := H2.out hn
            have hn' : (atomErr ps ⟨lp, lt⟩ != 0) = true := by simpa using hn
            clear H H2 hn
            go_wp2_with fail
            go_ret
            exact ⟨ret_int H3.out.symm, hbw.trans (hb3.mono hbw.size)⟩
        · have hall' : r.body.all (atomOk ps) = true := all_take_end hlt hall
          have hat : ∀ l ∈ r.body, isPred ps l.atom.pred = true ∧ l.atom.args.all termOk = true := fun l hl => atom_right (by have := List.all_eq_true.1 hall' l hl; simpa [atomOk] using this)
          have HAT : Hid (∀ l ∈ r.body, isPred ps l.atom.pred = true ∧ l.atom.args.all termOk = true) := hat
          have HF : Hid (free r = true → ruleErr ps r = 9) := fun h => ruleErr_free H1.out h3 hall' (by rw [← free_all]; exact h)
          have HV : Hid (free r = false → ruleErr ps r = valueErr ps r) := fun h => ruleErr_value H1.out h3 hall' (by rw [← free_all]; exact h)
          clear hall hall' hat HX
          have y0 : wr.cell? ⟨w.heap.size, 0, none⟩ = some (.int .i64 r.head.pred) := by rw [hbr.cell (p := ⟨w.heap.size, 0, none⟩) (by simp)]; simp [go_sem]
          have y1 : wr.cell? ⟨w.heap.size, 1, none⟩ = some (.slice ha r.head.args.length hcap) := by rw [hbr.cell (p := ⟨w.heap.size, 1, none⟩) (by simp)]; simp [go_sem]
          have y2 : wr.cell? ⟨w.heap.size, 2, none⟩ = some (.int .i64 r.src) := by rw [hbr.cell (p := ⟨w.heap.size, 2, none⟩) (by simp)]; simp [go_sem]
          have y3 : wr.cell? ⟨w.heap.size, 3, none⟩ = some (.int .i64 r.n) := by rw [hbr.cell (p := ⟨w.heap.size, 3, none⟩) (by simp)]; simp [go_sem]
          have y4 : wr.cell? ⟨w.heap.size, 4, none⟩ = some (.slice a r.body.length cap) := by rw [hbr.cell (p := ⟨w.heap.size, 4, none⟩) (by simp)]; simp [go_sem]
          have hsz : w.heap.size < wr.heap.size := by have := hbr.size; simp at this; omega
          go_wp2_with fail
          refine (hasFree_c _ r ha hcap _ (HH.out _ hbw) (HB.out _ hbw) (by omega) (atom_right H1.out).2 (fun l hl => (HAT.out l hl).2)).mono ?_
          rintro e w2 ⟨rfl, hb2⟩
          have hbw2 : Below w.heap.size w w2 := hbw.trans (hb2.mono hbw.size)
          cases hf : free r
          · have H3 : Hid (ruleErr ps r = valueErr ps r) := HV.out hf
            clear HF HV
            have q0 := (cell_lasts hb2 hsz).trans y0
            have q1 := (cell_lasts hb2 hsz).trans y1
            have q2 := (cell_lasts hb2 hsz).trans y2
            have q3 := (cell_lasts hb2 hsz).trans y3
            have q4 := (cell_lasts hb2 hsz).trans y4
            clear y0 y1 y2 y3 y4
            go_wp2_with fail
            refine (checkValue_c _ _ ps r _ _ (HP.out _ hbw2) (HB.out _ hbw2) (atom_right H1.out).1 (fun l hl => (HAT.out l hl).1)).mono ?_
            rintro e w3 ⟨rfl, hb3⟩
            go_wp2_with fail
            go_ret
            exact ⟨ret_int H3.out.symm, hbw2.trans (hb3.mono hbw2.size)⟩
          · have H3 : Hid (ruleErr ps r = 9) := HF.out hf
            clear HF HV y0 y1 y2 y3 y4
            go_wp2_with fail
            go_ret
            exact ⟨ret_int H3.out.symm, hbw2⟩
  · rw [ruleErr_head h1]
    have h1' : (atomErr ps ⟨r.head.pred, r.head.args⟩ != 0) = true := by simpa using h1
    clear h1 HX
    go_enter Tryz.func102, Tryz.ntmps102
    go_wp2_with fail
    refine (atom_c _ _ _ ps _ _ (HP.out _ (by exact below_alloc _ _)) (HH.out _ (by exact below_alloc _ _))).mono ?_
    rintro e w1 ⟨rfl, hb1⟩
    go_wp2_with fail
    go_ret
    exact ⟨rfl, below_trans (below_alloc _ _) hb1⟩
end Go.Proofs.YtlfccloaoopadafGreatDoor.Rule
