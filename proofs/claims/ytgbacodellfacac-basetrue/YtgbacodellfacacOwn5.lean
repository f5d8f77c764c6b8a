/-
  Package base: Find and Under.
-/
import Derived.Test.YtgbacodellfacacOwn4
import Derived.Test.YtgbacodellfacacBaseRef4
namespace Go.Proofs.Ytgbacodellfacac.Base
open Go.ChangeShapes Go.WideShapes Go.ChangeAt Go.RowKit
open Lat (within join)
open Rule (factFine isPred kindOf arityOf isPred_iff)

theorem withErr_zero {ps : List Prd} {f : List Fct} {x : Fct} (h : withErr ps f x = 0) : factsErr ps f = 0 ∧ factFine ps x = true := by
  unfold withErr at h
  split at h
  · contradiction
  · rename_i h0
    split at h
    · exact ⟨by omega, by assumption⟩
    · omega
theorem findOf_err {ps : List Prd} {f : List Fct} {x : Fct} (h : withErr ps f x ≠ 0) : findOf ps f x = (0, false, withErr ps f x) := by
  unfold withErr findOf at *
  by_cases h0 : factsErr ps f = 0
  · cases hf : factFine ps x
    · simp [h0]
    · simp [h0, hf] at h
  · simp [h0]

set_option maxRecDepth 100000 in
set_option maxHeartbeats 4000000 in
theorem Find_c (w : World) (pv fv : Value) (ps : List Prd) (f : List Fct) (p a b v : Int) (hp : predsAt w pv ps) (hf : factsAt w fv f) :
    Calls Try.prog 15 #[pv, fv, .agg #[.int .i64 p, .int .i64 a, .int .i64 b, .int .i64 v]] w fun e w' => e = .returned (.tuple #[.int .i64 (findOf ps f ⟨p, a, b, v⟩).1, .bool (findOf ps f ⟨p, a, b, v⟩).2.1, .int .i64 (findOf ps f ⟨p, a, b, v⟩).2.2]) ∧ Below w.heap.size w w' := by
  have HP : Hid (∀ (w1 : World), Below w.heap.size w w1 → predsAt w1 pv ps) := fun w1 hb1 => predsAt.lasts hb1 hp
  have HF : Hid (∀ (w1 : World), Below w.heap.size w w1 → factsAt w1 fv f) := fun w1 hb1 => factsAt.lasts hb1 hf
  obtain ⟨fa, fc, rfl, hfm, hfx⟩ := hf
  clear hp hfx
  by_cases h0 : withErr ps f ⟨p, a, b, v⟩ = 0
  · obtain ⟨h1, h2⟩ := withErr_zero h0
    have HS : Hid (∀ y ∈ f, Small y) := facts_small h1
    have HX : Hid (Small ⟨p, a, b, v⟩) := fine_small (factsErr_zero h1).1 h2
    have HSO : Hid (Sorted f) := (right_of h1).sorted
    have e : findOf ps f ⟨p, a, b, v⟩ = (findTo f (place ⟨p, a, b, v⟩), (get f (place ⟨p, a, b, v⟩)).isSome, 0) := by simp [findOf, h1, h2]
    rw [e]
    clear e h1 h2
    cases hg : get f (place ⟨p, a, b, v⟩) with
    | none =>
      have e : findTo f (place ⟨p, a, b, v⟩) = 0 := by rw [findTo, hg]; rfl
      rw [e]
      clear e
      go_enter Try.func15, Try.ntmps15
      go_wp2_with (first
        | (go_at_call 8; refine (checkWith_c _ _ _ ps f _ _ _ _ (HP.out _ (below_alloc _ _)) (HF.out _ (below_alloc _ _))).mono ?_; rintro e w1 ⟨rfl, hb1⟩; obtain ⟨c0, c1, c2, c3⟩ := four_last hb1; have HB : Hid (Below w.heap.size w w1) := (below_alloc _ _).trans (hb1.mono (by simp)); clear hb1)
        | (go_at_call 9; refine (search_c _ _ f _ _ _ _ (HF.out _ HB.out) HS.out HX.out HSO.out).mono ?_; rintro e w2 ⟨rfl, hb2⟩; rw [hg]))
      go_ret3
      exact ⟨rfl, HB.out.trans (hb2.mono HB.out.size)⟩
    | some u =>
      have e : findTo f (place ⟨p, a, b, v⟩) = u := by rw [findTo, hg]; rfl
      rw [e]
      clear e
      obtain ⟨hpos, _, hu⟩ := get_some_pos HSO.out hg
      obtain ⟨bb, off, cap, hv, hbl, hcells⟩ := fact_cells (HF.out w (Below.refl _ _)) hpos
      obtain ⟨rfl, rfl⟩ : fa = some ⟨bb, off, none⟩ ∧ fc = cap := by simpa using hv
      obtain ⟨_, _, _, t3⟩ := hcells
      rw [hu] at t3
      have hp0 : (0 : Int) ≤ (pos f (place ⟨p, a, b, v⟩) : Int) := by omega
      have hp1 : (pos f (place ⟨p, a, b, v⟩) : Int) < (f.length : Int) := by omega
      have HQ : Hid (∀ w', Calls Try.prog 9 #[.slice (some ⟨bb, off, none⟩) f.length fc, .agg #[.int .i64 p, .int .i64 a, .int .i64 b, .int .i64 v], .func (.func 10) #[] #[]] w' (fun e w1 => e = .returned (.tuple #[.int .i64 (pos f (place ⟨p, a, b, v⟩)), .bool true]) ∧ Below w'.heap.size w' w1) ∨ ¬ Below w.heap.size w w') := fun w' => by
        by_cases hb : Below w.heap.size w w'
        · left
          have := search_c w' _ f p a b v (HF.out _ hb) HS.out HX.out HSO.out
          rw [hg] at this
          exact this
        · exact .inr hb
      clear hv HS HX HSO hg hu
      generalize pos f (place ⟨p, a, b, v⟩) = k at *
      go_enter Try.func15, Try.ntmps15
      go_wp2_with (first
        | (go_at_call 8; refine (checkWith_c _ _ _ ps f _ _ _ _ (HP.out _ (below_alloc _ _)) (HF.out _ (below_alloc _ _))).mono ?_; rintro e w1 ⟨rfl, hb1⟩; obtain ⟨c0, c1, c2, c3⟩ := four_last hb1; have HB : Hid (Below w.heap.size w w1) := (below_alloc _ _).trans (hb1.mono (by simp)); clear hb1)
        | (go_at_call 9; refine ((HQ.out _).resolve_right (fun h => h HB.out)).mono ?_; rintro e w2 ⟨rfl, hb2⟩; replace t3 := (cell_lasts (HB.out.trans (hb2.mono HB.out.size)) hbl).trans t3))
      go_ret3
      exact ⟨rfl, HB.out.trans (hb2.mono HB.out.size)⟩
  · rw [findOf_err h0]
    have h0' : (withErr ps f ⟨p, a, b, v⟩ == 0) = false := by simpa using h0
    go_enter Try.func15, Try.ntmps15
    go_wp2_with (go_at_call 8; refine (checkWith_c _ _ _ ps f _ _ _ _ (HP.out _ (below_alloc _ _)) (HF.out _ (below_alloc _ _))).mono ?_; rintro e w1 ⟨rfl, hb1⟩; have HB : Hid (Below w.heap.size w w1) := (below_alloc _ _).trans (hb1.mono (by simp)); clear hb1)
    go_ret3
    exact ⟨rfl, HB.out⟩

theorem leq_is {k a b : Int} (ha : Lat.err k a = 0) (hb : Lat.err k b = 0) : Lat.leq k a b = (join k a b == b) := by
  have h2 : Lat.err2 k a b = 0 := by rw [Lat.err2, if_pos ha, hb]
  unfold Lat.leq Lat.joinOf
  simp [h2]
theorem cell_lt {w : World} {b o : Nat} {v : Value} (h : w.cell? ⟨b, o, none⟩ = some v) : b < w.heap.size := by
  refine Classical.byContradiction fun hn => ?_
  have : w.heap[b]? = none := by simp; omega
  simp [World.cell?, this] at h
theorem asks2 {α : Type} {V : α → Value} {g : Nat} {a b : Value} {p : α → Bool} {xs : List α} {w : World} (h : ∀ (w1 : World) (q : α), Below w.heap.size w w1 → q ∈ xs → Calls Try.prog g #[V q, a, b] w1 fun e w' => e = .returned (.bool (p q)) ∧ Below w1.heap.size w1 w') : Asks V g #[a, b] p xs w := by
  intro w1 q hb hq
  have e : #[V q] ++ #[a, b] = #[V q, a, b] := rfl
  rw [e]
  exact h w1 q hb hq
theorem enters_more : ∀ args w, (callFunc 18 args).run Try.prog w = .ok (.enter 18 args) w := enters_of Try.func18 (by kernel_rfl) rfl

set_option maxRecDepth 100000 in
set_option maxHeartbeats 4000000 in
theorem tellsMore_c (w : World) (B C : Nat) (pv gv : Value) (ps : List Prd) (g : List Fct) (x : Fct) (hB : w.cell? ⟨B, 0, none⟩ = some gv) (hC : w.cell? ⟨C, 0, none⟩ = some pv) (hp : predsAt w pv ps) (hg : factsAt w gv g) (eg : factsErr ps g = 0) (hx : factFine ps x = true) :
    Calls Try.prog 18 #[factV x, .pointer (some ⟨B, 0, none⟩), .pointer (some ⟨C, 0, none⟩)] w fun e w' => e = .returned (.bool (!underOne (kindOf ps) g x)) ∧ Below w.heap.size w w' := by
  have bB : B < w.heap.size := cell_lt hB
  have bC : C < w.heap.size := cell_lt hC
  have HG : Hid (∀ (w1 : World), Below w.heap.size w w1 → factsAt w1 gv g) := fun w1 hb1 => factsAt.lasts hb1 hg
  have HS : Hid (∀ y ∈ g, Small y) := facts_small eg
  have HX : Hid (Small x) := fine_small (factsErr_zero eg).1 hx
  have HSO : Hid (Sorted g) := (right_of eg).sorted
  obtain ⟨pa, pc, rfl, hpm, hpx⟩ := hp
  obtain ⟨ga, gc, rfl, hgm, hgx⟩ := hg
  obtain ⟨pk, hpk, hpe⟩ : ∃ k : Nat, k < ps.length ∧ x.pred = (k : Int) := isPred_iff.1 (by have := hx; simp only [factFine, Bool.and_eq_true] at this; exact this.1)
  obtain ⟨pb, po, rfl, hbp, hxx⟩ := hpx.resolve_left (by rintro rfl; simp at hpk)
  obtain ⟨_, _, k2⟩ := hxx pk ps[pk] (by simp [hpk])
  have HKO : Hid (kindOf ps (pk : Int) = ps[pk].kind) := kindOf_at hpk
  have HXV : Hid (Lat.err (kindOf ps x.pred) x.val = 0) := (fine_of hx).v
  have hpl : (pk : Int) < (ps.length : Int) := by omega
  have hp0 : (0 : Int) ≤ (pk : Int) := by omega
  obtain ⟨p, a, b, v⟩ := x
  obtain rfl : p = (pk : Int) := hpe
  simp only [factV]
  cases hgt : get g (place ⟨(pk : Int), a, b, v⟩) with
  | none =>
    have e : underOne (kindOf ps) g ⟨(pk : Int), a, b, v⟩ = false := by simp only [underOne, hgt]
    rw [e]
    clear e hpx hxx hgx k2 HKO HXV eg hx
    go_enter Try.func18, Try.ntmps18
    go_wp2_with (go_at_call 9; refine (search_c _ _ g _ _ _ _ (HG.out _ (below_alloc _ _)) HS.out HX.out HSO.out).mono ?_; rintro e w2 ⟨rfl, hb2⟩; rw [hgt])
    go_ret
    exact ⟨rfl, (below_alloc _ _).trans (hb2.mono (by simp))⟩
  | some u =>
    obtain ⟨hpos, hpp, hu⟩ := get_some_pos HSO.out hgt
    obtain ⟨bb, off, cap, hv, hbl, hcells⟩ := fact_cells (HG.out w (Below.refl _ _)) hpos
    obtain ⟨rfl, rfl⟩ : ga = some ⟨bb, off, none⟩ ∧ gc = cap := by simpa using hv
    obtain ⟨_, _, _, t3⟩ := hcells
    rw [hu] at t3
    have HUV : Hid (Lat.err (kindOf ps (pk : Int)) u = 0) := by
      have h1 := get_err (right_of eg) hgt
      rw [← pred_of (fine_of hx)] at h1
      exact h1
    have e : underOne (kindOf ps) g ⟨(pk : Int), a, b, v⟩ = Lat.leq ps[pk].kind v u := by
      simp only [underOne, hgt]
      rw [leq_is (by rw [← HKO.out]; exact HXV.out) (by rw [← HKO.out]; exact HUV.out), HKO.out]
    rw [e]
    have hq0 : (0 : Int) ≤ (pos g (place ⟨(pk : Int), a, b, v⟩) : Int) := by omega
    have hq1 : (pos g (place ⟨(pk : Int), a, b, v⟩) : Int) < (g.length : Int) := by omega
    have HQ : Hid (∀ w', Below w.heap.size w w' → Calls Try.prog 9 #[.slice (some ⟨bb, off, none⟩) g.length gc, .agg #[.int .i64 (pk : Int), .int .i64 a, .int .i64 b, .int .i64 v], .func (.func 10) #[] #[]] w' (fun e w1 => e = .returned (.tuple #[.int .i64 (pos g (place ⟨(pk : Int), a, b, v⟩)), .bool true]) ∧ Below w'.heap.size w' w1)) := fun w' hb => by
      have := search_c w' _ g (pk : Int) a b v (HG.out _ hb) HS.out HX.out HSO.out
      rw [hgt] at this
      exact this
    clear e hv hpx hxx hgx HKO HXV HUV eg hx hgt hu hpp HSO HS HG HX
    generalize ps[pk].kind = qk at *
    generalize pos g (place ⟨(pk : Int), a, b, v⟩) = k at *
    go_enter Try.func18, Try.ntmps18
    go_wp2_with (go_at_call 9; refine (HQ.out _ (below_alloc _ _)).mono ?_; rintro e w1 ⟨rfl, hb1⟩; obtain ⟨c0, c1, c2, c3⟩ := four_last hb1; have hs1 : w.heap.size < w1.heap.size := Nat.lt_of_lt_of_le (by simp) hb1.size; have HB : Hid (Below w.heap.size w w1) := (below_alloc _ _).trans (hb1.mono (by simp)); clear hb1)
    have sB : B < w1.heap.size := by omega
    have sC : C < w1.heap.size := by omega
    have sb : bb < w1.heap.size := by omega
    have sp : pb < w1.heap.size := by omega
    have L0 : ∀ x : Low w1.heap.size w1, x.wd.cell? ⟨w.heap.size, 0, none⟩ = some (.int .i64 pk) := fun x => (cell_lasts x.low hs1).trans c0
    have L3 : ∀ x : Low w1.heap.size w1, x.wd.cell? ⟨w.heap.size, 3, none⟩ = some (.int .i64 v) := fun x => (cell_lasts x.low hs1).trans c3
    have LB : ∀ x : Low w1.heap.size w1, x.wd.cell? ⟨B, 0, none⟩ = some (.slice (some ⟨bb, off, none⟩) g.length gc) := fun x => (cell_lasts x.low sB).trans ((cell_lasts HB.out bB).trans hB)
    have LC : ∀ x : Low w1.heap.size w1, x.wd.cell? ⟨C, 0, none⟩ = some (.slice (some ⟨pb, po, none⟩) ps.length pc) := fun x => (cell_lasts x.low sC).trans ((cell_lasts HB.out bC).trans hC)
    have LG : ∀ x : Low w1.heap.size w1, x.wd.cell? ⟨bb, off + k * 4 + 3, none⟩ = some (.int .i64 u) := fun x => (cell_lasts x.low sb).trans ((cell_lasts HB.out hbl).trans t3)
    have LP : ∀ x : Low w1.heap.size w1, x.wd.cell? ⟨pb, po + pk * 3 + 2, none⟩ = some (.int .i64 qk) := fun x => (cell_lasts x.low sp).trans ((cell_lasts HB.out hbp).trans k2)
    refine wp_region_low w1.heap.size (by kernel_rfl) (by kernel_rfl) ?_
    repeat (go_big_quiet_step ((go_at_call 19; exact low_of (Lat.Leq_c _ _ _ _))))
    refine wpQuiet_nil ?_
    rintro _ ⟨⟨w2, hk⟩, rfl⟩
    clear L0 L3 LB LC LG LP
    go_wp2_with fail
    go_ret
    exact ⟨rfl, HB.out.trans (hk.mono HB.out.size)⟩

set_option maxRecDepth 100000 in
set_option maxHeartbeats 4000000 in
theorem Under_c (w : World) (pv fv gv : Value) (ps : List Prd) (f g : List Fct) (hp : predsAt w pv ps) (hf : factsAt w fv f) (hg : factsAt w gv g) :
    Calls Try.prog 6 #[pv, fv, gv] w fun e w' => e = .returned (.tuple #[.bool (underOf ps f g).1, .int .i64 (underOf ps f g).2]) ∧ Below w.heap.size w w' := by
  have HP : Hid (∀ (w1 : World), Below w.heap.size w w1 → predsAt w1 pv ps) := fun w1 hb1 => predsAt.lasts hb1 hp
  have HF : Hid (∀ (w1 : World), Below w.heap.size w w1 → factsAt w1 fv f) := fun w1 hb1 => factsAt.lasts hb1 hf
  have HG : Hid (∀ (w1 : World), Below w.heap.size w w1 → factsAt w1 gv g) := fun w1 hb1 => factsAt.lasts hb1 hg
  obtain ⟨pa, pc, rfl, hpm, hpx⟩ := hp
  obtain ⟨fa, fc, rfl, hfm, hfx⟩ := hf
  obtain ⟨ga, gc, rfl, hgm, hgx⟩ := hg
  clear hpx hfx hgx
  have KB : Hid (∀ w1, Below ((w.alloc (.cells #[.slice pa ps.length pc] 22)).alloc (.cells #[.slice ga g.length gc] 23)).heap.size ((w.alloc (.cells #[.slice pa ps.length pc] 22)).alloc (.cells #[.slice ga g.length gc] 23)) w1 → Below w.heap.size w w1 ∧ w1.cell? ⟨w.heap.size, 0, none⟩ = some (.slice pa ps.length pc) ∧ w1.cell? ⟨w.heap.size + 1, 0, none⟩ = some (.slice ga g.length gc) ∧ w.heap.size + 1 < w1.heap.size) := fun w1 hb =>
    ⟨((below_alloc _ _).alloc (by simp) _).trans (hb.mono (by simp; omega)), by rw [hb.cell (by simp; omega)]; simp [go_sem], by rw [hb.cell (by simp)]; simp [go_sem], Nat.lt_of_lt_of_le (by simp) hb.size⟩
  by_cases h0 : factsErr ps f = 0
  · by_cases h1 : factsErr ps g = 0
    · have e : underOf ps f g = (under (kindOf ps) f g, 0) := by simp [underOf, h0, h1]
      rw [e]
      clear e
      have H0 : Hid (factsErr ps f = 0) := h0
      have H1 : Hid (factsErr ps g = 0) := h1
      have HU : Hid (f.any (fun x => !underOne (kindOf ps) g x) = !under (kindOf ps) f g) := by show _ = _; rw [under, List.not_all_eq_any_not]
      go_enter Try.func6, Try.ntmps6
      go_wp2_with (first
        | (go_at_call_of 17 (Value.slice fa f.length fc); have ha := KB.out _ (Below.refl _ _); refine (check_c _ _ _ ps f (HP.out _ ha.1) (HF.out _ ha.1)).mono ?_; rintro e w1 ⟨rfl, hb1⟩; obtain ⟨HB1, d0, d1, d2⟩ := KB.out _ hb1; have HB : Hid (Below w.heap.size w w1) := HB1; clear hb1 ha HB1)
        | (go_at_call_of 17 (Value.slice ga g.length gc); refine (check_c _ _ _ ps g (HP.out _ HB.out) (HG.out _ HB.out)).mono ?_; rintro e w2 ⟨rfl, hb2⟩; have HB2 : Hid (Below w.heap.size w w2) := HB.out.trans (hb2.mono HB.out.size); have d0' := (cell_lasts hb2 (by omega)).trans d0; have d1' := (cell_lasts hb2 (by omega)).trans d1; have d2' : w.heap.size + 1 < w2.heap.size := Nat.lt_of_lt_of_le d2 hb2.size; clear hb2))
      have HASK : Hid (Asks factV 18 #[.pointer (some ⟨w.heap.size + 1, 0, none⟩), .pointer (some ⟨w.heap.size, 0, none⟩)] (fun x => !underOne (kindOf ps) g x) f w2) := asks2 (fun w3 q hb hq => tellsMore_c w3 (w.heap.size + 1) w.heap.size _ _ ps g q ((cell_lasts hb d2').trans d1') ((cell_lasts hb (by omega)).trans d0') (HP.out _ (HB2.out.trans (hb.mono HB2.out.size))) (HG.out _ (HB2.out.trans (hb.mono HB2.out.size))) H1.out (facts_fine H0.out q hq))
      refine (containsFact_c w2 _ f _ _ enters_more (fun x => !underOne (kindOf ps) g x) (HF.out _ HB2.out) HASK.out).mono ?_
      rintro e w4 ⟨rfl, hb4⟩
      rw [HU.out]
      go_wp2_with fail
      go_ret2
      exact ⟨by simp, HB2.out.trans (hb4.mono HB2.out.size)⟩
    · have e : underOf ps f g = (false, factsErr ps g) := by simp [underOf, h0, h1]
      rw [e]
      clear e
      have h1' : (factsErr ps g == 0) = false := by simpa using h1
      go_enter Try.func6, Try.ntmps6
      go_wp2_with (first
        | (go_at_call_of 17 (Value.slice fa f.length fc); have ha := KB.out _ (Below.refl _ _); refine (check_c _ _ _ ps f (HP.out _ ha.1) (HF.out _ ha.1)).mono ?_; rintro e w1 ⟨rfl, hb1⟩; obtain ⟨HB1, d0, d1, d2⟩ := KB.out _ hb1; have HB : Hid (Below w.heap.size w w1) := HB1; clear hb1 ha HB1)
        | (go_at_call_of 17 (Value.slice ga g.length gc); refine (check_c _ _ _ ps g (HP.out _ HB.out) (HG.out _ HB.out)).mono ?_; rintro e w2 ⟨rfl, hb2⟩; have HB2 : Hid (Below w.heap.size w w2) := HB.out.trans (hb2.mono HB.out.size); clear hb2))
      go_ret2
      exact ⟨rfl, HB2.out⟩
  · have e : underOf ps f g = (false, factsErr ps f) := by simp [underOf, h0]
    rw [e]
    clear e
    have h0' : (factsErr ps f == 0) = false := by simpa using h0
    go_enter Try.func6, Try.ntmps6
    go_wp2_with (go_at_call_of 17 (Value.slice fa f.length fc); have ha := KB.out _ (Below.refl _ _); refine (check_c _ _ _ ps f (HP.out _ ha.1) (HF.out _ ha.1)).mono ?_; rintro e w1 ⟨rfl, hb1⟩; obtain ⟨HB1, d0, d1, d2⟩ := KB.out _ hb1; have HB : Hid (Below w.heap.size w w1) := HB1; clear hb1 ha HB1)
    go_ret2
    exact ⟨rfl, HB.out⟩
end Go.Proofs.Ytgbacodellfacac.Base
