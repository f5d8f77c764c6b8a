/-
  Package base: Add.
-/
import Derived.Test.YtgbacodellfacacOwn6
namespace Go.Proofs.Ytgbacodellfacac.Base
open Go.ChangeShapes Go.WideShapes Go.ChangeAt Go.RowKit
open Lat (within join)
open Rule (factFine isPred kindOf arityOf isPred_iff)

theorem pos_lt {y : Fct} {f : List Fct} {pl : Int} (h : place y < pl) : pos (y :: f) pl = pos f pl + 1 := by rw [pos_cons, if_pos h]
theorem pos_ge {y : Fct} {f : List Fct} {pl : Int} (hs : Sorted (y :: f)) (h : ¬ place y < pl) : pos (y :: f) pl = 0 := by
  rw [pos_cons, if_neg h]
  exact pos_zero (fun z hz => by have := (List.pairwise_cons.1 hs).1 z hz; omega)
theorem add_fresh {K : Int → Int} {x : Fct} {f : List Fct} (hs : Sorted f) (h : get f (place x) = none) : addF K x f = f.take (pos f (place x)) ++ [x] ++ f.drop (pos f (place x)) ∧ addC K x f = true := by
  induction f with
  | nil => exact ⟨rfl, rfl⟩
  | cons y f ih =>
    rw [get_cons] at h
    by_cases e : place y = place x
    · rw [if_pos e] at h; cases h
    · rw [if_neg e] at h
      rw [addF, addC, if_neg e, if_neg e]
      by_cases l : place x < place y
      · rw [if_pos l, if_pos l, pos_ge hs (by omega)]
        exact ⟨rfl, rfl⟩
      · rw [if_neg l, if_neg l, pos_lt (by omega)]
        obtain ⟨h1, h2⟩ := ih (List.pairwise_cons.1 hs).2 h
        rw [h1, h2]
        exact ⟨rfl, rfl⟩
theorem add_there {K : Int → Int} {x : Fct} {f : List Fct} (hs : Sorted f) (hp : pos f (place x) < f.length) (h : place f[pos f (place x)] = place x) :
    addF K x f = f.set (pos f (place x)) ⟨f[pos f (place x)].pred, f[pos f (place x)].a, f[pos f (place x)].b, join (K x.pred) f[pos f (place x)].val x.val⟩ ∧ addC K x f = (join (K x.pred) f[pos f (place x)].val x.val != f[pos f (place x)].val) := by
  induction f with
  | nil => simp at hp
  | cons y f ih =>
    by_cases l : place y < place x
    · have e := pos_lt (f := f) l
      simp only [e, List.getElem_cons_succ, List.length_cons, Nat.add_lt_add_iff_right, List.set_cons_succ] at h hp ⊢
      obtain ⟨h1, h2⟩ := ih (List.pairwise_cons.1 hs).2 hp h
      rw [addF, addC, if_neg (by omega), if_neg (by omega), if_neg (by omega), if_neg (by omega), h1, h2]
      exact ⟨rfl, rfl⟩
    · have e := pos_ge hs l
      simp only [e, List.getElem_cons_zero, List.set_cons_zero] at h hp ⊢
      rw [addF, addC, if_pos h, if_pos h]
      exact ⟨rfl, rfl⟩
theorem facts_short {ps : List Prd} {f : List Fct} (h : factsErr ps f = 0) : f.length ≤ 125 := by
  have hr := right_of h
  have h5 := (factsErr_zero h).1
  have hge : ∀ i (hi : i < f.length), (i : Int) ≤ place f[i] := by
    intro i
    induction i with
    | zero =>
      intro hi
      obtain ⟨_, _, _, _, _, _, _⟩ := hr.fine f[0] (List.getElem_mem hi)
      unfold place
      omega
    | succ i ih =>
      intro hi
      have h1 := ih (by omega)
      have h2 := good_adj (factsErr_zero h).2.2 i hi
      omega
  refine Classical.byContradiction fun hn => ?_
  have h1 := hge 125 (by omega)
  obtain ⟨_, _, _, _, _, _, _⟩ := hr.fine f[125] (List.getElem_mem (by omega))
  unfold place at h1
  omega

/-- D2 -/
def addOf (ps : List Prd) (f : List Fct) (x : Fct) : List Fct × Bool × Int := if withErr ps f x ≠ 0 then ([], false, withErr ps f x) else (addF (kindOf ps) x f, addC (kindOf ps) x f, 0)
/-- a slice within its room -/
def capOk (v : Value) : Prop := ∃ a n c, v = .slice a n c ∧ n ≤ c ∧ (a = none → c = 0)
theorem cap_own {w : World} {base : Nat} {e : TypeId} {sz n : Nat} {v : Value} {xs : List Value} (h : w.ownsRow base e sz v n xs) : capOk v := by
  rcases h.2 with ⟨rfl, _⟩ | ⟨g, cap, cur, rfl, _, _, h3, _⟩
  · exact ⟨none, 0, 0, rfl, Nat.le_refl _, fun _ => rfl⟩
  · exact ⟨_, n, cap, rfl, h3, fun h => by cases h⟩
theorem facts_nil (w : World) : factsAt w (.slice none 0 0) [] := ⟨none, 0, rfl, by simp, .inl rfl⟩
theorem cap_nil : capOk (.slice none 0 0) := ⟨none, 0, 0, rfl, Nat.le_refl _, fun _ => rfl⟩

theorem factsAt_set {w : World} {g cap i : Nat} {f : List Fct} (h : factsAt w (.slice (some ⟨g, 0, none⟩) f.length cap) f) (hi : i < f.length) (v : Int) :
    factsAt (w.setCell ⟨g, i * 4 + 3, none⟩ (.int .i64 v)) (.slice (some ⟨g, 0, none⟩) f.length cap) (f.set i ⟨f[i].pred, f[i].a, f[i].b, v⟩) := by
  obtain ⟨a, c, hv, hl, hx⟩ := h
  obtain ⟨b, off, rfl, hb, hx⟩ := hx.resolve_left (by rintro rfl; simp at hi)
  obtain ⟨⟨rfl, rfl⟩, rfl⟩ : (g = b ∧ 0 = off) ∧ cap = c := by simpa using hv
  refine ⟨_, cap, by rw [List.length_set], by rw [List.length_set]; exact hl, .inr ⟨g, 0, rfl, by rw [size_set]; exact hb, ?_⟩⟩
  intro k x hk
  by_cases e : i = k
  · subst e
    rw [List.getElem?_set_self hi] at hk
    obtain rfl := Option.some.inj hk
    obtain ⟨c0, c1, c2, c3⟩ := hx i f[i] (by simp [hi])
    simp only [Nat.zero_add] at c0 c1 c2 c3
    refine ⟨?_, ?_, ?_, ?_⟩
    · simp only [Nat.zero_add]; rw [cell_off (by omega)]; exact c0
    · simp only [Nat.zero_add]; rw [cell_off (by omega)]; exact c1
    · simp only [Nat.zero_add]; rw [cell_off (by omega)]; exact c2
    · simp only [Nat.zero_add]; exact cell_set c3
  · rw [List.getElem?_set_ne e] at hk
    obtain ⟨c0, c1, c2, c3⟩ := hx k x hk
    simp only [Nat.zero_add] at c0 c1 c2 c3
    refine ⟨?_, ?_, ?_, ?_⟩
    · simp only [Nat.zero_add]; rw [cell_off (by omega)]; exact c0
    · simp only [Nat.zero_add]; rw [cell_off (by omega)]; exact c1
    · simp only [Nat.zero_add]; rw [cell_off (by omega)]; exact c2
    · simp only [Nat.zero_add]; rw [cell_off (by omega)]; exact c3

theorem piece_take {w : World} {fa : Option Addr} {fc k : Nat} {f : List Fct} (h : factsAt w (.slice fa f.length fc) f) (hk : k ≤ f.length) : piece w (.slice fa k fc) (f.take k) := by
  obtain ⟨a, c, hv, _, hx⟩ := h
  simp only [Value.slice.injEq, true_and] at hv
  obtain ⟨rfl, rfl⟩ := hv
  rcases hx with rfl | ⟨b, off, rfl, _, hx⟩
  · obtain rfl : k = 0 := by simpa using hk
    cases fa with
    | none => exact .inl ⟨fc, rfl, rfl⟩
    | some ad => exact .inr ⟨ad, fc, rfl, fun j u hu => by simp [cellsF] at hu⟩
  · refine .inr ⟨_, fc, by rw [List.length_take, Nat.min_eq_left hk], facts_cells ?_⟩
    intro i x hi
    rw [List.getElem?_take] at hi
    split at hi
    · exact hx i x hi
    · cases hi
theorem piece_drop {w : World} {fa : Option Addr} {fc k : Nat} {f : List Fct} (h : factsAt w (.slice fa f.length fc) f) (hk : k ≤ f.length) (hc : f.length ≤ fc) :
    piece w (.slice (if fc = k then fa else Option.map (fun x => x.add (k * 4)) fa) (f.length - k) (fc - k)) (f.drop k) := by
  obtain ⟨a, c, hv, _, hx⟩ := h
  simp only [Value.slice.injEq, true_and] at hv
  obtain ⟨rfl, rfl⟩ := hv
  rcases hx with rfl | ⟨b, off, rfl, _, hx⟩
  · obtain rfl : k = 0 := by simpa using hk
    cases fa with
    | none => exact .inl ⟨fc - 0, by simp, rfl⟩
    | some ad =>
      by_cases e : fc = 0
      · rw [if_pos e]
        exact .inr ⟨ad, fc - 0, rfl, fun j u hu => by simp [cellsF] at hu⟩
      · rw [if_neg e]
        exact .inr ⟨_, fc - 0, rfl, fun j u hu => by simp [cellsF] at hu⟩
  · by_cases e : fc = k
    · rw [if_pos e]
      have e2 : f.drop k = [] := List.drop_eq_nil_of_le (by omega)
      rw [e2]
      exact .inr ⟨_, fc - k, by rw [show f.length - k = 0 by omega]; rfl, fun j u hu => by simp [cellsF] at hu⟩
    · rw [if_neg e]
      refine .inr ⟨⟨b, off + k * 4, none⟩, fc - k, by rw [List.length_drop]; simp [Addr.add], facts_cells ?_⟩
      intro i x hi
      rw [List.getElem?_drop] at hi
      have := hx (k + i) x hi
      rw [show off + k * 4 + i * 4 = off + (k + i) * 4 by omega]
      exact this
theorem piece_one {w : World} {B : Nat} {p a b v : Int} {t : TypeId} (h : w.heap[B]? = some (.cells #[.int .i64 p, .int .i64 a, .int .i64 b, .int .i64 v] t)) : piece w (.slice (some ⟨B, 0, none⟩) 1 1) [⟨p, a, b, v⟩] := by
  refine .inr ⟨⟨B, 0, none⟩, 1, rfl, facts_cells ?_⟩
  intro i x hi
  cases i with
  | zero =>
    obtain rfl : (⟨p, a, b, v⟩ : Fct) = x := by simpa using hi
    refine ⟨?_, ?_, ?_, ?_⟩ <;> simp [World.cell?, h]
  | succ i => simp at hi
theorem piece_new (w : World) (p a b v : Int) (t : TypeId) (B : Obj) : piece ((w.alloc (.cells #[.int .i64 p, .int .i64 a, .int .i64 b, .int .i64 v] t)).alloc B) (.slice (some ⟨w.heap.size, 0, none⟩) 1 1) [⟨p, a, b, v⟩] :=
  piece_one ((heap_alloc_old _ _ (by simp)).trans (heap_alloc_new w _))
theorem concat_is (w : World) (B : Nat) (a1 a2 a3 : Option Addr) (c1 c2 c3 n1 n2 n3 : Nat) (x1 x2 x3 : List Fct) (e1 : x1.length = n1) (e2 : x2.length = n2) (e3 : x3.length = n3) (h1 : w.cell? ⟨B, 0, none⟩ = some (.slice a1 n1 c1)) (h2 : w.cell? ⟨B, 1, none⟩ = some (.slice a2 n2 c2)) (h3 : w.cell? ⟨B, 2, none⟩ = some (.slice a3 n3 c3))
    (p1 : piece w (.slice a1 n1 c1) x1) (p2 : piece w (.slice a2 n2 c2) x2) (p3 : piece w (.slice a3 n3 c3) x3) (hpos : 0 < x2.length) (hle : x1.length + x2.length + x3.length ≤ 500) :
    Calls Try.prog 11 #[.slice (some ⟨B, 0, none⟩) 3 3] w fun e w' => ∃ v, e = .returned v ∧ w'.ownsRow w.heap.size 25 4 v (x1 ++ x2 ++ x3).length (cellsF (x1 ++ x2 ++ x3)) ∧ Below w.heap.size w w' := by
  subst e1 e2 e3
  exact concat_c w B a1 a2 a3 c1 c2 c3 x1 x2 x3 h1 h2 h3 p1 p2 p3 hpos hle

set_option maxRecDepth 100000 in
set_option maxHeartbeats 8000000 in
theorem Add_c (w : World) (pv fv : Value) (ps : List Prd) (f : List Fct) (p a b v : Int) (hp : predsAt w pv ps) (hf : factsAt w fv f) (hc : capOk fv) :
    Calls Try.prog 4 #[pv, fv, .agg #[.int .i64 p, .int .i64 a, .int .i64 b, .int .i64 v]] w fun e w' => ∃ u, e = .returned (.tuple #[u, .bool (addOf ps f ⟨p, a, b, v⟩).2.1, .int .i64 (addOf ps f ⟨p, a, b, v⟩).2.2]) ∧ factsAt w' u (addOf ps f ⟨p, a, b, v⟩).1 ∧ capOk u ∧ Below w.heap.size w w' := by
  have HP : Hid (∀ (w1 : World), Below w.heap.size w w1 → predsAt w1 pv ps) := fun w1 hb1 => predsAt.lasts hb1 hp
  have HF : Hid (∀ (w1 : World), Below w.heap.size w w1 → factsAt w1 fv f) := fun w1 hb1 => factsAt.lasts hb1 hf
  obtain ⟨fa, fc, rfl, hfm, hfx⟩ := hf
  obtain ⟨hcap, hcz⟩ : f.length ≤ fc ∧ (fa = none → fc = 0) := by
    obtain ⟨a', n', c', e, h1, h2⟩ := hc
    simp only [Value.slice.injEq] at e
    obtain ⟨rfl, rfl, rfl⟩ := e
    exact ⟨h1, h2⟩
  clear hc
  by_cases h0 : withErr ps f ⟨p, a, b, v⟩ = 0
  · obtain ⟨h1, h2⟩ := withErr_zero h0
    have HS : Hid (∀ y ∈ f, Small y) := facts_small h1
    have HX : Hid (Small ⟨p, a, b, v⟩) := fine_small (factsErr_zero h1).1 h2
    have HSO : Hid (Sorted f) := (right_of h1).sorted
    have hshort := facts_short h1
    have e : addOf ps f ⟨p, a, b, v⟩ = (addF (kindOf ps) ⟨p, a, b, v⟩ f, addC (kindOf ps) ⟨p, a, b, v⟩ f, 0) := by simp [addOf, h0]
    rw [e]
    clear e
    cases hg : get f (place ⟨p, a, b, v⟩) with
    | none =>
      obtain ⟨e1, e2⟩ := add_fresh (K := kindOf ps) HSO.out hg
      rw [e1, e2]
      have hpl := pos_le f (place ⟨p, a, b, v⟩)
      have HQ : Hid (∀ w', Below w.heap.size w w' → Calls Try.prog 9 #[.slice fa f.length fc, .agg #[.int .i64 p, .int .i64 a, .int .i64 b, .int .i64 v], .func (.func 10) #[] #[]] w' (fun e w1 => e = .returned (.tuple #[.int .i64 (pos f (place ⟨p, a, b, v⟩)), .bool false]) ∧ Below w'.heap.size w' w1)) := fun w' hb => by
        have := search_c w' _ f p a b v (HF.out _ hb) HS.out HX.out HSO.out
        rw [hg] at this
        exact this
      clear e1 e2 hg h1 h2 HS HX HSO
      generalize pos f (place ⟨p, a, b, v⟩) = k at *
      have hk0 : (0 : Int) ≤ (k : Int) := by omega
      have hk1 : (k : Int) ≤ (f.length : Int) := by omega
      have hk2 : (k : Int) ≤ (fc : Int) := by omega
      have hk3 : (f.length : Int) ≤ (fc : Int) := by omega
      go_enter Try.func4, Try.ntmps4
      go_wp2_with (first
        | (go_at_call 8; refine (checkWith_c _ _ _ ps f _ _ _ _ (HP.out _ (below_alloc _ _)) (HF.out _ (below_alloc _ _))).mono ?_; rintro e w1 ⟨rfl, hb1⟩; obtain ⟨c0, c1, c2, c3⟩ := four_last hb1; have hs1 : w.heap.size < w1.heap.size := Nat.lt_of_lt_of_le (by simp) hb1.size; have HB : Hid (Below w.heap.size w w1) := (below_alloc _ _).trans (hb1.mono (by simp)); clear hb1)
        | (go_at_call 9; refine (HQ.out _ HB.out).mono ?_; rintro e W0 ⟨rfl, hb2⟩; replace c0 := (cell_lasts hb2 hs1).trans c0; replace c1 := (cell_lasts hb2 hs1).trans c1; replace c2 := (cell_lasts hb2 hs1).trans c2; replace c3 := (cell_lasts hb2 hs1).trans c3; have hs2 : w.heap.size < W0.heap.size := Nat.lt_of_lt_of_le hs1 hb2.size; have HB2 : Hid (Below w.heap.size w W0) := HB.out.trans (hb2.mono HB.out.size); clear hb2))
      by_cases hfk : fc = k
      · have HT : Hid (piece W0 (.slice fa k k) (f.take k)) := by have := piece_take (k := k) (HF.out _ HB2.out) hpl; rw [hfk] at this; exact this
        have HD : Hid (piece W0 (.slice fa (f.length - k) 0) (f.drop k)) := by have := piece_drop (k := k) (HF.out _ HB2.out) hpl hcap; rw [if_pos hfk, hfk, Nat.sub_self] at this; exact this
        have HL1 : Hid ((f.take k).length = k) := by show _ = _; rw [List.length_take, Nat.min_eq_left hpl]
        have HL3 : Hid ((f.drop k).length = f.length - k) := by show _ = _; rw [List.length_drop]
        have HL4 : Hid (0 < [(⟨p, a, b, v⟩ : Fct)].length) := by show _ < _; simp
        have HL5 : Hid ((f.take k).length + [(⟨p, a, b, v⟩ : Fct)].length + (f.drop k).length ≤ 500) := by show _ ≤ _; simp; omega
        have KEEP : Hid (∀ w', Below W0.heap.size W0 w' → (fun w' => Below W0.heap.size W0 w' ∧ w'.cell? ⟨w.heap.size, 0, none⟩ = some (.int .i64 p) ∧ w'.cell? ⟨w.heap.size, 1, none⟩ = some (.int .i64 a) ∧ w'.cell? ⟨w.heap.size, 2, none⟩ = some (.int .i64 b) ∧ w'.cell? ⟨w.heap.size, 3, none⟩ = some (.int .i64 v)) w') :=
          fun w' hq => ⟨hq, (cell_lasts hq hs2).trans c0, (cell_lasts hq hs2).trans c1, (cell_lasts hq hs2).trans c2, (cell_lasts hq hs2).trans c3⟩
        go_region_held3 (fun w' => Below W0.heap.size W0 w' ∧ w'.cell? ⟨w.heap.size, 0, none⟩ = some (.int .i64 p) ∧ w'.cell? ⟨w.heap.size, 1, none⟩ = some (.int .i64 a) ∧ w'.cell? ⟨w.heap.size, 2, none⟩ = some (.int .i64 b) ∧ w'.cell? ⟨w.heap.size, 3, none⟩ = some (.int .i64 v))
          ((refine KEEP.out _ ?_; (first | exact Below.refl _ _ | exact (Below.refl _ _).drew | exact hk | exact hk.drew | exact (below_alloc _ _) | exact (below_alloc _ _).drew | exact ((Below.refl _ _).drew).alloc (Nat.le_refl _) _ | exact hk.alloc hk.size _ | exact (hk.alloc hk.size _).drew | exact hk.drew.alloc hk.size _ | exact (below_alloc _ _).alloc (by simp) _ | exact ((below_alloc _ _).alloc (by simp) _).drew | exact (((Below.refl _ _).drew).alloc (Nat.le_refl _) _).alloc (by simp) _ | exact ((below_alloc _ _).drew).alloc (by simp) _)))
          (first
            | (go_at_call 11; refine Calls.mono (concat_is _ (W0.heap.size + 1) fa (some ⟨W0.heap.size, 0, none⟩) fa k 1 0 k 1 (f.length - k) (f.take k) [⟨p, a, b, v⟩] (f.drop k) HL1.out rfl HL3.out ?g1 ?g2 ?g3 ?g4 ?g5 ?g6 HL4.out HL5.out) ?_; (case g1 => simp [go_sem]); (case g2 => simp [go_sem]); (case g3 => simp [go_sem]); (case g4 => exact HT.out.lasts (by (first | exact (below_alloc _ _).alloc (by simp) _ | exact ((below_alloc _ _).alloc (by simp) _).drew))); (case g5 => first | exact piece_new W0 p a b v 25 _ | exact (piece_new W0 p a b v 25 _).lasts ((Below.refl _ _).drew)); (case g6 => exact HD.out.lasts (by (first | exact (below_alloc _ _).alloc (by simp) _ | exact ((below_alloc _ _).alloc (by simp) _).drew))); rintro e w5 ⟨u5, rfl, hown5, hb5⟩; have hk : Below W0.heap.size W0 w5 := Below.trans (by (first | exact (below_alloc _ _).alloc (by simp) _ | exact ((below_alloc _ _).alloc (by simp) _).drew)) (hb5.mono (by first | (simp; done) | omega | (simp; omega))); have HOW : Hid (∃ base, w5.ownsRow base 25 4 u5 (f.take k ++ [(⟨p, a, b, v⟩ : Fct)] ++ f.drop k).length (cellsF (f.take k ++ [(⟨p, a, b, v⟩ : Fct)] ++ f.drop k))) := ⟨_, hown5⟩; clear hb5 hown5))
        clear KEEP
        go_wp2_with fail
        go_ret3
        obtain ⟨base, hown⟩ := HOW.out
        exact ⟨_, rfl, factsAt_of hown (by simp; omega), cap_own hown, HB2.out.trans (hk.mono HB2.out.size)⟩
      · have HT : Hid (piece W0 (.slice fa k fc) (f.take k)) := piece_take (HF.out _ HB2.out) hpl
        have HD : Hid (piece W0 (.slice (Option.map (fun x => x.add (k * 4)) fa) (f.length - k) (fc - k)) (f.drop k)) := by have := piece_drop (k := k) (HF.out _ HB2.out) hpl hcap; rw [if_neg hfk] at this; exact this
        have HL1 : Hid ((f.take k).length = k) := by show _ = _; rw [List.length_take, Nat.min_eq_left hpl]
        have HL3 : Hid ((f.drop k).length = f.length - k) := by show _ = _; rw [List.length_drop]
        have HL4 : Hid (0 < [(⟨p, a, b, v⟩ : Fct)].length) := by show _ < _; simp
        have HL5 : Hid ((f.take k).length + [(⟨p, a, b, v⟩ : Fct)].length + (f.drop k).length ≤ 500) := by show _ ≤ _; simp; omega
        have KEEP : Hid (∀ w', Below W0.heap.size W0 w' → (fun w' => Below W0.heap.size W0 w' ∧ w'.cell? ⟨w.heap.size, 0, none⟩ = some (.int .i64 p) ∧ w'.cell? ⟨w.heap.size, 1, none⟩ = some (.int .i64 a) ∧ w'.cell? ⟨w.heap.size, 2, none⟩ = some (.int .i64 b) ∧ w'.cell? ⟨w.heap.size, 3, none⟩ = some (.int .i64 v)) w') :=
          fun w' hq => ⟨hq, (cell_lasts hq hs2).trans c0, (cell_lasts hq hs2).trans c1, (cell_lasts hq hs2).trans c2, (cell_lasts hq hs2).trans c3⟩
        go_region_held3 (fun w' => Below W0.heap.size W0 w' ∧ w'.cell? ⟨w.heap.size, 0, none⟩ = some (.int .i64 p) ∧ w'.cell? ⟨w.heap.size, 1, none⟩ = some (.int .i64 a) ∧ w'.cell? ⟨w.heap.size, 2, none⟩ = some (.int .i64 b) ∧ w'.cell? ⟨w.heap.size, 3, none⟩ = some (.int .i64 v))
          ((refine KEEP.out _ ?_; (first | exact Below.refl _ _ | exact (Below.refl _ _).drew | exact hk | exact hk.drew | exact (below_alloc _ _) | exact (below_alloc _ _).drew | exact ((Below.refl _ _).drew).alloc (Nat.le_refl _) _ | exact hk.alloc hk.size _ | exact (hk.alloc hk.size _).drew | exact hk.drew.alloc hk.size _ | exact (below_alloc _ _).alloc (by simp) _ | exact ((below_alloc _ _).alloc (by simp) _).drew | exact (((Below.refl _ _).drew).alloc (Nat.le_refl _) _).alloc (by simp) _ | exact ((below_alloc _ _).drew).alloc (by simp) _)))
          (first
            | (go_at_call 11; refine Calls.mono (concat_is _ (W0.heap.size + 1) fa (some ⟨W0.heap.size, 0, none⟩) (Option.map (fun x => x.add (k * 4)) fa) fc 1 (fc - k) k 1 (f.length - k) (f.take k) [⟨p, a, b, v⟩] (f.drop k) HL1.out rfl HL3.out ?g1 ?g2 ?g3 ?g4 ?g5 ?g6 HL4.out HL5.out) ?_; (case g1 => simp [go_sem]); (case g2 => simp [go_sem]); (case g3 => simp [go_sem]); (case g4 => exact HT.out.lasts (by (first | exact (below_alloc _ _).alloc (by simp) _ | exact ((below_alloc _ _).alloc (by simp) _).drew))); (case g5 => first | exact piece_new W0 p a b v 25 _ | exact (piece_new W0 p a b v 25 _).lasts ((Below.refl _ _).drew)); (case g6 => exact HD.out.lasts (by (first | exact (below_alloc _ _).alloc (by simp) _ | exact ((below_alloc _ _).alloc (by simp) _).drew))); rintro e w5 ⟨u5, rfl, hown5, hb5⟩; have hk : Below W0.heap.size W0 w5 := Below.trans (by (first | exact (below_alloc _ _).alloc (by simp) _ | exact ((below_alloc _ _).alloc (by simp) _).drew)) (hb5.mono (by first | (simp; done) | omega | (simp; omega))); have HOW : Hid (∃ base, w5.ownsRow base 25 4 u5 (f.take k ++ [(⟨p, a, b, v⟩ : Fct)] ++ f.drop k).length (cellsF (f.take k ++ [(⟨p, a, b, v⟩ : Fct)] ++ f.drop k))) := ⟨_, hown5⟩; clear hb5 hown5))
        clear KEEP
        go_wp2_with fail
        go_ret3
        obtain ⟨base, hown⟩ := HOW.out
        exact ⟨_, rfl, factsAt_of hown (by simp; omega), cap_own hown, HB2.out.trans (hk.mono HB2.out.size)⟩
    | some u =>
      obtain ⟨hpos, hpp, hu⟩ := get_some_pos HSO.out hg
      obtain ⟨e1, e2⟩ := add_there (K := kindOf ps) HSO.out hpos hpp
      rw [e1, e2]
      obtain ⟨bb, off, cap, hv, hbl, hcells⟩ := fact_cells (HF.out w (Below.refl _ _)) hpos
      obtain ⟨rfl, rfl⟩ : fa = some ⟨bb, off, none⟩ ∧ fc = cap := by simpa using hv
      obtain ⟨_, _, _, t3⟩ := hcells
      obtain ⟨pk, hpk, hpe⟩ : ∃ k : Nat, k < ps.length ∧ p = (k : Int) := isPred_iff.1 (by have := h2; simp only [factFine, Bool.and_eq_true] at this; exact this.1)
      subst hpe
      obtain ⟨pa, pc, rfl, hpm, hpx⟩ := hp
      obtain ⟨pb, po, rfl, hbp, hxx⟩ := hpx.resolve_left (by rintro rfl; simp at hpk)
      obtain ⟨_, _, k2⟩ := hxx pk ps[pk] (by simp [hpk])
      have HKO : Hid (kindOf ps (pk : Int) = ps[pk].kind) := kindOf_at hpk
      have HXV : Hid (Lat.err (kindOf ps (pk : Int)) v = 0) := (fine_of h2).v
      have HUV : Hid (Lat.err (kindOf ps (pk : Int)) u = 0) := by
        have q1 := get_err (right_of h1) hg
        rw [← pred_of (fine_of h2)] at q1
        exact q1
      rw [hu] at t3
      rw [hu]
      have HJ : Hid (Lat.joinOf ps[pk].kind u v = join (kindOf ps (pk : Int)) u v) := by
        show _ = _
        rw [HKO.out, Lat.joinOf, if_pos]
        rw [Lat.err2, if_pos (by rw [← HKO.out]; exact HUV.out)]
        rw [← HKO.out]
        exact HXV.out
      rw [← HJ.out]
      have HQ : Hid (∀ w', Below w.heap.size w w' → Calls Try.prog 9 #[.slice (some ⟨bb, off, none⟩) f.length fc, .agg #[.int .i64 (pk : Int), .int .i64 a, .int .i64 b, .int .i64 v], .func (.func 10) #[] #[]] w' (fun e w1 => e = .returned (.tuple #[.int .i64 (pos f (place ⟨(pk : Int), a, b, v⟩)), .bool true]) ∧ Below w'.heap.size w' w1)) := fun w' hb => by
        have := search_c w' _ f (pk : Int) a b v (HF.out _ hb) HS.out HX.out HSO.out
        rw [hg] at this
        exact this
      clear e1 e2 hg h1 h2 HS HX HSO hpp HJ HXV HUV HKO hxx hpx hv hu hfx
      have hpl : (pk : Int) < (ps.length : Int) := by omega
      have hp0 : (0 : Int) ≤ (pk : Int) := by omega
      generalize ps[pk].kind = qk at *
      generalize pos f (place ⟨(pk : Int), a, b, v⟩) = k at *
      have hk0 : (0 : Int) ≤ (k : Int) := by omega
      have hk1 : (k : Int) < (f.length : Int) := by omega
      have hne : 0 < f.length := by omega
      go_enter Try.func4, Try.ntmps4
      go_wp2_with (first
        | (go_at_call 8; refine (checkWith_c _ _ _ ps f _ _ _ _ (HP.out _ (below_alloc _ _)) (HF.out _ (below_alloc _ _))).mono ?_; rintro e w1 ⟨rfl, hb1⟩; obtain ⟨c0, c1, c2, c3⟩ := four_last hb1; have hs1 : w.heap.size < w1.heap.size := Nat.lt_of_lt_of_le (by simp) hb1.size; have HB : Hid (Below w.heap.size w w1) := (below_alloc _ _).trans (hb1.mono (by simp)); clear hb1)
        | (go_at_call 9; refine (HQ.out _ HB.out).mono ?_; rintro e W0 ⟨rfl, hb2⟩; replace c0 := (cell_lasts hb2 hs1).trans c0; replace c3 := (cell_lasts hb2 hs1).trans c3; have hs2 : w.heap.size < W0.heap.size := Nat.lt_of_lt_of_le hs1 hb2.size; have HB2 : Hid (Below w.heap.size w W0) := HB.out.trans (hb2.mono HB.out.size); clear hb2))
      have sb : bb < W0.heap.size := by omega
      have sp : pb < W0.heap.size := by omega
      have L0 : ∀ x : Low W0.heap.size W0, x.wd.cell? ⟨w.heap.size, 0, none⟩ = some (.int .i64 pk) := fun x => (cell_lasts x.low hs2).trans c0
      have L3 : ∀ x : Low W0.heap.size W0, x.wd.cell? ⟨w.heap.size, 3, none⟩ = some (.int .i64 v) := fun x => (cell_lasts x.low hs2).trans c3
      have LG : ∀ x : Low W0.heap.size W0, x.wd.cell? ⟨bb, off + k * 4 + 3, none⟩ = some (.int .i64 u) := fun x => (cell_lasts x.low sb).trans ((cell_lasts HB2.out hbl).trans t3)
      have LP : ∀ x : Low W0.heap.size W0, x.wd.cell? ⟨pb, po + pk * 3 + 2, none⟩ = some (.int .i64 qk) := fun x => (cell_lasts x.low sp).trans ((cell_lasts HB2.out hbp).trans k2)
      refine wp_region_low W0.heap.size (by kernel_rfl) (by kernel_rfl) ?_
      repeat (go_big_quiet_step ((go_at_call 12; exact low_of (Lat.Join_c _ _ _ _))))
      refine wpQuiet_nil ?_
      rintro w2 ⟨⟨w2', hk⟩, hw2⟩
      obtain rfl : w2 = w2' := hw2
      clear L0 L3 LG LP
      have HB3 : Hid (Below w.heap.size w w2) := HB2.out.trans (hk.mono HB2.out.size)
      clear c0 c1 c2 c3
      go_wp2_with fail
      refine (clone_c w2 _ f (HF.out _ HB3.out) hne (by omega)).mono ?_
      rintro e w3 ⟨v3, rfl, hown3, hb3⟩
      have HB4 : Hid (Below w.heap.size w w3) := HB3.out.trans (hb3.mono HB3.out.size)
      have HF3 : Hid (factsAt w3 v3 f) := factsAt_of hown3 (by omega)
      rcases hown3.2 with ⟨_, hz⟩ | ⟨g, cap, cur, rfl, hge, hgc, hnc, _⟩
      · omega
      have hwg : w.heap.size ≤ g := Nat.le_trans HB3.out.size hge
      have hbg : g ≠ bb := by omega
      obtain ⟨bb', off', cap', hv', _, hcl⟩ := fact_cells HF3.out hpos
      obtain ⟨⟨rfl, rfl⟩, rfl⟩ : (g = bb' ∧ 0 = off') ∧ cap = cap' := by simpa using hv'
      obtain ⟨_, _, _, d3⟩ := hcl
      simp only [Nat.zero_add] at d3
      have fz : w3.frozen? ⟨g, k * 4 + 3, none⟩ = false := by simp [World.frozen?, hgc]
      have t3' := (cell_lasts HB4.out hbl).trans t3
      clear hown3 hb3 hv' hgc
      go_wp2_with fail
      refine wp_called (fun W => Below w.heap.size w W ∧ factsAt W (.slice (some ⟨g, 0, none⟩) f.length cap) (f.set k ⟨f[k].pred, f[k].a, f[k].b, Lat.joinOf qk u v⟩) ∧ W.cell? ⟨bb, off + k * 4 + 3, none⟩ = some (.int .i64 u)) ⟨HB4.out.setCell (p := ⟨g, k * 4 + 3, none⟩) hwg _, factsAt_set HF3.out hpos _, by rw [cell_block hbg]; exact t3'⟩ ?_
      rintro W5 ⟨hb5, hf5, t5⟩
      have HF5 : Hid (∀ w', Below W5.heap.size W5 w' → factsAt w' (.slice (some ⟨g, 0, none⟩) f.length cap) (f.set k ⟨f[k].pred, f[k].a, f[k].b, Lat.joinOf qk u v⟩)) := fun w' hb => factsAt.lasts hb hf5
      have s5 : bb < W5.heap.size := Nat.lt_of_lt_of_le hbl hb5.size
      clear hf5 HF3 d3 fz t3'
      have LG : ∀ x : Low W5.heap.size W5, x.wd.cell? ⟨bb, off + k * 4 + 3, none⟩ = some (.int .i64 u) := fun x => (cell_lasts x.low s5).trans t5
      refine wp_region_low W5.heap.size (by kernel_rfl) (by kernel_rfl) ?_
      repeat (go_big_quiet_step (fail))
      refine wpQuiet_nil ?_
      rintro w6 ⟨⟨w6', hk6⟩, hw6⟩
      obtain rfl : w6 = w6' := hw6
      clear LG
      go_wp2_with fail
      go_ret3
      exact ⟨_, rfl, HF5.out _ hk6, ⟨_, _, cap, rfl, hnc, fun h => by cases h⟩, hb5.trans (hk6.mono hb5.size)⟩
  · have e : addOf ps f ⟨p, a, b, v⟩ = ([], false, withErr ps f ⟨p, a, b, v⟩) := by simp [addOf, h0]
    rw [e]
    have h0' : (withErr ps f ⟨p, a, b, v⟩ == 0) = false := by simpa using h0
    go_enter Try.func4, Try.ntmps4
    go_wp2_with (go_at_call 8; refine (checkWith_c _ _ _ ps f _ _ _ _ (HP.out _ (below_alloc _ _)) (HF.out _ (below_alloc _ _))).mono ?_; rintro e w1 ⟨rfl, hb1⟩; have HB : Hid (Below w.heap.size w w1) := (below_alloc _ _).trans (hb1.mono (by simp)); clear hb1)
    go_ret3
    exact ⟨_, rfl, facts_nil _, cap_nil, HB.out⟩
end Go.Proofs.Ytgbacodellfacac.Base
