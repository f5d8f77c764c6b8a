/-
  The developers' 'leastStrata': a number is raised where a use asks for it, and all begins again; what is found are the least strata.
-/
import Derived.ScopeJumps
import Derived.WalkMore
import Derived.Test.YtlfccloaoopadafGreatDoorG21
namespace Go.Proofs.YtlfccloaoopadafGreatDoor.Prog
open Go.RowKit Go.Shelf
open Strata
attribute [local go_sem] Oper.semAt_some

/-- a scope whose label is come to from above, too: the way from the label on is walked once -/
theorem scope_again {P : Program} {Q : Exit → Act → World → Prop} {a : Act} {w : World} {c rest : Code} (l : Nat) (J : Act → World → Prop) (μ : Act → World → Nat) (hf : findLabel c l = some (Code.skip.seq rest))
    (first : (∀ a w, J a w → rest.wp P (Exit.jump l J Q) a w) → c.wp P (Exit.jump l J Q) a w)
    (pass : ∀ a w, J a w → rest.wp P (Exit.jump l (fun a' w' => J a' w' ∧ μ a' w' < μ a w) Q) a w) : (Code.scope c).wp P Q a w :=
  wp_scope_jumps l J μ hf (first fun a w h => wp_mono (pass a w h) fun e a' w' hq => by
    cases e with
    | goto l' => exact ⟨hq.1, hq.2.1⟩
    | _ => exact hq) fun a w h => wp_seq (wp_skip (pass a w h))
/-- two worlds alike below B, one cell below B set in both -/
theorem below_both {B : Nat} {W W' : World} (h : Below B W W') (a : Addr) (v : Value) : Below B (W.setCell a v) (W'.setCell a v) := by
  refine ⟨h.os, h.tape, h.output, by rw [size_set, size_set]; exact h.size, fun k hk => ?_⟩
  have e := h.block k hk
  by_cases hka : k = a.block
  · subst hka
    unfold World.setCell
    rw [Array.getElem?_modify, Array.getElem?_modify, e]
  · rw [Below.heap_setCell W' a v k hka, Below.heap_setCell W a v k hka, e]

def mark (D : Nat) : Deferred := { target := .collected D, args := #[] }
/-- behind marks alone a function leaves as behind none -/
theorem leaves_marks {F : Fence} {n : Nat} {P : Program} {fn : Func} {tmps : Array Value} {R : Ending → World → Prop} (n₀ : Nat) : ∀ (Ds : List Nat) (W : World), Ds.Nodup → (∀ D ∈ Ds, n₀ ≤ D ∧ W.heap[D]? = some (.deferred (some []))) →
    (∀ W', Below n₀ W W' → (∀ b o v, W.cell? ⟨b, o, none⟩ = some v → W'.cell? ⟨b, o, none⟩ = some v) → LeavesIn F n P fn tmps R [] .returning W') → LeavesInM F n P fn tmps R (Ds.map mark) .returning W
  | [], W, _, _, h => h W (Below.refl _ _) fun _ _ _ h => h
  | D :: Ds, W, hn, hD, h => by
    obtain ⟨h1, h2⟩ := List.nodup_cons.1 hn
    have hD0 := hD D (by simp)
    have hbl : Below n₀ W (W.putObj D (.deferred none)) := (Below.refl n₀ W).grown (grownBy_putObj' W D _) (by have := (Array.getElem?_eq_some_iff.1 hD0.2).1; omega) (fun k e => by cases e; exact hD0.1)
    refine ⟨by simp, .inl ⟨D, W.putObj D (.deferred none), rfl, run_takeDeferred hD0.2, leaves_marks n₀ Ds _ h2 (fun E hE => ?_) fun W' hb hc => ?_⟩⟩
    · have hE0 := hD E (by simp [hE])
      have hne : E ≠ D := fun e => h1 (e ▸ hE)
      exact ⟨hE0.1, (World.putObj_heap_other hne).trans hE0.2⟩
    · exact h W' (hbl.trans hb) fun b o v hv => hc b o v ((KeepsBut.putObj (fun _ => False) (.deferred none) hD0.2 rfl).cell (fun x => x) hv)

theorem zeros_row' {w : World} {n : Nat} {t : TypeId} : rowAt (w.alloc (.cells (Array.replicate n (.int .i64 0)) t)) w.heap.size ((List.replicate n 0).map intV) := by
  have := zeros_row (w := w) (n := n) (t := t)
  rwa [List.toArray_replicate] at this
theorem ints_cells {X W : World} {B cap : Nat} {l : List Nat} (h : rowAt X B (l.map intV)) (hc : ∀ b o v, X.cell? ⟨b, o, none⟩ = some v → W.cell? ⟨b, o, none⟩ = some v) (hl : l.length ≤ 140737488355328) (hB : B < W.heap.size) : intsAt W (.slice (some ⟨B, 0, none⟩) l.length cap) l :=
  ⟨_, cap, rfl, hl, .inr ⟨B, 0, rfl, hB, fun i x hi => by
    have := (h i (intV x) (by rw [List.getElem?_map, hi]; rfl)).1
    rw [Nat.mul_one, Nat.zero_add]
    exact hc _ _ _ this⟩⟩
def rowNats (W : World) (B n : Nat) : List Nat := (List.range n).map fun k => (intOf ((W.cell? ⟨B, k, none⟩).getD undef)).toNat
theorem rowNats_eq {W : World} {B n : Nat} {l : List Nat} (h : rowAt W B (l.map intV)) (hl : l.length = n) : rowNats W B n = l := by
  subst hl
  apply List.ext_getElem
  · simp [rowNats]
  · intro k h1 h2
    have := (ints_at h h2).1
    simp only [rowNats, List.getElem_map, List.getElem_range, this, Option.getD_some, intOf, Int.toNat_natCast]
    rw [at_, List.getD_eq_getElem?_getD, List.getElem?_eq_getElem h2]
    rfl

set_option maxRecDepth 100000 in
set_option maxHeartbeats 4000000 in
theorem leastStrata_c (w : World) (pv rv : Value) (ps : List Prd) (rs : List Rul) (hp : predsAt w pv ps) (hr : rulesAt w rv rs) (h5 : ps.length ≤ 5) (hok : ∀ r ∈ rs, Right ps r) :
    Calls Tryz.prog 78 #[.agg #[pv, rv]] w fun e w' => ((∃ l v, strataL (edges rs) ps.length = some l ∧ e = .returned (.tuple #[v, .int .i64 0]) ∧ intsAt w' v l) ∨ (strataL (edges rs) ps.length = none ∧ e = .returned (.tuple #[.slice none 0 0, .int .i64 8]))) ∧ Below w.heap.size w w' := by
  have HP : Hid (predsAt w pv ps) := hp
  have HR : Hid (rulesAt w rv rs) := hr
  obtain ⟨pa, pc, rfl, hpm, hpx⟩ := hp
  obtain ⟨ra, rc, rfl, hrm, hrx⟩ := hr
  clear hpx hrx
  have hmk := @make_ints _ h5
  have HK : Hid (∀ r ∈ rs, Right ps r) := hok
  clear hok
  refine (callsIn_wide (n := 6)).1 (callsIn_of_wp_marks Tryz.func78 rfl trivial (wpIn_wide.2 ?_) rfl)
  simp only [Tryz.ntmps78, List.size_toArray, List.length_cons, List.length_nil, Nat.reduceAdd, Nat.reduceSub, Array.replicate_succ, Array.replicate_zero, List.push_toArray, List.append_toArray, List.nil_append, List.cons_append]
  go_wp2_with fail
  have HE : Hid (Within (edges rs) ps.length) := within_edges HK.out
  obtain ⟨JJ, hJJ⟩ : ∃ JJ : List Nat → Act → World → Prop, JJ = fun l a' W => Kept (edges rs) ps.length l ∧ ∃ (Ds : List Nat) (u12 u13 u14 : Value), Ds.Nodup ∧ (∀ D ∈ Ds, w.heap.size ≤ D ∧ W.heap[D]? = some (.deferred (some []))) ∧
    rowAt W (w.heap.size + 3) (l.map intV) ∧ W.cell? ⟨w.heap.size + 4, 0, none⟩ = some (.slice (some ⟨w.heap.size + 3, 0, none⟩) ps.length ps.length) ∧
    W.cell? ⟨w.heap.size, 1, none⟩ = some (.slice ra rs.length rc) ∧ W.cell? ⟨w.heap.size + 1, 0, none⟩ = some (.slice none 0 0) ∧ W.frozen? ⟨w.heap.size + 1, 0, none⟩ = false ∧ W.cell? ⟨w.heap.size + 2, 0, none⟩ = some (.int .i64 0) ∧ W.frozen? ⟨w.heap.size + 2, 0, none⟩ = false ∧
    Below w.heap.size w W ∧ w.heap.size + 4 < W.heap.size ∧
    a' = { tmps := #[.agg #[.slice pa ps.length pc, .slice ra rs.length rc], .pointer (some ⟨w.heap.size, 0, none⟩), .pointer (some ⟨w.heap.size + 1, 0, none⟩), .pointer (some ⟨w.heap.size + 2, 0, none⟩), .pointer (some ⟨w.heap.size + 4, 0, none⟩), undef, undef, undef, .pointer (some ⟨w.heap.size, 0, none⟩), .slice pa ps.length pc, .int .i64 ps.length, .slice (some ⟨w.heap.size + 3, 0, none⟩) ps.length ps.length, u12, u13, u14, undef, undef, undef, undef, undef, undef, undef, undef, undef, undef, undef, undef, undef, undef, undef, undef, undef, undef, undef, undef, undef, undef, undef, undef, undef, undef, undef], defers := Ds.map mark } := ⟨_, rfl⟩
  refine scope_again 0 (fun a' W => ∃ l, JJ l a' W) (fun _ W => ps.length * ps.length - (rowNats W (w.heap.size + 3) ps.length).sum) rfl ?first ?pass
  case first =>
    intro GO
    go_wp2_with fail
    refine wp_label ?_
    rename_i K ha
    refine ha _ _ (GO _ _ ⟨List.replicate ps.length 0, ?_⟩)
    rw [hJJ]
    refine ⟨kept_zero _ _, [], undef, undef, undef, List.nodup_nil, fun D h => absurd h (by simp), ?_, ?_, ?_, ?_, ?_, ?_, ?_, ?_, ?_, rfl⟩
    · have h1 := zeros_row' (w := ((w.alloc (.cells #[.slice pa ps.length pc, .slice ra rs.length rc] 25)).alloc (.cells #[.slice none 0 0] 61)).alloc (.cells #[.int .i64 0] 26)) (n := ps.length) (t := 3)
      simp only [World.size_alloc] at h1
      exact h1.below (below_alloc _ _) (by simp)
    · simp [go_sem]
    · simp [go_sem]
    · simp [go_sem]
    · simp [go_sem]
    · simp [go_sem]
    · simp [go_sem]
    · exact ((((Below.refl _ _).alloc (Nat.le_refl _) _).alloc (by simp) _).alloc (by simp; omega) _ |>.alloc (by simp; omega) _).alloc (by simp; omega) _
    · simp
  case pass =>
    rintro a W ⟨l, hJ⟩
    rw [hJJ] at hJ ⊢
    obtain ⟨hk, Ds, u12, u13, u14, hnd, hDs, hrow, h4, hb1, hr1, hr1f, hr2, hr2f, hbw, hsz, rfl⟩ := hJ
    clear hmk
    go_wp2_with (first | (go_at_call 103; refine (uses_c _ _ _ _).mono ?_; rintro e w1 ⟨rfl, rfl⟩))
    obtain ⟨W0, hW0⟩ : ∃ W0, W.alloc (.cells #[.slice ra rs.length rc] 23) = W0 := ⟨_, rfl⟩
    have hWW : Below W.heap.size W W0 := by rw [← hW0]; exact below_alloc _ _
    have hs0 : W0.heap.size = W.heap.size + 1 := by rw [← hW0]; simp
    have hbs : W0.cell? ⟨W.heap.size, 0, none⟩ = some (.slice ra rs.length rc) := by rw [← hW0]; simp [go_sem]
    have hrow0 : rowAt W0 (w.heap.size + 3) (l.map intV) := hrow.below hWW (by omega)
    have h40 := (cell_lasts hWW hsz).trans h4
    have hr10 := (cell_lasts (o := 0) hWW (show w.heap.size + 1 < W.heap.size by omega)).trans hr1
    have hr1f0 := (hWW.frozen (p := ⟨w.heap.size + 1, 0, none⟩) (show w.heap.size + 1 < W.heap.size by omega)).trans hr1f
    have hr20 := (cell_lasts (o := 0) hWW (show w.heap.size + 2 < W.heap.size by omega)).trans hr2
    have hr2f0 := (hWW.frozen (p := ⟨w.heap.size + 2, 0, none⟩) (show w.heap.size + 2 < W.heap.size by omega)).trans hr2f
    have hb10 := (cell_lasts (o := 1) hWW (show w.heap.size < W.heap.size by omega)).trans hb1
    have hbw0 : Below w.heap.size w W0 := hbw.trans (hWW.mono hbw.size)
    have HL : Hid (l.length = ps.length) := hk.len
    rw [hW0]
    have HND : Hid (∀ D, W0.heap.size ≤ D → D ∉ Ds) := fun D hD hm => by
      have := (Array.getElem?_eq_some_iff.1 (hDs D hm).2).1
      omega
    have HMK : Hid (∀ X, Below W0.heap.size W0 X → ∀ D ∈ Ds, X.heap[D]? = some (.deferred (some []))) := fun X hX D hD => by
      have h1 := (hDs D hD).2
      have h2 := (Array.getElem?_eq_some_iff.1 h1).1
      rw [hX.block D (by omega), hWW.block D h2, h1]
    refine (wpIn_wide (n := 6)).1 (wpIn_rangeFunc_ownH (α := UseOf (edges rs)) rfl (by omega) (gf := 127) (lb := #[.pointer (some ⟨W.heap.size, 0, none⟩)]) rfl trivial (enters_of Tryz.func127 (by kernel_rfl) rfl)
      (uses1_stops (6 - 1) (by omega) W.heap.size w.heap.size (fun _ => False) _ ps rs W0 (by omega) (fun _ h => h.elim) (by omega) hbs w rfl hbw0 HR.out HK.out)
      KeepsBut.trans (fun X k o o' _ h ho _ => KeepsBut.putObj _ o' h ho) (Below.refl _ _) (fun _ => rfl)
      (fun pre X => (∀ e ∈ edgesOf pre, at_ l e.b + e.up ≤ at_ l e.h) ∧ Below W0.heap.size W0 X)
      (fun c _ X => (c = .goto 0 ∧ ∃ e ∈ edges rs, at_ l e.h < at_ l e.b + e.up ∧ at_ l e.b + e.up ≠ ps.length ∧ Below W0.heap.size (W0.setCell ⟨w.heap.size + 3, e.h, none⟩ (.int .i64 ((at_ l e.b + e.up : Nat) : Int))) X) ∨
        (c = .ret ∧ (∃ e ∈ edges rs, at_ l e.b + e.up = ps.length) ∧ Below W0.heap.size ((W0.setCell ⟨w.heap.size + 1, 0, none⟩ (.slice none 0 0)).setCell ⟨w.heap.size + 2, 0, none⟩ (.int .i64 8)) X))
      (OwnFrom.and (fun _ _ _ _ hs _ _ => hs) (ownFrom_below (Nat.le_refl _) (Nat.le_refl _)))
      (fun c s A B row hs hg hr => ?hIx)
      ⟨fun e he => absurd he (by simp [edgesOf]), Below.refl _ _⟩
      (fun x a' X => ∃ Bx, W0.heap.size ≤ Bx ∧ X.cell? ⟨Bx, 0, none⟩ = some (.bool x.1.e.neg) ∧ X.cell? ⟨Bx, 1, none⟩ = some (.int .i64 (x.1.e.b : Int)) ∧
        a' = { tmps := #[.agg #[.slice pa ps.length pc, .slice ra rs.length rc], .pointer (some ⟨w.heap.size, 0, none⟩), .pointer (some ⟨w.heap.size + 1, 0, none⟩), .pointer (some ⟨w.heap.size + 2, 0, none⟩), .pointer (some ⟨w.heap.size + 4, 0, none⟩), .int .i64 (x.1.e.h : Int), .pointer (some ⟨Bx, 0, none⟩), undef, .pointer (some ⟨w.heap.size, 0, none⟩), .slice pa ps.length pc, .int .i64 ps.length, .slice (some ⟨w.heap.size + 3, 0, none⟩) ps.length ps.length, .pointer (some ⟨w.heap.size, 1, none⟩), .slice ra rs.length rc, .func (.func 127) #[] #[.pointer (some ⟨W.heap.size, 0, none⟩)], .int .i64 (x.1.e.h : Int), .agg #[.bool x.1.e.neg, .int .i64 (x.1.e.b : Int), .slice x.1.a x.1.n x.1.c], undef, undef, undef, undef, undef, undef, undef, undef, undef, undef, undef, undef, undef, undef, undef, undef, undef, undef, undef, undef, undef, undef, undef, undef, undef], defers := [] })
      (fun x a' s A B row hs hg hr => ?hAx) ?assign ?body ?done ?stop)
    case hIx =>
      rcases hs with ⟨rfl, e, he, h1, h2, h3⟩ | ⟨rfl, he, h3⟩
      · exact .inl ⟨rfl, e, he, h1, h2, ownFrom_below (β := Unit) (by rw [size_set]; exact Nat.le_refl _) (Nat.le_refl _) () A B row h3 hg hr⟩
      · exact .inr ⟨rfl, he, ownFrom_below (β := Unit) (by rw [size_set, size_set]; exact Nat.le_refl _) (Nat.le_refl _) () A B row h3 hg hr⟩
    case hAx =>
      obtain ⟨Bx, h1, h2, h3, rfl⟩ := hs
      exact ⟨Bx, h1, cell_kept h2 hg (fun r e => (hr r e).2), cell_kept h3 hg (fun r e => (hr r e).2), rfl⟩
    case assign =>
      rintro l' pre ⟨⟨⟨xh, xb, xn⟩, xa, xln, xc⟩, hx⟩ X K hi hK
      dsimp only [useV] at hK ⊢
      gi_wp2
      refine hK _ _ ((KeepsOthers.alloc _ _).from _) (KeepsBut.alloc _ _ _) ⟨hi.1, hi.2.trans ((Below.refl _ _).alloc hi.2.size _)⟩ ⟨X.heap.size, hi.2.size, ?_, ?_, rfl⟩
      · simp [go_sem]
      · simp [go_sem]
    case body =>
      rintro l' pre ⟨⟨⟨xh, xb, xn⟩, xa, xln, xc⟩, hx⟩ a' X hl' _ ⟨hi, hbX⟩ ⟨Bx, hBx, g0, g1, rfl⟩ _
      dsimp only at g0 g1 ⊢
      have hin := HE.out _ hx
      dsimp only at hin
      obtain ⟨hxh, hxb⟩ := hin
      have e4 := (hbX.cell (p := ⟨w.heap.size + 4, 0, none⟩) (show w.heap.size + 4 < W0.heap.size by omega)).trans h40
      have eb := (hbX.cell (p := ⟨w.heap.size + 3, xb, none⟩) (show w.heap.size + 3 < W0.heap.size by omega)).trans (ints_at hrow0 (by rw [HL.out]; exact hxb)).1
      have eh := (hbX.cell (p := ⟨w.heap.size + 3, xh, none⟩) (show w.heap.size + 3 < W0.heap.size by omega)).trans (ints_at hrow0 (by rw [HL.out]; exact hxh)).1
      have ef := (hbX.frozen (p := ⟨w.heap.size + 3, xh, none⟩) (show w.heap.size + 3 < W0.heap.size by omega)).trans (ints_at hrow0 (by rw [HL.out]; exact hxh)).2
      have e1 := (hbX.cell (p := ⟨w.heap.size + 1, 0, none⟩) (show w.heap.size + 1 < W0.heap.size by omega)).trans hr10
      have e1f := (hbX.frozen (p := ⟨w.heap.size + 1, 0, none⟩) (show w.heap.size + 1 < W0.heap.size by omega)).trans hr1f0
      have e2 := (hbX.cell (p := ⟨w.heap.size + 2, 0, none⟩) (show w.heap.size + 2 < W0.heap.size by omega)).trans hr20
      have e2f := (hbX.frozen (p := ⟨w.heap.size + 2, 0, none⟩) (show w.heap.size + 2 < W0.heap.size by omega)).trans hr2f0
      have hsm := hk.small xb hxb
      have hsm' := hk.small xh hxh
      have g1' : (xb : Int) < (ps.length : Int) := by omega
      have g2' : (xh : Int) < (ps.length : Int) := by omega
      generalize hae : at_ l xb = ab at *
      generalize hah : at_ l xh = ah at *
      have HIN : Hid (∀ b : Bool, ¬ ah < ab + (⟨xh, xb, b⟩ : Strata.Edge).up → ∀ (h : (⟨xh, xb, b⟩ : Strata.Edge) ∈ edges rs), ∀ e ∈ edgesOf (pre ++ [(⟨⟨⟨xh, xb, b⟩, xa, xln, xc⟩, h⟩ : UseOf (edges rs))]), at_ l e.b + e.up ≤ at_ l e.h) := by
        intro b hb h e he
        rw [edgesOf_snoc] at he
        rcases List.mem_append.1 he with he | he
        · exact hi e he
        · rw [List.mem_singleton.1 he]
          show at_ l xb + _ ≤ at_ l xh
          rw [hae, hah]
          exact Nat.not_lt.1 hb
      cases xn
      · have hne : (ab : Int) ≠ (ps.length : Int) := by omega
        by_cases hlt : ah < ab
        · have hlt' : (ah : Int) < (ab : Int) := by omega
          gi_wp2
          refine wpIn_goto ?_
          exact ⟨(KeepsOthers.setCell _ _ _).from _, .inl ⟨rfl, ⟨xh, xb, false⟩, hx, by show at_ l xh < at_ l xb + 0; rw [hae, hah]; exact hlt, by show at_ l xb + 0 ≠ _; rw [hae]; omega, by
            show Below _ (W0.setCell ⟨w.heap.size + 3, xh, none⟩ (.int .i64 ((at_ l xb + 0 : Nat) : Int))) _
            rw [hae]
            exact below_both hbX _ _⟩⟩
        · have hlt' : ¬ (ah : Int) < (ab : Int) := by omega
          gi_wp2
          exact ⟨KeepsFrom.refl _ _, KeepsBut.refl _ _, HIN.out false hlt hx, by rw [← hs0]; exact hbX⟩
      · by_cases hn : ab + 1 = ps.length
        · have hne : (ab : Int) + 1 = (ps.length : Int) := by omega
          gi_wp2
          exact ⟨((KeepsOthers.setCell _ _ _).trans (KeepsOthers.setCell _ _ _)).from _, .inr ⟨rfl, ⟨⟨xh, xb, true⟩, hx, by show at_ l xb + 1 = _; rw [hae]; exact hn⟩, below_both (below_both hbX _ _) _ _⟩⟩
        · have hne : (ab : Int) + 1 ≠ (ps.length : Int) := by omega
          by_cases hlt : ah < ab + 1
          · have hlt' : (ah : Int) < (ab : Int) + 1 := by omega
            gi_wp2
            refine wpIn_goto ?_
            exact ⟨(KeepsOthers.setCell _ _ _).from _, .inl ⟨rfl, ⟨xh, xb, true⟩, hx, by show at_ l xh < at_ l xb + 1; rw [hae, hah]; exact hlt, by show at_ l xb + 1 ≠ _; rw [hae]; omega, by
              show Below _ (W0.setCell ⟨w.heap.size + 3, xh, none⟩ (.int .i64 ((at_ l xb + 1 : Nat) : Int))) _
              rw [hae]
              exact below_both hbX _ _⟩⟩
          · have hlt' : ¬ (ah : Int) < (ab : Int) + 1 := by omega
            gi_wp2
            exact ⟨KeepsFrom.refl _ _, KeepsBut.refl _ _, HIN.out true hlt hx, by rw [← hs0]; exact hbX⟩
    case done =>
      rintro D xs X hD hS ⟨hi, hbX⟩ hK
      have HS : Hid (strataL (edges rs) ps.length = some l) := kept_done HE.out hk fun e he => Nat.not_lt.2 (hi e (by rw [hS]; exact he))
      have e4 := (hbX.cell (p := ⟨w.heap.size + 4, 0, none⟩) (show w.heap.size + 4 < W0.heap.size by omega)).trans h40
      have e1 := (hbX.cell (p := ⟨w.heap.size + 1, 0, none⟩) (show w.heap.size + 1 < W0.heap.size by omega)).trans hr10
      have e1f := (hbX.frozen (p := ⟨w.heap.size + 1, 0, none⟩) (show w.heap.size + 1 < W0.heap.size by omega)).trans hr1f0
      have e2 := (hbX.cell (p := ⟨w.heap.size + 2, 0, none⟩) (show w.heap.size + 2 < W0.heap.size by omega)).trans hr20
      have e2f := (hbX.frozen (p := ⟨w.heap.size + 2, 0, none⟩) (show w.heap.size + 2 < W0.heap.size by omega)).trans hr2f0
      go_wp2_with fail
      show LeavesInM _ _ _ _ _ _ ((D :: Ds).map mark) _ _
      refine leaves_marks w.heap.size (D :: Ds) _ (List.nodup_cons.2 ⟨HND.out D hD, hnd⟩) (fun D' hD' => ?_) fun W' hb hc => ?_
      · rcases List.mem_cons.1 hD' with rfl | hD'
        · exact ⟨by omega, ((KeepsOthers.setCell _ _ _).trans (KeepsOthers.setCell _ _ _)).same _ _ hK rfl⟩
        · exact ⟨(hDs D' hD').1, ((KeepsOthers.setCell _ _ _).trans (KeepsOthers.setCell _ _ _)).same _ _ (HMK.out X hbX D' hD') rfl⟩
      · have r1 := hc (w.heap.size + 1) 0 _ (by rw [cell_block (by omega)]; exact cell_set e1)
        have r2 := hc (w.heap.size + 2) 0 _ (cell_set (by rw [cell_block (by omega)]; exact e2))
        have hrX : rowAt X (w.heap.size + 3) (l.map intV) := hrow0.below hbX (by omega)
        have hszX := hbX.size
        have hszW := hb.size
        rw [size_set, size_set] at hszW
        refine ⟨.tuple #[.slice (some ⟨w.heap.size + 3, 0, none⟩) ps.length ps.length, .int .i64 0], by simp [results, Tryz.f78, go_sem, r1, r2], .inl ⟨l, _, HS.out, rfl, ?_⟩, ?_⟩
        · have := ints_cells (cap := ps.length) ((hrX.other (o := 0) (show w.heap.size + 1 ≠ w.heap.size + 3 by omega) _).other (o := 0) (show w.heap.size + 2 ≠ w.heap.size + 3 by omega) _) hc (by rw [HL.out]; omega) (by omega)
          rw [HL.out] at this
          exact this
        · exact (((hbw0.trans (hbX.mono hbw0.size)).setCell (p := ⟨w.heap.size + 1, 0, none⟩) (by simp) _).setCell (p := ⟨w.heap.size + 2, 0, none⟩) (by simp) _).trans hb
    case stop =>
      rintro D c pre X hD _ hix hK
      rcases hix with ⟨rfl, e, he, h1, h2, hbX⟩ | ⟨rfl, ⟨e, he, h1⟩, hbX⟩
      · refine wpIn_wide.2 (wp_goto ?_)
        have hrX : rowAt X (w.heap.size + 3) ((raise l e).map intV) := (ints_set hrow0 (by rw [HL.out]; exact (HE.out e he).1) (at_ l e.b + e.up)).below hbX (by omega)
        have hszX := hbX.size
        rw [size_set] at hszX
        refine ⟨rfl, ⟨raise l e, kept_raise HE.out hk he h2, D :: Ds, _, _, _, List.nodup_cons.2 ⟨HND.out D hD, hnd⟩, fun D' hD' => ?_, hrX, ?_, ?_, ?_, ?_, ?_, ?_, ?_, ?_, rfl⟩, ?_⟩
        · rcases List.mem_cons.1 hD' with rfl | hD'
          · exact ⟨by omega, hK⟩
          · have h3 := HMK.out W0 (Below.refl _ _) D' hD'
            have h4' := (Array.getElem?_eq_some_iff.1 h3).1
            exact ⟨(hDs D' hD').1, (hbX.block D' h4').trans ((KeepsOthers.setCell _ _ _).same _ _ h3 rfl)⟩
        · exact (hbX.cell (p := ⟨w.heap.size + 4, 0, none⟩) (show w.heap.size + 4 < W0.heap.size by omega)).trans ((cell_block (by omega)).trans h40)
        · exact (hbX.cell (p := ⟨w.heap.size, 1, none⟩) (show w.heap.size < W0.heap.size by omega)).trans ((cell_block (by omega)).trans hb10)
        · exact (hbX.cell (p := ⟨w.heap.size + 1, 0, none⟩) (show w.heap.size + 1 < W0.heap.size by omega)).trans ((cell_block (by omega)).trans hr10)
        · exact (hbX.frozen (p := ⟨w.heap.size + 1, 0, none⟩) (show w.heap.size + 1 < W0.heap.size by omega)).trans (frozen_set.trans hr1f0)
        · exact (hbX.cell (p := ⟨w.heap.size + 2, 0, none⟩) (show w.heap.size + 2 < W0.heap.size by omega)).trans ((cell_block (by omega)).trans hr20)
        · exact (hbX.frozen (p := ⟨w.heap.size + 2, 0, none⟩) (show w.heap.size + 2 < W0.heap.size by omega)).trans (frozen_set.trans hr2f0)
        · exact (hbw0.setCell (p := ⟨w.heap.size + 3, e.h, none⟩) (by simp) _).trans (hbX.mono hbw0.size)
        · omega
        · show ps.length * ps.length - (rowNats X (w.heap.size + 3) ps.length).sum < ps.length * ps.length - (rowNats W (w.heap.size + 3) ps.length).sum
          rw [rowNats_eq hrX (kept_raise HE.out hk he h2).len, rowNats_eq hrow HL.out]
          have m1 := raise_more HE.out hk he h1
          have m2 := kept_sum (kept_raise HE.out hk he h2)
          omega
      · refine wpIn_wide.2 (wp_ret ?_)
        show LeavesInM _ _ _ _ _ _ ((D :: Ds).map mark) _ _
        refine leaves_marks w.heap.size (D :: Ds) _ (List.nodup_cons.2 ⟨HND.out D hD, hnd⟩) (fun D' hD' => ?_) fun W' hb hc => ?_
        · rcases List.mem_cons.1 hD' with rfl | hD'
          · exact ⟨by omega, hK⟩
          · have h3 := HMK.out W0 (Below.refl _ _) D' hD'
            have h4' := (Array.getElem?_eq_some_iff.1 h3).1
            exact ⟨(hDs D' hD').1, (hbX.block D' h4').trans (((KeepsOthers.setCell _ _ _).trans (KeepsOthers.setCell _ _ _)).same _ _ h3 rfl)⟩
        · have r1 := hc (w.heap.size + 1) 0 _ ((hbX.cell (p := ⟨w.heap.size + 1, 0, none⟩) (show w.heap.size + 1 < W0.heap.size by omega)).trans ((cell_block (by omega)).trans (cell_set hr10)))
          have r2 := hc (w.heap.size + 2) 0 _ ((hbX.cell (p := ⟨w.heap.size + 2, 0, none⟩) (show w.heap.size + 2 < W0.heap.size by omega)).trans (cell_set ((cell_block (by omega)).trans hr20)))
          refine ⟨.tuple #[.slice none 0 0, .int .i64 8], by simp [results, Tryz.f78, go_sem, r1, r2], .inr ⟨kept_round HE.out hk he h1, rfl⟩, ?_⟩
          exact (((hbw0.setCell (p := ⟨w.heap.size + 1, 0, none⟩) (by simp) _).setCell (p := ⟨w.heap.size + 2, 0, none⟩) (by simp) _).trans (hbX.mono hbw0.size)).trans hb
end Go.Proofs.YtlfccloaoopadafGreatDoor.Prog

/-
  The developers' 'neededBy': whoever is used by one that is needed is needed, and all begins again; what is found is the least such.
-/
namespace Go.Proofs.YtlfccloaoopadafGreatDoor.Prog
open Go.RowKit Go.Shelf
open Strata
attribute [local go_sem] Oper.semAt_some

theorem bools_cells {X W : World} {B cap : Nat} {l : List Bool} (h : rowAt X B (l.map boolV)) (hc : ∀ b o v, X.cell? ⟨b, o, none⟩ = some v → W.cell? ⟨b, o, none⟩ = some v) (hl : l.length ≤ 140737488355328) (hB : B < W.heap.size) : boolsAt W (.slice (some ⟨B, 0, none⟩) l.length cap) l :=
  ⟨_, cap, rfl, hl, .inr ⟨B, 0, rfl, hB, fun i x hi => by
    have := (h i (boolV x) (by rw [List.getElem?_map, hi]; rfl)).1
    rw [Nat.mul_one, Nat.zero_add]
    exact hc _ _ _ this⟩⟩
def rowBools (W : World) (B n : Nat) : List Bool := (List.range n).map fun k => match (W.cell? ⟨B, k, none⟩).getD undef with | .bool b => b | _ => false
theorem rowBools_eq {W : World} {B n : Nat} {l : List Bool} (h : rowAt W B (l.map boolV)) (hl : l.length = n) : rowBools W B n = l := by
  subst hl
  apply List.ext_getElem
  · simp [rowBools]
  · intro k h1 h2
    have := (bools_at h h2).1
    simp only [rowBools, List.getElem_map, List.getElem_range, this, Option.getD_some]
    rw [bat, List.getD_eq_getElem?_getD, List.getElem?_eq_getElem h2]
    rfl

end Go.Proofs.YtlfccloaoopadafGreatDoor.Prog
