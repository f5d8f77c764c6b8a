/-
  What the developers' trace.Trace answers.
-/
import Derived.Test.YtlfccloaoopadaeGreatG22
import Derived.Test.YtlfccloaoopadaeGreatG8
import Derived.Test.YtlfccloaoopadaeGreatG9
import Derived.Test.YtlfccloaoopadaeGreatG10
import Derived.Test.YtlfccloaoopadaeGreatG6
namespace Go.Proofs.YtlfccloaoopadaeGreat.Trace
open Go.RowKit Go.Shelf
open Rule (Vars ruleErr kindOf factFine)
open Base (factsErr capOk capNew)
open Fire (roundErr Stp stepsAt cellsS)
open Prog (progErr small leaves_marks intsAt devStrata_c)
open Round (stratOf ofS strat_some)
open Naive (right_parts right_round nil_right strataN)
open RangeOwn (Tells range_told)
attribute [local go_sem] Oper.semAt_some

/-- I1, errors too -/
def traceF (ps : List Prd) (rs : List Rul) : List Stp := if progErr ps rs ≠ 0 then [] else traceL ps rs
/-- how things lie between two passes: W2 is the world behind prog.Strata; its next blocks are the box of the strata, the clerk, and the box of the steps -/
structure TrAt (W2 : World) (ps : List Prd) (rs : List Rul) (pv rv sv : Value) (Ds : List Nat) (f : List Fct) (out : List Stp) (u vo : Value) (x : World) : Prop where
  bel : Below W2.heap.size W2 x
  clk : clerkAt x (W2.heap.size + 1) pv rv u
  fac : factsAt x u f
  cap : capOk u
  fre : Free (W2.heap.size + 1 + 1) (W2.heap.size + 1) x u
  box : Boxed x (W2.heap.size + 1 + 1) 38 vo
  row : x.ownsRow (W2.heap.size + 1 + 1 + 1) 64 4 vo out.length (cellsS out)
  sbx : Boxed x W2.heap.size 49 sv
  ndp : Ds.Nodup
  mrk : ∀ D ∈ Ds, W2.heap.size ≤ D ∧ x.heap[D]? = some (.deferred (some []))
  rig : roundErr ps rs f = 0
theorem TrAt.lt {W2 : World} {ps : List Prd} {rs : List Rul} {pv rv sv : Value} {Ds : List Nat} {f : List Fct} {out : List Stp} {u vo : Value} {x : World} (h : TrAt W2 ps rs pv rv sv Ds f out u vo x) : W2.heap.size + 1 + 1 < x.heap.size := h.box.lt
theorem TrAt.lasts {W2 : World} {ps : List Prd} {rs : List Rul} {pv rv sv : Value} {Ds : List Nat} {f : List Fct} {out : List Stp} {u vo : Value} {x y : World} (h : TrAt W2 ps rs pv rv sv Ds f out u vo x) (hb : Below x.heap.size x y) : TrAt W2 ps rs pv rv sv Ds f out u vo y := by
  have hl := h.lt
  exact ⟨h.bel.trans (hb.mono h.bel.size), clerk_below hb h.clk, factsAt.lasts hb h.fac, h.cap, fun b hk => by
    obtain ⟨n1, n2, n3⟩ := h.fre b hk
    exact ⟨n1, n2, fun ⟨v, hv, hk⟩ => n3 ⟨v, by rw [cell_lasts hb hl] at hv; exact hv, hk⟩⟩, (hb.block _ h.box.lt).trans h.box, own_lasts h.row hb, (hb.block _ h.sbx.lt).trans h.sbx, h.ndp, fun D hD => ⟨(h.mrk D hD).1, (hb.block D (Array.getElem?_eq_some_iff.1 (h.mrk D hD).2).1).trans (h.mrk D hD).2⟩, h.rig⟩
where
  own_lasts {w w' : World} {B e size n : Nat} {v : Value} {xs : List Value} (h : w.ownsRow B e size v n xs) (hb : Below w.heap.size w w') : w'.ownsRow B e size v n xs := by
    obtain ⟨h0, h1⟩ := h
    refine ⟨h0, ?_⟩
    rcases h1 with h1 | ⟨g, cap, cur, h1, h2, h3, h4⟩
    · exact .inl h1
    · exact .inr ⟨g, cap, cur, h1, h2, (hb.block g (Array.getElem?_eq_some_iff.1 h3).1).trans h3, h4⟩
theorem steps_cells {A B : World} {v : Value} {l : List Stp} (h : stepsAt A v l) (hc : ∀ b o u, A.cell? ⟨b, o, none⟩ = some u → B.cell? ⟨b, o, none⟩ = some u) (hs : A.heap.size ≤ B.heap.size) : stepsAt B v l := by
  obtain ⟨a, cap, rfl, hl, hx⟩ := h
  refine ⟨a, cap, rfl, hl, ?_⟩
  rcases hx with hx | ⟨b, off, rfl, hb, hx⟩
  · exact .inl hx
  · exact .inr ⟨b, off, rfl, Nat.lt_of_lt_of_le hb hs, fun i x hi => ⟨hc _ _ _ (hx i x hi).1, hc _ _ _ (hx i x hi).2.1, hc _ _ _ (hx i x hi).2.2.1, hc _ _ _ (hx i x hi).2.2.2⟩⟩
def lenOf : Value → Int
  | .slice _ n _ => n
  | _ => 0
noncomputable def trMu (ps : List Prd) (BC Bo : Nat) (z : Int) (w' : World) : Nat := 2 * Naive.left ps ((w'.cell? ⟨BC, 2, none⟩).getD undef) w' + if z = lenOf ((w'.cell? ⟨Bo, 0, none⟩).getD undef) then 0 else 1
theorem row_slice {x : World} {base : Nat} {vo : Value} {out : List Stp} (h : x.ownsRow base 64 4 vo out.length (cellsS out)) : ∃ a c, vo = .slice a out.length c := by
  rcases h.2 with ⟨rfl, h0⟩ | ⟨g, cap, cur, rfl, _⟩
  · exact ⟨none, 0, by rw [h0]⟩
  · exact ⟨_, cap, rfl⟩

set_option maxRecDepth 100000 in
set_option maxHeartbeats 8000000 in
theorem devTrace_n (w : World) (pv rv : Value) (ps : List Prd) (rs : List Rul) (hp : predsAt w pv ps) (hr : rulesAt w rv rs) (hn : small ps) :
    Calls Tryz.prog 15 #[.agg #[pv, rv]] w fun e w' => ∃ u, e = .returned (.tuple #[u, .int .i64 (progErr ps rs)]) ∧ stepsAt w' u (traceF ps rs) ∧ capOk u ∧ Below w.heap.size w w' := by
  have HST : Hid (∀ x, Below w.heap.size w x → Calls Tryz.prog 24 #[.agg #[pv, rv]] x fun e w' => (∃ v, e = .returned (.tuple #[v, .int .i64 (progErr ps rs)]) ∧ (progErr ps rs ≠ 0 → v = .slice none 0 0) ∧ (progErr ps rs = 0 → intsAt w' v (stratOf ps rs))) ∧ Below x.heap.size x w') := fun x hx => (devStrata_c x pv rv ps rs (predsAt.lasts hx hp) (rulesAt.lasts hx hr) hn).mono fun _ _ ⟨⟨v, h1, h2, h3⟩, h4⟩ => ⟨⟨v, h1, h2, fun h => h3 _ (strat_some h).1 h⟩, h4⟩
  have HD0 : Hid (predsAt w pv ps ∧ rulesAt w rv rs ∧ small ps) := ⟨hp, hr, hn⟩
  obtain ⟨pa, pc, rfl, _⟩ := hp
  obtain ⟨ra, rc, rfl, _⟩ := hr
  obtain ⟨W1, hW1⟩ : ∃ W1, w.alloc (.cells #[.slice pa ps.length pc, .slice ra rs.length rc] 25) = W1 := ⟨_, rfl⟩
  have b1 : Below w.heap.size w W1 := by rw [← hW1]; exact below_alloc _ _
  have B1 : W1.cell? ⟨w.heap.size, 0, none⟩ = some (.slice pa ps.length pc) ∧ W1.cell? ⟨w.heap.size, 1, none⟩ = some (.slice ra rs.length rc) ∧ w.heap.size < W1.heap.size := by rw [← hW1]; exact ⟨by simp [go_sem], by simp [go_sem], by simp⟩
  by_cases hpe : progErr ps rs = 0
  · have HPE : Hid (progErr ps rs = 0) := hpe
    refine (callsIn_wide (n := 6)).1 (callsIn_of_wp_marks Tryz.func15 rfl trivial (wpIn_wide.2 ?_) rfl)
    simp only [Tryz.ntmps15, List.size_toArray, List.length_cons, List.length_nil, Nat.reduceAdd, Nat.reduceSub, Array.replicate_succ, Array.replicate_zero, List.push_toArray, List.append_toArray, List.nil_append, List.cons_append]
    go_wp2_with fail
    clear hW1
    refine (HST.out _ b1).mono ?_
    rintro e W2 ⟨⟨sv, rfl, _, hsi⟩, hb2⟩
    have k2 : Below w.heap.size w W2 := b1.trans (hb2.mono b1.size)
    have hsi' := hsi hpe
    obtain ⟨sa, sc, rfl, _⟩ := id hsi'
    obtain ⟨c0, c1, hwl⟩ := Prog.boxO hb2 B1
    rw [hpe]
    obtain ⟨W3, hW3⟩ : ∃ W3, ((W2.alloc (.cells #[.slice sa (stratOf ps rs).length sc] 49)).alloc (.cells #[.slice pa ps.length pc, .slice ra rs.length rc, .slice none 0 0] 94)).alloc (.cells #[.slice none 0 0] 38) = W3 := ⟨_, rfl⟩
    have b23 : Below W2.heap.size W2 W3 := by rw [← hW3]; exact (((Below.refl _ _).alloc (Nat.le_refl _) _).alloc (by simp) _).alloc (by simp; omega) _
    have d0 : W3.cell? ⟨w.heap.size, 0, none⟩ = some (.slice pa ps.length pc) := (cell_lasts b23 hwl).trans c0
    have X0 : Boxed W3 W2.heap.size 49 (.slice sa (stratOf ps rs).length sc) := by
      have h := World.alloc_heap_new W2 (.cells #[.slice sa (stratOf ps rs).length sc] 49)
      show W3.heap[W2.heap.size]? = _
      rw [← hW3, Below.heap_alloc _ _ _ (by simp; omega), Below.heap_alloc _ _ _ (by simp)]
      exact h
    have X1 : clerkAt W3 (W2.heap.size + 1) (.slice pa ps.length pc) (.slice ra rs.length rc) (.slice none 0 0) := by
      have h := World.alloc_heap_new (W2.alloc (.cells #[.slice sa (stratOf ps rs).length sc] 49)) (.cells #[.slice pa ps.length pc, .slice ra rs.length rc, .slice none 0 0] 94)
      rw [World.size_alloc] at h
      show W3.heap[W2.heap.size + 1]? = _
      rw [← hW3, Below.heap_alloc _ _ _ (by simp)]
      exact h
    have X2 : Boxed W3 (W2.heap.size + 1 + 1) 38 (.slice none 0 0) := by
      have h := World.alloc_heap_new ((W2.alloc (.cells #[.slice sa (stratOf ps rs).length sc] 49)).alloc (.cells #[.slice pa ps.length pc, .slice ra rs.length rc, .slice none 0 0] 94)) (.cells #[.slice none 0 0] 38)
      rw [World.size_alloc, World.size_alloc] at h
      show W3.heap[W2.heap.size + 1 + 1]? = _
      rw [← hW3]
      exact h
    go_wp2_with fail
    clear hW3 c0 c1 d0
    have TR3 : TrAt W2 ps rs (.slice pa ps.length pc) (.slice ra rs.length rc) (.slice sa (stratOf ps rs).length sc) [] [] [] (.slice none 0 0) (.slice none 0 0) W3 := ⟨b23, X1, Base.facts_nil _, Base.cap_nil, (fun b hb => by cases hb), X2, ⟨rfl, .inl ⟨rfl, rfl⟩⟩, X0, List.nodup_nil, (fun D hD => by cases hD), nil_right hpe⟩
    have HP2 : Hid (predsAt W2 (.slice pa ps.length pc) ps ∧ rulesAt W2 (.slice ra rs.length rc) rs ∧ intsAt W2 (.slice sa (stratOf ps rs).length sc) (stratOf ps rs) ∧ small ps ∧ (stratOf ps rs).length = ps.length) := ⟨predsAt.lasts k2 HD0.out.1, rulesAt.lasts k2 HD0.out.2.1, hsi', HD0.out.2.2, (strat_some hpe).2⟩
    have hps : ps.length ≤ 5 := (Prog.parts_zero (Prog.prog_zero hpe).1).1
    have HTE : Hid (∀ t, ps.length ≤ t → traceTo ps rs t = traceTo ps rs (strataN (stratOf ps rs))) := fun t ht => trace_end hpe (Nat.le_trans (strata_le hpe) ht)
    have HTP : Hid (∀ t, (traceTo ps rs t).2.length ≤ 2000) := fun t => by
      have h1 := (trace_pot hpe t).1
      have h2 := Naive.pot_le (right_parts (trace_right hpe t)).2
      rw [Naive.lim_is] at h2
      omega
    have HTF : Hid (traceF ps rs = (traceTo ps rs (strataN (stratOf ps rs))).2) := by show _ = _; rw [traceF, if_neg (by rw [hpe]; simp)]; rfl
    clear X0 X1 X2 b23 hsi hsi' hpe
    obtain ⟨JO, hJO⟩ : ∃ JO : Act → World → Prop, Hid (JO = (fun a' wr => ∃ (Ds : List Nat) (u8 u9 u10 u11 u26 u27 u28 u29 u30 u31 u32 u33 u34 u35 u36 u37 u38 u39 u40 u41 u42 u43 u44 : Value), (∃ (t : Nat) (u vo : Value), t ≤ ps.length ∧ u26 = .int .i64 t ∧ Hid (TrAt W2 ps rs (.slice pa ps.length pc) (.slice ra rs.length rc) (.slice sa (stratOf ps rs).length sc) Ds (traceTo ps rs t).1 (traceTo ps rs t).2 u vo wr)) ∧ a' = { tmps := #[.agg #[.slice pa ps.length pc, .slice ra rs.length rc], .pointer (some ⟨w.heap.size, 0, none⟩), .slice none 0 0, .int .i64 0, .pointer (some ⟨W2.heap.size, 0, none⟩), .int .i64 0, .pointer (some ⟨W2.heap.size + 1, 0, none⟩), .pointer (some ⟨W2.heap.size + 1 + 1, 0, none⟩), u8, u9, u10, u11, .tuple #[.slice sa (stratOf ps rs).length sc, .int .i64 0], .agg #[.slice pa ps.length pc, .slice ra rs.length rc], .tuple #[.slice sa (stratOf ps rs).length sc, .int .i64 0], .slice sa (stratOf ps rs).length sc, .int .i64 0, .int .i64 0, .bool false, undef, .agg #[.slice pa ps.length pc, .slice ra rs.length rc], .agg #[.slice pa ps.length pc, .slice ra rs.length rc, .slice none 0 0], .pointer (some ⟨W2.heap.size + 1, 0, none⟩), .pointer (some ⟨w.heap.size, 0, none⟩), .slice pa ps.length pc, .int .i64 (ps.length : Int), u26, u27, u28, u29, u30, u31, u32, u33, u34, u35, u36, u37, u38, u39, u40, u41, u42, u43, u44, undef], defers := Ds.map Prog.mark })) := ⟨_, rfl⟩
    refine wp_loop JO (fun a' _ => ps.length - (intOf (a'.tmps.getD 26 undef)).toNat) ?_ ?_
    · rw [hJO.out]
      refine ⟨[], ?_⟩
      (repeat apply Exists.intro)
      refine ⟨?_, rfl⟩
      exact ⟨0, _, _, Nat.zero_le _, rfl, TR3⟩
    · intro a' wr hinv
      rw [hJO.out] at hinv
      obtain ⟨Ds, u8, u9, u10, u11, u26, u27, u28, u29, u30, u31, u32, u33, u34, u35, u36, u37, u38, u39, u40, u41, u42, u43, u44, ⟨t, u, vo, ht, rfl, htr⟩, rfl⟩ := hinv
      by_cases hlt : t < ps.length
      · have ht1 : (t : Int) < (ps.length : Int) := by omega
        generalize hBt : wr.heap.size = Bt
        obtain ⟨W4, hW4⟩ : ∃ W4, wr.alloc (.cells #[.int .i64 (t : Int)] 3) = W4 := ⟨_, rfl⟩
        have b4 : Below wr.heap.size wr W4 := by rw [← hW4]; exact below_alloc _ _
        have T4 : Boxed W4 Bt 3 (.int .i64 (t : Int)) := by rw [← hW4, ← hBt]; exact World.alloc_heap_new wr _
        have HT4 := htr.out.lasts b4
        have HSU : Hid ((traceTo ps rs (t + 1)).1 = finTF ps rs (t : Int) (traceTo ps rs t).1 ∧ (traceTo ps rs (t + 1)).2 = (traceTo ps rs t).2 ++ finTS ps rs (t : Int) (traceTo ps rs t).1) := ⟨rfl, rfl⟩
        have HL1 : Hid ((traceTo ps rs (t + 1)).2.length ≤ 2000) := HTP.out (t + 1)
        generalize hF : (traceTo ps rs t).1 = F at *
        generalize hO : (traceTo ps rs t).2 = O at *
        have HLT : Hid (W2.heap.size + 1 + 1 < Bt) := by show _ < _; have := htr.out.lt; omega
        clear hF hO htr b4
        go_wp2_with fail
        clear hW4
        have hBt2 : W2.heap.size + 1 + 1 < Bt := by have := HLT.out; omega
        obtain ⟨JI, hJI⟩ : ∃ JI : Act → World → Prop, Hid (JI = (fun a' wr => ∃ (Ds : List Nat) (u10 u11 u30 u31 u32 u33 u34 u35 u36 u37 u38 u39 u40 u41 u42 u43 : Value), (∃ (z : Int) (u vo : Value) (f : List Fct) (out : List Stp), u10 = .int .i64 z ∧ Hid (TrAt W2 ps rs (.slice pa ps.length pc) (.slice ra rs.length rc) (.slice sa (stratOf ps rs).length sc) Ds f out u vo wr ∧ Boxed wr Bt 3 (.int .i64 (t : Int))) ∧ Hid (finTF ps rs (t : Int) f = finTF ps rs (t : Int) F ∧ out ++ finTS ps rs (t : Int) f = O ++ finTS ps rs (t : Int) F ∧ -1 ≤ z ∧ z ≤ (out.length : Int) ∧ (z = (out.length : Int) → turnS ps rs (t : Int) f = []))) ∧ a' = { tmps := #[.agg #[.slice pa ps.length pc, .slice ra rs.length rc], .pointer (some ⟨w.heap.size, 0, none⟩), .slice none 0 0, .int .i64 0, .pointer (some ⟨W2.heap.size, 0, none⟩), .int .i64 0, .pointer (some ⟨W2.heap.size + 1, 0, none⟩), .pointer (some ⟨W2.heap.size + 1 + 1, 0, none⟩), .pointer (some ⟨Bt, 0, none⟩), .func (.func 43) #[] #[.pointer (some ⟨W2.heap.size, 0, none⟩), .pointer (some ⟨Bt, 0, none⟩)], u10, u11, .tuple #[.slice sa (stratOf ps rs).length sc, .int .i64 0], .agg #[.slice pa ps.length pc, .slice ra rs.length rc], .tuple #[.slice sa (stratOf ps rs).length sc, .int .i64 0], .slice sa (stratOf ps rs).length sc, .int .i64 0, .int .i64 0, .bool false, undef, .agg #[.slice pa ps.length pc, .slice ra rs.length rc], .agg #[.slice pa ps.length pc, .slice ra rs.length rc, .slice none 0 0], .pointer (some ⟨W2.heap.size + 1, 0, none⟩), .pointer (some ⟨w.heap.size, 0, none⟩), .slice pa ps.length pc, .int .i64 (ps.length : Int), .int .i64 (t : Int), .bool true, .int .i64 (t : Int), .func (.func 43) #[] #[.pointer (some ⟨W2.heap.size, 0, none⟩), .pointer (some ⟨Bt, 0, none⟩)], u30, u31, u32, u33, u34, u35, u36, u37, u38, u39, u40, u41, u42, u43, u44, undef], defers := Ds.map Prog.mark })) := ⟨_, rfl⟩
        refine wp_loop JI
          (fun a' w' => trMu ps (W2.heap.size + 1) (W2.heap.size + 1 + 1) (intOf (a'.tmps.getD 10 undef)) w') ?_ ?_
        · rw [hJI.out]
          refine ⟨Ds, ?_⟩
          (repeat apply Exists.intro)
          refine ⟨?_, rfl⟩
          exact ⟨-1, u, vo, F, O, rfl, ⟨HT4, T4⟩, ⟨rfl, rfl, by omega, by omega, fun h => by omega⟩⟩
        · clear HT4 T4
          intro a' wr5 hinv
          rw [hJI.out] at hinv
          obtain ⟨Ds, u10, u11, u30, u31, u32, u33, u34, u35, u36, u37, u38, u39, u40, u41, u42, u43, ⟨z, u, vo, f, out, rfl, htr, hfin⟩, rfl⟩ := hinv
          obtain ⟨oa, oc, hvo⟩ := row_slice htr.out.1.row
          subst hvo
          have e7 := htr.out.1.box.cell
          by_cases hz : z < (out.length : Int)
          · go_wp2_with fail
            refine (changes_c wr5 (W2.heap.size + 1) _ _).mono ?_
            rintro e W5 ⟨rfl, hW5⟩
            have b5 : Below wr5.heap.size wr5 W5 := by rw [hW5]; exact ((Below.refl _ _).alloc (Nat.le_refl _) _).alloc (by simp) _
            have s5 : W5.heap.size = wr5.heap.size + 1 + 1 := by rw [hW5]; simp
            have t0 : Boxed W5 wr5.heap.size 92 (.pointer (some ⟨W2.heap.size + 1, 0, none⟩)) := by rw [hW5]; exact (Below.heap_alloc _ _ _ (by simp)).trans (World.alloc_heap_new wr5 _)
            have t1 : Boxed W5 (wr5.heap.size + 1) 61 (.func (.func 43) #[] #[.pointer (some ⟨W2.heap.size, 0, none⟩), .pointer (some ⟨Bt, 0, none⟩)]) := by
              rw [hW5]
              have h := World.alloc_heap_new (wr5.alloc (.cells #[.pointer (some ⟨W2.heap.size + 1, 0, none⟩)] 92)) (.cells #[.func (.func 43) #[] #[.pointer (some ⟨W2.heap.size, 0, none⟩), .pointer (some ⟨Bt, 0, none⟩)]] 61)
              rwa [World.size_alloc] at h
            have HT5 : TrAt W2 ps rs (.slice pa ps.length pc) (.slice ra rs.length rc) (.slice sa (stratOf ps rs).length sc) Ds f out u (.slice oa out.length oc) W5 := htr.out.1.lasts b5
            have hBt5 : Boxed W5 Bt 3 (.int .i64 (t : Int)) := (b5.block _ htr.out.2.lt).trans htr.out.2
            have hlt5 : W2.heap.size + 1 + 1 < wr5.heap.size := htr.out.1.lt
            have hBtw : Bt < wr5.heap.size := htr.out.2.lt
            have HLN : Hid (out.length + (turnS ps rs (t : Int) f).length ≤ 2000) := by
              have h1 := HL1.out
              have h2 := turn_le (s := (t : Int)) htr.out.1.rig
              have h3 := congrArg List.length hfin.out.2.1
              rw [HSU.out.2, List.length_append] at h1
              rw [List.length_append, List.length_append] at h3
              show _ ≤ _
              omega
            have HWA : Hid (∀ (x : World) (n : Nat) (hn : n < rs.length) (ha : Option Addr) (hc : Nat) (ba : Option Addr) (bc : Nat), Zed W2.heap.size (W2.heap.size + 1 + 1) (fun k => k = W2.heap.size + 1) W5 x → Calls Tryz.prog 43 (#[.agg #[.int .i64 rs[n].head.pred, .slice ha rs[n].head.args.length hc, .int .i64 rs[n].src, .int .i64 rs[n].n, .slice ba rs[n].body.length bc]] ++ #[.pointer (some ⟨W2.heap.size, 0, none⟩), .pointer (some ⟨Bt, 0, none⟩)]) x fun e w' => e = .returned (.bool (ofS (stratOf ps rs) (t : Int) rs[n])) ∧ Below x.heap.size x w') := fun x n hn ha hc ba bc hx => by
              obtain ⟨k, hk, e⟩ := Rule.isPred_iff.1 (Rule.atom_right (Fire.rule_parts (Fire.rules_right HPE.out _ (List.getElem_mem hn))).1).1
              exact trace1_c x W2.heap.size Bt k _ (stratOf ps rs) (t : Int) rs[n] ha rs[n].head.args.length hc ba rs[n].body.length bc e (by rw [HP2.out.2.2.2.2]; exact hk)
                (hx.cell (by omega) (by omega) (not_own HT5.box HT5.row HT5.sbx (by decide)) HT5.sbx.cell) (hx.cell (by omega) (by omega) (not_own HT5.box HT5.row hBt5 (by decide)) hBt5.cell) (Prog.intsAt.lasts (HT5.bel.trans hx.below) HP2.out.2.2.1) (by have := hx.size; omega) (by have := hx.size; omega)
            have HOWN : OwnFrom W5.heap.size (fun (pre : List Stp) (X : World) => (∃ v, Boxed X (W2.heap.size + 1 + 1) 38 v ∧ X.ownsRow (W2.heap.size + 1 + 1 + 1) 64 4 v (out ++ pre).length (cellsS (out ++ pre)) ∧ True) ∧ Zed W2.heap.size (W2.heap.size + 1 + 1) (fun k => k = W2.heap.size + 1) W5 X ∧ ∀ D ∈ Ds, X.heap[D]? = some (.deferred (some []))) := by
              rintro pre A B row ⟨h1, h2, h3⟩ hg hr
              refine ⟨holdsRow_own (W2.heap.size + 1 + 1 + 1) (W2.heap.size + 1 + 1) 38 64 4 (fun pre => (out ++ pre).length) (fun pre => cellsS (out ++ pre)) (fun _ _ => True) pre A B row h1 hg (fun r e => (hr r e).2), zed_grown h2 hg (by omega) (by omega) hr, fun D hD => ?_⟩
              have hDl := (Array.getElem?_eq_some_iff.1 (HT5.mrk D hD).2).1
              exact (hg.block D (Array.getElem?_eq_some_iff.1 (h3 D hD)).1 (fun e => by have := (hr D e.symm).1; omega)).trans (h3 D hD)
            clear hW5 e7
            go_wp2_with fail
            refine (wpIn_wide (n := 6)).1 (range_told (α := Stp) rfl (by omega) (gf := 81) (lb := #[.pointer (some ⟨wr5.heap.size, 0, none⟩), .pointer (some ⟨wr5.heap.size + 1, 0, none⟩)]) rfl trivial (enters_of Tryz.func81 (by kernel_rfl) rfl)
              (changes1_tells (6 - 1) (by omega) wr5.heap.size (wr5.heap.size + 1) (W2.heap.size + 1) (W2.heap.size + 1 + 1) W2.heap.size _ _ u 43 _ ps rs (t : Int) f W5 (by omega) (by omega) (by omega) (by omega) (not_own HT5.box HT5.row HT5.clk (by decide)) (by omega) (by omega) (not_own HT5.box HT5.row t0 (by decide)) (by omega) (by omega) (not_own HT5.box HT5.row t1 (by decide)) t0.cell t1.cell HT5.clk HT5.fac HT5.cap HT5.fre W2 rfl HT5.bel HP2.out.1 HP2.out.2.1 HP2.out.2.2.2.1 HT5.rig (enters_of Tryz.func43 (by kernel_rfl) rfl) HWA.out)
              Zed.trans (fun X k o o' hk h ho _ => zed_put (N := W5.heap.size) hk (by omega) (by omega) h ho) (Below.refl _ _) (fun _ => rfl)
              (by rintro A B ⟨u', rfl⟩ k o hk ho; exact (KeepsOthers.setCell _ _ _).same k o hk ho)
              (fun pre X => (∃ v, Boxed X (W2.heap.size + 1 + 1) 38 v ∧ X.ownsRow (W2.heap.size + 1 + 1 + 1) 64 4 v (out ++ pre).length (cellsS (out ++ pre)) ∧ True) ∧ Zed W2.heap.size (W2.heap.size + 1 + 1) (fun k => k = W2.heap.size + 1) W5 X ∧ ∀ D ∈ Ds, X.heap[D]? = some (.deferred (some [])))
              ?stable ?has ?own ?ownE ⟨⟨_, HT5.box, by rw [List.append_nil]; exact HT5.row, trivial⟩, Zed.refl _ _ _ _, fun D hD => (HT5.mrk D hD).2⟩
              (fun x a' X => ∃ Bx, W5.heap.size ≤ Bx ∧ X.heap[Bx]? = some (.cells #[.int .i64 x.rule, .int .i64 x.x, .int .i64 x.y, .int .i64 x.z] 64 (0, 0)) ∧ a' = { tmps := #[.agg #[.slice pa ps.length pc, .slice ra rs.length rc], .pointer (some ⟨w.heap.size, 0, none⟩), .slice none 0 0, .int .i64 0, .pointer (some ⟨W2.heap.size, 0, none⟩), .int .i64 0, .pointer (some ⟨W2.heap.size + 1, 0, none⟩), .pointer (some ⟨W2.heap.size + 1 + 1, 0, none⟩), .pointer (some ⟨Bt, 0, none⟩), .func (.func 43) #[] #[.pointer (some ⟨W2.heap.size, 0, none⟩), .pointer (some ⟨Bt, 0, none⟩)], .int .i64 (out.length : Int), .pointer (some ⟨Bx, 0, none⟩), .tuple #[.slice sa (stratOf ps rs).length sc, .int .i64 0], .agg #[.slice pa ps.length pc, .slice ra rs.length rc], .tuple #[.slice sa (stratOf ps rs).length sc, .int .i64 0], .slice sa (stratOf ps rs).length sc, .int .i64 0, .int .i64 0, .bool false, undef, .agg #[.slice pa ps.length pc, .slice ra rs.length rc], .agg #[.slice pa ps.length pc, .slice ra rs.length rc, .slice none 0 0], .pointer (some ⟨W2.heap.size + 1, 0, none⟩), .pointer (some ⟨w.heap.size, 0, none⟩), .slice pa ps.length pc, .int .i64 (ps.length : Int), .int .i64 (t : Int), .bool true, .int .i64 (t : Int), .func (.func 43) #[] #[.pointer (some ⟨W2.heap.size, 0, none⟩), .pointer (some ⟨Bt, 0, none⟩)], .int .i64 z, .slice oa out.length oc, .int .i64 (out.length : Int), .bool true, .slice oa out.length oc, .int .i64 (out.length : Int), .pointer (some ⟨W2.heap.size + 1, 0, none⟩), .func (.func 43) #[] #[.pointer (some ⟨W2.heap.size, 0, none⟩), .pointer (some ⟨Bt, 0, none⟩)], .func (.func 81) #[] #[.pointer (some ⟨wr5.heap.size, 0, none⟩), .pointer (some ⟨wr5.heap.size + 1, 0, none⟩)], .agg #[.int .i64 x.rule, .int .i64 x.x, .int .i64 x.y, .int .i64 x.z], u40, u41, u42, u43, u44, undef], defers := [] })
              ?ownA ?assign ?body ?done)
            case stable =>
              rintro pre A B ⟨⟨v, hb, hr, _⟩, hz, hm⟩ ⟨u', rfl⟩
              exact ⟨⟨v, (Fire.heap_setCell_other (by omega)).trans hb, Base.own_set hr (fun g hg => by have := (row_cells hr g hg).1; omega), trivial⟩, hz.trans (Zed.set A u' (by omega) (by omega) rfl), fun D hD => (KeepsOthers.setCell _ _ _).same _ _ (hm D hD) rfl⟩
            case has =>
              rintro pre A ⟨⟨v, hb, hr, _⟩, _⟩
              refine ⟨v, hb.cell, fun k hk => ?_⟩
              obtain ⟨_, o, ho, _⟩ := row_cells hr k hk
              exact (Array.getElem?_eq_some_iff.1 ho).1
            case own => exact HOWN
            case ownE =>
              rintro xs A B row ⟨h1, u', vo', h2, h3, h4, h5, h6⟩ hg hr
              exact ⟨h1, u', vo', (grownBy_keeps_cells hg (fun r e => (hr r e).2) h2 rfl).trans h2, Round.facts_kept h3 hg (fun r e => (hr r e).2), h4, cell_kept h5 hg (fun r e => (hr r e).2), h6⟩
            case ownA =>
              rintro x a' _ A B row ⟨Bx, h1, h2, h3⟩ hg hr
              exact ⟨Bx, h1, (grownBy_keeps_cells hg (fun r e => (hr r e).2) h2 rfl).trans h2, h3⟩
            case assign =>
              rintro l' pre x X K _ hi hK
              dsimp only [stpV] at hK ⊢
              gi_wp2
              have hsX := hi.2.1.size
              exact hK _ _ ((KeepsOthers.alloc _ _).from _) (Zed.of (below_alloc _ _) (by omega) (by omega)) (HOWN.alloc _ hi) ⟨X.heap.size, hsX, World.alloc_heap_new X _, rfl⟩
            case body =>
              rintro l' pre x a' X hl' _ ⟨⟨v, hbx, hrx, _⟩, hz, hm⟩ ⟨Bx, hBx, hxx, rfl⟩ hlen
              have HL : Hid ((out ++ pre).length ≤ 5000) := by show _ ≤ _; have := HLN.out; rw [List.length_append]; omega
              obtain ⟨L, hL⟩ : ∃ L, Hid (out ++ pre = L) := ⟨_, rfl⟩
              rw [hL.out] at hrx HL
              have hlen2 : L.length ≤ 5000 := HL.out
              obtain ⟨va, vc, hv⟩ := row_slice hrx
              subst hv
              have hsX := hz.size
              have i7 := hbx.cell
              obtain ⟨s0, s1, s2, s3⟩ : X.cell? ⟨Bx, 0, none⟩ = some (.int .i64 x.rule) ∧ X.cell? ⟨Bx, 1, none⟩ = some (.int .i64 x.x) ∧ X.cell? ⟨Bx, 2, none⟩ = some (.int .i64 x.y) ∧ X.cell? ⟨Bx, 3, none⟩ = some (.int .i64 x.z) := ⟨by simp [World.cell?, hxx], by simp [World.cell?, hxx], by simp [World.cell?, hxx], by simp [World.cell?, hxx]⟩
              have hrow1 : (X.alloc (.cells #[.int .i64 x.rule, .int .i64 x.x, .int .i64 x.y, .int .i64 x.z] 64)).ownsRow (W2.heap.size + 1 + 1 + 1) 64 4 (.slice va L.length vc) L.length (cellsS L) := TrAt.lasts.own_lasts hrx (below_alloc _ _)
              have HNE : Hid (some (W2.heap.size + 1 + 1) ≠ (Value.slice va L.length vc).ownBlock) := hbx.not_row (by decide) hrx
              have HZ : Hid (∀ w3 v', (X.alloc (.cells #[.int .i64 x.rule, .int .i64 x.x, .int .i64 x.y, .int .i64 x.z] 64)).grownBy w3 (Value.slice va L.length vc).ownBlock → (∀ g, v'.ownBlock = some g → (Value.slice va L.length vc).ownBlock = some g ∨ g = (X.alloc (.cells #[.int .i64 x.rule, .int .i64 x.x, .int .i64 x.y, .int .i64 x.z] 64)).heap.size) → Zed W2.heap.size (W2.heap.size + 1 + 1) (fun _ => False) X (w3.setCell ⟨(W2.heap.size + 1 + 1), 0, none⟩ v') ∧ KeepsOthers X (w3.setCell ⟨(W2.heap.size + 1 + 1), 0, none⟩ v')) := fun w3 v' h1 h2 => zed_append _ hbx hrx (by omega) (by omega) h1 h2
              have HB3 : Hid (∀ w3, (X.alloc (.cells #[.int .i64 x.rule, .int .i64 x.x, .int .i64 x.y, .int .i64 x.z] 64)).grownBy w3 (Value.slice va L.length vc).ownBlock → Boxed w3 (W2.heap.size + 1 + 1) 38 (.slice va L.length vc)) := fun w3 hg => (hg.block _ (by simp; omega) HNE.out).trans ((Below.heap_alloc _ _ _ hbx.lt).trans hbx)
              gi_wp2_with (first | (gi_at_builtin; refine wpListIn_append_step _ rfl _ _ rfl (W2.heap.size + 1 + 1 + 1) (.slice va L.length vc) L x hrow1 rfl X.heap.size rfl 64 (World.alloc_heap_new X _) hlen2 (by simp; omega) ?_; intro v' w3 hown3 hg3 hnew3; have hb3 := HB3.out w3 hg3; obtain ⟨va', vc', hv'⟩ := row_slice hown3; subst hv'; have j7 := hb3.cell; have jz := hb3.frozen))
              have hll : (L ++ [x]).length = L.length + 1 := by simp
              obtain ⟨z1, z2⟩ := HZ.out w3 _ hg3 hnew3
              have hrow3 := Base.own_set (b := W2.heap.size + 1 + 1) (o := 0) (u := Value.slice va' (L ++ [x]).length vc') hown3 (fun g hg => by have := (row_cells hown3 g hg).1; omega)
              rw [hll] at z1 z2 hrow3
              refine ⟨z2.from _, z1, ⟨_, hb3.set _, ?_, trivial⟩, hz.trans (z1.mono (fun _ h => h.elim)), fun D hD => z2.same _ _ (hm D hD) rfl⟩
              rw [← List.append_assoc, hL.out, hll]
              exact hrow3
            case done =>
              rintro D xs X hD ⟨rfl, u', vo', e1, e2, e3, e4, e5⟩ ⟨⟨v, hbx, hrx, _⟩, hz, hm⟩ hK
              rw [hbx.cell] at e4
              cases e4
              obtain ⟨q1, q2, q3, q4⟩ := turn_lev (s := (t : Int)) HT5.rig
              have HTX : Hid (TrAt W2 ps rs (.slice pa ps.length pc) (.slice ra rs.length rc) (.slice sa (stratOf ps rs).length sc) (D :: Ds) (turnF ps rs (t : Int) f) (out ++ turnS ps rs (t : Int) f) u' vo' X) := ⟨HT5.bel.trans hz.below, e1, e2, e3, fun b hb => ⟨(e5 b hb).1, (e5 b hb).2.1, fun ⟨y, hy, hk⟩ => by
                rw [hbx.cell] at hy
                cases hy
                exact (e5 b hb).2.2 hk⟩, hbx, hrx, hz.same _ _ (by omega) (by omega) (not_own HT5.box HT5.row HT5.sbx (by decide)) HT5.sbx rfl, List.nodup_cons.2 ⟨fun h => by
                have := (Array.getElem?_eq_some_iff.1 (HT5.mrk D h).2).1
                omega, HT5.ndp⟩, fun D' hD' => by
                rcases List.mem_cons.1 hD' with rfl | hD'
                · exact ⟨by omega, hK⟩
                · exact ⟨(HT5.mrk D' hD').1, hm D' hD'⟩, q1.r1⟩
              have HBX : Hid (Boxed X Bt 3 (.int .i64 (t : Int))) := hz.same _ _ (by omega) (by omega) (not_own HT5.box HT5.row hBt5 (by decide)) hBt5 rfl
              have HFX : Hid (finTF ps rs (t : Int) (turnF ps rs (t : Int) f) = finTF ps rs (t : Int) F ∧ out ++ turnS ps rs (t : Int) f ++ finTS ps rs (t : Int) (turnF ps rs (t : Int) f) = O ++ finTS ps rs (t : Int) F ∧ -1 ≤ (out.length : Int) ∧ (out.length : Int) ≤ ((out ++ turnS ps rs (t : Int) f).length : Int) ∧ ((out.length : Int) = ((out ++ turnS ps rs (t : Int) f).length : Int) → turnS ps rs (t : Int) (turnF ps rs (t : Int) f) = [])) := by
                refine ⟨?_, ?_, by omega, by rw [List.length_append]; omega, fun h => ?_⟩
                · rw [← hfin.out.1]
                  by_cases hc : turnS ps rs (t : Int) f = []
                  · rw [q3 hc]
                  · rw [(finT_step HT5.rig hc).1]
                · rw [← hfin.out.2.1, List.append_assoc]
                  by_cases hc : turnS ps rs (t : Int) f = []
                  · rw [q3 hc, hc]; rfl
                  · rw [(finT_step HT5.rig hc).2]
                · have hc : turnS ps rs (t : Int) f = [] := by
                    rw [List.length_append] at h
                    exact List.eq_nil_of_length_eq_zero (by omega)
                  rw [q3 hc]
                  exact hc
              have HMU : Hid (trMu ps (W2.heap.size + 1) (W2.heap.size + 1 + 1) (out.length : Int) X < trMu ps (W2.heap.size + 1) (W2.heap.size + 1 + 1) z wr5) := by
                obtain ⟨va, vc, rfl⟩ := row_slice hrx
                show _ < _
                unfold trMu
                rw [(clerk_cells e1).2.2.1, hbx.cell, (clerk_cells htr.out.1.clk).2.2.1, htr.out.1.box.cell, Option.getD_some, Option.getD_some, Option.getD_some, Option.getD_some, Naive.left_eq e2, Naive.left_eq htr.out.1.fac]
                have h1 := Naive.pot_le (right_parts q1.r1).2
                show _ + (if (out.length : Int) = ((out ++ turnS ps rs (t : Int) f).length : Int) then 0 else 1) < _ + (if z = (out.length : Int) then 0 else 1)
                rw [if_neg (show ¬ z = (out.length : Int) by omega)]
                by_cases hc : turnS ps rs (t : Int) f = []
                · rw [if_pos (by rw [hc, List.append_nil]), q3 hc]
                  omega
                · have h2 : 0 < (turnS ps rs (t : Int) f).length := List.length_pos_iff.2 hc
                  rw [if_neg (by rw [List.length_append]; omega)]
                  omega
              clear q1 q2 q3 q4 e1 e2 e3 e5 hbx hrx
              go_wp2_with fail
              refine ⟨?_, HMU.out⟩
              rw [hJI.out]
              refine ⟨D :: Ds, ?_⟩
              (repeat apply Exists.intro)
              refine ⟨?_, rfl⟩
              exact ⟨(out.length : Int), u', vo', _, _, rfl, ⟨HTX.out, HBX.out⟩, HFX.out⟩
          · have HZE : Hid (z = (out.length : Int)) := by have := hfin.out.2.2.2.1; show _ = _; omega
            obtain ⟨g1, g2⟩ := finT_stop (hfin.out.2.2.2.2 HZE.out)
            have HEN : Hid ((traceTo ps rs (t + 1)).1 = f ∧ (traceTo ps rs (t + 1)).2 = out) := by
              have h1 := hfin.out.1
              have h2 := hfin.out.2.1
              rw [g1] at h1
              rw [g2, List.append_nil] at h2
              exact ⟨by rw [HSU.out.1, ← h1], by rw [HSU.out.2, ← h2]⟩
            have q5 : (t : Int) ≤ 5 := by omega
            clear g1 g2
            go_wp2_with fail
            refine ⟨?_, by simp [intOf]; omega⟩
            rw [hJO.out]
            refine ⟨Ds, ?_⟩
            (repeat apply Exists.intro)
            refine ⟨?_, rfl⟩
            refine ⟨t + 1, u, .slice oa out.length oc, by omega, by go_num, ?_⟩
            rw [HEN.out.1, HEN.out.2]
            exact htr.out.1
      · obtain rfl : t = ps.length := by omega
        obtain ⟨oa, oc, hvo⟩ := row_slice htr.out.row
        subst hvo
        have e7 := htr.out.box.cell
        have HX : Hid (stepsAt wr (.slice oa (traceTo ps rs ps.length).2.length oc) (traceF ps rs)) := by
          have h := Fire.stepsAt_of htr.out.row (by have := HTP.out ps.length; omega)
          rw [HTF.out, ← HTE.out ps.length (Nat.le_refl _)]
          exact h
        have HXB : Hid (Below w.heap.size w wr) := k2.trans (htr.out.bel.mono k2.size)
        have HCO : Hid (capOk (.slice oa (traceTo ps rs ps.length).2.length oc)) := Base.cap_own htr.out.row
        have HDS : Hid (Ds.Nodup ∧ ∀ D ∈ Ds, w.heap.size ≤ D ∧ wr.heap[D]? = some (.deferred (some []))) := ⟨htr.out.ndp, fun D hD => ⟨Nat.le_trans k2.size (htr.out.mrk D hD).1, (htr.out.mrk D hD).2⟩⟩
        go_wp2_with fail
        show LeavesInM _ _ _ _ _ _ (Ds.map Prog.mark) _ _
        refine leaves_marks w.heap.size Ds _ HDS.out.1 HDS.out.2 fun W' hb hc => ?_
        refine ⟨.tuple #[.slice oa (traceTo ps rs ps.length).2.length oc, .int .i64 0], by simp [results, Tryz.f15, go_sem], ?_⟩
        rw [HPE.out]
        exact ⟨_, rfl, steps_cells HX.out hc hb.size, HCO.out, HXB.out.trans hb⟩
  · have HPE : Hid (traceF ps rs = []) := by show _ = _; rw [traceF, if_pos hpe]
    have hpe' : (progErr ps rs == 0) = false := by simpa using hpe
    rw [HPE.out]
    go_enter Tryz.func15, Tryz.ntmps15
    go_wp2_with fail
    clear hW1
    refine (HST.out _ b1).mono ?_
    rintro e W2 ⟨⟨sv, rfl, hsn, _⟩, hb2⟩
    obtain rfl := hsn hpe
    have k2 : Below w.heap.size w W2 := b1.trans (hb2.mono b1.size)
    go_wp2_with fail
    refine bodyPost_ret (v := .tuple #[.slice none 0 0, .int .i64 (progErr ps rs)]) (by simp [results, Tryz.results15, go_sem]) rfl ?_
    exact ⟨_, rfl, ⟨none, 0, rfl, by simp, .inl rfl⟩, Base.cap_nil, by first | exact k2 | exact k2.alloc k2.size _⟩
theorem devTrace_c (w : World) (pv rv : Value) (ps : List Prd) (rs : List Rul) (hp : predsAt w pv ps) (hr : rulesAt w rv rs) (hn : small ps) :
    Calls Tryz.prog 15 #[.agg #[pv, rv]] w fun e w' => ∃ u, e = .returned (.tuple #[u, .int .i64 (progErr ps rs)]) ∧ stepsAt w' u (traceF ps rs) ∧ Below w.heap.size w w' :=
  (devTrace_n w pv rv ps rs hp hr hn).mono fun _ _ ⟨u, h1, h2, _, h3⟩ => ⟨u, h1, h2, h3⟩
end Go.Proofs.YtlfccloaoopadaeGreat.Trace

/-
  The trace of the laws' own program 'roads', in plain words.
-/
namespace Go.Proofs.YtlfccloaoopadaeGreat.Trace
open Fire (Stp roundErr)
open Prog (g0)
open Naive (m3 m4 m5 r0 r3 r4 r5 strataN modelL)
open Round (stratOf st1)

def s1 : List Stp := [⟨0, 0, 0, 0⟩, ⟨1, 0, 0, 0⟩, ⟨2, 0, 0, 0⟩, ⟨3, 0, 0, 0⟩, ⟨4, 0, 1, 0⟩, ⟨4, 1, 2, 0⟩, ⟨4, 2, 0, 0⟩, ⟨4, 3, 0, 0⟩, ⟨5, 0, 1, 2⟩, ⟨5, 1, 2, 0⟩, ⟨5, 2, 0, 1⟩, ⟨5, 3, 0, 1⟩]
def s2 : List Stp := [⟨5, 0, 2, 0⟩, ⟨5, 1, 0, 1⟩, ⟨5, 2, 1, 2⟩, ⟨5, 3, 1, 2⟩]
def s3 : List Stp := [⟨6, 3, 0, 0⟩]
def s4 : List Stp := s1 ++ s2 ++ s3
set_option maxRecDepth 100000
theorem t0 : turnF Roads.preds Roads.rules 0 [] = m3 ∧ turnS Roads.preds Roads.rules 0 [] = s1 := ⟨by kernel_rfl, by kernel_rfl⟩
theorem t1 : turnF Roads.preds Roads.rules 0 m3 = m4 ∧ turnS Roads.preds Roads.rules 0 m3 = s2 := ⟨by kernel_rfl, by kernel_rfl⟩
theorem t2 : turnS Roads.preds Roads.rules 0 m4 = [] := by kernel_rfl
theorem t3 : turnF Roads.preds Roads.rules 1 m4 = m5 ∧ turnS Roads.preds Roads.rules 1 m4 = s3 := ⟨by kernel_rfl, by kernel_rfl⟩
theorem t4 : turnS Roads.preds Roads.rules 1 m5 = [] := by kernel_rfl
theorem e0 : finTF Roads.preds Roads.rules 0 [] = m4 ∧ finTS Roads.preds Roads.rules 0 [] = s1 ++ s2 := by
  have h0 := finT_step (s := 0) r0 (by rw [t0.2]; simp [s1])
  have h1 := finT_step (s := 0) r3 (by rw [t1.2]; simp [s2])
  have h2 := finT_stop t2
  rw [t0.1, t0.2] at h0
  rw [t1.1, t1.2] at h1
  rw [h0.1, h0.2, h1.1, h1.2, h2.1, h2.2, List.append_nil]
  exact ⟨rfl, rfl⟩
theorem e1 : finTF Roads.preds Roads.rules 1 m4 = m5 ∧ finTS Roads.preds Roads.rules 1 m4 = s3 := by
  have h0 := finT_step (s := 1) r4 (by rw [t3.2]; simp [s3])
  have h1 := finT_stop t4
  rw [t3.1, t3.2] at h0
  rw [h0.1, h0.2, h1.1, h1.2, List.append_nil]
  exact ⟨rfl, rfl⟩
theorem trace_roads : traceL Roads.preds Roads.rules = s4 := by
  rw [traceL, st1, show strataN [0, 0, 1] = 2 from rfl]
  show [] ++ finTS Roads.preds Roads.rules 0 [] ++ finTS Roads.preds Roads.rules 1 (finTF Roads.preds Roads.rules 0 []) = s4
  rw [e0.1, e0.2, e1.2]
  rfl
theorem replay_roads : replayL Roads.preds Roads.rules s4 = (m5, 17, 0) := by
  have h := (trace_same g0).1
  have hm := Naive.model_roads.1
  rw [Naive.modelF, if_neg (by rw [g0]; simp)] at hm
  rw [trace_roads, hm] at h
  rw [replayL, if_neg (by rw [g0]; simp), if_neg (by show ¬ 4096 < 17; omega), h]
  rfl
theorem replay_two : replayL Roads.preds Roads.rules [⟨0, 0, 0, 0⟩, ⟨5, 0, 0, 0⟩] = ([], 1, 1) := by
  rw [replayL, if_neg (by rw [g0]; simp), if_neg (by show ¬ 4096 < 2; omega)]
  kernel_rfl
theorem traceF_roads : traceF Roads.preds Roads.rules = s4 := by rw [traceF, if_neg (by rw [g0]; simp), trace_roads]
end Go.Proofs.YtlfccloaoopadaeGreat.Trace

/-
  What must be in any case of package trace.
-/
namespace Go.Proofs.YtlfccloaoopadaeGreat.Trace
open Go.ChangeShapes Go.WideShapes Go.ChangeAt Go.RowKit
open Prog (g0 smallP)
open Fire (roads2_c Stp stepsAt)
open Naive (m5)

theorem steps_two (w : World) : stepsAt (w.alloc (.cells #[.int .i64 0, .int .i64 0, .int .i64 0, .int .i64 0, .int .i64 5, .int .i64 0, .int .i64 0, .int .i64 0] 64)) (.slice (some ⟨w.heap.size, 0, none⟩) 2 2) [⟨0, 0, 0, 0⟩, ⟨5, 0, 0, 0⟩] := by
  refine ⟨_, 2, rfl, by simp, .inr ⟨w.heap.size, 0, rfl, by simp, fun i y hi => ?_⟩⟩
  match i, hi with
  | 0, hi =>
    obtain rfl : (⟨0, 0, 0, 0⟩ : Stp) = y := by simpa using hi
    refine ⟨?_, ?_, ?_, ?_⟩ <;> simp [go_sem]
  | 1, hi =>
    obtain rfl : (⟨5, 0, 0, 0⟩ : Stp) = y := by simpa using hi
    refine ⟨?_, ?_, ?_, ?_⟩ <;> simp [go_sem]
  | i + 2, hi => simp at hi

set_option maxRecDepth 100000 in
set_option maxHeartbeats 8000000 in
theorem traceBegun_c (w : World) : Calls Tryz.prog 17 #[] w fun e w' => e = .returned (.bool true) ∧ Below w.heap.size w w' := by
  go_enter Tryz.func17, Tryz.ntmps17
  go_wp2_with fail
  refine (roads2_c _).mono ?_
  rintro e a1 ⟨pa, pn, pc, ra, rn, rc, rfl, hp, hr, hb1⟩
  have HC : Hid (Calls Tryz.prog 15 #[.agg #[.slice pa pn pc, .slice ra rn rc]] a1 fun e w' => ∃ u, e = .returned (.tuple #[u, .int .i64 0]) ∧ stepsAt w' u s4 ∧ Below a1.heap.size a1 w') := by
    have h := devTrace_c a1 _ _ Roads.preds Roads.rules hp hr smallP
    rw [g0, traceF_roads] at h
    exact h
  clear hp hr
  go_wp2_with fail
  refine HC.out.mono ?_
  rintro e c1 ⟨u1, rfl, hfu, hb2⟩
  have k1 : Below w.heap.size w c1 := hb1.trans (hb2.mono hb1.size)
  have HU : Hid (∀ x, Below c1.heap.size c1 x → stepsAt x u1 s4) := fun x hx => Fire.stepsAt.lasts hx hfu
  obtain ⟨ua, uc, rfl, _⟩ := hfu
  simp only [show s4.length = 17 from rfl] at HU ⊢
  clear hb1 hb2 HC
  go_wp2_with fail
  refine (roads2_c _).mono ?_
  rintro e a2 ⟨pa, pn, pc, ra, rn, rc, rfl, hp, hr, hb1⟩
  have HC : Hid (Calls Tryz.prog 19 #[.agg #[.slice pa pn pc, .slice ra rn rc], .slice ua 17 uc] a2 fun e w' => ∃ u, e = .returned (.tuple #[u, .int .i64 17, .int .i64 0]) ∧ factsAt w' u m5 ∧ Below a2.heap.size a2 w') := by
    have h := devReplay_c a2 _ _ _ Roads.preds Roads.rules s4 hp hr (HU.out a2 hb1) smallP
    rw [replay_roads] at h
    exact h
  clear hp hr
  go_wp2_with fail
  refine HC.out.mono ?_
  rintro e c2 ⟨u2, rfl, hfu2, hb2⟩
  have q2 : Below c1.heap.size c1 c2 := hb1.trans (hb2.mono hb1.size)
  have k2 : Below w.heap.size w c2 := k1.trans (q2.mono k1.size)
  obtain ⟨va, vc, rfl, _⟩ := hfu2
  simp only [show m5.length = 17 from rfl]
  clear hb1 hb2 HC
  go_wp2_with fail
  refine (roads2_c _).mono ?_
  rintro e a3 ⟨pa, pn, pc, ra, rn, rc, rfl, hp, hr, hb1⟩
  have k3 : Below w.heap.size w a3 := k2.trans (hb1.mono k2.size)
  have HC : Hid (∀ x v, Below a3.heap.size a3 x → stepsAt x v [⟨0, 0, 0, 0⟩, ⟨5, 0, 0, 0⟩] → Calls Tryz.prog 19 #[.agg #[.slice pa pn pc, .slice ra rn rc], v] x fun e w' => ∃ u, e = .returned (.tuple #[u, .int .i64 1, .int .i64 1]) ∧ factsAt w' u [] ∧ Below x.heap.size x w') := fun x v hx hv => by
    have h := devReplay_c x _ _ _ Roads.preds Roads.rules [⟨0, 0, 0, 0⟩, ⟨5, 0, 0, 0⟩] (predsAt.lasts hx hp) (rulesAt.lasts hx hr) hv smallP
    rw [replay_two] at h
    exact h
  clear hp hr
  go_wp2_with fail
  refine (HC.out _ _ (below_alloc _ _) (steps_two a3)).mono ?_
  rintro e W9 ⟨u9, rfl, hf9, hb9⟩
  have k9 : Below w.heap.size w W9 := k3.trans ((below_trans (below_alloc _ _) hb9).mono k3.size)
  obtain ⟨xa, xc, rfl, _⟩ := hf9
  go_wp2_with fail
  go_ret
  exact ⟨rfl, k9⟩
end Go.Proofs.YtlfccloaoopadaeGreat.Trace

/-
  What the document's own ReplayOf answers.
-/
namespace Go.Proofs.YtlfccloaoopadaeGreat.Trace
open Go.ChangeShapes Go.WideShapes Go.ChangeAt Go.RowKit
open Lat (within)
open Rule (Vars kindOf factFine)
open Base (factsErr capOk capNew addF addC)
open Fire (roundErr Stp stepsAt step_cells consts bodyOk headF holdsF rules_right)
open Prog (progErr small)
open Naive (right_parts right_round nil_right)

set_option maxRecDepth 100000 in
set_option maxHeartbeats 8000000 in
theorem replayOf_c (w : World) (pv rv lv : Value) (ps : List Prd) (rs : List Rul) (l : List Stp) (hp : predsAt w pv ps) (hr : rulesAt w rv rs) (hl : stepsAt w lv l) (hn : small ps) :
    Calls Tryz.prog 20 #[.agg #[pv, rv], lv] w fun e w' => ∃ u, e = .returned (.tuple #[u, .int .i64 ((replayL ps rs l).2.1 : Int), .int .i64 (replayL ps rs l).2.2]) ∧ factsAt w' u (replayL ps rs l).1 ∧ Below w.heap.size w w' := by
  have HCK : Hid (∀ x, Below w.heap.size w x → Calls Tryz.prog 10 #[.agg #[pv, rv]] x fun e w' => e = .returned (.int .i64 (progErr ps rs)) ∧ Below x.heap.size x w') := fun x hx => Prog.checkProg_c x pv rv ps rs (predsAt.lasts hx hp) (rulesAt.lasts hx hr) hn
  have HL : Hid (∀ x, Below w.heap.size w x → stepsAt x lv l) := fun x hx => Fire.stepsAt.lasts hx hl
  have HD : Hid (∀ x, Below w.heap.size w x → predsAt x pv ps ∧ rulesAt x rv rs) := fun x hx => ⟨predsAt.lasts hx hp, rulesAt.lasts hx hr⟩
  have HRL : Hid (rs.length ≤ 140737488355328) := by obtain ⟨_, _, _, h, _⟩ := hr; exact h
  by_cases hpe : progErr ps rs = 0
  · rw [hpe] at HCK
    by_cases hlen : 4096 < l.length
    · have e1 : replayL ps rs l = ([], 0, 2) := by rw [replayL, if_neg (by rw [hpe]; simp), if_pos hlen]
      rw [e1]
      have hlen' : (4096 : Int) < (l.length : Int) := by omega
      obtain ⟨pa, pc, rfl, _⟩ := hp
      obtain ⟨ra, rc, rfl, _⟩ := hr
      obtain ⟨la, lc, rfl, _⟩ := hl
      go_enter Tryz.func20, Tryz.ntmps20
      go_wp2_with fail
      refine (HCK.out _ (below_alloc _ _)).mono ?_
      rintro e W1 ⟨rfl, hb1⟩
      have k1 : Below w.heap.size w W1 := below_trans (below_alloc _ _) hb1
      go_wp2_with fail
      refine bodyPost_ret (v := .tuple #[.slice none 0 0, .int .i64 0, .int .i64 2]) (by simp [results, Tryz.results20, go_sem]) rfl ?_
      exact ⟨_, rfl, Base.facts_nil _, k1⟩
    · have HE : Hid (replayL ps rs l = rep ps rs l [] 0) := by show _ = _; rw [replayL, if_neg (by rw [hpe]; simp), if_neg hlen]
      have hlen' : ¬ (4096 : Int) < (l.length : Int) := by omega
      have HN0 : Hid (roundErr ps rs [] = 0) := nil_right hpe
      have HRE : Hid (∀ r ∈ rs, Rule.ruleErr ps r = 0) := rules_right hpe
      have HHO : Hid (∀ x u f n, (hn : n < rs.length) → ∀ v, consts v = true → factsErr ps f = 0 → factsAt x u f → Below w.heap.size w x → Calls Tryz.prog 37 #[.agg #[pv, rv], u, .int .i64 (n : Int), .agg #[.int .i64 v.x, .int .i64 v.y, .int .i64 v.z]] x fun e w' => e = .returned (.tuple #[.bool (bodyOk f v rs[n].body), .agg #[.int .i64 (holdsF ps f rs[n] v).pred, .int .i64 (holdsF ps f rs[n] v).a, .int .i64 (holdsF ps f rs[n] v).b, .int .i64 (holdsF ps f rs[n] v).val]]) ∧ Below x.heap.size x w') := fun x u f n hn v hv hfe hf hx => Fire.holds_c x pv rv u ps rs f n v (HD.out x hx).1 (HD.out x hx).2 hf HRE.out hfe hn hv
      have HAD : Hid (∀ x u f (y : Fct), factsErr ps f = 0 → factFine ps y = true → factsAt x u f → Below w.heap.size w x → Calls Tryz.prog 38 #[pv, u, .agg #[.int .i64 y.pred, .int .i64 y.a, .int .i64 y.b, .int .i64 y.val]] x fun e w' => ∃ u', e = .returned (.tuple #[u', .bool (addC (kindOf ps) y f)]) ∧ factsAt w' u' (addF (kindOf ps) y f) ∧ capNew x.heap.size u' ∧ Below x.heap.size x w') := fun x u f y hfe hy hf hx => Base.add_n x pv u ps f y.pred y.a y.b y.val (HD.out x hx).1 hf hfe hy
      obtain ⟨pa, pc, rfl, _⟩ := hp
      obtain ⟨ra, rc, rfl, _⟩ := hr
      obtain ⟨la, lc, rfl, _⟩ := hl
      rw [HE.out]
      clear hpe hlen HE
      go_enter Tryz.func20, Tryz.ntmps20
      go_wp2_with fail
      refine (HCK.out _ (below_alloc _ _)).mono ?_
      rintro e W1 ⟨rfl, hb1⟩
      have k1 : Below w.heap.size w W1 := below_trans (below_alloc _ _) hb1
      have B1 := Prog.boxL hb1
      obtain ⟨c0, c1, _⟩ := id B1
      clear hb1
      go_wp2_with fail
      go_loopw [8, 9] (fun o i wr => ∃ (k : Nat) (u : Value) (f : List Fct), u = o ∧ k ≤ l.length ∧ i = .int .i64 k ∧ Hid (rep ps rs (l.drop k) f k = rep ps rs l [] 0) ∧ Hid (roundErr ps rs f = 0) ∧ Hid (factsAt wr u f) ∧ Below W1.heap.size W1 wr) (fun _ i _ => l.length - (intOf i).toNat)
      case atStart => exact ⟨0, _, [], rfl, Nat.zero_le _, rfl, by rw [List.drop_zero]; rfl, HN0, Base.facts_nil _, Below.refl _ _⟩
      case round =>
        clear c0 c1
        obtain ⟨k, u, f, rfl, hk, rfl, hrep, hre, hfu, hbr⟩ := hrel
        have kr : Below w.heap.size w wr := k1.trans (hbr.mono k1.size)
        have BR := Prog.boxO hbr B1
        obtain ⟨c0, c1, hNw⟩ := id BR
        by_cases hlt : k < l.length
        · have hk0 : (k : Int) < (l.length : Int) := by omega
          obtain ⟨tb, to_, tc', htv, htb, q0, q1, q2, q3⟩ := step_cells (HL.out _ kr) hlt
          obtain ⟨rfl, rfl⟩ : la = some ⟨tb, to_, none⟩ ∧ lc = tc' := by simpa using htv
          have HDR : Hid (l.drop k = l[k] :: l.drop (k + 1)) := List.drop_eq_getElem_cons hlt
          clear htv
          generalize l[k] = sk at *
          have HR0 : Hid (stepErr rs f sk ≠ 0 → rep ps rs l [] 0 = ([], k, stepErr rs f sk)) := fun h => by rw [← hrep.out, HDR.out, rep, if_pos h]
          have HR1 : Hid (stepErr rs f sk = 0 → rep ps rs (l.drop (k + 1)) (stepF ps rs f sk) (k + 1) = rep ps rs l [] 0) := fun h => by rw [← hrep.out, HDR.out, rep, if_neg (by rw [h]; simp)]
          clear HDR hrep
          have LP : ∀ x : Low wr.heap.size wr, x.wd.cell? ⟨w.heap.size, 1, none⟩ = some (.slice ra rs.length rc) := fun x => (cell_lasts x.low hNw).trans c1
          have LS : ∀ x : Low wr.heap.size wr, x.wd.cell? ⟨tb, to_ + k * 4, none⟩ = some (.int .i64 sk.rule) := fun x => (cell_lasts x.low htb).trans q0
          have HWI : Hid (∀ x : World, Calls Tryz.prog 30 #[.int .i64 sk.rule, .int .i64 0, .int .i64 ((rs.length : Int) - 1)] x fun e w' => e = .returned (.bool (within sk.rule 0 ((rs.length : Int) - 1))) ∧ w' = x) := fun x => Lat.within_c _ _ _ x
          have hrl : (rs.length : Int) ≤ 140737488355328 := by have := HRL.out; omega
          have HBW : Hid (within sk.rule 0 ((rs.length : Int) - 1) = true ↔ 0 ≤ sk.rule ∧ sk.rule < (rs.length : Int)) := by
            show _ ↔ _
            rw [Fire.within_iff]
            omega
          generalize within sk.rule 0 ((rs.length : Int) - 1) = wb at *
          have KQ : Hid (∀ x, Below wr.heap.size wr x → x.cell? ⟨w.heap.size, 0, none⟩ = some (.slice pa ps.length pc) ∧ x.cell? ⟨w.heap.size, 1, none⟩ = some (.slice ra rs.length rc) ∧ x.cell? ⟨tb, to_ + k * 4, none⟩ = some (.int .i64 sk.rule) ∧ x.cell? ⟨tb, to_ + k * 4 + 1, none⟩ = some (.int .i64 sk.x) ∧ x.cell? ⟨tb, to_ + k * 4 + 2, none⟩ = some (.int .i64 sk.y) ∧ x.cell? ⟨tb, to_ + k * 4 + 3, none⟩ = some (.int .i64 sk.z)) := fun x hx => ⟨(cell_lasts hx hNw).trans c0, (cell_lasts hx hNw).trans c1, (cell_lasts hx htb).trans q0, (cell_lasts hx htb).trans q1, (cell_lasts hx htb).trans q2, (cell_lasts hx htb).trans q3⟩
          clear c0 c1 q0 q1 q2 q3
          go_wp2_with fail
          refine wp_region_low wr.heap.size (by kernel_rfl) (by kernel_rfl) ?_
          repeat (go_big_quiet_step (first | (go_at_call 30; exact low_same (HWI.out _))))
          refine wpQuiet_nil ?_
          rintro w2 ⟨⟨_, hb2⟩, rfl⟩
          have k2 : Below w.heap.size w w2 := kr.trans (hb2.mono kr.size)
          clear LP LS HWI hrl
          obtain ⟨c0, c1, q0, q1, q2, q3⟩ := KQ.out _ hb2
          cases wb
          · have HS : Hid (stepErr rs f sk = 7) := by
              show _ = _
              rw [stepErr, if_neg (fun h => by have := HBW.out.2 h; cases this)]
            go_wp2_with fail
            refine bodyPost_ret (v := .tuple #[.slice none 0 0, .int .i64 k, .int .i64 7]) (by simp [results, Tryz.results20, go_sem]) rfl ?_
            rw [HR0.out (by rw [HS.out]; decide), HS.out]
            exact ⟨_, rfl, Base.facts_nil _, k2⟩
          · obtain ⟨n, hne⟩ : ∃ n : Nat, sk.rule = (n : Int) := ⟨sk.rule.toNat, by have := HBW.out.1 rfl; omega⟩
            have hnl : n < rs.length := by have := HBW.out.1 rfl; omega
            have HCO : Hid (∀ x, Calls Tryz.prog 47 #[.agg #[.int .i64 sk.x, .int .i64 sk.y, .int .i64 sk.z]] x fun e w' => e = .returned (.bool (consts sk.vars)) ∧ Below x.heap.size x w') := fun x => Fire.constants_c sk.vars x
            have HS3 : Hid (consts sk.vars = false → stepErr rs f sk = 3) := fun h => by rw [stepErr, if_pos (HBW.out.1 rfl), if_neg (by rw [h]; simp)]
            have HSB : Hid (consts sk.vars = true → stepErr rs f sk = if bodyOk f sk.vars rs[n].body then 0 else 1) := fun h => by rw [stepErr, if_pos (HBW.out.1 rfl), if_pos h, hne, Int.toNat_natCast, List.getElem?_eq_getElem hnl]; rfl
            have HCV : Hid (consts sk.vars = consts sk.vars) := rfl
            clear HBW
            generalize hcb : consts sk.vars = cb at *
            have HCB : Hid (consts sk.vars = cb) := hcb
            clear hcb HCV
            go_wp2_with fail
            refine (HCO.out _).mono ?_
            rintro ex w3 ⟨rfl, hb3⟩
            have k3 : Below w.heap.size w w3 := k2.trans (hb3.mono k2.size)
            have hb23 : Below wr.heap.size wr w3 := hb2.trans (hb3.mono hb2.size)
            have hb13 : Below W1.heap.size W1 w3 := hbr.trans (hb23.mono hbr.size)
            clear c0 c1 q0 q1 q2 q3
            obtain ⟨c0, c1, q0, q1, q2, q3⟩ := KQ.out _ hb23
            cases cb
            · have HS : Hid (stepErr rs f sk = 3) := HS3.out rfl
              go_wp2_with fail
              refine bodyPost_ret (v := .tuple #[.slice none 0 0, .int .i64 k, .int .i64 3]) (by simp [results, Tryz.results20, go_sem]) rfl ?_
              rw [HR0.out (by rw [HS.out]; decide), HS.out]
              exact ⟨_, rfl, Base.facts_nil _, k3⟩
            · have HSE : Hid (stepErr rs f sk = if bodyOk f sk.vars rs[n].body then 0 else 1) := HSB.out rfl
              have HFE : Hid (factsErr ps f = 0) := (right_parts hre.out).2
              have HFU3 : Hid (∀ x, Below w3.heap.size w3 x → factsAt x u f) := fun x hx => factsAt.lasts (hb23.trans (hx.mono hb23.size)) hfu.out
              have KQ3 : Hid (∀ x, Below w3.heap.size w3 x → x.cell? ⟨w.heap.size, 0, none⟩ = some (.slice pa ps.length pc) ∧ x.cell? ⟨w.heap.size, 1, none⟩ = some (.slice ra rs.length rc) ∧ x.cell? ⟨tb, to_ + k * 4, none⟩ = some (.int .i64 sk.rule) ∧ x.cell? ⟨tb, to_ + k * 4 + 1, none⟩ = some (.int .i64 sk.x) ∧ x.cell? ⟨tb, to_ + k * 4 + 2, none⟩ = some (.int .i64 sk.y) ∧ x.cell? ⟨tb, to_ + k * 4 + 3, none⟩ = some (.int .i64 sk.z)) := fun x hx => KQ.out x (hb23.trans (hx.mono hb23.size))
              have HHK : Hid (∀ x, Below w3.heap.size w3 x → Calls Tryz.prog 37 #[.agg #[.slice pa ps.length pc, .slice ra rs.length rc], u, .int .i64 sk.rule, .agg #[.int .i64 sk.x, .int .i64 sk.y, .int .i64 sk.z]] x fun e w' => e = .returned (.tuple #[.bool (bodyOk f sk.vars rs[n].body), .agg #[.int .i64 (holdsF ps f rs[n] sk.vars).pred, .int .i64 (holdsF ps f rs[n] sk.vars).a, .int .i64 (holdsF ps f rs[n] sk.vars).b, .int .i64 (holdsF ps f rs[n] sk.vars).val]]) ∧ Below x.heap.size x w') := fun x hx => by
                have h := HHO.out x u f n hnl sk.vars HCB.out HFE.out (HFU3.out x hx) (k3.trans (hx.mono k3.size))
                rw [← hne] at h
                exact h
              have HYF : Hid (bodyOk f sk.vars rs[n].body = true → factFine ps (holdsF ps f rs[n] sk.vars) = true ∧ addF (kindOf ps) (holdsF ps f rs[n] sk.vars) f = stepF ps rs f sk) := fun h => by
                have e : holdsF ps f rs[n] sk.vars = headF ps f rs[n] sk.vars := by rw [holdsF, if_pos h]
                rw [e]
                exact ⟨Round.head_fine (HRE.out _ (List.getElem_mem hnl)) HFE.out HCB.out, by rw [stepF, hne, Int.toNat_natCast, List.getElem?_eq_getElem hnl]; rfl⟩
              clear hne HHO HSB HS3 HCO HCB
              generalize holdsF ps f rs[n] sk.vars = y at *
              obtain ⟨ua, un, rfl, _⟩ := id hfu.out
              have KA : Hid (Below w3.heap.size w3 (w3.alloc (.cells #[.int .i64 0, .int .i64 0, .int .i64 0, .int .i64 0] 79))) := below_alloc _ _
              have KS : Hid (∀ x, Below w3.heap.size w3 x → ∀ y0 y1 y2 y3, Below w3.heap.size w3 ((((x.setCell ⟨w3.heap.size, 0, none⟩ y0).setCell ⟨w3.heap.size, 1, none⟩ y1).setCell ⟨w3.heap.size, 2, none⟩ y2).setCell ⟨w3.heap.size, 3, none⟩ y3)) := fun x hx y0 y1 y2 y3 => Fire.below_four hx y0 y1 y2 y3
              have KZ : Hid (∀ x, Below (w3.alloc (.cells #[.int .i64 0, .int .i64 0, .int .i64 0, .int .i64 0] 79)).drew.heap.size (w3.alloc (.cells #[.int .i64 0, .int .i64 0, .int .i64 0, .int .i64 0] 79)).drew x → x.cell? ⟨w3.heap.size, 0, none⟩ = some (.int .i64 0) ∧ x.cell? ⟨w3.heap.size, 1, none⟩ = some (.int .i64 0) ∧ x.cell? ⟨w3.heap.size, 2, none⟩ = some (.int .i64 0) ∧ x.cell? ⟨w3.heap.size, 3, none⟩ = some (.int .i64 0) ∧ ∀ o, x.frozen? ⟨w3.heap.size, o, none⟩ = false) := fun x hx => Fire.zero_box hx
              go_wp2_with fail
              clear c0 c1 q0 q1 q2 q3
              go_region_held3 (fun w' => w'.cell? ⟨w.heap.size, 0, none⟩ = some (.slice pa ps.length pc) ∧ w'.cell? ⟨w.heap.size, 1, none⟩ = some (.slice ra rs.length rc) ∧ w'.cell? ⟨tb, to_ + k * 4, none⟩ = some (.int .i64 sk.rule) ∧ w'.cell? ⟨tb, to_ + k * 4 + 1, none⟩ = some (.int .i64 sk.x) ∧ w'.cell? ⟨tb, to_ + k * 4 + 2, none⟩ = some (.int .i64 sk.y) ∧ w'.cell? ⟨tb, to_ + k * 4 + 3, none⟩ = some (.int .i64 sk.z))
                (first | (refine KQ3.out _ ?_; (first | with_reducible exact Below.refl _ _ | with_reducible exact Below.drew (Below.refl _ _) | with_reducible exact hk | with_reducible exact KA.out | with_reducible exact Below.drew KA.out | with_reducible exact Below.alloc hk (Below.size hk) _ | with_reducible exact KS.out _ hk _ _ _ _)))
                (first | (go_at_call 37; refine (HHK.out _ (KA.out.drew)).mono ?_; rintro ex w5 ⟨rfl, hb5⟩; have hk : Below w3.heap.size w3 w5 := KA.out.trans ((((Below.refl _ _).drew).trans hb5).mono KA.out.size); obtain ⟨z0, z1, z2, z3, zf⟩ := KZ.out _ hb5) | (go_at_call 37; refine (HHK.out _ (Below.drew (Below.refl _ _))).mono ?_; rintro ex w5 ⟨rfl, hb5⟩; have hk : Below w3.heap.size w3 w5 := ((Below.refl _ _).drew).trans hb5))
              · obtain ⟨W6, hW6⟩ : ∃ W6, w5.alloc (.cells #[.int .i64 y.pred, .int .i64 y.a, .int .i64 y.b, .int .i64 y.val] 79) = W6 := ⟨_, rfl⟩
                have k6 : Below w3.heap.size w3 W6 := by rw [← hW6]; exact Below.alloc hk (Below.size hk) _
                obtain ⟨y0, y1, y2, y3⟩ : W6.cell? ⟨w5.heap.size, 0, none⟩ = some (.int .i64 y.pred) ∧ W6.cell? ⟨w5.heap.size, 1, none⟩ = some (.int .i64 y.a) ∧ W6.cell? ⟨w5.heap.size, 2, none⟩ = some (.int .i64 y.b) ∧ W6.cell? ⟨w5.heap.size, 3, none⟩ = some (.int .i64 y.val) := by rw [← hW6]; simp [go_sem]
                rw [hW6]
                clear hW6
                have kw6 : Below w.heap.size w W6 := k3.trans (k6.mono k3.size)
                have hf6 := HFU3.out W6 k6
                have k16 : Below W1.heap.size W1 W6 := hb13.trans (k6.mono hb13.size)
                obtain ⟨c0, c1, q0, q1, q2, q3⟩ := KQ3.out _ k6
                cases hbo : bodyOk f sk.vars rs[n].body
                · have HS : Hid (stepErr rs f sk = 1) := by show _ = _; rw [HSE.out, hbo]; rfl
                  go_wp2_with fail
                  refine bodyPost_ret (v := .tuple #[.slice none 0 0, .int .i64 k, .int .i64 1]) (by simp [results, Tryz.results20, go_sem]) rfl ?_
                  rw [HR0.out (by rw [HS.out]; decide), HS.out]
                  exact ⟨_, rfl, Base.facts_nil _, kw6⟩
                · have HS : Hid (stepErr rs f sk = 0) := by show _ = _; rw [HSE.out, hbo]; rfl
                  obtain ⟨hy, hAF⟩ := HYF.out hbo
                  have HA6 := HAD.out W6 _ f y HFE.out hy hf6 kw6
                  have HAF : Hid (addF (kindOf ps) y f = stepF ps rs f sk) := hAF
                  clear hAF hy hf6
                  go_wp2_with fail
                  refine HA6.mono ?_
                  rintro ex W7 ⟨u7, rfl, hf7, _, hb7⟩
                  have HF7 : Hid (factsAt W7 u7 (stepF ps rs f sk)) := by rw [← HAF.out]; exact hf7
                  have k17 : Below W1.heap.size W1 W7 := k16.trans (hb7.mono k16.size)
                  have HR7 : Hid (roundErr ps rs (stepF ps rs f sk) = 0) := step_right hre.out HS.out
                  clear hf7
                  go_wp2_with fail
                  refine ⟨⟨k + 1, u7, stepF ps rs f sk, rfl, by omega, by go_num, ?_, HR7, HF7, k17⟩, by simp [intOf]; omega⟩
                  exact HR1.out HS.out
              · obtain ⟨W6, hW6⟩ : ∃ W6, (((w5.setCell ⟨w3.heap.size, 0, none⟩ (.int .i64 y.pred)).setCell ⟨w3.heap.size, 1, none⟩ (.int .i64 y.a)).setCell ⟨w3.heap.size, 2, none⟩ (.int .i64 y.b)).setCell ⟨w3.heap.size, 3, none⟩ (.int .i64 y.val) = W6 := ⟨_, rfl⟩
                have k6 : Below w3.heap.size w3 W6 := by rw [← hW6]; exact KS.out _ hk _ _ _ _
                obtain ⟨y0, y1, y2, y3⟩ : W6.cell? ⟨w3.heap.size, 0, none⟩ = some (.int .i64 y.pred) ∧ W6.cell? ⟨w3.heap.size, 1, none⟩ = some (.int .i64 y.a) ∧ W6.cell? ⟨w3.heap.size, 2, none⟩ = some (.int .i64 y.b) ∧ W6.cell? ⟨w3.heap.size, 3, none⟩ = some (.int .i64 y.val) := by rw [← hW6]; simp [go_sem, z0, z1, z2, z3]
                rw [hW6]
                clear hW6
                have kw6 : Below w.heap.size w W6 := k3.trans (k6.mono k3.size)
                have hf6 := HFU3.out W6 k6
                have k16 : Below W1.heap.size W1 W6 := hb13.trans (k6.mono hb13.size)
                obtain ⟨c0, c1, q0, q1, q2, q3⟩ := KQ3.out _ k6
                cases hbo : bodyOk f sk.vars rs[n].body
                · have HS : Hid (stepErr rs f sk = 1) := by show _ = _; rw [HSE.out, hbo]; rfl
                  go_wp2_with fail
                  refine bodyPost_ret (v := .tuple #[.slice none 0 0, .int .i64 k, .int .i64 1]) (by simp [results, Tryz.results20, go_sem]) rfl ?_
                  rw [HR0.out (by rw [HS.out]; decide), HS.out]
                  exact ⟨_, rfl, Base.facts_nil _, kw6⟩
                · have HS : Hid (stepErr rs f sk = 0) := by show _ = _; rw [HSE.out, hbo]; rfl
                  obtain ⟨hy, hAF⟩ := HYF.out hbo
                  have HA6 := HAD.out W6 _ f y HFE.out hy hf6 kw6
                  have HAF : Hid (addF (kindOf ps) y f = stepF ps rs f sk) := hAF
                  clear hAF hy hf6
                  go_wp2_with fail
                  refine HA6.mono ?_
                  rintro ex W7 ⟨u7, rfl, hf7, _, hb7⟩
                  have HF7 : Hid (factsAt W7 u7 (stepF ps rs f sk)) := by rw [← HAF.out]; exact hf7
                  have k17 : Below W1.heap.size W1 W7 := k16.trans (hb7.mono k16.size)
                  have HR7 : Hid (roundErr ps rs (stepF ps rs f sk) = 0) := step_right hre.out HS.out
                  clear hf7
                  go_wp2_with fail
                  refine ⟨⟨k + 1, u7, stepF ps rs f sk, rfl, by omega, by go_num, ?_, HR7, HF7, k17⟩, by simp [intOf]; omega⟩
                  exact HR1.out HS.out
        · obtain rfl : k = l.length := by omega
          have HRZ : Hid (rep ps rs l [] 0 = (f, l.length, 0)) := by
            have := hrep.out
            rw [List.drop_length] at this
            exact this.symm
          obtain ⟨ua, un, rfl, _⟩ := id hfu.out
          go_wp2_with fail
          refine bodyPost_ret (v := .tuple #[.slice ua f.length un, .int .i64 l.length, .int .i64 0]) (by simp [results, Tryz.results20, go_sem]) rfl ?_
          rw [HRZ.out]
          exact ⟨_, rfl, hfu.out, kr⟩
  · have e1 : replayL ps rs l = ([], 0, progErr ps rs) := by rw [replayL, if_pos hpe]
    have hpe' : (progErr ps rs == 0) = false := by simpa using hpe
    rw [e1]
    obtain ⟨pa, pc, rfl, _⟩ := hp
    obtain ⟨ra, rc, rfl, _⟩ := hr
    obtain ⟨la, lc, rfl, _⟩ := hl
    go_enter Tryz.func20, Tryz.ntmps20
    go_wp2_with fail
    refine (HCK.out _ (below_alloc _ _)).mono ?_
    rintro e W1 ⟨rfl, hb1⟩
    have k1 : Below w.heap.size w W1 := below_trans (below_alloc _ _) hb1
    go_wp2_with fail
    refine bodyPost_ret (v := .tuple #[.slice none 0 0, .int .i64 0, .int .i64 (progErr ps rs)]) (by simp [results, Tryz.results20, go_sem]) rfl ?_
    exact ⟨_, rfl, Base.facts_nil _, k1⟩
end Go.Proofs.YtlfccloaoopadaeGreat.Trace
