/-
  The developers' 'uses': a function value that goes through the literals of all rules, one by one; whoever ranges over it meets each edge once, in order.
-/
import Derived.RangeFuncNested
import Derived.RangeFuncBound
import Derived.RangeFuncCalls
import Derived.RangeFuncLeaves
import Derived.Shelf.Abstract
import Derived.Shelf.RegionOpen
import Derived.WalkKit
import Derived.OwnWalkIn
import Derived.TacticsInMore
import Derived.LoopNIn
import Derived.LoopIn
import Derived.Test.YtlfccloaoopadafGreatDoorG9
namespace Go.Proofs.YtlfccloaoopadafGreatDoor.Prog
open Go.RowKit Go.Shelf
open Strata
attribute [local go_sem] Oper.semAt_some

/-! ### What a round keeps: all cells but some blocks -/
structure KeepsBut (X : Nat → Prop) (W W' : World) : Prop where
  size : W.heap.size ≤ W'.heap.size
  same : ∀ (k : Nat) (o : Obj), ¬ X k → W.heap[k]? = some o → o.isCells = true → W'.heap[k]? = some o
theorem KeepsBut.refl (X : Nat → Prop) (W : World) : KeepsBut X W W := ⟨Nat.le_refl _, fun _ _ _ h _ => h⟩
theorem KeepsBut.trans {X : Nat → Prop} {A B C : World} (h : KeepsBut X A B) (k : KeepsBut X B C) : KeepsBut X A C :=
  ⟨Nat.le_trans h.size k.size, fun i o hx hi ho => k.same i o hx (h.same i o hx hi ho) ho⟩
theorem KeepsBut.grown {X : Nat → Prop} {W W' : World} {row : Option Nat} (hg : W.grownBy W' row) (hr : ∀ j, row = some j → X j) : KeepsBut X W W' :=
  ⟨hg.size, fun k _ hx hk _ => (hg.block k (Array.getElem?_eq_some_iff.1 hk).1 (fun e => hx (hr k e.symm))).trans hk⟩
theorem KeepsBut.alloc (X : Nat → Prop) (W : World) (o : Obj) : KeepsBut X W (W.alloc o) := KeepsBut.grown (World.grownBy_alloc W o none) (fun _ e => by cases e)
theorem KeepsBut.putObj (X : Nat → Prop) {W : World} {l : Nat} {o : Obj} (o' : Obj) (h : W.heap[l]? = some o) (ho : o.isCells = false) : KeepsBut X W (W.putObj l o') :=
  ⟨(grownBy_putObj' W l o').size, fun k u _ hk hu => by
    have hne : k ≠ l := fun e => by subst e; rw [h] at hk; cases hk; rw [ho] at hu; cases hu
    exact ((grownBy_putObj' W l o').block k (Array.getElem?_eq_some_iff.1 hk).1 (fun e => hne (by cases e; rfl))).trans hk⟩
theorem KeepsBut.mono {X Y : Nat → Prop} {W W' : World} (h : KeepsBut X W W') (hXY : ∀ k, X k → Y k) : KeepsBut Y W W' := ⟨h.size, fun k o hy => h.same k o (fun hx => hy (hXY k hx))⟩
theorem keepsBut_of_below {X : Nat → Prop} {W W' : World} (h : Below W.heap.size W W') : KeepsBut X W W' := ⟨h.size, fun k o _ hk _ => by
  rw [← hk]
  exact h.block k (Array.getElem?_eq_some_iff.1 hk).1⟩
theorem KeepsBut.cell {X : Nat → Prop} {W W' : World} (h : KeepsBut X W W') {b o : Nat} {v : Value} (hx : ¬ X b) (hc : W.cell? ⟨b, o, none⟩ = some v) : W'.cell? ⟨b, o, none⟩ = some v := by
  unfold World.cell? at hc ⊢
  cases hb : W.heap[b]? with
  | none => simp only [hb] at hc; cases hc
  | some x =>
    cases x with
    | cells c t f =>
      have := h.same b _ hx hb rfl
      simp only [hb] at hc
      simp only [this]
      exact hc
    | _ => simp only [hb] at hc; cases hc

/-- one use: an edge, and the slice of the literal's arguments -/
structure Use where
  e : Strata.Edge
  a : Option Addr
  n : Nat
  c : Nat
abbrev UseOf (E : List Strata.Edge) := { u : Use // u.e ∈ E }
def useV {E : List Strata.Edge} (u : UseOf E) : Array Value := #[.int .i64 (u.1.e.h : Int), .agg #[.bool u.1.e.neg, .int .i64 (u.1.e.b : Int), .slice u.1.a u.1.n u.1.c]]
def edgesOf {E : List Strata.Edge} (l : List (UseOf E)) : List Strata.Edge := l.map fun u => u.1.e
theorem edgesOf_snoc {E : List Strata.Edge} (l : List (UseOf E)) (u : UseOf E) : edgesOf (l ++ [u]) = edgesOf l ++ [u.1.e] := by simp [edgesOf]
theorem edgesOf_length {E : List Strata.Edge} (l : List (UseOf E)) : (edgesOf l).length = l.length := by simp [edgesOf]

set_option maxHeartbeats 1000000 in
theorem uses_c (w : World) (a : Option Addr) (n c : Nat) : Calls Tryz.prog 103 #[.slice a n c] w fun e w' => e = .returned (.func (.func 127) #[] #[.pointer (some ⟨w.heap.size, 0, none⟩)]) ∧ w' = w.alloc (.cells #[.slice a n c] 23) := by
  go_enter Tryz.func103, Tryz.ntmps103
  go_wp2
  go_ret
  exact ⟨rfl, rfl⟩

theorem edges_le (rs : List Rul) (k : Nat) : (edges (rs.take k)).length ≤ (edges rs).length := by
  have : edges rs = edges (rs.take k) ++ edges (rs.drop k) := by
    unfold edges
    rw [← List.flatMap_append, List.take_append_drop]
  rw [this, List.length_append]
  omega

set_option maxRecDepth 100000 in
set_option maxHeartbeats 4000000 in
theorem uses1_stops (n : Nat) (hn : 1 ≤ n) (Bs n₀ : Nat) (X : Nat → Prop) (rv : Value) (ps : List Prd) (rs : List Rul) (w : World) (hBs : Bs < w.heap.size) (hX : ∀ k, X k → n₀ ≤ k ∧ k < w.heap.size) (hn₀ : n₀ ≤ w.heap.size)
    (hc : w.cell? ⟨Bs, 0, none⟩ = some rv) (w₀ : World) (hw₀ : w₀.heap.size = n₀) (hb₀ : Below n₀ w₀ w) (hr : rulesAt w₀ rv rs) (hok : ∀ r ∈ rs, Right ps r) :
    SeqStopsK Fence.wide n Tryz.prog 127 #[.pointer (some ⟨Bs, 0, none⟩)] (useV (E := edges rs)) (KeepsBut X) (fun ys => edgesOf ys = edges rs) (fun _ => True) (edges rs).length w := fun l J Jx W hW hJ _ hY h0 => by
  have HR : Hid (rulesAt w₀ rv rs) := hr
  obtain ⟨ra, rc, rfl, hrm, hrx⟩ := hr
  clear hrx
  have hc' := (hW.cell (p := ⟨Bs, 0, none⟩) hBs).trans hc
  have HW0 : Hid (Below n₀ w₀ W) := hb₀.trans (hW.mono hn₀)
  have HK : Hid (∀ r ∈ rs, Right ps r) := hok
  clear hok
  refine callsIn_of_wp Tryz.func127 rfl trivial ?_ rfl
  simp only [Tryz.ntmps127, List.size_toArray, List.length_cons, List.length_nil, Nat.reduceAdd, Nat.reduceSub, Array.replicate_succ, Array.replicate_zero, List.push_toArray, List.append_toArray, List.nil_append, List.cons_append]
  have OLD : Hid (∀ x b o v, KeepsBut X W x → b < w₀.heap.size → w₀.cell? ⟨b, o, none⟩ = some v → x.cell? ⟨b, o, none⟩ = some v) := fun x b o v hx hb hcell =>
    hx.cell (fun h => by have := (hX b h).1; omega) ((HW0.out.cell (p := ⟨b, o, none⟩) (show b < n₀ by omega)).trans hcell)
  have HX2 : Hid (∀ k, W.heap.size ≤ k → ¬ X k) := fun k hk h => by have := (hX k h).2; have := hW.size; omega
  clear hX hb₀ hc hW
  gi_wp2
  gi_loopw [9] (fun i wr => ∃ (k : Nat) (pre : List (UseOf (edges rs))), k ≤ rs.length ∧ i = .int .i64 k ∧ Hid (edgesOf pre = edges (rs.take k)) ∧ J pre wr ∧ KeepsBut X W wr) (fun i _ => rs.length - (intOf i).toNat)
  case atStart => exact ⟨0, [], Nat.zero_le _, rfl, rfl, h0, KeepsBut.refl _ _⟩
  case round =>
    obtain ⟨k, pre, hk, rfl, hpre, hJk, hkb⟩ := hrel
    by_cases hkl : k < rs.length
    · obtain ⟨rb, ro, rc', hv, hrb, hcells⟩ := slice_cells HR.out hkl
      obtain ⟨rfl, rfl⟩ : ra = some ⟨rb, ro, none⟩ ∧ rc = rc' := by simpa using hv
      obtain ⟨t0, ⟨hv', t1, t1'⟩, t2, t3, bv, t4, t5⟩ := hcells
      have HLIT : Hid (litsAt w₀ bv rs[k].body) := t5
      obtain ⟨ba, bc, rfl, hblen, _⟩ := t5
      obtain ⟨ha, hc, rfl, _⟩ := t1'
      replace t0 := OLD.out wr _ _ _ hkb hrb t0
      replace t1 := OLD.out wr _ _ _ hkb hrb t1
      replace t2 := OLD.out wr _ _ _ hkb hrb t2
      replace t3 := OLD.out wr _ _ _ hkb hrb t3
      replace t4 := OLD.out wr _ _ _ hkb hrb t4
      have HRT : Hid (Right ps rs[k]) := HK.out _ (List.getElem_mem hkl)
      have HET : Hid (edges (rs.take (k + 1)) = edges (rs.take k) ++ rs[k].body.map (edgeOf rs[k])) := edges_take hkl
      have HLE : Hid ((edges (rs.take (k + 1))).length ≤ (edges rs).length) := edges_le rs (k + 1)
      have HIN : Hid (∀ x ∈ rs[k].body, edgeOf rs[k] x ∈ edges rs) := fun x hx => List.mem_flatMap.2 ⟨rs[k], List.getElem_mem hkl, List.mem_map.2 ⟨x, hx, rfl⟩⟩
      have hkl0 : (0 : Int) ≤ (k : Int) := by omega
      have hkl1 : (k : Int) < (rs.length : Int) := by omega
      clear hv
      generalize hre : rs[k] = r at *
      obtain ⟨eh, heh⟩ : ∃ eh : Nat, r.head.pred = (eh : Int) := ⟨_, HRT.out.head.2⟩
      have HEO : Hid (∀ x, edgeOf r x = ⟨eh, x.atom.pred.toNat, x.neg⟩) := fun x => by rw [edgeOf, heh]; rfl
      rw [heh] at t0
      gi_wp2
      have hRX : ¬ X wr.heap.size := HX2.out _ hkb.size
      obtain ⟨R, hR⟩ : ∃ R, wr.heap.size = R := ⟨_, rfl⟩
      rw [hR] at hRX ⊢
      gi_loopw [16] (fun i wr3 => ∃ (q : Nat) (pre' : List (UseOf (edges rs))), q ≤ r.body.length ∧ i = .int .i64 q ∧ Hid (edgesOf pre' = edges (rs.take k) ++ (r.body.take q).map (edgeOf r)) ∧ J pre' wr3 ∧ KeepsBut X W wr3 ∧ wr3.cell? ⟨R, 0, none⟩ = some (.int .i64 (eh : Int))) (fun i _ => r.body.length - (intOf i).toNat)
      case atStart =>
        refine ⟨0, pre, Nat.zero_le _, rfl, by rw [List.take_zero, List.map_nil, List.append_nil]; exact hpre, hJ _ _ _ none hJk (World.grownBy_alloc _ _ none) (fun _ e => by cases e), hkb.trans (KeepsBut.alloc _ _ _), ?_⟩
        rw [← hR]
        simp [go_sem]
      case round =>
        clear t0 t1 t2 t3 t4 hJk hkb hpre hR
        obtain ⟨q, pre', hq, rfl, hpre, hJq, hkb, d0⟩ := hrel
        by_cases hql : q < r.body.length
        · obtain ⟨lb, lo, lc', hv, hlb, hcells⟩ := slice_cells HLIT.out hql
          obtain ⟨rfl, rfl⟩ : ba = some ⟨lb, lo, none⟩ ∧ bc = lc' := by simpa using hv
          obtain ⟨l0, l1, av, l2, l3⟩ := hcells
          obtain ⟨aa, ac, rfl, _⟩ := l3
          replace l0 := OLD.out _ _ _ _ hkb hlb l0
          replace l1 := OLD.out _ _ _ _ hkb hlb l1
          replace l2 := OLD.out _ _ _ _ hkb hlb l2
          have hRb := HRT.out.body _ (List.getElem_mem hql)
          have HS := map_take_succ hql
          have hin := HIN.out _ (List.getElem_mem hql)
          rw [HEO.out] at HS hin
          obtain ⟨eb, heb⟩ : ∃ eb : Nat, r.body[q].atom.pred = (eb : Int) := ⟨_, hRb.2⟩
          rw [heb] at l1
          rw [heb, Int.toNat_natCast] at HS hin
          have HS' : Hid _ := HS
          have hplen : pre'.length < (edges rs).length := by
            have h1 := HLE.out
            have h2 := congrArg List.length hpre.out
            rw [HET.out, List.length_append, List.length_map] at h1
            rw [edgesOf_length, List.length_append, List.length_map, List.length_take] at h2
            omega
          clear HS hv hRb heb
          have hq0 : (0 : Int) ≤ (q : Int) := by omega
          have hq1 : (q : Int) < (r.body.length : Int) := by omega
          generalize r.body[q].neg = ng at *
          generalize r.body[q].atom.args.length = an at *
          obtain ⟨fn, tmps, assign, body, hy, hR⟩ := hY pre' ⟨⟨⟨eh, eb, ng⟩, aa, an, ac⟩, hin⟩ (wr.alloc (.cells #[.bool ng, .int .i64 (eb : Int), .slice aa an ac] 66)) (hJ _ _ _ none hJq (World.grownBy_alloc _ _ none) (fun _ e => by cases e)) hplen
          dsimp only [useV] at hy
          have d0' : (wr.alloc (.cells #[.bool ng, .int .i64 (eb : Int), .slice aa an ac] 66)).cell? ⟨R, 0, none⟩ = some (.int .i64 (eh : Int)) := (KeepsBut.alloc X _ _).cell hRX d0
          gi_wp2
          refine hR.mono ?_
          rintro e W3 (⟨rfl, hJ3, hk3⟩ | ⟨rfl, hJx3⟩)
          · have hkb3 : KeepsBut X W W3 := (hkb.trans (KeepsBut.alloc _ _ _)).trans hk3
            have d03 : W3.cell? ⟨R, 0, none⟩ = some (.int .i64 (eh : Int)) := ((KeepsBut.alloc X _ _).trans hk3).cell hRX d0
            gi_wp2
            go_roundw
            case rel => exact ⟨q + 1, _, by omega, by go_num, by show _ = _; rw [edgesOf_snoc, hpre.out, HS'.out, List.append_assoc], hJ3, hkb3, d03⟩
            case measure => simp [intOf]; omega
          · gi_wp2
            refine bodyPost_ret (results_none rfl _ _ _) rfl ?_
            exact ⟨⟨_, rfl⟩, .inr ⟨_, trivial, hJx3⟩⟩
        · obtain rfl : q = r.body.length := by omega
          gi_wp2
          go_roundw
          case rel => exact ⟨k + 1, pre', by omega, by go_num, by show _ = _; rw [hpre.out, HET.out, List.take_length], hJq, hkb⟩
          case measure => simp [intOf]; omega
    · obtain rfl : k = rs.length := by omega
      gi_wp2
      go_end0
      exact ⟨⟨_, rfl⟩, .inl ⟨pre, by have := hpre.out; rwa [List.take_length] at this, hJk⟩⟩
end Go.Proofs.YtlfccloaoopadafGreatDoor.Prog
