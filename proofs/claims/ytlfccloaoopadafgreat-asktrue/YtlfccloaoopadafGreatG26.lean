/-
  What is left of a row of facts that may be written: slices.DeleteFunc.
-/
import Derived.Test.YtlfccloaoopadafGreatG24
import Derived.Test.YtlfccloaoopadafGreatG23
import Derived.Test.YtlfccloaoopadafGreatG19
import Derived.Test.YtlfccloaoopadafGreatG8
import Derived.Test.YtlfccloaoopadafGreatG20
import Derived.Test.YtlfccloaoopadafGreatG10
import Derived.Test.YtlfccloaoopadafGreatG5
namespace Go.Proofs.YtlfccloaoopadafGreat.Del
open Go.ChangeShapes Go.WideShapes Go.ChangeAt Go.RowKit
open Base (factV factsErr capOk capNew cellsF)
open Semi (RowF indexFact_n delete_c)
open Naive (FW)

/-- a copy of the call's own: nothing, or a row that may be written -/
def Copy (n : Nat) (w : World) (v : Value) (xs : List Fct) : Prop := (v = .slice none 0 0 ∧ xs = []) ∨ ∃ g cap, v = .slice (some ⟨g, 0, none⟩) xs.length cap ∧ n ≤ g ∧ RowF w g xs ∧ xs.length ≤ cap
theorem copy_of {w : World} {n : Nat} {v : Value} {xs : List Fct} (h : FW n w v xs) : Copy n w v xs := by
  obtain ⟨⟨a, cap, rfl, hl, hx⟩, ⟨⟨a', m', c', hv, hle, hnn⟩, hnew⟩, hrow⟩ := h
  obtain ⟨rfl, rfl, rfl⟩ : a = a' ∧ xs.length = m' ∧ cap = c' := by simpa using hv
  cases a with
  | none =>
    have h0 := hnn rfl
    subst h0
    have hz : xs.length = 0 := by omega
    exact .inl ⟨by rw [hz], List.eq_nil_of_length_eq_zero hz⟩
  | some ad =>
    obtain ⟨⟨n', c', hs⟩, cur, hc⟩ := hrow ad.block rfl
    obtain ⟨gb, go, gi⟩ := ad
    obtain ⟨⟨rfl, rfl⟩, _⟩ : (go = 0 ∧ gi = none) ∧ xs.length = n' ∧ cap = c' := by simpa using hs
    refine .inr ⟨gb, cap, rfl, hnew gb rfl, ⟨(Array.getElem?_eq_some_iff.1 hc).1, fun o => by simp [World.frozen?, hc], fun k y hk => ?_⟩, hle⟩
    rcases hx with hx | ⟨b, off, he, _, hx⟩
    · rw [hx] at hk
      simp at hk
    · obtain ⟨rfl, rfl⟩ : gb = b ∧ 0 = off := by simpa using he
      have := hx k y hk
      rwa [Nat.zero_add] at this
set_option maxRecDepth 100000 in
theorem delete_nil (w : World) (fn : Nat) (lb : Array Value) (eg : ∀ args w, (callFunc fn args).run Tryz.prog w = .ok (.enter fn args) w) :
    Calls Tryz.prog 31 #[.slice none 0 0, .func (.func fn) #[] lb] w fun e w' => e = .returned (.slice none 0 0) ∧ Below w.heap.size w w' := by
  have HIX := indexFact_n w (.slice none 0 0) [] fn lb eg (fun _ => false) (Base.facts_nil _) (fun _ _ _ hq => by cases hq)
  go_enter Tryz.func31, Tryz.ntmps31
  go_wp2_with fail
  refine HIX.mono ?_
  rintro e W1 ⟨i0, rfl, hi0, hb1⟩
  have h1 : i0 = -1 := by
    rcases hi0 with ⟨h, _⟩ | ⟨k, hk, _⟩
    · exact h
    · simp at hk
  subst h1
  clear hi0 HIX
  go_wp2_with fail
  go_ret
  exact ⟨rfl, hb1⟩
theorem delete_any (w0 w : World) (v : Value) (xs : List Fct) (fn : Nat) (lb : Array Value) (eg : ∀ args w, (callFunc fn args).run Tryz.prog w = .ok (.enter fn args) w) (p : Fct → Bool) (hw : Below w0.heap.size w0 w) (hv : Copy w0.heap.size w v xs) (hl : xs.length ≤ 500)
    (hp : ∀ (w1 : World) (q : Fct), Below w0.heap.size w0 w1 → q ∈ xs → Calls Tryz.prog fn (#[factV q] ++ lb) w1 fun e w' => e = .returned (.bool (p q)) ∧ Below w1.heap.size w1 w') :
    Calls Tryz.prog 31 #[v, .func (.func fn) #[] lb] w fun e w' => ∃ a n c, e = .returned (.slice a n c) ∧ factsAt w' (.slice a n c) (xs.filter fun y => !p y) ∧ (∀ b, (Value.slice a n c).ownBlock = some b → w0.heap.size ≤ b) ∧ Below w0.heap.size w0 w' := by
  rcases hv with ⟨rfl, rfl⟩ | ⟨g, cap, rfl, hg, hr, hc⟩
  · refine (delete_nil w fn lb eg).mono ?_
    rintro e w' ⟨rfl, hb⟩
    exact ⟨none, 0, 0, rfl, Base.facts_nil _, fun b h => (by cases h), hw.trans (hb.mono hw.size)⟩
  · refine (delete_c w0 w g cap xs fn lb eg p hw hg hr hc hl hp).mono ?_
    rintro e w' ⟨rfl, h1, h2⟩
    exact ⟨_, _, _, rfl, h1.facts (Nat.le_trans (List.length_filter_le _ _) hl), fun b h => (by cases h; exact hg), h2⟩
end Go.Proofs.YtlfccloaoopadafGreat.Del

/-
  What the developers' ask.Only answers.
-/
namespace Go.Proofs.YtlfccloaoopadafGreat.Ask
open Go.ChangeShapes Go.WideShapes Go.ChangeAt Go.RowKit
open Base (factV factsErr)
open Prog (progErr small slice_cells edges needsErr devNeeds_c boolsAt)
open Strata (needsL bat LeastB needs_least)
open Naive (modelL modelF cut cutR model_cut cutR_right FW devModel_w)

/-- J2: which predicates are needed -/
def need (ps : List Prd) (rs : List Rul) (p : Int) (k : Nat) : Bool := bat (needsL (edges rs) ps.length p.toNat) k
/-- J2, errors too -/
def onlyF (ps : List Prd) (rs : List Rul) (p : Int) : List Fct := if needsErr ps rs p ≠ 0 then [] else (modelL ps rs).filter fun x => x.pred == p
theorem needs_zero {ps : List Prd} {rs : List Rul} {p : Int} (h : needsErr ps rs p = 0) : progErr ps rs = 0 ∧ 0 ≤ p ∧ p < (ps.length : Int) := by
  rw [needsErr] at h
  split at h
  · contradiction
  · rename_i h1
    have h1' : progErr ps rs = 0 := by simpa using h1
    split at h
    · contradiction
    · rename_i h2
      exact ⟨h1', by omega, by omega⟩
theorem shut_need {ps : List Prd} {rs : List Rul} {p : Int} (h : needsErr ps rs p = 0) : Naive.Shut (need ps rs p) rs ∧ need ps rs p p.toNat = true := by
  obtain ⟨hpe, h0, h1⟩ := needs_zero h
  have hw := Prog.within_edges (Prog.parts_zero (Prog.prog_zero hpe).1).2.2
  have hl := needs_least hw (p := p.toNat) (by omega)
  refine ⟨fun r hr hd l hl' => ?_, hl.self⟩
  exact hl.closed (Prog.edgeOf r l) (List.mem_flatMap.2 ⟨r, hr, List.mem_map.2 ⟨l, hl', rfl⟩⟩) hd
theorem only_eq {ps : List Prd} {rs : List Rul} {p : Int} (h : needsErr ps rs p = 0) : ((modelL ps (cutR (need ps rs p) rs)).filter fun x => !(x.pred != p)) = onlyF ps rs p := by
  obtain ⟨hS, hN⟩ := shut_need h
  obtain ⟨hpe, h0, h1⟩ := needs_zero h
  rw [onlyF, if_neg (by rw [h]; simp), model_cut hpe hS, cut, List.filter_filter]
  congr 1
  funext x
  by_cases e : x.pred = p
  · rw [e, hN]
    simp
  · have e' : (x.pred == p) = false := by simpa using e
    simp [bne, e']

/-- the question of the one that is asked for -/
theorem other_c (x : World) (Bp : Nat) (p : Int) (y : Fct) (h : x.cell? ⟨Bp, 0, none⟩ = some (.int .i64 p)) (hB : Bp < x.heap.size) : Calls Tryz.prog 30 (#[factV y] ++ #[.pointer (some ⟨Bp, 0, none⟩)]) x fun e w' => e = .returned (.bool (y.pred != p)) ∧ Below x.heap.size x w' := by
  have e : (#[factV y] ++ #[Value.pointer (some ⟨Bp, 0, none⟩)] : Array Value) = #[.agg #[.int .i64 y.pred, .int .i64 y.a, .int .i64 y.b, .int .i64 y.val], .pointer (some ⟨Bp, 0, none⟩)] := rfl
  rw [e]
  have hc : ∀ o, (x.alloc o).cell? ⟨Bp, 0, none⟩ = some (.int .i64 p) := fun o => (cell_lasts (below_alloc _ _) hB).trans h
  go_enter Tryz.func30, Tryz.ntmps30
  go_wp2_with fail
  go_ret
  exact ⟨rfl, below_alloc _ _⟩

theorem one_cells {W : World} {a b c d f : Value} {x : Naive.RV} (h : Naive.cellsR [x] = [a, b, c, d, f]) (t : TypeId) : ∀ j u, (Naive.cellsR [x])[j]? = some u → (W.alloc (.cells #[a, b, c, d, f] t)).cell? ((⟨W.heap.size, 0, none⟩ : Addr).add j) = some u := by
  intro j u hu
  rw [h] at hu
  match j, hu with
  | 0, hu => obtain rfl : a = u := by simpa using hu
             simp [go_sem]
  | 1, hu => obtain rfl : b = u := by simpa using hu
             simp [go_sem]
  | 2, hu => obtain rfl : c = u := by simpa using hu
             simp [go_sem]
  | 3, hu => obtain rfl : d = u := by simpa using hu
             simp [go_sem]
  | 4, hu => obtain rfl : f = u := by simpa using hu
             simp [go_sem]
  | j + 5, hu => simp at hu
def keepV (N : Nat → Bool) (vs : List Naive.RV) : List Naive.RV := vs.filter fun x => N x.r.head.pred.toNat
theorem keep_take {N : Nat → Bool} {vs : List Naive.RV} {k : Nat} (h : k < vs.length) : keepV N (vs.take (k + 1)) = keepV N (vs.take k) ++ if N vs[k].r.head.pred.toNat then [vs[k]] else [] := by
  unfold keepV
  rw [List.take_add_one, List.getElem?_eq_getElem h, Option.toList_some, List.filter_append, List.filter_cons, List.filter_nil]
theorem keep_map {N : Nat → Bool} {vs : List Naive.RV} {rs : List Rul} (h : vs.map Naive.RV.r = rs) : (keepV N vs).map Naive.RV.r = cutR N rs := by
  subst h
  unfold keepV cutR
  rw [List.filter_map]
  rfl
theorem bat_at {l : List Bool} {e : Nat} (h : e < l.length) : bat l e = l[e] := by
  unfold bat
  simp [h]

set_option maxRecDepth 100000 in
set_option maxHeartbeats 8000000 in
theorem devOnly_c (w : World) (pv rv : Value) (ps : List Prd) (rs : List Rul) (p : Int) (hp : predsAt w pv ps) (hr : rulesAt w rv rs) (hn : small ps) :
    Calls Tryz.prog 10 #[.agg #[pv, rv], .int .i64 p] w fun e w' => ∃ u, e = .returned (.tuple #[u, .int .i64 (needsErr ps rs p)]) ∧ factsAt w' u (onlyF ps rs p) ∧ Below w.heap.size w w' := by
  have HND : Hid (∀ x, Below w.heap.size w x → Calls Tryz.prog 28 #[.agg #[pv, rv], .int .i64 p] x fun e w' => (∃ v, e = .returned (.tuple #[v, .int .i64 (needsErr ps rs p)]) ∧ (needsErr ps rs p ≠ 0 → v = .slice none 0 0) ∧ (needsErr ps rs p = 0 → boolsAt w' v (needsL (edges rs) ps.length p.toNat))) ∧ Below x.heap.size x w') := fun x hx => devNeeds_c x pv rv ps rs p (predsAt.lasts hx hp) (rulesAt.lasts hx hr) hn
  have HP : Hid (∀ x, Below w.heap.size w x → predsAt x pv ps) := fun x hx => predsAt.lasts hx hp
  obtain ⟨pa, pc, rfl, _⟩ := hp
  obtain ⟨vs, ra, rc, rfl, hvs, hok, hra⟩ := Naive.rules_open hr
  obtain ⟨W1, hW1⟩ : ∃ W1, (w.alloc (.cells #[.slice pa ps.length pc, .slice ra rs.length rc] 25)).alloc (.cells #[.int .i64 p] 3) = W1 := ⟨_, rfl⟩
  have b1 : Below w.heap.size w W1 := by rw [← hW1]; exact ((Below.refl _ _).alloc (Nat.le_refl _) _).alloc (by simp) _
  have s1 : W1.heap.size = w.heap.size + 1 + 1 := by rw [← hW1]; simp
  have q0 : W1.cell? ⟨w.heap.size, 0, none⟩ = some (.slice pa ps.length pc) := by rw [← hW1]; simp [go_sem]
  have q1 : W1.cell? ⟨w.heap.size, 1, none⟩ = some (.slice ra rs.length rc) := by rw [← hW1]; simp [go_sem]
  have q2 : W1.cell? ⟨w.heap.size + 1, 0, none⟩ = some (.int .i64 p) := by rw [← hW1]; simp [go_sem]
  have HQ : Hid (∀ x, Below W1.heap.size W1 x → x.cell? ⟨w.heap.size, 0, none⟩ = some (.slice pa ps.length pc) ∧ x.cell? ⟨w.heap.size, 1, none⟩ = some (.slice ra rs.length rc) ∧ x.cell? ⟨w.heap.size + 1, 0, none⟩ = some (.int .i64 p)) := fun x hx => ⟨(cell_lasts hx (by omega)).trans q0, (cell_lasts hx (by omega)).trans q1, (cell_lasts hx (by omega)).trans q2⟩
  by_cases hne : needsErr ps rs p = 0
  · go_enter Tryz.func10, Tryz.ntmps10
    go_wp2_with fail
    refine (HND.out _ b1).mono ?_
    rintro e W2 ⟨⟨nv, rfl, _, hbo⟩, hb2⟩
    have hbo := hbo hne
    have HNE : Hid (needsErr ps rs p = 0) := hne
    have k2 : Below w.heap.size w W2 := b1.trans (hb2.mono b1.size)
    clear hW1 q0 q1 q2
    obtain ⟨c0, c1, c2⟩ := HQ.out W2 hb2
    have HBO : Hid (∀ x, Below W2.heap.size W2 x → boolsAt x nv (needsL (edges rs) ps.length p.toNat)) := fun x hx => Prog.boolsAt.lasts hx hbo
    obtain ⟨na, nc, rfl, _⟩ := hbo
    rw [hne]
    clear hne
    go_wp2_with fail
    have HLV : Hid (vs.length = rs.length) := by show _ = _; rw [← hvs, List.length_map]
    have hr8 : rs.length ≤ 8 := (Prog.parts_zero (Prog.prog_zero (needs_zero HNE.out).1).1).2.1
    have HVS : Hid (vs.map Naive.RV.r = rs) := hvs
    have HOK : Hid (∀ x, Below w.heap.size w x → ∀ v ∈ vs, Naive.RVok x v) := fun x hx v hv => Naive.RVok.lasts hx (hok v hv)
    have HNL : Hid ((needsL (edges rs) ps.length p.toNat).length = ps.length) := (needs_least (Prog.within_edges (Prog.parts_zero (Prog.prog_zero (needs_zero HNE.out).1).1).2.2) (p := p.toNat) (by have := needs_zero HNE.out; omega)).len
    have HPR : Hid (∀ v ∈ vs, ∃ e : Nat, v.r.head.pred = (e : Int) ∧ e < ps.length) := fun v hv => by
      have hm : v.r ∈ rs := by rw [← HVS.out]; exact List.mem_map.2 ⟨v, hv, rfl⟩
      obtain ⟨k, hk, e⟩ := Rule.isPred_iff.1 (Rule.atom_right (Fire.rule_parts (Fire.rules_right (needs_zero HNE.out).1 _ hm)).1).1
      exact ⟨k, e, hk⟩
    clear hvs hok c0 c1 c2
    go_loopw [8, 26] (fun o i wr => ∃ (k : Nat) (u : Value), u = o ∧ k ≤ rs.length ∧ i = .int .i64 k ∧ wr.ownsRow W2.heap.size 65 5 u (keepV (need ps rs p) (vs.take k)).length (Naive.cellsR (keepV (need ps rs p) (vs.take k))) ∧ Below W2.heap.size W2 wr) (fun _ i _ => rs.length - (intOf i).toNat)
    case atStart => exact ⟨0, _, rfl, Nat.zero_le _, rfl, ⟨rfl, .inl ⟨rfl, rfl⟩⟩, Below.refl _ _⟩
    case round =>
      obtain ⟨k, u, rfl, hk, rfl, hown, hbr⟩ := hrel
      have kr : Below w.heap.size w wr := k2.trans (hbr.mono k2.size)
      by_cases hkl : k < rs.length
      · have hkv : k < vs.length := by rw [HLV.out]; exact hkl
        obtain ⟨rb, ro, rfl, hrb, hrc⟩ := hra.resolve_left (by rintro rfl; simp at hkl)
        obtain ⟨t0, t1, t2, t3, t4⟩ := Naive.cellsR_at vs k vs[k] (List.getElem?_eq_getElem hkv)
        obtain ⟨⟨ha, hc, hhv, _⟩, ⟨ba, bc, hbv, _⟩⟩ := HOK.out wr kr vs[k] (List.getElem_mem hkv)
        obtain ⟨e, hpe, hel⟩ := HPR.out vs[k] (List.getElem_mem hkv)
        have hel2 : e < (needsL (edges rs) ps.length p.toNat).length := by rw [HNL.out]; exact hel
        obtain ⟨nb, no_, nc', hnv, hnb, n0⟩ := slice_cells (HBO.out wr hbr) hel2
        obtain ⟨rfl, rfl⟩ : na = some ⟨nb, no_, none⟩ ∧ nc = nc' := by simpa using hnv
        have n0' : wr.cell? ⟨nb, no_ + e, none⟩ = some (.bool (needsL (edges rs) ps.length p.toNat)[e]) := by have := n0; rwa [Nat.mul_one] at this
        have HKT : Hid (keepV (need ps rs p) (vs.take (k + 1)) = keepV (need ps rs p) (vs.take k) ++ if (needsL (edges rs) ps.length p.toNat)[e] then [vs[k]] else []) := by
          show _ = _
          rw [keep_take hkv, hpe, Int.toNat_natCast, need, bat_at hel2]
        have r0 := (cell_lasts kr hrb).trans (hrc _ _ t0)
        have r1 : wr.cell? ⟨rb, ro + k * 5 + 1, none⟩ = some (vs[k].hv) := by rw [Nat.add_assoc]; exact (cell_lasts kr hrb).trans (hrc _ _ t1)
        have r2 : wr.cell? ⟨rb, ro + k * 5 + 2, none⟩ = some (.int .i64 vs[k].r.src) := by rw [Nat.add_assoc]; exact (cell_lasts kr hrb).trans (hrc _ _ t2)
        have r3 : wr.cell? ⟨rb, ro + k * 5 + 3, none⟩ = some (.int .i64 vs[k].r.n) := by rw [Nat.add_assoc]; exact (cell_lasts kr hrb).trans (hrc _ _ t3)
        have r4 : wr.cell? ⟨rb, ro + k * 5 + 4, none⟩ = some (vs[k].bv) := by rw [Nat.add_assoc]; exact (cell_lasts kr hrb).trans (hrc _ _ t4)
        rw [hpe] at r0
        rw [hhv] at r1
        rw [hbv] at r4
        have hk1 : (k : Int) < (rs.length : Int) := by omega
        have hel3 : (e : Int) < ((needsL (edges rs) ps.length p.toNat).length : Int) := by omega
        have HC1 : Hid (Naive.cellsR [vs[k]] = [.int .i64 (e : Int), .slice ha vs[k].r.head.args.length hc, .int .i64 vs[k].r.src, .int .i64 vs[k].r.n, .slice ba vs[k].r.body.length bc] ∧ ∀ u ∈ Naive.cellsR [vs[k]], u.oneCell' = true) := by
          refine ⟨?_, Naive.cellsR_one (w := wr) fun y hy => ?_⟩
          · show [_, _, _, _, _] = _
            rw [hpe, hhv, hbv]
          · obtain rfl := List.mem_singleton.1 hy
            exact HOK.out wr kr _ (List.getElem_mem hkv)
        have HFL : Hid ((keepV (need ps rs p) (vs.take k)).length ≤ 8) := by
          have h1 : (keepV (need ps rs p) (vs.take k)).length ≤ (vs.take k).length := List.length_filter_le _ _
          rw [List.length_take] at h1
          show _ ≤ _
          omega
        clear hnv n0 t0 t1 t2 t3 t4 hhv hbv hpe
        generalize vs[k] = x at *
        generalize (needsL (edges rs) ps.length p.toNat)[e] = z at *
        obtain ⟨W5, hW5⟩ : ∃ W5, wr.alloc (.cells #[.int .i64 (e : Int), .slice ha x.r.head.args.length hc, .int .i64 x.r.src, .int .i64 x.r.n, .slice ba x.r.body.length bc] 65) = W5 := ⟨_, rfl⟩
        have b5 : Below wr.heap.size wr W5 := by rw [← hW5]; exact below_alloc _ _
        obtain ⟨d0, d1, d2, d3, d4⟩ : W5.cell? ⟨wr.heap.size, 0, none⟩ = some (.int .i64 (e : Int)) ∧ W5.cell? ⟨wr.heap.size, 1, none⟩ = some (.slice ha x.r.head.args.length hc) ∧ W5.cell? ⟨wr.heap.size, 2, none⟩ = some (.int .i64 x.r.src) ∧ W5.cell? ⟨wr.heap.size, 3, none⟩ = some (.int .i64 x.r.n) ∧ W5.cell? ⟨wr.heap.size, 4, none⟩ = some (.slice ba x.r.body.length bc) := by rw [← hW5]; simp [go_sem]
        have n5 : W5.cell? ⟨nb, no_ + e, none⟩ = some (.bool z) := (cell_lasts b5 hnb).trans n0'
        have HOW : Hid (W5.ownsRow W2.heap.size 65 5 u (keepV (need ps rs p) (vs.take k)).length (Naive.cellsR (keepV (need ps rs p) (vs.take k))) ∧ Below W2.heap.size W2 W5) := ⟨Base.own_lasts hown b5, hbr.trans (b5.mono hbr.size)⟩
        have hsz : W2.heap.size ≤ W5.heap.size := HOW.out.2.size
        have HLT : Hid (∀ j, u.ownBlock = some j → W2.heap.size ≤ j) := fun j hj => (HOW.out.1.lt j hj).1
        clear hown n0'
        cases z
        · rw [if_neg (by simp), List.append_nil] at HKT
          go_wp2_with fail
          go_roundw
          case rel => exact ⟨k + 1, u, rfl, by omega, by go_num, by rw [HKT.out]; exact HOW.out.1, HOW.out.2⟩
          case measure => simp [intOf]; omega
        · rw [if_pos rfl] at HKT
          go_wp2_with (at_builtin; refine Naive.wpList_append_rules _ rfl _ _ rfl W2.heap.size u (keepV (need ps rs p) (vs.take k)) [x] (Base.own_lasts HOW.out.1 (below_alloc _ _)) rfl ⟨W5.heap.size, 0, none⟩ 1 rfl (one_cells HC1.out.1 _) HC1.out.2 (by have := HFL.out; simp; omega) (by simp; omega) ?_; intro v6 w6 hown6 hgr6; have hx6 : Below W2.heap.size W2 w6 := (HOW.out.2.alloc hsz _).grown hgr6 (by simp; omega) (fun j hj => HLT.out j hj))
          go_roundw
          case rel => exact ⟨k + 1, v6, rfl, by omega, by go_num, by rw [HKT.out]; exact hown6, hx6⟩
          case measure => simp [intOf]; omega
      · obtain rfl : k = rs.length := by omega
        rw [List.take_of_length_le (by rw [HLV.out]; exact Nat.le_refl _)] at hown
        have HRA : Hid (rulesAt wr u (cutR (need ps rs p) rs)) := by
          rw [← keep_map HVS.out]
          refine Naive.rulesAt_own hown ?_ fun y hy => HOK.out wr kr y (List.mem_filter.1 hy).1
          have h1 : (keepV (need ps rs p) vs).length ≤ vs.length := List.length_filter_le _ _
          have h2 := HLV.out
          omega
        clear hown
        obtain ⟨c0, c1, c2⟩ := HQ.out wr (hb2.trans (hbr.mono hb2.size))
        have HMD : Hid (Calls Tryz.prog 29 #[.agg #[.slice pa ps.length pc, u]] wr fun e w' => ∃ mv, e = .returned (.tuple #[mv, .int .i64 0]) ∧ FW wr.heap.size w' mv (modelL ps (cutR (need ps rs p) rs)) ∧ Below wr.heap.size wr w') := by
          have hq := cutR_right (N := need ps rs p) (needs_zero HNE.out).1
          have h := devModel_w wr _ u ps (cutR (need ps rs p) rs) (HP.out wr kr) HRA.out hn
          rw [hq, modelF, if_neg (by rw [hq]; simp)] at h
          exact h
        obtain ⟨ua, uc, rfl, _⟩ := id HRA.out
        go_wp2_with fail
        refine HMD.out.mono ?_
        rintro e W6 ⟨mv, rfl, hfw, hb6⟩
        have k6 : Below w.heap.size w W6 := kr.trans (hb6.mono kr.size)
        have hfe : factsErr ps (modelL ps (cutR (need ps rs p) rs)) = 0 := (Naive.right_parts (Naive.model_right (cutR_right (N := need ps rs p) (needs_zero HNE.out).1) _)).2
        have HDL : Hid (∀ x, Below W6.heap.size W6 x → Calls Tryz.prog 31 #[mv, .func (.func 30) #[] #[.pointer (some ⟨w.heap.size + 1, 0, none⟩)]] x fun e w' => ∃ a n c, e = .returned (.slice a n c) ∧ factsAt w' (.slice a n c) (onlyF ps rs p) ∧ Below wr.heap.size wr w') := fun x hx => by
          have hwx : Below wr.heap.size wr x := hb6.trans (hx.mono hb6.size)
          have h := Del.delete_any wr x mv _ 30 #[.pointer (some ⟨w.heap.size + 1, 0, none⟩)] (enters_of Tryz.func30 (by kernel_rfl) rfl) (fun y => y.pred != p) hwx (Del.copy_of (hfw.lasts hx)) (Nat.le_trans (Base.facts_short hfe) (by omega)) (fun w1 q hw1 _ => other_c w1 (w.heap.size + 1) p q ((cell_lasts hw1 (by have := hb2.size; have := hbr.size; omega)).trans c2) (by have := hb2.size; have := hbr.size; have := hw1.size; omega))
          rw [only_eq HNE.out] at h
          exact h.mono fun _ _ ⟨a, n, c, h1, h2, _, h3⟩ => ⟨a, n, c, h1, h2, h3⟩
        obtain ⟨ma, mc, rfl, _⟩ := id hfw.1
        clear c0 c1 c2 hfw hfe
        go_wp2_with fail
        refine (HDL.out _ (Below.refl _ _)).mono ?_
        rintro e W7 ⟨da, dn, dc, rfl, hfd, hb7⟩
        go_wp2_with fail
        refine bodyPost_ret (v := .tuple #[.slice da dn dc, .int .i64 0]) (by simp [results, Tryz.results10, go_sem]) rfl ?_
        exact ⟨.slice da dn dc, by rw [HNE.out], hfd, kr.trans (hb7.mono kr.size)⟩
  · have hne' : (needsErr ps rs p == 0) = false := by simpa using hne
    have HE : Hid (onlyF ps rs p = []) := by show _ = _; rw [onlyF, if_pos hne]
    go_enter Tryz.func10, Tryz.ntmps10
    go_wp2_with fail
    refine (HND.out _ b1).mono ?_
    rintro e W2 ⟨⟨nv, rfl, hnv, _⟩, hb2⟩
    obtain rfl := hnv hne
    have k2 : Below w.heap.size w W2 := b1.trans (hb2.mono b1.size)
    clear hW1 q0 q1 q2
    go_wp2_with fail
    refine bodyPost_ret (v := .tuple #[.slice none 0 0, .int .i64 (needsErr ps rs p)]) (by simp [results, Tryz.results10, go_sem]) rfl ?_
    exact ⟨.slice none 0 0, rfl, by rw [HE.out]; exact Base.facts_nil _, k2⟩
end Go.Proofs.YtlfccloaoopadafGreat.Ask

/-
  What must be in any case of package ask.
-/
namespace Go.Proofs.YtlfccloaoopadafGreat.Ask
open Go.ChangeShapes Go.WideShapes Go.ChangeAt Go.RowKit
open Base (paths_c pathsL factsErr)
open Prog (g0 smallP needsErr)
open Fire (roads2_c)
open Naive (m5)

theorem mt1 : matchErr Roads.preds Roads.rules pathsL ⟨0, [⟨true, 0⟩, ⟨false, 2⟩]⟩ = 0 ∧ matchF Roads.preds Roads.rules pathsL ⟨0, [⟨true, 0⟩, ⟨false, 2⟩]⟩ = [⟨0, 1, 2, 0⟩] := by
  have e0 : Fire.roundErr Roads.preds Roads.rules pathsL = 0 := Naive.err_of (by decide)
  have e : matchErr Roads.preds Roads.rules pathsL ⟨0, [⟨true, 0⟩, ⟨false, 2⟩]⟩ = 0 := by rw [matchErr, e0]; decide
  exact ⟨e, by rw [matchF, e]; decide⟩
theorem mt2 : matchErr Roads.preds Roads.rules pathsL ⟨0, [⟨true, 0⟩, ⟨true, 0⟩]⟩ = 0 ∧ matchF Roads.preds Roads.rules pathsL ⟨0, [⟨true, 0⟩, ⟨true, 0⟩]⟩ = [] := by
  have e0 : Fire.roundErr Roads.preds Roads.rules pathsL = 0 := Naive.err_of (by decide)
  have e : matchErr Roads.preds Roads.rules pathsL ⟨0, [⟨true, 0⟩, ⟨true, 0⟩]⟩ = 0 := by rw [matchErr, e0]; decide
  exact ⟨e, by rw [matchF, e]; decide⟩
theorem on2 : needsErr Roads.preds Roads.rules 2 = 0 ∧ onlyF Roads.preds Roads.rules 2 = [⟨2, 3, 0, 0⟩] := by
  have e : needsErr Roads.preds Roads.rules 2 = 0 := by rw [needsErr, g0]; decide
  refine ⟨e, ?_⟩
  have h := Naive.model_roads.1
  rw [Naive.modelF, if_neg (by rw [g0]; simp)] at h
  rw [onlyF, if_neg (by rw [e]; simp), h]
  decide
theorem on3 : needsErr Roads.preds Roads.rules 3 = 7 ∧ onlyF Roads.preds Roads.rules 3 = [] := by
  have e : needsErr Roads.preds Roads.rules 3 = 7 := by rw [needsErr, g0]; decide
  exact ⟨e, by rw [onlyF, if_pos (by rw [e]; simp)]⟩

theorem four_terms (w : World) (a b : Bool) (n m : Int) (o1 o2 o4 : Obj) : termsAt ((((w.alloc o1).alloc o2).alloc (.cells #[.bool a, .int .i64 n, .bool b, .int .i64 m] 48)).alloc o4) (.slice (some ⟨w.heap.size + 1 + 1, 0, none⟩) 2 2) [⟨a, n⟩, ⟨b, m⟩] ∧ Below w.heap.size w ((((w.alloc o1).alloc o2).alloc (.cells #[.bool a, .int .i64 n, .bool b, .int .i64 m] 48)).alloc o4) := by
  have hb : Below (((w.alloc o1).alloc o2).alloc (.cells #[.bool a, .int .i64 n, .bool b, .int .i64 m] 48)).heap.size (((w.alloc o1).alloc o2).alloc (.cells #[.bool a, .int .i64 n, .bool b, .int .i64 m] 48)) ((((w.alloc o1).alloc o2).alloc (.cells #[.bool a, .int .i64 n, .bool b, .int .i64 m] 48)).alloc o4) := below_alloc _ _
  refine ⟨termsAt.lasts hb ⟨_, 2, rfl, by simp, .inr ⟨w.heap.size + 1 + 1, 0, rfl, by simp, fun i t hi => ?_⟩⟩, ((((Below.refl _ _).alloc (Nat.le_refl _) _).alloc (by simp) _).alloc (by simp; omega) _).alloc (by simp; omega) _⟩
  match i, hi with
  | 0, hi =>
    obtain rfl : (⟨a, n⟩ : Tm) = t := by simpa using hi
    refine ⟨?_, ?_⟩ <;> simp [go_sem]
  | 1, hi =>
    obtain rfl : (⟨b, m⟩ : Tm) = t := by simpa using hi
    refine ⟨?_, ?_⟩ <;> simp [go_sem]
  | i + 2, hi => simp at hi

set_option maxRecDepth 100000 in
set_option maxHeartbeats 8000000 in
theorem askBegun_c (w : World) : Calls Tryz.prog 8 #[] w fun e w' => e = .returned (.bool true) ∧ Below w.heap.size w w' := by
  go_enter Tryz.func8, Tryz.ntmps8
  go_wp2_with fail
  refine (roads2_c _).mono ?_
  rintro e a1 ⟨pa, pn, pc, ra, rn, rc, rfl, hp, hr, hb1⟩
  have HD : Hid (∀ x, Below a1.heap.size a1 x → predsAt x (.slice pa pn pc) Roads.preds ∧ rulesAt x (.slice ra rn rc) Roads.rules) := fun x hx => ⟨predsAt.lasts hx hp, rulesAt.lasts hx hr⟩
  clear hp hr
  go_wp2_with fail
  refine (paths_c _).mono ?_
  rintro e p1 ⟨fv, rfl, hf, _, hb2⟩
  have k_p1 : Below w.heap.size w p1 := hb1.trans (hb2.mono hb1.size)
  have HF : Hid (∀ x, Below p1.heap.size p1 x → factsAt x fv pathsL) := fun x hx => factsAt.lasts hx hf
  obtain ⟨fa, fc, rfl, _⟩ := hf
  go_wp2_with (first | (go_at_call 17; refine (Roads.v_c _ _).mono ?_; rintro e w' ⟨rfl, rfl⟩) | (go_at_call 18; refine (Roads.c_c _ _).mono ?_; rintro e w' ⟨rfl, rfl⟩) | (go_at_call 27; refine (Roads.at_c _ _ _ _ _).mono ?_; rintro e w' ⟨rfl, rfl⟩))
  obtain ⟨ht, hb3⟩ := four_terms p1 true false 0 2 (.cells #[.bool true, .int .i64 0] 48) (.cells #[.bool false, .int .i64 2] 48) (.cells #[.int .i64 0, .slice (some ⟨p1.heap.size + 1 + 1, 0, none⟩) 2 2] 29)
  have HC := devMatch_c _ (.slice pa pn pc) (.slice ra rn rc) (.slice fa pathsL.length fc) _ Roads.preds Roads.rules pathsL ⟨0, [⟨true, 0⟩, ⟨false, 2⟩]⟩ (HD.out _ (hb2.trans (hb3.mono hb2.size))).1 (HD.out _ (hb2.trans (hb3.mono hb2.size))).2 (HF.out _ hb3) ht smallP
  rw [mt1.1, mt1.2] at HC
  have k_t1 := k_p1.trans (hb3.mono k_p1.size)
  refine HC.mono ?_
  rintro e c1 ⟨u1, rfl, hf1, hb4⟩
  have k_c1 : Below w.heap.size w c1 := k_t1.trans (hb4.mono k_t1.size)
  have HU1 : Hid (∀ x, Below c1.heap.size c1 x → factsAt x u1 [⟨0, 1, 2, 0⟩]) := fun x hx => factsAt.lasts hx hf1
  obtain ⟨ua, uc, rfl, _⟩ := id hf1
  simp only [List.length_singleton] at HU1 ⊢
  clear HC ht hb3 hb4 hb2 hb1 HF HD k_t1 k_p1 hf1
  go_wp2_with fail
  refine (roads2_c _).mono ?_
  rintro e a2 ⟨pa, pn, pc, ra, rn, rc, rfl, hp, hr, hb1⟩
  have HD : Hid (∀ x, Below a2.heap.size a2 x → predsAt x (.slice pa pn pc) Roads.preds ∧ rulesAt x (.slice ra rn rc) Roads.rules) := fun x hx => ⟨predsAt.lasts hx hp, rulesAt.lasts hx hr⟩
  clear hp hr
  go_wp2_with fail
  refine (paths_c _).mono ?_
  rintro e p2 ⟨fv, rfl, hf, _, hb2⟩
  have q_p2 : Below c1.heap.size c1 p2 := hb1.trans (hb2.mono hb1.size)
  have HF : Hid (∀ x, Below p2.heap.size p2 x → factsAt x fv pathsL) := fun x hx => factsAt.lasts hx hf
  obtain ⟨fa, fc, rfl, _⟩ := hf
  go_wp2_with (first | (go_at_call 17; refine (Roads.v_c _ _).mono ?_; rintro e w' ⟨rfl, rfl⟩) | (go_at_call 18; refine (Roads.c_c _ _).mono ?_; rintro e w' ⟨rfl, rfl⟩) | (go_at_call 27; refine (Roads.at_c _ _ _ _ _).mono ?_; rintro e w' ⟨rfl, rfl⟩))
  obtain ⟨ht, hb3⟩ := four_terms p2 true true 0 0 (.cells #[.bool true, .int .i64 0] 48) (.cells #[.bool true, .int .i64 0] 48) (.cells #[.int .i64 0, .slice (some ⟨p2.heap.size + 1 + 1, 0, none⟩) 2 2] 29)
  have HC := devMatch_c _ (.slice pa pn pc) (.slice ra rn rc) (.slice fa pathsL.length fc) _ Roads.preds Roads.rules pathsL ⟨0, [⟨true, 0⟩, ⟨true, 0⟩]⟩ (HD.out _ (hb2.trans (hb3.mono hb2.size))).1 (HD.out _ (hb2.trans (hb3.mono hb2.size))).2 (HF.out _ hb3) ht smallP
  rw [mt2.1, mt2.2] at HC
  have q_t2 := q_p2.trans (hb3.mono q_p2.size)
  refine HC.mono ?_
  rintro e c2 ⟨u2, rfl, hf2, hb4⟩
  have q_c2 : Below c1.heap.size c1 c2 := q_t2.trans (hb4.mono q_t2.size)
  obtain ⟨va, vc, rfl, _⟩ := hf2
  simp only [List.length_nil]
  clear HC ht hb3 hb4 hb2 hb1 HF HD q_t2 q_p2
  go_wp2_with fail
  refine (roads2_c _).mono ?_
  rintro e a3 ⟨pa, pn, pc, ra, rn, rc, rfl, hp, hr, hb1⟩
  have q_a3 : Below c1.heap.size c1 a3 := q_c2.trans (hb1.mono q_c2.size)
  have HC := devOnly_c a3 _ _ Roads.preds Roads.rules 2 hp hr smallP
  rw [on2.1, on2.2] at HC
  clear hp hr
  go_wp2_with fail
  refine HC.mono ?_
  rintro e c3 ⟨u3, rfl, hf3, hb2⟩
  have q_c3 : Below c1.heap.size c1 c3 := q_a3.trans (hb2.mono q_a3.size)
  have HU3 : Hid (∀ x, Below c3.heap.size c3 x → factsAt x u3 [⟨2, 3, 0, 0⟩]) := fun x hx => factsAt.lasts hx hf3
  obtain ⟨xa, xc, rfl, _⟩ := hf3
  simp only [List.length_singleton] at HU3 ⊢
  clear HC hb1 hb2 q_a3 q_c2
  go_wp2_with fail
  refine (roads2_c _).mono ?_
  rintro e a4 ⟨pa, pn, pc, ra, rn, rc, rfl, hp, hr, hb1⟩
  have q_a4 : Below c3.heap.size c3 a4 := hb1
  have HC := devOnly_c a4 _ _ Roads.preds Roads.rules 3 hp hr smallP
  rw [on3.1, on3.2] at HC
  clear hp hr
  go_wp2_with fail
  refine HC.mono ?_
  rintro e c4 ⟨u4, rfl, hf4, hb2⟩
  have q_c4 : Below c3.heap.size c3 c4 := q_a4.trans (hb2.mono q_a4.size)
  have q_14 : Below c1.heap.size c1 c4 := q_c3.trans (q_c4.mono q_c3.size)
  obtain ⟨wa, wc, rfl, _⟩ := hf4
  simp only [List.length_nil]
  obtain ⟨ub, uo, uc', huv, hub, z0, z1, z2, z3⟩ := Prog.slice_cells (HU1.out c4 q_14) (j := 0) (by simp)
  obtain ⟨rfl, rfl⟩ : ua = some ⟨ub, uo, none⟩ ∧ uc = uc' := by simpa using huv
  have z1' : c4.cell? ⟨ub, uo + 1, none⟩ = some (.int .i64 1) := by simpa using z1
  clear HC hb1 hb2 huv z0 z1 z2 z3
  go_wp2_with fail
  have ba := below_alloc c4 (.cells #[.int .i64 2, .int .i64 3, .int .i64 0, .int .i64 0] 41)
  have HSF := Base.sameFacts_c (c4.alloc (.cells #[.int .i64 2, .int .i64 3, .int .i64 0, .int .i64 0] 41)) (.slice xa 1 xc) (.slice (some ⟨c4.heap.size, 0, none⟩) 1 1) [⟨2, 3, 0, 0⟩] [⟨2, 3, 0, 0⟩] (HU3.out _ (q_c4.trans (ba.mono q_c4.size))) (Round.facts_new c4 ⟨2, 3, 0, 0⟩)
  rw [decide_eq_true rfl] at HSF
  have k_c4 : Below w.heap.size w c4 := k_c1.trans (q_14.mono k_c1.size)
  have k_d : Below w.heap.size w (c4.alloc (.cells #[.int .i64 2, .int .i64 3, .int .i64 0, .int .i64 0] 41)) := k_c4.alloc k_c4.size _
  refine HSF.mono ?_
  rintro e c5 ⟨rfl, hb5⟩
  go_wp2_with fail
  go_ret
  exact ⟨rfl, k_d.trans (hb5.mono k_d.size)⟩
end Go.Proofs.YtlfccloaoopadafGreat.Ask
