/-
  What the document's own OnlyOf answers.
-/
import Derived.Deep.RegionHeld3
import Derived.Deep.AppendLies
import Derived.Test.YtlfccloaoopadafGreatG26
import Derived.Test.YtlfccloaoopadafGreatG23
import Derived.Test.YtlfccloaoopadafGreatG8
import Derived.Test.YtlfccloaoopadafGreatG10
import Derived.Test.YtlfccloaoopadafGreatH1
namespace Go.Proofs.YtlfccloaoopadafGreat.Ask
open Go.ChangeShapes Go.WideShapes Go.ChangeAt Go.RowKit
open Base (factsErr cellsF own_lasts piece_one)
open Prog (progErr small slice_cells edges needsErr boolsAt)
open Strata (needsL bat LeastB needs_least)
open Naive (modelL cut cutR model_cut cutR_right)

/-- a program of the call's own, in a box -/
def qAt (x : World) (B : Nat) (pv u : Value) : Prop := x.heap[B]? = some (.cells #[pv, u] 25 (0, 0))
theorem q_cells {x : World} {B : Nat} {pv u : Value} (h : qAt x B pv u) : x.cell? ⟨B, 0, none⟩ = some pv ∧ x.cell? ⟨B, 1, none⟩ = some u ∧ x.frozen? ⟨B, 1, none⟩ = false ∧ B < x.heap.size := by
  refine ⟨?_, ?_, ?_, (Array.getElem?_eq_some_iff.1 h).1⟩ <;> simp [World.cell?, World.frozen?, show x.heap[B]? = _ from h]
theorem q_set {x : World} {B : Nat} {pv u : Value} (h : qAt x B pv u) (v : Value) : qAt (x.setCell ⟨B, 1, none⟩ v) B pv v := heap_setCell_same x B 1 _ _ v h
theorem own_set {w : World} {base e sz n B o : Nat} {v u : Value} {xs : List Value} (h : w.ownsRow base e sz v n xs) (hB : B < base) : (w.setCell ⟨B, o, none⟩ u).ownsRow base e sz v n xs := by
  obtain ⟨h0, h1⟩ := h
  refine ⟨h0, ?_⟩
  rcases h1 with h1 | ⟨g, cap, cur, h1, h2, h3, h4⟩
  · exact .inl h1
  · exact .inr ⟨g, cap, cur, h1, h2, by rw [Fire.heap_setCell_other (by omega)]; exact h3, h4⟩

set_option maxRecDepth 100000 in
set_option maxHeartbeats 8000000 in
theorem onlyOf_c (w : World) (pv rv : Value) (ps : List Prd) (rs : List Rul) (p : Int) (hp : predsAt w pv ps) (hr : rulesAt w rv rs) (hne : needsErr ps rs p = 0) :
    Calls Tryz.prog 12 #[.agg #[pv, rv], .int .i64 p] w fun e w' => ∃ u, e = .returned u ∧ factsAt w' u (onlyF ps rs p) ∧ Below w.heap.size w w' := by
  obtain ⟨hpe, hp0, hp1⟩ := needs_zero hne
  obtain ⟨z1, z2, z3⟩ := Prog.parts_zero (Prog.prog_zero hpe).1
  have HND : Hid (∀ x, Below w.heap.size w x → Calls Tryz.prog 36 #[.agg #[pv, rv], .int .i64 p] x fun e w' => (∃ v, e = .returned v ∧ boolsAt w' v (needsL (edges rs) ps.length p.toNat)) ∧ Below x.heap.size x w') := fun x hx => by
    have h := Prog.needsOf_c x pv rv ps rs p.toNat (predsAt.lasts hx hp) (rulesAt.lasts hx hr) z1 z2 z3 (by omega)
    rw [show ((p.toNat : Nat) : Int) = p by omega] at h
    exact h
  have HP : Hid (∀ x, Below w.heap.size w x → predsAt x pv ps) := fun x hx => predsAt.lasts hx hp
  obtain ⟨pa, pc, rfl, _⟩ := hp
  obtain ⟨vs, ra, rc, rfl, hvs, hok, hra⟩ := Naive.rules_open hr
  obtain ⟨W1, hW1⟩ : ∃ W1, w.alloc (.cells #[.slice pa ps.length pc, .slice ra rs.length rc] 25) = W1 := ⟨_, rfl⟩
  have b1 : Below w.heap.size w W1 := by rw [← hW1]; exact below_alloc _ _
  have q0 : W1.cell? ⟨w.heap.size, 0, none⟩ = some (.slice pa ps.length pc) := by rw [← hW1]; simp [go_sem]
  have q1 : W1.cell? ⟨w.heap.size, 1, none⟩ = some (.slice ra rs.length rc) := by rw [← hW1]; simp [go_sem]
  go_enter Tryz.func12, Tryz.ntmps12
  go_wp2_with fail
  refine (HND.out _ b1).mono ?_
  rintro e W2 ⟨⟨nv, rfl, hbo⟩, hb2⟩
  have hs1 : w.heap.size < W1.heap.size := by rw [← hW1]; simp
  have c0 : W2.cell? ⟨w.heap.size, 0, none⟩ = _ := (cell_lasts hb2 hs1).trans q0
  have c1 : W2.cell? ⟨w.heap.size, 1, none⟩ = _ := (cell_lasts hb2 hs1).trans q1
  obtain ⟨na, nc, rfl, _⟩ := id hbo
  have k2 : Below w.heap.size w W2 := b1.trans (hb2.mono b1.size)
  have HLV : Hid (vs.length = rs.length) := by show _ = _; rw [← hvs, List.length_map]
  have HVS : Hid (vs.map Naive.RV.r = rs) := hvs
  have HNE : Hid (needsErr ps rs p = 0) := hne
  have HOK : Hid (∀ x, Below w.heap.size w x → ∀ v ∈ vs, Naive.RVok x v) := fun x hx v hv => Naive.RVok.lasts hx (hok v hv)
  have HNL : Hid ((needsL (edges rs) ps.length p.toNat).length = ps.length) := (needs_least (Prog.within_edges z3) (p := p.toNat) (by omega)).len
  have HBO : Hid (∀ x, Below W2.heap.size W2 x → boolsAt x (.slice na (needsL (edges rs) ps.length p.toNat).length nc) (needsL (edges rs) ps.length p.toNat)) := fun x hx => Prog.boolsAt.lasts hx hbo
  have HPR : Hid (∀ v ∈ vs, ∃ e : Nat, v.r.head.pred = (e : Int) ∧ e < ps.length) := fun v hv => by
    have hm : v.r ∈ rs := by rw [← HVS.out]; exact List.mem_map.2 ⟨v, hv, rfl⟩
    obtain ⟨k, hk, e⟩ := Rule.isPred_iff.1 (Rule.atom_right (Fire.rule_parts (Fire.rules_right hpe _ hm)).1).1
    exact ⟨k, e, hk⟩
  have HQ2 : Hid (∀ x, Below W2.heap.size W2 x → x.cell? ⟨w.heap.size, 0, none⟩ = some (.slice pa ps.length pc) ∧ x.cell? ⟨w.heap.size, 1, none⟩ = some (.slice ra rs.length rc)) := fun x hx => ⟨(cell_lasts hx (Nat.lt_of_lt_of_le hs1 hb2.size)).trans c0, (cell_lasts hx (Nat.lt_of_lt_of_le hs1 hb2.size)).trans c1⟩
  clear hW1
  go_wp2_with fail
  obtain ⟨W3, hW3⟩ : ∃ W3, W2.alloc (.cells #[.slice pa ps.length pc, .slice none 0 0] 25) = W3 := ⟨_, rfl⟩
  have b23 : Below W2.heap.size W2 W3 := by rw [← hW3]; exact below_alloc _ _
  have x3 : qAt W3 W2.heap.size (.slice pa ps.length pc) (.slice none 0 0) := by rw [← hW3]; exact World.alloc_heap_new W2 _
  rw [hW3]
  clear hW3 hvs hok c0 c1 q0 q1 hbo
  go_loopw [7] (fun i wr => ∃ (k : Nat) (u : Value), k ≤ rs.length ∧ i = .int .i64 k ∧ Hid (qAt wr W2.heap.size (.slice pa ps.length pc) u ∧ wr.ownsRow (W2.heap.size + 1) 65 5 u (keepV (need ps rs p) (vs.take k)).length (Naive.cellsR (keepV (need ps rs p) (vs.take k))) ∧ Below W2.heap.size W2 wr)) (fun i _ => rs.length - (intOf i).toNat)
  case atStart => exact ⟨0, _, Nat.zero_le _, rfl, x3, ⟨rfl, .inl ⟨rfl, rfl⟩⟩, b23⟩
  case round =>
    obtain ⟨k, u, hk, rfl, hin⟩ := hrel
    have hbr := hin.out.2.2
    have kr : Below w.heap.size w wr := k2.trans (hbr.mono k2.size)
    obtain ⟨d0, d1⟩ := HQ2.out wr hbr
    by_cases hkl : k < rs.length
    · have hkv : k < vs.length := by rw [HLV.out]; exact hkl
      obtain ⟨rb, ro, rfl, hrb, hrc⟩ := hra.resolve_left (by rintro rfl; simp at hkl)
      obtain ⟨t0, t1, t2, t3, t4⟩ := Naive.cellsR_at vs k vs[k] (List.getElem?_eq_getElem hkv)
      obtain ⟨⟨ha, hc, hhv, _⟩, ⟨ba, bc, hbv, _⟩⟩ := HOK.out wr kr vs[k] (List.getElem_mem hkv)
      obtain ⟨e, hpee, hel⟩ := HPR.out vs[k] (List.getElem_mem hkv)
      have hel2 : e < (needsL (edges rs) ps.length p.toNat).length := by rw [HNL.out]; exact hel
      obtain ⟨nb, no_, nc', hnv, hnb, n0⟩ := slice_cells (HBO.out wr hbr) hel2
      obtain ⟨rfl, rfl⟩ : na = some ⟨nb, no_, none⟩ ∧ nc = nc' := by simpa using hnv
      have n0' : wr.cell? ⟨nb, no_ + e, none⟩ = some (.bool (needsL (edges rs) ps.length p.toNat)[e]) := by have := n0; rwa [Nat.mul_one] at this
      have HKT : Hid (keepV (need ps rs p) (vs.take (k + 1)) = keepV (need ps rs p) (vs.take k) ++ if (needsL (edges rs) ps.length p.toNat)[e] then [vs[k]] else []) := by
        show _ = _
        rw [keep_take hkv, hpee, Int.toNat_natCast, need, bat_at hel2]
      have r0 := (cell_lasts kr hrb).trans (hrc _ _ t0)
      have r1 : wr.cell? ⟨rb, ro + k * 5 + 1, none⟩ = some (vs[k].hv) := by rw [Nat.add_assoc]; exact (cell_lasts kr hrb).trans (hrc _ _ t1)
      have r2 : wr.cell? ⟨rb, ro + k * 5 + 2, none⟩ = some (.int .i64 vs[k].r.src) := by rw [Nat.add_assoc]; exact (cell_lasts kr hrb).trans (hrc _ _ t2)
      have r3 : wr.cell? ⟨rb, ro + k * 5 + 3, none⟩ = some (.int .i64 vs[k].r.n) := by rw [Nat.add_assoc]; exact (cell_lasts kr hrb).trans (hrc _ _ t3)
      have r4 : wr.cell? ⟨rb, ro + k * 5 + 4, none⟩ = some (vs[k].bv) := by rw [Nat.add_assoc]; exact (cell_lasts kr hrb).trans (hrc _ _ t4)
      rw [hpee] at r0
      rw [hhv] at r1
      rw [hbv] at r4
      have hk1 : (k : Int) < (rs.length : Int) := by omega
      have hel3 : (e : Int) < ((needsL (edges rs) ps.length p.toNat).length : Int) := by omega
      have HC1 : Hid (Naive.cellsR [vs[k]] = [.int .i64 (e : Int), .slice ha vs[k].r.head.args.length hc, .int .i64 vs[k].r.src, .int .i64 vs[k].r.n, .slice ba vs[k].r.body.length bc]) := by
        show [_, _, _, _, _] = _
        rw [hpee, hhv, hbv]
      have hFL : (keepV (need ps rs p) (vs.take k)).length ≤ 8 := by
        have h1 : (keepV (need ps rs p) (vs.take k)).length ≤ (vs.take k).length := List.length_filter_le _ _
        rw [List.length_take] at h1
        omega
      have hrbw : rb < wr.heap.size := Nat.lt_of_lt_of_le hrb kr.size
      clear hnv n0 t0 t1 t2 t3 t4 hhv hbv hpee
      generalize vs[k] = x at *
      generalize (needsL (edges rs) ps.length p.toNat)[e] = z at *
      cases z
      · rw [if_neg (by simp), List.append_nil] at HKT
        go_wp2_with fail
        go_roundw
        case rel => exact ⟨k + 1, u, by omega, by go_num, hin.out.1, by rw [HKT.out]; exact hin.out.2.1, hbr⟩
        case measure => simp [intOf]; omega
      · rw [if_pos rfl] at HKT
        obtain ⟨qc0, qc1, qf1, hBQ⟩ := q_cells hin.out.1
        obtain ⟨i0, hi0, hz0, hz1, hz2⟩ := info_parts Naive.infoRule
        have HBW : Hid (Below wr.heap.size wr (wr.drew.alloc (.cells #[.int .i64 (e : Int), .slice ha x.r.head.args.length hc, .int .i64 x.r.src, .int .i64 x.r.n, .slice ba x.r.body.length bc] 65))) := ((Below.refl _ _).drew).trans (below_alloc wr.drew _)
        have HSE : Hid ((wr.drew.alloc (.cells #[.int .i64 (e : Int), .slice ha x.r.head.args.length hc, .int .i64 x.r.src, .int .i64 x.r.n, .slice ba x.r.body.length bc] 65)).heap.size = wr.heap.size + 1) := by show _ = _; rw [World.size_alloc]; rfl
        have HSZ : Hid (W2.heap.size + 1 ≤ (wr.drew.alloc (.cells #[.int .i64 (e : Int), .slice ha x.r.head.args.length hc, .int .i64 x.r.src, .int .i64 x.r.n, .slice ba x.r.body.length bc] 65)).heap.size) := by show _ ≤ _; rw [HSE.out]; omega
        have HOW : Hid ((wr.drew.alloc (.cells #[.int .i64 (e : Int), .slice ha x.r.head.args.length hc, .int .i64 x.r.src, .int .i64 x.r.n, .slice ba x.r.body.length bc] 65)).ownsRow (W2.heap.size + 1) 65 5 u (keepV (need ps rs p) (vs.take k)).length (Naive.cellsR (keepV (need ps rs p) (vs.take k)))) := own_lasts hin.out.2.1 HBW.out
        have HLT : Hid (∀ j, u.ownBlock = some j → W2.heap.size + 1 ≤ j) := fun j hj => (hin.out.2.1.lt j hj).1
        have HNC : Hid (∀ (j : Nat) (v : Value), [.int .i64 (e : Int), .slice ha x.r.head.args.length hc, .int .i64 x.r.src, .int .i64 x.r.n, .slice ba x.r.body.length bc][j]? = some v → (wr.drew.alloc (.cells #[.int .i64 (e : Int), .slice ha x.r.head.args.length hc, .int .i64 x.r.src, .int .i64 x.r.n, .slice ba x.r.body.length bc] 65)).cell? ((⟨wr.heap.size, 0, none⟩ : Addr).add j) = some v) := fun j v hj => by
          rw [← HC1.out] at hj
          exact one_cells (W := wr.drew) HC1.out _ j v hj
        have KS : Hid (∀ y, Below wr.heap.size wr y → (fun w' : World => w'.cell? ⟨w.heap.size, 1, none⟩ = some (.slice (some ⟨rb, ro, none⟩) rs.length rc) ∧ w'.cell? ⟨rb, ro + k * 5, none⟩ = some (.int .i64 (e : Int)) ∧ w'.cell? ⟨rb, ro + k * 5 + 1, none⟩ = some (.slice ha x.r.head.args.length hc) ∧ w'.cell? ⟨rb, ro + k * 5 + 2, none⟩ = some (.int .i64 x.r.src) ∧ w'.cell? ⟨rb, ro + k * 5 + 3, none⟩ = some (.int .i64 x.r.n) ∧ w'.cell? ⟨rb, ro + k * 5 + 4, none⟩ = some (.slice ba x.r.body.length bc)) y) := fun y hy => ⟨(HQ2.out y (hbr.trans (hy.mono hbr.size))).2, (cell_lasts hy hrbw).trans r0, (cell_lasts hy hrbw).trans r1, (cell_lasts hy hrbw).trans r2, (cell_lasts hy hrbw).trans r3, (cell_lasts hy hrbw).trans r4⟩
        have HCK : Hid (∀ y b o v, (wr.drew.alloc (.cells #[.int .i64 (e : Int), .slice ha x.r.head.args.length hc, .int .i64 x.r.src, .int .i64 x.r.n, .slice ba x.r.body.length bc] 65)).grownBy y u.ownBlock → b < W2.heap.size + 1 → b < wr.heap.size → wr.cell? ⟨b, o, none⟩ = some v → y.cell? ⟨b, o, none⟩ = some v) := fun y b o v hg h1 h2 hv => (World.cell?_of_block (a := ⟨b, o, none⟩) (hg.block b (by rw [HSE.out]; omega) (fun e => by have := HLT.out b e.symm; omega))).trans ((cell_lasts HBW.out h2).trans hv)
        have HQ9 : Hid (∀ y, (wr.drew.alloc (.cells #[.int .i64 (e : Int), .slice ha x.r.head.args.length hc, .int .i64 x.r.src, .int .i64 x.r.n, .slice ba x.r.body.length bc] 65)).grownBy y u.ownBlock → y.cell? ⟨W2.heap.size, 1, none⟩ = some u ∧ y.frozen? ⟨W2.heap.size, 1, none⟩ = false) := fun y hy => ⟨HCK.out y _ _ _ hy (by omega) hBQ qc1, (World.frozen?_of_block (a := ⟨W2.heap.size, 1, none⟩) (hy.block W2.heap.size (by rw [HSE.out]; omega) (fun e => by have := HLT.out _ e.symm; omega))).trans (((bcell HBW.out).2 _ _ hBQ).trans qf1)⟩
        have hwlt : w.heap.size < W2.heap.size := Nat.lt_of_lt_of_le hs1 hb2.size
        have hrbW : rb < W2.heap.size := Nat.lt_of_lt_of_le hrb k2.size
        have HS9 : Hid (∀ y, (wr.drew.alloc (.cells #[.int .i64 (e : Int), .slice ha x.r.head.args.length hc, .int .i64 x.r.src, .int .i64 x.r.n, .slice ba x.r.body.length bc] 65)).grownBy y u.ownBlock → (fun w' : World => w'.cell? ⟨w.heap.size, 1, none⟩ = some (.slice (some ⟨rb, ro, none⟩) rs.length rc) ∧ w'.cell? ⟨rb, ro + k * 5, none⟩ = some (.int .i64 (e : Int)) ∧ w'.cell? ⟨rb, ro + k * 5 + 1, none⟩ = some (.slice ha x.r.head.args.length hc) ∧ w'.cell? ⟨rb, ro + k * 5 + 2, none⟩ = some (.int .i64 x.r.src) ∧ w'.cell? ⟨rb, ro + k * 5 + 3, none⟩ = some (.int .i64 x.r.n) ∧ w'.cell? ⟨rb, ro + k * 5 + 4, none⟩ = some (.slice ba x.r.body.length bc)) y) := fun y hy => by
          obtain ⟨s0, s1, s2, s3, s4, s5⟩ := KS.out wr (Below.refl _ _)
          exact ⟨HCK.out y _ _ _ hy (by omega) (by omega) s0, HCK.out y _ _ _ hy (by omega) (by omega) s1, HCK.out y _ _ _ hy (by omega) (by omega) s2, HCK.out y _ _ _ hy (by omega) (by omega) s3, HCK.out y _ _ _ hy (by omega) (by omega) s4, HCK.out y _ _ _ hy (by omega) (by omega) s5⟩
        have HS9b : Hid (∀ y v, (wr.drew.alloc (.cells #[.int .i64 (e : Int), .slice ha x.r.head.args.length hc, .int .i64 x.r.src, .int .i64 x.r.n, .slice ba x.r.body.length bc] 65)).grownBy y u.ownBlock → (fun w' : World => w'.cell? ⟨w.heap.size, 1, none⟩ = some (.slice (some ⟨rb, ro, none⟩) rs.length rc) ∧ w'.cell? ⟨rb, ro + k * 5, none⟩ = some (.int .i64 (e : Int)) ∧ w'.cell? ⟨rb, ro + k * 5 + 1, none⟩ = some (.slice ha x.r.head.args.length hc) ∧ w'.cell? ⟨rb, ro + k * 5 + 2, none⟩ = some (.int .i64 x.r.src) ∧ w'.cell? ⟨rb, ro + k * 5 + 3, none⟩ = some (.int .i64 x.r.n) ∧ w'.cell? ⟨rb, ro + k * 5 + 4, none⟩ = some (.slice ba x.r.body.length bc)) (y.setCell ⟨W2.heap.size, 1, none⟩ v)) := fun y v hy => by
          obtain ⟨s0, s1, s2, s3, s4, s5⟩ := HS9.out y hy
          exact ⟨by rw [cell_block (by omega)]; exact s0, by rw [cell_block (by omega)]; exact s1, by rw [cell_block (by omega)]; exact s2, by rw [cell_block (by omega)]; exact s3, by rw [cell_block (by omega)]; exact s4, by rw [cell_block (by omega)]; exact s5⟩
        have qq1 : (wr.drew.alloc (.cells #[.int .i64 (e : Int), .slice ha x.r.head.args.length hc, .int .i64 x.r.src, .int .i64 x.r.n, .slice ba x.r.body.length bc] 65)).cell? ⟨W2.heap.size, 1, none⟩ = some u := (cell_lasts HBW.out hBQ).trans qc1
        have qq0 : wr.drew.cell? ⟨W2.heap.size, 1, none⟩ = some u := qc1
        go_wp2_with fail
        refine wp_mono (Q := (fun e' a' w' => e' = .normal ∧ (∃ W9 g9 cap9, w' = W9.setCell ⟨W2.heap.size, 1, none⟩ (.slice (some ⟨g9, 0, none⟩) ((keepV (need ps rs p) (vs.take k)).length + 1) cap9) ∧ (wr.drew.alloc (.cells #[.int .i64 (e : Int), .slice ha x.r.head.args.length hc, .int .i64 x.r.src, .int .i64 x.r.n, .slice ba x.r.body.length bc] 65)).grownBy W9 u.ownBlock ∧ W9.ownsRow (W2.heap.size + 1) 65 5 (.slice (some ⟨g9, 0, none⟩) ((keepV (need ps rs p) (vs.take k)).length + 1) cap9) ((keepV (need ps rs p) (vs.take k)).length + 1) ((Naive.cellsR (keepV (need ps rs p) (vs.take k))) ++ [.int .i64 (e : Int), .slice ha x.r.head.args.length hc, .int .i64 x.r.src, .int .i64 x.r.n, .slice ba x.r.body.length bc])) ∧ ∃ y34 y35 y36 y37 y38 y39 y40 y41 y42 y43 : Value, a' = { tmps := #[.agg #[.slice pa ps.length pc, .slice (some ⟨rb, ro, none⟩) rs.length rc], .int .i64 p, .pointer (some ⟨w.heap.size, 0, none⟩), undef, .slice none 0 0, .slice (some ⟨nb, no_, none⟩) (needsL (edges rs) ps.length p.toNat).length nc, .pointer (some ⟨W2.heap.size, 0, none⟩), .int .i64 (k : Int), undef, undef, undef, .agg #[.slice pa ps.length pc, .slice (some ⟨rb, ro, none⟩) rs.length rc], .int .i64 p, .slice (some ⟨nb, no_, none⟩) (needsL (edges rs) ps.length p.toNat).length nc, .pointer (some ⟨w.heap.size, 0, none⟩), .slice pa ps.length pc, .agg #[.slice pa ps.length pc, .slice none 0 0], .int .i64 (k : Int), .pointer (some ⟨w.heap.size, 1, none⟩), .slice (some ⟨rb, ro, none⟩) rs.length rc, .int .i64 (rs.length : Int), .bool true, u22, u23, .slice (some ⟨nb, no_, none⟩) (needsL (edges rs) ps.length p.toNat).length nc, .pointer (some ⟨w.heap.size, 1, none⟩), .slice (some ⟨rb, ro, none⟩) rs.length rc, .int .i64 (k : Int), .pointer (some ⟨rb, ro + k * 5, none⟩), .pointer (some ⟨rb, ro + k * 5, none⟩), .pointer (some ⟨rb, ro + k * 5, none⟩), .int .i64 (e : Int), .pointer (some ⟨nb, no_ + e, none⟩), .bool true, y34, y35, y36, y37, y38, y39, y40, y41, y42, y43, undef, undef, undef, undef, undef, undef, undef, undef, undef, undef, undef, undef, undef, undef, undef, undef, undef, undef, undef, undef, undef, undef, undef], defers := [] })) ?reg ?rest
        case reg =>
          refine wp_region_held_drew (S := (fun w' : World => w'.cell? ⟨w.heap.size, 1, none⟩ = some (.slice (some ⟨rb, ro, none⟩) rs.length rc) ∧ w'.cell? ⟨rb, ro + k * 5, none⟩ = some (.int .i64 (e : Int)) ∧ w'.cell? ⟨rb, ro + k * 5 + 1, none⟩ = some (.slice ha x.r.head.args.length hc) ∧ w'.cell? ⟨rb, ro + k * 5 + 2, none⟩ = some (.int .i64 x.r.src) ∧ w'.cell? ⟨rb, ro + k * 5 + 3, none⟩ = some (.int .i64 x.r.n) ∧ w'.cell? ⟨rb, ro + k * 5 + 4, none⟩ = some (.slice ba x.r.body.length bc))) (by kernel_rfl) (KS.out _ (Below.refl _ _).drew) (fun hHeld => ?_)
          refine wpAnyH_take (i := 0) (v := ?_) rfl (by kernel_rfl) (by kernel_rfl) (by kernel_rfl) (fun _ _ _ h => by cases h.1) (Or.inl ⟨by rfl, ?_⟩) (by assumption) ?_
          rotate_left
          · (intro w hSw; (try dsimp only at hSw); obtain ⟨h0, h1, h2, h3, h4, h5⟩ := hSw; go_simp; try with_reducible rfl)
          try simp only [Act.put, List.setIfInBounds_toArray]
          refine wpAnyH_take (i := 2) (v := ?_) rfl (by kernel_rfl) (by kernel_rfl) (by kernel_rfl) (fun _ _ _ h => by cases h.1) (Or.inl ⟨by rfl, ?_⟩) (by assumption) ?_
          rotate_left
          · (intro w hSw; (try dsimp only at hSw); obtain ⟨h0, h1, h2, h3, h4, h5⟩ := hSw; go_simp; try with_reducible rfl)
          simp only [Act.put]
          refine wpAnyH_take (i := 3) (v := ?_) rfl (by kernel_rfl) (by kernel_rfl) (by kernel_rfl) (fun _ _ _ h => by cases h.1) (Or.inl ⟨by rfl, ?_⟩) (by assumption) ?_
          rotate_left
          · (intro w hSw; (try dsimp only at hSw); obtain ⟨h0, h1, h2, h3, h4, h5⟩ := hSw; go_simp; try with_reducible rfl)
          simp only [Act.put]
          refine wpAnyH_take (i := 4) (v := ?_) rfl (by kernel_rfl) (by kernel_rfl) (by kernel_rfl) (fun _ _ _ h => by cases h.1) (Or.inl ⟨by rfl, ?_⟩) (by assumption) ?_
          rotate_left
          · (intro w hSw; (try dsimp only at hSw); obtain ⟨h0, h1, h2, h3, h4, h5⟩ := hSw; go_simp; try with_reducible rfl)
          simp only [Act.put]
          refine wpAnyH_take (i := 5) (v := ?_) rfl (by kernel_rfl) (by kernel_rfl) (by kernel_rfl) (fun _ _ _ h => by cases h.1) (Or.inl ⟨by rfl, ?_⟩) (by assumption) ?_
          rotate_left
          · (intro w hSw; (try dsimp only at hSw); obtain ⟨h0, h1, h2, h3, h4, h5⟩ := hSw; go_simp; try with_reducible rfl)
          simp only [Act.put]
          refine wpAnyH_take (i := 6) (v := ?_) rfl (by kernel_rfl) (by kernel_rfl) (by kernel_rfl) (fun _ _ _ h => by cases h.1) (Or.inl ⟨by rfl, ?_⟩) (by assumption) ?_
          rotate_left
          · (intro w hSw; (try dsimp only at hSw); obtain ⟨h0, h1, h2, h3, h4, h5⟩ := hSw; go_simp; try with_reducible rfl)
          simp only [Act.put]
          refine wpAnyH_ready (rs := [1, 7]) (by kernel_rfl) (by simp) ?_
          refine AllReadyH.cons rfl (fun K hK => ?_) ?_
          · go_simp
            refine hK.out _ _ ?_ (fun hHeld => ?_)
            · first | exact KS.out _ (Below.refl _ _).drew | exact KS.out _ HBW.out
            clear hK K
            try simp only [Act.put, List.setIfInBounds_toArray, List.set_cons_zero, List.set_cons_succ]
            refine wpAnyH_ready (rs := [7]) (by kernel_rfl) (by simp) ?_
            refine AllReadyH.cons rfl (fun K hK => ?_) AllReadyH.nil
            go_simp
            refine hK.out _ _ ?_ (fun hHeld => ?_)
            · first | exact KS.out _ (Below.refl _ _).drew | exact KS.out _ HBW.out
            clear hK K
            try simp only [Act.put, List.setIfInBounds_toArray, List.set_cons_zero, List.set_cons_succ]
            refine wpAnyH_ready (rs := [8]) (by kernel_rfl) (by simp) ?_
            refine AllReadyH.cons rfl (fun K hK => ?_) AllReadyH.nil
            refine step_append_lies _ (by rfl) _ _ 23 (by rfl) (W2.heap.size + 1) 65 i0 (.agg #[.int .i64 0, .slice none 0 0, .int .i64 0, .int .i64 0, .slice none 0 0]) 5 72 Tryz.underlying23 hi0 hz0 hz1 hz2 (by rfl) (by omega) u (keepV (need ps rs p) (vs.take k)).length (Naive.cellsR (keepV (need ps rs p) (vs.take k))) (by rfl) HOW.out ⟨wr.heap.size, 0, none⟩ 1 1 [.int .i64 (e : Int), .slice ha x.r.head.args.length hc, .int .i64 x.r.src, .int .i64 x.r.n, .slice ba x.r.body.length bc] (by rfl) (by rfl) HNC.out (by intro u hu; simp at hu; rcases hu with rfl | rfl | rfl | rfl | rfl <;> rfl) (by omega) (by unfold maxLen; omega) (by omega) HSZ.out (wr.heap.size + 1) HSE.out ?_
            intro g9 cap9 W9 hown9 hgrow9 hat9 hlt9
            have hgr9 : (wr.drew.alloc (.cells #[.int .i64 (e : Int), .slice ha x.r.head.args.length hc, .int .i64 x.r.src, .int .i64 x.r.n, .slice ba x.r.body.length bc] 65)).grownBy W9 u.ownBlock := hgrow9
            obtain ⟨n1, n2⟩ := HQ9.out W9 hgr9
            refine hK.out _ _ ?_ (fun hHeld => ?_)
            · exact HS9.out W9 hgr9
            clear hK K
            try simp only [Act.put, List.setIfInBounds_toArray]
            refine wpAnyH_take (i := 9) (v := ?_) rfl (by kernel_rfl) (by kernel_rfl) (by kernel_rfl) (fun _ _ _ h => by cases h.1) (Or.inl ⟨by rfl, ?_⟩) (by assumption) ?_
            rotate_left
            · (intro w hSw; (try dsimp only at hSw); obtain ⟨h0, h1, h2, h3, h4, h5⟩ := hSw; go_simp; try with_reducible rfl)
            simp only [Act.put]
            refine wpAnyH_ready (rs := [10]) (by kernel_rfl) (by simp) ?_
            refine AllReadyH.cons rfl (fun K hK => ?_) AllReadyH.nil
            go_simp
            refine hK.out _ _ ?_ (fun hHeld => ?_)
            · exact HS9b.out W9 _ hgr9
            clear hK K
            try simp only [Act.put, List.setIfInBounds_toArray, List.set_cons_zero, List.set_cons_succ]
            refine wpAnyH_done (by kernel_rfl) ?_ _
            refine ⟨rfl, ⟨W9, g9, cap9, rfl, hgr9, hown9⟩, ?_⟩
            (repeat apply Exists.intro)
            rfl
          · refine AllReadyH.cons rfl (fun K hK => ?_) AllReadyH.nil
            go_simp
            refine hK.out _ _ ?_ (fun hHeld => ?_)
            · first | exact KS.out _ (Below.refl _ _).drew | exact KS.out _ HBW.out
            clear hK K
            try simp only [Act.put, List.setIfInBounds_toArray, List.set_cons_zero, List.set_cons_succ]
            refine wpAnyH_ready (rs := [1]) (by kernel_rfl) (by simp) ?_
            refine AllReadyH.cons rfl (fun K hK => ?_) AllReadyH.nil
            go_simp
            refine hK.out _ _ ?_ (fun hHeld => ?_)
            · first | exact KS.out _ (Below.refl _ _).drew | exact KS.out _ HBW.out
            clear hK K
            try simp only [Act.put, List.setIfInBounds_toArray, List.set_cons_zero, List.set_cons_succ]
            refine wpAnyH_ready (rs := [8]) (by kernel_rfl) (by simp) ?_
            refine AllReadyH.cons rfl (fun K hK => ?_) AllReadyH.nil
            refine step_append_lies _ (by rfl) _ _ 23 (by rfl) (W2.heap.size + 1) 65 i0 (.agg #[.int .i64 0, .slice none 0 0, .int .i64 0, .int .i64 0, .slice none 0 0]) 5 72 Tryz.underlying23 hi0 hz0 hz1 hz2 (by rfl) (by omega) u (keepV (need ps rs p) (vs.take k)).length (Naive.cellsR (keepV (need ps rs p) (vs.take k))) (by rfl) HOW.out ⟨wr.heap.size, 0, none⟩ 1 1 [.int .i64 (e : Int), .slice ha x.r.head.args.length hc, .int .i64 x.r.src, .int .i64 x.r.n, .slice ba x.r.body.length bc] (by rfl) (by rfl) HNC.out (by intro u hu; simp at hu; rcases hu with rfl | rfl | rfl | rfl | rfl <;> rfl) (by omega) (by unfold maxLen; omega) (by omega) HSZ.out (wr.heap.size + 1) HSE.out ?_
            intro g9 cap9 W9 hown9 hgrow9 hat9 hlt9
            have hgr9 : (wr.drew.alloc (.cells #[.int .i64 (e : Int), .slice ha x.r.head.args.length hc, .int .i64 x.r.src, .int .i64 x.r.n, .slice ba x.r.body.length bc] 65)).grownBy W9 u.ownBlock := hgrow9
            obtain ⟨n1, n2⟩ := HQ9.out W9 hgr9
            refine hK.out _ _ ?_ (fun hHeld => ?_)
            · exact HS9.out W9 hgr9
            clear hK K
            try simp only [Act.put, List.setIfInBounds_toArray]
            refine wpAnyH_take (i := 9) (v := ?_) rfl (by kernel_rfl) (by kernel_rfl) (by kernel_rfl) (fun _ _ _ h => by cases h.1) (Or.inl ⟨by rfl, ?_⟩) (by assumption) ?_
            rotate_left
            · (intro w hSw; (try dsimp only at hSw); obtain ⟨h0, h1, h2, h3, h4, h5⟩ := hSw; go_simp; try with_reducible rfl)
            simp only [Act.put]
            refine wpAnyH_ready (rs := [10]) (by kernel_rfl) (by simp) ?_
            refine AllReadyH.cons rfl (fun K hK => ?_) AllReadyH.nil
            go_simp
            refine hK.out _ _ ?_ (fun hHeld => ?_)
            · exact HS9b.out W9 _ hgr9
            clear hK K
            try simp only [Act.put, List.setIfInBounds_toArray, List.set_cons_zero, List.set_cons_succ]
            refine wpAnyH_done (by kernel_rfl) ?_ _
            refine ⟨rfl, ⟨W9, g9, cap9, rfl, hgr9, hown9⟩, ?_⟩
            (repeat apply Exists.intro)
            rfl
        case rest =>
          rintro e' a' w' ⟨rfl, ⟨W9, g9, cap9, rfl, hgr9, hown9⟩, y34, y35, y36, y37, y38, y39, y40, y41, y42, y43, rfl⟩
          have HN9 : Hid (qAt (W9.setCell ⟨W2.heap.size, 1, none⟩ (.slice (some ⟨g9, 0, none⟩) ((keepV (need ps rs p) (vs.take k)).length + 1) cap9)) W2.heap.size (.slice pa ps.length pc) (.slice (some ⟨g9, 0, none⟩) ((keepV (need ps rs p) (vs.take k)).length + 1) cap9) ∧ (W9.setCell ⟨W2.heap.size, 1, none⟩ (.slice (some ⟨g9, 0, none⟩) ((keepV (need ps rs p) (vs.take k)).length + 1) cap9)).ownsRow (W2.heap.size + 1) 65 5 (.slice (some ⟨g9, 0, none⟩) ((keepV (need ps rs p) (vs.take k)).length + 1) cap9) (keepV (need ps rs p) (vs.take (k + 1))).length (Naive.cellsR (keepV (need ps rs p) (vs.take (k + 1)))) ∧ Below W2.heap.size W2 (W9.setCell ⟨W2.heap.size, 1, none⟩ (.slice (some ⟨g9, 0, none⟩) ((keepV (need ps rs p) (vs.take k)).length + 1) cap9))) := by
            have hq9 : qAt W9 W2.heap.size (.slice pa ps.length pc) u := (hgr9.block W2.heap.size (by rw [HSE.out]; omega) (fun e => by have := HLT.out _ e.symm; omega)).trans ((HBW.out.block _ hBQ).trans hin.out.1)
            have hb9 : Below W2.heap.size W2 W9 := (hbr.trans (HBW.out.mono hbr.size)).grown hgr9 (by rw [HSE.out]; omega) (fun j e => by have := HLT.out j e; omega)
            refine ⟨q_set hq9 _, own_set ?_ (by omega), hb9.setCell (p := ⟨W2.heap.size, 1, none⟩) (Nat.le_refl _) _⟩
            rw [HKT.out, List.length_append, Naive.cellsR_append, HC1.out]
            exact hown9
          clear qc0 qc1 qf1 qq0 qq1 r0 r1 r2 r3 r4 n0' d0 d1
          go_wp2_with fail
          go_roundw
          case rel => exact ⟨k + 1, _, by omega, by go_num, HN9⟩
          case measure => simp [intOf]; omega
    · obtain rfl : k = rs.length := by omega
      obtain ⟨qc0, qc1, qf1, hBQ⟩ := q_cells hin.out.1
      have hown := hin.out.2.1
      rw [List.take_of_length_le (by rw [HLV.out]; exact Nat.le_refl _)] at hown
      have HRA : Hid (rulesAt wr u (cutR (need ps rs p) rs)) := by
        rw [← keep_map HVS.out]
        refine Naive.rulesAt_own hown ?_ fun y hy => HOK.out wr kr y (List.mem_filter.1 hy).1
        have h1 : (keepV (need ps rs p) vs).length ≤ vs.length := List.length_filter_le _ _
        have h2 := HLV.out
        omega
      have HMO := Naive.modelOf_c wr (.slice pa ps.length pc) u ps (cutR (need ps rs p) rs) (HP.out wr kr) HRA.out (cutR_right (N := need ps rs p) hpe)
      obtain ⟨ua, uc, rfl, _⟩ := id HRA.out
      clear hown
      go_wp2_with fail
      refine HMO.mono ?_
      rintro e' W6 ⟨mv, rfl, hfm, hb6⟩
      have k6 : Below w.heap.size w W6 := kr.trans (hb6.mono kr.size)
      have HFE : Hid ((modelL ps (cutR (need ps rs p) rs)).length ≤ 125) := Base.facts_short (Naive.right_parts (Naive.model_right (cutR_right (N := need ps rs p) hpe) _)).2
      have HON : Hid (((modelL ps (cutR (need ps rs p) rs)).filter fun x => x.pred == p) = onlyF ps rs p) := by
        show _ = _
        rw [← only_eq HNE.out]
        congr 1
        funext y
        simp [bne]
      generalize modelL ps (cutR (need ps rs p) rs) = M at *
      have HFM : Hid (∀ x, Below W6.heap.size W6 x → factsAt x mv M) := fun x hx => factsAt.lasts hx hfm
      obtain ⟨ma, mc, rfl, _⟩ := id hfm
      have hM : M.length ≤ 125 := HFE.out
      clear qc0 qc1 qf1 d0 d1 hfm HMO
      go_wp2_with fail
      go_loopw [8, 10] (fun o i wr2 => ∃ (k : Nat) (u : Value), u = o ∧ k ≤ M.length ∧ i = .int .i64 k ∧ wr2.ownsRow W6.heap.size 41 4 u ((M.take k).filter fun x => x.pred == p).length (cellsF ((M.take k).filter fun x => x.pred == p)) ∧ Below W6.heap.size W6 wr2) (fun _ i _ => M.length - (intOf i).toNat)
      case atStart => exact ⟨0, _, rfl, Nat.zero_le _, rfl, ⟨rfl, .inl ⟨rfl, rfl⟩⟩, Below.refl _ _⟩
      case round =>
        obtain ⟨k, u, rfl, hk, rfl, hown, hbq⟩ := hrel
        by_cases hkl2 : k < M.length
        · obtain ⟨fb, fo, fc', hfv, hfb, x0, x1, x2, x3⟩ := slice_cells (HFM.out wr hbq) hkl2
          obtain ⟨rfl, rfl⟩ : ma = some ⟨fb, fo, none⟩ ∧ mc = fc' := by simpa using hfv
          have hk1 : (k : Int) < (M.length : Int) := by omega
          have HMT : Hid ((M.take (k + 1)).filter (fun x => x.pred == p) = (M.take k).filter (fun x => x.pred == p) ++ if M[k].pred == p then [M[k]] else []) := by
            show _ = _
            rw [List.take_add_one, List.getElem?_eq_getElem hkl2, Option.toList_some, List.filter_append, List.filter_cons, List.filter_nil]
          have HFL : Hid (((M.take k).filter fun x => x.pred == p).length ≤ 125) := by
            have h1 : ((M.take k).filter fun x => x.pred == p).length ≤ (M.take k).length := List.length_filter_le _ _
            rw [List.length_take] at h1
            show _ ≤ _
            omega
          have y0 : wr.cell? ⟨fb, fo + k * 4, none⟩ = some (.int .i64 M[k].pred) := x0
          have y1 : wr.cell? ⟨fb, fo + k * 4 + 1, none⟩ = some (.int .i64 M[k].a) := x1
          have y2 : wr.cell? ⟨fb, fo + k * 4 + 2, none⟩ = some (.int .i64 M[k].b) := x2
          have y3 : wr.cell? ⟨fb, fo + k * 4 + 3, none⟩ = some (.int .i64 M[k].val) := x3
          clear hfv x0 x1 x2 x3
          generalize M[k] = y at *
          generalize (M.take k).filter (fun x => x.pred == p) = O at *
          have HOW : Hid (wr.ownsRow W6.heap.size 41 4 u O.length (cellsF O)) := hown
          have hsz : W6.heap.size ≤ wr.heap.size := hbq.size
          clear hown
          cases hyp : (y.pred == p)
          · rw [hyp, if_neg (by simp), List.append_nil] at HMT
            go_wp2_with fail
            go_roundw
            case rel => exact ⟨k + 1, u, rfl, by omega, by go_num, by rw [HMT.out]; exact HOW.out, hbq⟩
            case measure => simp [intOf]; omega
          · rw [hyp, if_pos rfl] at HMT
            go_wp2_with (at_builtin; refine Base.wpList_append_piece _ rfl _ _ rfl W6.heap.size u O [y] (own_lasts HOW.out (below_alloc _ _)) rfl _ rfl (piece_one (heap_alloc_new _ _)) (by have := HFL.out; simp; omega) (by simp; omega) ?_; intro v6 w6 hown6 hgr6; have hx6 : Below W6.heap.size W6 w6 := Base.grown_below (hbq.alloc hsz _) (own_lasts HOW.out (below_alloc _ _)) hgr6 (by simp; omega))
            go_roundw
            case rel => exact ⟨k + 1, v6, rfl, by omega, by go_num, by rw [HMT.out]; exact hown6, hx6⟩
            case measure => simp [intOf]; omega
        · obtain rfl : k = M.length := by omega
          rw [List.take_length] at hown
          have HFX : Hid (factsAt wr u (onlyF ps rs p)) := by
            rw [← HON.out]
            refine Base.factsAt_of hown ?_
            have h1 : (M.filter fun x => x.pred == p).length ≤ M.length := List.length_filter_le _ _
            omega
          clear hown
          go_wp2_with fail
          go_ret
          exact ⟨u, rfl, HFX.out, k6.trans (hbq.mono k6.size)⟩
end Go.Proofs.YtlfccloaoopadafGreat.Ask

/-
  An atom of the call's own, in a box, and a row of terms of its own.
-/
namespace Go.Proofs.YtlfccloaoopadafGreat.Ask
open Go.ChangeShapes Go.WideShapes Go.ChangeAt Go.RowKit

/-- an atom of the call's own, in a box -/
def aAt (x : World) (B : Nat) (k u : Value) : Prop := x.heap[B]? = some (.cells #[k, u] 29 (0, 0))
theorem a_cells {x : World} {B : Nat} {k u : Value} (h : aAt x B k u) : x.cell? ⟨B, 0, none⟩ = some k ∧ x.cell? ⟨B, 1, none⟩ = some u ∧ x.frozen? ⟨B, 1, none⟩ = false ∧ B < x.heap.size := by
  refine ⟨?_, ?_, ?_, (Array.getElem?_eq_some_iff.1 h).1⟩ <;> simp [World.cell?, World.frozen?, show x.heap[B]? = _ from h]
theorem a_set {x : World} {B : Nat} {k u : Value} (h : aAt x B k u) (v : Value) : aAt (x.setCell ⟨B, 1, none⟩ v) B k v := heap_setCell_same x B 1 _ _ v h

def cellsT : List Tm → List Value
  | [] => []
  | t :: l => .bool t.var :: .int .i64 t.n :: cellsT l
theorem cellsT_length : ∀ l, (cellsT l).length = l.length * 2
  | [] => rfl
  | x :: l => by simp only [cellsT, List.length_cons, cellsT_length l]; omega
theorem cellsT_append : ∀ l m, cellsT (l ++ m) = cellsT l ++ cellsT m
  | [], m => rfl
  | x :: l, m => by simp only [List.cons_append, cellsT, cellsT_append l m]
theorem cellsT_at : ∀ (l : List Tm) (i : Nat) (x : Tm), l[i]? = some x → (cellsT l)[i * 2]? = some (.bool x.var) ∧ (cellsT l)[i * 2 + 1]? = some (.int .i64 x.n)
  | [], i, x, h => by simp at h
  | y :: l, 0, x, h => by
    obtain rfl : y = x := by simpa using h
    exact ⟨rfl, rfl⟩
  | y :: l, i + 1, x, h => by
    have := cellsT_at l i x (by simpa using h)
    rw [show (i + 1) * 2 = i * 2 + 2 by omega]
    simpa [cellsT] using this
theorem termsAt_of {w : World} {base : Nat} {e : TypeId} {v : Value} {l : List Tm} (h : w.ownsRow base e 2 v l.length (cellsT l)) (hl : l.length ≤ 140737488355328) : termsAt w v l := by
  obtain ⟨h0, h1⟩ := h
  rcases h1 with ⟨rfl, hn⟩ | ⟨g, cap, cur, rfl, hb, hg, hc, hm, hsz, htk⟩
  · have : l = [] := List.eq_nil_of_length_eq_zero hn
    subst this
    exact ⟨none, 0, rfl, by simp, .inl rfl⟩
  · refine ⟨_, cap, rfl, hl, .inr ⟨g, 0, rfl, (Array.getElem?_eq_some_iff.1 hg).1, ?_⟩⟩
    intro i x hi
    have hcell : ∀ j z, (cellsT l)[j]? = some z → w.cell? ⟨g, 0 + j, none⟩ = some z := by
      intro j z hz
      rw [← htk] at hz
      have hj : j < l.length * 2 := by
        have := (List.getElem?_eq_some_iff.1 hz).1
        simp at this
        omega
      rw [List.getElem?_take_of_lt hj] at hz
      simp [World.cell?, hg]
      simpa using hz
    obtain ⟨k0, k1⟩ := cellsT_at l i x hi
    exact ⟨hcell _ _ k0, hcell _ _ k1⟩
theorem infoTerm : (Tryz.prog.info? 48).map (fun i => (i.zero, i.size, i.bytes)) = some (some (.agg #[.bool false, .int .i64 0]), 2, 16) := by kernel_rfl
/-- the first term of a row is written over -/
theorem own_first {w : World} {base g cap n : Nat} {e : TypeId} {ts : List Tm} {t : Tm} (h : w.ownsRow base e 2 (.slice (some ⟨g, 0, none⟩) n cap) n (cellsT ts)) (h0 : ts ≠ []) :
    ((w.setCell ⟨g, 0, none⟩ (.bool t.var)).setCell ⟨g, 1, none⟩ (.int .i64 t.n)).ownsRow base e 2 (.slice (some ⟨g, 0, none⟩) n cap) n (cellsT (ts.set 0 t)) := by
  obtain ⟨hlen, h1⟩ := h
  obtain ⟨y, l, rfl⟩ := List.exists_cons_of_ne_nil h0
  rcases h1 with ⟨h1, _⟩ | ⟨g', cap', cur, hv, hb, hg, hc, hm, hsz, htk⟩
  · cases h1
  · obtain ⟨rfl, rfl⟩ : g = g' ∧ cap = cap' := by simpa using hv
    refine ⟨by simpa [cellsT] using hlen, .inr ⟨g, cap, (cur.setIfInBounds 0 (.bool t.var)).setIfInBounds 1 (.int .i64 t.n), rfl, hb, heap_setCell_same _ g 1 _ _ _ (heap_setCell_same w g 0 _ _ _ hg), hc, hm, by simpa using hsz, ?_⟩⟩
    obtain ⟨cl⟩ := cur
    simp only [List.setIfInBounds_toArray] at htk ⊢
    rw [List.take_set, List.take_set, htk]
    rfl
end Go.Proofs.YtlfccloaoopadafGreat.Ask
