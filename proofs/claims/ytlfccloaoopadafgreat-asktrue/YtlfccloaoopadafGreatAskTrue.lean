/-
  What is proved: for every program and facts that are right, and every predicate: of variables that differ all facts of the predicate fit; a constant for a variable leaves no more; what fits is there.
-/
import Derived.Deep.RegionHeld3
import Derived.Deep.AppendLies
import Derived.Test.YtlfccloaoopadafGreatG26
import Derived.Test.YtlfccloaoopadafGreatH1
import Derived.Test.YtlfccloaoopadafGreatH2
import Derived.Test.YtlfccloaoopadafGreatG27
import Derived.Test.YtlfccloaoopadafGreatG8
import Derived.Test.YtlfccloaoopadafGreatG29
import Derived.Test.YtlfccloaoopadafGreatG30
import Derived.Test.YtlfccloaoopadafGreatG31
import Derived.Test.YtlfccloaoopadafGreatG5
namespace Go.Proofs.YtlfccloaoopadafGreat.Ask
open Go.ChangeShapes Go.WideShapes Go.ChangeAt Go.RowKit
open Base (factsErr cellsF own_lasts piece_one)
open Prog (progErr small needsErr slice_cells)

theorem two_cells {w : World} {n : Int} : ∀ (i : Nat) (v : Value), [.bool true, .int .i64 n][i]? = some v → ((w.alloc (.cells #[.bool true, .int .i64 n] 48)).alloc (.cells #[.bool true, .int .i64 n] 48)).cell? ((⟨w.heap.size + 1, 0, none⟩ : Addr).add i) = some v := by
  intro i v hv
  match i, hv with
  | 0, hv => obtain rfl : Value.bool true = v := by simpa using hv
             simp [go_sem]
  | 1, hv => obtain rfl : Value.int .i64 n = v := by simpa using hv
             simp [go_sem]
  | i + 2, hv => simp at hv

theorem own_two {w : World} {base g cap j : Nat} {e : TypeId} (h : w.ownsRow base e 2 (.slice (some ⟨g, 0, none⟩) j cap) j (cellsT (varsL j))) (hj : 0 < j) : w.cell? ⟨g, 0, none⟩ = some (.bool true) ∧ w.cell? ⟨g, 1, none⟩ = some (.int .i64 0) ∧ w.frozen? ⟨g, 0, none⟩ = false ∧ w.frozen? ⟨g, 1, none⟩ = false ∧ g < w.heap.size := by
  obtain ⟨h0, h1⟩ := h
  rcases h1 with ⟨h1, _⟩ | ⟨g', cap', cur, hv, hb, hg, hc, hm, hsz, htk⟩
  · cases h1
  · obtain ⟨rfl, rfl⟩ : g = g' ∧ cap = cap' := by simpa using hv
    obtain ⟨t0, t1⟩ := cellsT_at (varsL j) 0 ⟨true, 0⟩ (by simp [varsL, hj])
    rw [← htk, List.getElem?_take_of_lt (by omega)] at t0 t1
    refine ⟨?_, ?_, by simp [World.frozen?, hg], by simp [World.frozen?, hg], (Array.getElem?_eq_some_iff.1 hg).1⟩
    · simp [World.cell?, hg]
      simpa using t0
    · simp [World.cell?, hg]
      simpa using t1

set_option maxRecDepth 100000 in
set_option maxHeartbeats 8000000 in
theorem lawTrue_walk (w : World) (pv rv fv : Value) (p n : Int) (ps : List Prd) (rs : List Rul) (f : List Fct) (hp : predsAt w pv ps) (hr : rulesAt w rv rs) (hn : small ps) (hf : factsAt w fv f) (hpr : -9223372036854775808 ≤ p ∧ p ≤ 9223372036854775807) (hnr : -9223372036854775808 ≤ n ∧ n ≤ 9223372036854775807) :
    Calls Tryz.prog 5 #[.agg #[pv, rv], fv, .int .i64 p, .int .i64 n] w fun e w' => e = .returned (.bool true) ∧ Below w.heap.size w w' := by
  have HPC : Hid (∀ x, Below w.heap.size w x → Calls Tryz.prog 14 #[.agg #[pv, rv]] x fun e w' => e = .returned (.int .i64 (progErr ps rs)) ∧ Below x.heap.size x w') := fun x hx => Prog.devCheck_c x pv rv ps rs (predsAt.lasts hx hp) (rulesAt.lasts hx hr) hn
  have HBC : Hid (∀ x, Below w.heap.size w x → Calls Tryz.prog 15 #[pv, fv] x fun e w' => e = .returned (.int .i64 (factsErr ps f)) ∧ Below x.heap.size x w') := fun x hx => Base.check_c x pv fv ps f (predsAt.lasts hx hp) (factsAt.lasts hx hf)
  have HDM : Hid (∀ x, Below w.heap.size w x → ∀ (k : Int) (av : Value) (ts : List Tm), termsAt x av ts → Calls Tryz.prog 6 #[.agg #[pv, rv], fv, .agg #[.int .i64 k, av]] x fun e w' => ∃ u, e = .returned (.tuple #[u, .int .i64 (matchErr ps rs f ⟨k, ts⟩)]) ∧ factsAt w' u (matchF ps rs f ⟨k, ts⟩) ∧ Below x.heap.size x w') := fun x hx k av ts ht => devMatch_c x pv rv fv av ps rs f ⟨k, ts⟩ (predsAt.lasts hx hp) (rulesAt.lasts hx hr) (factsAt.lasts hx hf) ht hn
  have HP : Hid (∀ x, Below w.heap.size w x → predsAt x pv ps) := fun x hx => predsAt.lasts hx hp
  have HF : Hid (∀ x, Below w.heap.size w x → factsAt x fv f) := fun x hx => factsAt.lasts hx hf
  obtain ⟨pa, pc, rfl, _⟩ := hp
  obtain ⟨ra, rc, rfl, _⟩ := hr
  obtain ⟨fa, fc, rfl, _⟩ := hf
  go_enter Tryz.func5, Tryz.ntmps5
  go_wp2_with fail
  refine (HPC.out _ (below_alloc _ _)).mono ?_
  rintro e W1 ⟨rfl, hb1⟩
  have k1 : Below w.heap.size w W1 := below_trans (below_alloc _ _) hb1
  have B1 := Prog.boxL hb1
  obtain ⟨c0, c1, _⟩ := id B1
  clear hb1
  by_cases hpe : progErr ps rs = 0
  · rw [hpe]
    go_wp2_with fail
    refine (HBC.out _ k1).mono ?_
    rintro e W2 ⟨rfl, hb2⟩
    have k2 : Below w.heap.size w W2 := k1.trans (hb2.mono k1.size)
    have B2 := Prog.boxO hb2 B1
    clear c0 c1
    obtain ⟨c0, c1, hwl⟩ := id B2
    by_cases hfe : factsErr ps f = 0
    · rw [hfe]
      by_cases hl : ps.length = 0
      · have hl0 : (ps.length : Int) = 0 := by omega
        go_wp2_with fail
        refine (askBegun_c _).mono ?_
        rintro e W3 ⟨rfl, hb3⟩
        go_wp2_with fail
        go_ret
        exact ⟨rfl, k2.trans (hb3.mono k2.size)⟩
      · have hl0 : (ps.length : Int) ≠ 0 := by omega
        have hl5 : ps.length ≤ 5 := (Base.factsErr_zero hfe).1
        have hck := Prog.choose_c p ps.length W2 (by omega) hl5 hpr
        go_wp2_with fail
        refine hck.mono ?_
        rintro e W3 ⟨rfl, hb3⟩
        have hkl := Prog.chosen_lt p (n := ps.length) (by omega)
        generalize Prog.chosen p ps.length = k at *
        have k3 : Below w.heap.size w W3 := k2.trans (hb3.mono k2.size)
        have B3 := Prog.boxO hb3 B2
        clear c0 c1
        obtain ⟨c0, c1, hwl3⟩ := id B3
        go_wp2_with fail
        have HQ3 : Hid (∀ x, Below W3.heap.size W3 x → x.cell? ⟨w.heap.size, 0, none⟩ = some (.slice pa ps.length pc) ∧ x.cell? ⟨w.heap.size, 1, none⟩ = some (.slice ra rs.length rc)) := fun x hx => ⟨(cell_lasts hx hwl3).trans c0, (cell_lasts hx hwl3).trans c1⟩
        have har : 0 ≤ ps[k].arity ∧ ps[k].arity ≤ 2 := by
          have h := List.all_eq_true.1 (Base.factsErr_zero hfe).2.1 _ (List.getElem_mem hkl)
          simp [Base.predOk, Lat.within] at h
          exact h.2
        obtain ⟨A, hA⟩ : ∃ A : Nat, ps[k].arity = (A : Int) := ⟨ps[k].arity.toNat, by omega⟩
        have hA2 : A ≤ 2 := by omega
        obtain ⟨W4, hW4⟩ : ∃ W4, W3.alloc (.cells #[.int .i64 (k : Int), .slice none 0 0] 29) = W4 := ⟨_, rfl⟩
        have b34 : Below W3.heap.size W3 W4 := by rw [← hW4]; exact below_alloc _ _
        have x4 : aAt W4 W3.heap.size (.int .i64 (k : Int)) (.slice none 0 0) := by rw [← hW4]; exact World.alloc_heap_new W3 _
        rw [hW4]
        have HFS : Hid (f.length ≤ 125) := Base.facts_short hfe
        have HFE : Hid (factsErr ps f = 0) := hfe
        have HR0 : Hid (Fire.roundErr ps rs f = 0) := by show _ = _; unfold Fire.roundErr; simp [hpe, hfe]
        have HM1 : Hid (matchErr ps rs f ⟨(k : Int), varsL A⟩ = 0) := by
          show _ = _
          unfold matchErr
          rw [HR0.out, if_neg (by simp)]
          exact atom_ok hkl (by rw [vars_len, hA]) (vars_ok hA2)
        have HM2 : Hid (matchF ps rs f ⟨(k : Int), varsL A⟩ = ofP (k : Int) f) := by
          show _ = _
          unfold matchF
          rw [HM1.out, if_neg (by simp)]
          exact match_vars hA2
        clear hW4 c0 c1
        go_loopw [11] (fun i wr => ∃ (j : Nat) (u : Value), j ≤ A ∧ i = .int .i64 j ∧ Hid (aAt wr W3.heap.size (.int .i64 (k : Int)) u ∧ wr.ownsRow (W3.heap.size + 1) 48 2 u j (cellsT (varsL j)) ∧ Below W3.heap.size W3 wr)) (fun i _ => A - (intOf i).toNat)
        case atStart => exact ⟨0, _, Nat.zero_le _, rfl, x4, ⟨rfl, .inl ⟨rfl, rfl⟩⟩, b34⟩
        case round =>
          obtain ⟨j, u, hj, rfl, hin⟩ := hrel
          have hbr := hin.out.2.2
          have kr : Below w.heap.size w wr := k3.trans (hbr.mono k3.size)
          obtain ⟨d0, d1⟩ := HQ3.out wr hbr
          obtain ⟨pb, po, pc', hpv, hpb, p0, p1, p2⟩ := slice_cells (HP.out wr kr) hkl
          obtain ⟨rfl, rfl⟩ : pa = some ⟨pb, po, none⟩ ∧ pc = pc' := by simpa using hpv
          rw [hA] at p1
          obtain ⟨ac0, ac1, af1, hBA⟩ := a_cells hin.out.1
          have hkl' : (k : Int) < (ps.length : Int) := by omega
          by_cases hjl : j < A
          · have hj1 : (j : Int) < (A : Int) := by omega
            have hj2 : (j : Int) < 2 := by omega
            go_wp2_with fail
            obtain ⟨i0, hi0, hz0, hz1, hz2⟩ := info_parts infoTerm
            have HB1 : Hid (Below wr.heap.size wr (wr.drew.alloc (.cells #[.bool true, .int .i64 (j : Int)] 48))) := ((Below.refl _ _).drew).trans (below_alloc wr.drew _)
            have HB2 : Hid (Below wr.heap.size wr ((wr.drew.alloc (.cells #[.bool true, .int .i64 (j : Int)] 48)).alloc (.cells #[.bool true, .int .i64 (j : Int)] 48))) := HB1.out.alloc HB1.out.size _
            have acd : wr.drew.cell? ⟨W3.heap.size, 1, none⟩ = some u := ac1
            have ac1V : (wr.drew.alloc (.cells #[.bool true, .int .i64 (j : Int)] 48)).cell? ⟨W3.heap.size, 1, none⟩ = some u := (cell_lasts HB1.out hBA).trans ac1
            have ac2V : ((wr.drew.alloc (.cells #[.bool true, .int .i64 (j : Int)] 48)).alloc (.cells #[.bool true, .int .i64 (j : Int)] 48)).cell? ⟨W3.heap.size, 1, none⟩ = some u := (cell_lasts HB2.out hBA).trans ac1
            have HSE : Hid (((wr.drew.alloc (.cells #[.bool true, .int .i64 (j : Int)] 48)).alloc (.cells #[.bool true, .int .i64 (j : Int)] 48)).heap.size = wr.heap.size + 2) := by show _ = _; rw [World.size_alloc, World.size_alloc]; rfl
            have HSZ : Hid (W3.heap.size + 1 ≤ ((wr.drew.alloc (.cells #[.bool true, .int .i64 (j : Int)] 48)).alloc (.cells #[.bool true, .int .i64 (j : Int)] 48)).heap.size) := by show _ ≤ _; rw [HSE.out]; omega
            have HOV : Hid (((wr.drew.alloc (.cells #[.bool true, .int .i64 (j : Int)] 48)).alloc (.cells #[.bool true, .int .i64 (j : Int)] 48)).ownsRow (W3.heap.size + 1) 48 2 u j (cellsT (varsL j))) := own_lasts hin.out.2.1 HB2.out
            have HLT : Hid (∀ i, u.ownBlock = some i → W3.heap.size + 1 ≤ i) := fun i hi => (hin.out.2.1.lt i hi).1
            have HNC : Hid (∀ (i : Nat) (v : Value), [.bool true, .int .i64 (j : Int)][i]? = some v → ((wr.drew.alloc (.cells #[.bool true, .int .i64 (j : Int)] 48)).alloc (.cells #[.bool true, .int .i64 (j : Int)] 48)).cell? ((⟨wr.heap.size + 1, 0, none⟩ : Addr).add i) = some v) := two_cells
            have HQ9 : Hid (∀ y, ((wr.drew.alloc (.cells #[.bool true, .int .i64 (j : Int)] 48)).alloc (.cells #[.bool true, .int .i64 (j : Int)] 48)).grownBy y u.ownBlock → y.cell? ⟨W3.heap.size, 1, none⟩ = some u ∧ y.frozen? ⟨W3.heap.size, 1, none⟩ = false) := fun y hy => ⟨(World.cell?_of_block (a := ⟨W3.heap.size, 1, none⟩) (hy.block W3.heap.size (by rw [HSE.out]; omega) (fun e => by have := HLT.out _ e.symm; omega))).trans ac2V, (World.frozen?_of_block (a := ⟨W3.heap.size, 1, none⟩) (hy.block W3.heap.size (by rw [HSE.out]; omega) (fun e => by have := HLT.out _ e.symm; omega))).trans (((bcell HB2.out).2 _ _ hBA).trans af1)⟩
            have HNX : Hid (∀ (W9 : World) (g9 cap9 : Nat), ((wr.drew.alloc (.cells #[.bool true, .int .i64 (j : Int)] 48)).alloc (.cells #[.bool true, .int .i64 (j : Int)] 48)).grownBy W9 u.ownBlock → W9.ownsRow (W3.heap.size + 1) 48 2 (.slice (some ⟨g9, 0, none⟩) (j + 1) cap9) (j + 1) (cellsT (varsL j) ++ [.bool true, .int .i64 (j : Int)]) → Hid (aAt (W9.setCell ⟨W3.heap.size, 1, none⟩ (.slice (some ⟨g9, 0, none⟩) (j + 1) cap9)) W3.heap.size (.int .i64 (k : Int)) (.slice (some ⟨g9, 0, none⟩) (j + 1) cap9) ∧ (W9.setCell ⟨W3.heap.size, 1, none⟩ (.slice (some ⟨g9, 0, none⟩) (j + 1) cap9)).ownsRow (W3.heap.size + 1) 48 2 (.slice (some ⟨g9, 0, none⟩) (j + 1) cap9) (j + 1) (cellsT (varsL (j + 1))) ∧ Below W3.heap.size W3 (W9.setCell ⟨W3.heap.size, 1, none⟩ (.slice (some ⟨g9, 0, none⟩) (j + 1) cap9)))) := fun W9 g9 cap9 hgr9 hown9 => by
              have hq9 : aAt W9 W3.heap.size (.int .i64 (k : Int)) u := (hgr9.block W3.heap.size (by rw [HSE.out]; omega) (fun e => by have := HLT.out _ e.symm; omega)).trans ((HB2.out.block _ hBA).trans hin.out.1)
              have hb9 : Below W3.heap.size W3 W9 := (hbr.trans (HB2.out.mono hbr.size)).grown hgr9 (by rw [HSE.out]; omega) (fun i e => by have := HLT.out i e; omega)
              refine ⟨a_set hq9 _, own_set ?_ (by omega), hb9.setCell (p := ⟨W3.heap.size, 1, none⟩) (Nat.le_refl _) _⟩
              rw [vars_succ, cellsT_append]
              exact hown9
            have hsz1 : (wr.drew.alloc (.cells #[.bool true, .int .i64 (j : Int)] 48)).heap.size = wr.heap.size + 1 := by rw [World.size_alloc]; rfl
            refine wp_region_noPanic ?_
            refine wp_region_held_drew (S := (fun _ : World => True)) (by kernel_rfl) trivial (fun hHeld => ?_)
            refine wpAnyH_take (i := 0) (v := ?_) rfl (by kernel_rfl) (by kernel_rfl) (by kernel_rfl) (fun _ _ _ h => h) (Or.inl ⟨by rfl, ?_⟩) (by assumption) ?_
            rotate_left
            · (intro w hSw; go_simp; try with_reducible rfl)
            simp only [Act.put]
            refine wpAnyH_take (i := 2) (v := ?_) rfl (by kernel_rfl) (by kernel_rfl) (by kernel_rfl) (fun _ _ _ h => h) (Or.inl ⟨by rfl, ?_⟩) (by assumption) ?_
            rotate_left
            · (intro w hSw; go_simp; try with_reducible rfl)
            simp only [Act.put]
            refine wpAnyH_ready (rs := [1, 3]) (by kernel_rfl) (by simp) ?_
            refine AllReadyH.cons rfl (fun K hK => ?_) ?_
            · go_simp
              refine hK.out _ _ trivial (fun hHeld => ?_)
              clear hK K
              try simp only [Act.put, List.setIfInBounds_toArray, List.set_cons_zero, List.set_cons_succ]
              refine wpAnyH_ready (rs := [3]) (by kernel_rfl) (by simp) ?_
              refine AllReadyH.cons rfl (fun K hK => ?_) AllReadyH.nil
              go_simp
              refine (Roads.v_c _ _).mono ?_
              rintro e w' ⟨rfl, rfl⟩
              refine hK.out _ _ trivial (fun hHeld => ?_)
              clear hK K
              try simp only [Act.put, List.setIfInBounds_toArray, List.set_cons_zero, List.set_cons_succ]
              refine wpAnyH_ready (rs := [4]) (by kernel_rfl) (by simp) ?_
              refine AllReadyH.cons rfl (fun K hK => ?_) AllReadyH.nil
              go_simp
              refine hK.out _ _ trivial (fun hHeld => ?_)
              clear hK K
              try simp only [Act.put, List.setIfInBounds_toArray, List.set_cons_zero, List.set_cons_succ]
              refine wpAnyH_ready (rs := [5]) (by kernel_rfl) (by simp) ?_
              refine AllReadyH.cons rfl (fun K hK => ?_) AllReadyH.nil
              refine step_append_lies _ (by rfl) _ _ 27 (by rfl) (W3.heap.size + 1) 48 i0 (.agg #[.bool false, .int .i64 0]) 2 16 Tryz.underlying27 hi0 hz0 hz1 hz2 (by rfl) (by omega) u j (cellsT (varsL j)) (by rfl) HOV.out ⟨wr.heap.size + 1, 0, none⟩ 1 1 [.bool true, .int .i64 (j : Int)] (by rfl) (by rfl) HNC.out (by intro u hu; simp at hu; rcases hu with rfl | rfl <;> rfl) (by omega) (by unfold maxLen; omega) (by omega) HSZ.out (wr.heap.size + 2) HSE.out ?_
              intro g9 cap9 W9 hown9 hgrow9 hat9 hlt9
              have hgr9 : ((wr.drew.alloc (.cells #[.bool true, .int .i64 (j : Int)] 48)).alloc (.cells #[.bool true, .int .i64 (j : Int)] 48)).grownBy W9 u.ownBlock := hgrow9
              obtain ⟨n1, n2⟩ := HQ9.out W9 hgr9
              have HN9 := HNX.out W9 g9 cap9 hgr9 hown9
              refine hK.out _ _ trivial (fun hHeld => ?_)
              clear hK K
              try simp only [Act.put, List.setIfInBounds_toArray]
              refine wpAnyH_take (i := 6) (v := ?_) rfl (by kernel_rfl) (by kernel_rfl) (by kernel_rfl) (fun _ _ _ h => h) (Or.inl ⟨by rfl, ?_⟩) (by assumption) ?_
              rotate_left
              · (intro w hSw; go_simp; try with_reducible rfl)
              simp only [Act.put]
              refine wpAnyH_ready (rs := [7]) (by kernel_rfl) (by simp) ?_
              refine AllReadyH.cons rfl (fun K hK => ?_) AllReadyH.nil
              go_simp
              refine hK.out _ _ trivial (fun hHeld => ?_)
              clear hK K
              try simp only [Act.put, List.setIfInBounds_toArray, List.set_cons_zero, List.set_cons_succ]
              refine wpAnyH_done (by kernel_rfl) ?_ _
              refine NoPanic.normal ?_
              clear n1 n2 hown9 hgrow9 hgr9 hat9 hlt9 d0 d1 p0 p1 p2 ac0 ac1 af1 acd ac1V ac2V
              go_wp2_with fail
              go_roundw
              case rel => exact ⟨j + 1, _, by omega, by go_num, HN9⟩
              case measure => simp [intOf]; omega
            · refine AllReadyH.cons rfl (fun K hK => ?_) AllReadyH.nil
              go_simp
              refine (Roads.v_c _ _).mono ?_
              rintro e w' ⟨rfl, rfl⟩
              refine hK.out _ _ trivial (fun hHeld => ?_)
              clear hK K
              try simp only [Act.put, List.setIfInBounds_toArray, List.set_cons_zero, List.set_cons_succ]
              refine wpAnyH_ready (rs := [1, 4]) (by kernel_rfl) (by simp) ?_
              refine AllReadyH.cons rfl (fun K hK => ?_) ?_
              · go_simp
                refine hK.out _ _ trivial (fun hHeld => ?_)
                clear hK K
                try simp only [Act.put, List.setIfInBounds_toArray, List.set_cons_zero, List.set_cons_succ]
                refine wpAnyH_ready (rs := [4]) (by kernel_rfl) (by simp) ?_
                refine AllReadyH.cons rfl (fun K hK => ?_) AllReadyH.nil
                go_simp
                refine hK.out _ _ trivial (fun hHeld => ?_)
                clear hK K
                try simp only [Act.put, List.setIfInBounds_toArray, List.set_cons_zero, List.set_cons_succ]
                refine wpAnyH_ready (rs := [5]) (by kernel_rfl) (by simp) ?_
                refine AllReadyH.cons rfl (fun K hK => ?_) AllReadyH.nil
                refine step_append_lies _ (by rfl) _ _ 27 (by rfl) (W3.heap.size + 1) 48 i0 (.agg #[.bool false, .int .i64 0]) 2 16 Tryz.underlying27 hi0 hz0 hz1 hz2 (by rfl) (by omega) u j (cellsT (varsL j)) (by rfl) HOV.out ⟨wr.heap.size + 1, 0, none⟩ 1 1 [.bool true, .int .i64 (j : Int)] (by rfl) (by rfl) HNC.out (by intro u hu; simp at hu; rcases hu with rfl | rfl <;> rfl) (by omega) (by unfold maxLen; omega) (by omega) HSZ.out (wr.heap.size + 2) HSE.out ?_
                intro g9 cap9 W9 hown9 hgrow9 hat9 hlt9
                have hgr9 : ((wr.drew.alloc (.cells #[.bool true, .int .i64 (j : Int)] 48)).alloc (.cells #[.bool true, .int .i64 (j : Int)] 48)).grownBy W9 u.ownBlock := hgrow9
                obtain ⟨n1, n2⟩ := HQ9.out W9 hgr9
                have HN9 := HNX.out W9 g9 cap9 hgr9 hown9
                refine hK.out _ _ trivial (fun hHeld => ?_)
                clear hK K
                try simp only [Act.put, List.setIfInBounds_toArray]
                refine wpAnyH_take (i := 6) (v := ?_) rfl (by kernel_rfl) (by kernel_rfl) (by kernel_rfl) (fun _ _ _ h => h) (Or.inl ⟨by rfl, ?_⟩) (by assumption) ?_
                rotate_left
                · (intro w hSw; go_simp; try with_reducible rfl)
                simp only [Act.put]
                refine wpAnyH_ready (rs := [7]) (by kernel_rfl) (by simp) ?_
                refine AllReadyH.cons rfl (fun K hK => ?_) AllReadyH.nil
                go_simp
                refine hK.out _ _ trivial (fun hHeld => ?_)
                clear hK K
                try simp only [Act.put, List.setIfInBounds_toArray, List.set_cons_zero, List.set_cons_succ]
                refine wpAnyH_done (by kernel_rfl) ?_ _
                refine NoPanic.normal ?_
                clear n1 n2 hown9 hgrow9 hgr9 hat9 hlt9 d0 d1 p0 p1 p2 ac0 ac1 af1 acd ac1V ac2V
                go_wp2_with fail
                go_roundw
                case rel => exact ⟨j + 1, _, by omega, by go_num, HN9⟩
                case measure => simp [intOf]; omega
              · refine AllReadyH.cons rfl (fun K hK => ?_) AllReadyH.nil
                go_simp
                refine hK.out _ _ trivial (fun hHeld => ?_)
                clear hK K
                try simp only [Act.put, List.setIfInBounds_toArray, List.set_cons_zero, List.set_cons_succ]
                refine wpAnyH_ready (rs := [1]) (by kernel_rfl) (by simp) ?_
                refine AllReadyH.cons rfl (fun K hK => ?_) AllReadyH.nil
                go_simp
                refine hK.out _ _ trivial (fun hHeld => ?_)
                clear hK K
                try simp only [Act.put, List.setIfInBounds_toArray, List.set_cons_zero, List.set_cons_succ]
                refine wpAnyH_ready (rs := [5]) (by kernel_rfl) (by simp) ?_
                refine AllReadyH.cons rfl (fun K hK => ?_) AllReadyH.nil
                refine step_append_lies _ (by rfl) _ _ 27 (by rfl) (W3.heap.size + 1) 48 i0 (.agg #[.bool false, .int .i64 0]) 2 16 Tryz.underlying27 hi0 hz0 hz1 hz2 (by rfl) (by omega) u j (cellsT (varsL j)) (by rfl) HOV.out ⟨wr.heap.size + 1, 0, none⟩ 1 1 [.bool true, .int .i64 (j : Int)] (by rfl) (by rfl) HNC.out (by intro u hu; simp at hu; rcases hu with rfl | rfl <;> rfl) (by omega) (by unfold maxLen; omega) (by omega) HSZ.out (wr.heap.size + 2) HSE.out ?_
                intro g9 cap9 W9 hown9 hgrow9 hat9 hlt9
                have hgr9 : ((wr.drew.alloc (.cells #[.bool true, .int .i64 (j : Int)] 48)).alloc (.cells #[.bool true, .int .i64 (j : Int)] 48)).grownBy W9 u.ownBlock := hgrow9
                obtain ⟨n1, n2⟩ := HQ9.out W9 hgr9
                have HN9 := HNX.out W9 g9 cap9 hgr9 hown9
                refine hK.out _ _ trivial (fun hHeld => ?_)
                clear hK K
                try simp only [Act.put, List.setIfInBounds_toArray]
                refine wpAnyH_take (i := 6) (v := ?_) rfl (by kernel_rfl) (by kernel_rfl) (by kernel_rfl) (fun _ _ _ h => h) (Or.inl ⟨by rfl, ?_⟩) (by assumption) ?_
                rotate_left
                · (intro w hSw; go_simp; try with_reducible rfl)
                simp only [Act.put]
                refine wpAnyH_ready (rs := [7]) (by kernel_rfl) (by simp) ?_
                refine AllReadyH.cons rfl (fun K hK => ?_) AllReadyH.nil
                go_simp
                refine hK.out _ _ trivial (fun hHeld => ?_)
                clear hK K
                try simp only [Act.put, List.setIfInBounds_toArray, List.set_cons_zero, List.set_cons_succ]
                refine wpAnyH_done (by kernel_rfl) ?_ _
                refine NoPanic.normal ?_
                clear n1 n2 hown9 hgrow9 hgr9 hat9 hlt9 d0 d1 p0 p1 p2 ac0 ac1 af1 acd ac1V ac2V
                go_wp2_with fail
                go_roundw
                case rel => exact ⟨j + 1, _, by omega, by go_num, HN9⟩
                case measure => simp [intOf]; omega
          · obtain rfl : j = A := by omega
            have HTA : Hid (termsAt wr u (varsL j)) := termsAt_of (by rw [vars_len]; exact hin.out.2.1) (by rw [vars_len]; omega)
            have HAT := HDM.out wr kr (k : Int) u _ HTA.out
            rw [HM1.out, HM2.out] at HAT
            go_wp2_with fail
            refine HAT.mono ?_
            rintro e W5 ⟨u5, rfl, hs5, hb5⟩
            have k5 : Below w.heap.size w W5 := kr.trans (hb5.mono kr.size)
            have q35 : Below W3.heap.size W3 W5 := hbr.trans (hb5.mono hbr.size)
            have HFM : Hid (∀ x, Below W5.heap.size W5 x → factsAt x (.slice fa f.length fc) f) := fun x hx => HF.out x (k5.trans (hx.mono k5.size))
            obtain ⟨ua, uc, rfl, _⟩ := id hs5
            have HAB : Hid (∀ x, Below W5.heap.size W5 x → x.cell? ⟨W3.heap.size, 0, none⟩ = some (.int .i64 (k : Int)) ∧ x.cell? ⟨W3.heap.size, 1, none⟩ = some u) := fun x hx => ⟨(cell_lasts (hb5.trans (hx.mono hb5.size)) hBA).trans ac0, (cell_lasts (hb5.trans (hx.mono hb5.size)) hBA).trans ac1⟩
            have HOW : Hid (W5.ownsRow (W3.heap.size + 1) 48 2 u j (cellsT (varsL j))) := own_lasts hin.out.2.1 hb5
            clear HAT d0 d1 p0 p1 p2 ac0 ac1 hs5
            go_wp2_with fail
            go_loopw [14, 15] (fun o i wr => ∃ (i' : Nat), i' ≤ f.length ∧ i = .int .i64 i' ∧ o = .int .i64 ((ofP (k : Int) (f.take i')).length : Int) ∧ wr = W5) (fun _ i _ => f.length - (intOf i).toNat)
            case atStart => exact ⟨0, Nat.zero_le _, rfl, rfl, rfl⟩
            case round =>
              obtain ⟨i', hi, rfl, rfl, rfl⟩ := hrel
              by_cases hil : i' < f.length
              · obtain ⟨fb, fo, fc', hfv, hfb, x0, x1, x2, x3⟩ := slice_cells (HFM.out _ (Below.refl _ _)) hil
                obtain ⟨rfl, rfl⟩ : fa = some ⟨fb, fo, none⟩ ∧ fc = fc' := by simpa using hfv
                have hi1 : (i' : Int) < (f.length : Int) := by omega
                have HT1 : Hid (ofP (k : Int) (f.take (i' + 1)) = ofP (k : Int) (f.take i') ++ if f[i'].pred == (k : Int) then [f[i']] else []) := ofP_take hil
                have HFL : Hid ((ofP (k : Int) (f.take i')).length ≤ 125) := by
                  have h1 : (ofP (k : Int) (f.take i')).length ≤ (f.take i').length := List.length_filter_le _ _
                  rw [List.length_take] at h1
                  have := HFS.out
                  show _ ≤ _
                  omega
                have y0 : wr.cell? ⟨fb, fo + i' * 4, none⟩ = some (.int .i64 f[i'].pred) := x0
                clear hfv x0 x1 x2 x3
                generalize f[i'] = y at *
                generalize ofP (k : Int) (f.take i') = Q at *
                cases hyp : (y.pred == (k : Int))
                · rw [hyp, if_neg (by simp), List.append_nil] at HT1
                  go_wp2_with fail
                  go_roundw
                  case rel => exact ⟨i' + 1, by omega, by go_num, by rw [HT1.out], trivial⟩
                  case measure => simp [intOf]; omega
                · rw [hyp, if_pos rfl] at HT1
                  have hQ := HFL.out
                  go_wp2_with fail
                  go_roundw
                  case rel => exact ⟨i' + 1, by omega, by go_num, by rw [HT1.out]; simp, trivial⟩
                  case measure => simp [intOf]; omega
              · obtain rfl : i' = f.length := by omega
                rw [List.take_length]
                obtain ⟨ac0, ac1⟩ := HAB.out _ (Below.refl _ _)
                obtain ⟨ga, gc, rfl⟩ : ∃ ga gc, u = .slice ga j gc := by
                  rcases HOW.out.2 with ⟨rfl, rfl⟩ | ⟨g, cap, cur, rfl, _⟩
                  · exact ⟨none, 0, rfl⟩
                  · exact ⟨_, _, rfl⟩
                by_cases hj0 : j = 0
                · subst hj0
                  go_wp2_with fail
                  refine (askBegun_c _).mono ?_
                  rintro e W6 ⟨rfl, hb6⟩
                  go_wp2_with fail
                  go_ret
                  exact ⟨rfl, k5.trans (hb6.mono k5.size)⟩
                · have hj0' : (j : Int) ≠ 0 := by omega
                  have hcn := Prog.choose_c n 5 wr (by omega) (by omega) hnr
                  go_wp2_with fail
                  refine hcn.mono ?_
                  rintro e W6 ⟨rfl, hb6⟩
                  have hxl := Prog.chosen_lt n (n := 5) (by omega)
                  generalize Prog.chosen n 5 = z at *
                  clear ac0 ac1
                  obtain ⟨ac0, ac1⟩ := HAB.out _ hb6
                  go_wp2_with fail
                  obtain ⟨g, rfl⟩ : ∃ g, ga = some ⟨g, 0, none⟩ := by
                    rcases HOW.out.2 with ⟨h1, h2⟩ | ⟨g, cap, cur, h1, _⟩
                    · omega
                    · exact ⟨g, by simpa using (Value.slice.inj h1).1⟩
                  have hgb : W3.heap.size < g := (HOW.out.lt g rfl).1
                  have hBW5 : W3.heap.size < W6.heap.size := Nat.lt_of_lt_of_le hBA (Nat.le_trans hb5.size hb6.size)
                  have HO6 : Hid (W6.ownsRow (W3.heap.size + 1) 48 2 (.slice (some ⟨g, 0, none⟩) j gc) j (cellsT (varsL j))) := own_lasts HOW.out hb6
                  have hz4 : (z : Int) ≤ 4 := by omega
                  have HR1 : Hid (W6.cell? ⟨g, 0, none⟩ = some (.bool true) ∧ W6.cell? ⟨g, 1, none⟩ = some (.int .i64 0) ∧ W6.frozen? ⟨g, 0, none⟩ = false ∧ W6.frozen? ⟨g, 1, none⟩ = false ∧ g < W6.heap.size) := own_two HO6.out (by omega)
                  have hgW6 : g < W6.heap.size := HR1.out.2.2.2.2
                  have KEEP : Hid (∀ x, Below W6.heap.size W6 x → (fun x : World => x.cell? ⟨W3.heap.size, 1, none⟩ = some (.slice (some ⟨g, 0, none⟩) j gc)) x) := fun x hx => (HAB.out x (hb6.trans (hx.mono hb6.size))).2
                  have KEEPb : Hid (∀ x, Below W6.heap.size W6 x → ∀ u v, (fun x : World => x.cell? ⟨W3.heap.size, 1, none⟩ = some (.slice (some ⟨g, 0, none⟩) j gc)) ((x.setCell ⟨g, 0, none⟩ u).setCell ⟨g, 1, none⟩ v)) := fun x hx u v => (cell_block (by omega)).trans ((cell_block (by omega)).trans (KEEP.out x hx))
                  have KX : Hid (∀ x, Below W6.heap.size W6 x → x.cell? ⟨g, 0, none⟩ = some (.bool true) ∧ x.cell? ⟨g, 1, none⟩ = some (.int .i64 0) ∧ x.frozen? ⟨g, 0, none⟩ = false ∧ x.frozen? ⟨g, 1, none⟩ = false) := fun x hx => ⟨(cell_lasts hx hgW6).trans HR1.out.1, (cell_lasts hx hgW6).trans HR1.out.2.1, ((bcell hx).2 _ _ hgW6).trans HR1.out.2.2.1, ((bcell hx).2 _ _ hgW6).trans HR1.out.2.2.2.1⟩
                  have h0j : (0 : Int) < (j : Int) := by omega
                  have h0n : 0 < j := by omega
                  go_region_held3 (fun x : World => x.cell? ⟨W3.heap.size, 1, none⟩ = some (.slice (some ⟨g, 0, none⟩) j gc))
                    (first | (refine KEEP.out _ ?_; (first | exact Below.refl _ _ | exact (Below.refl _ _).drew | exact hk)) | exact KEEPb.out _ hk _ _)
                    (first | (go_at_call 18; refine (Roads.c_c _ _).mono ?_; rintro e w7 ⟨rfl, hw7⟩; have hk : Below W6.heap.size W6 w7 := (by rw [hw7]; exact ((Below.refl _ _).drew).trans (below_alloc W6.drew _)); clear hw7; obtain ⟨t0, t1, t0f, t1f⟩ := KX.out _ hk))
                  obtain ⟨W8, hW8⟩ : ∃ W8, (w7.setCell ⟨g, 0, none⟩ (.bool false)).setCell ⟨g, 1, none⟩ (.int .i64 (z : Int)) = W8 := ⟨_, rfl⟩
                  have k38 : Below W3.heap.size W3 W8 := by
                    rw [← hW8]
                    have h := (q35.trans (hb6.mono q35.size)).trans (hk.mono (q35.trans (hb6.mono q35.size)).size)
                    exact (h.setCell (p := ⟨g, 0, none⟩) (show W3.heap.size ≤ g by omega) _).setCell (p := ⟨g, 1, none⟩) (show W3.heap.size ≤ g by omega) _
                  have k8 : Below w.heap.size w W8 := k3.trans (k38.mono k3.size)
                  have HO8 : Hid (W8.ownsRow (W3.heap.size + 1) 48 2 (.slice (some ⟨g, 0, none⟩) j gc) j (cellsT (constL j z))) := by
                    rw [← hW8]
                    exact own_first (t := ⟨false, (z : Int)⟩) (own_lasts HO6.out hk) (by intro e; have := congrArg List.length e; simp at this; omega)
                  have HB8 : Hid (W8.cell? ⟨W3.heap.size, 0, none⟩ = some (.int .i64 (k : Int)) ∧ W8.cell? ⟨W3.heap.size, 1, none⟩ = some (.slice (some ⟨g, 0, none⟩) j gc)) := by
                    rw [← hW8]
                    have h := HAB.out _ (hb6.trans (hk.mono hb6.size))
                    exact ⟨(cell_block (by omega)).trans ((cell_block (by omega)).trans h.1), (cell_block (by omega)).trans ((cell_block (by omega)).trans h.2)⟩
                  obtain ⟨d0, d1⟩ := HQ3.out W8 k38
                  obtain ⟨ac0, ac1⟩ := HB8.out
                  have HT8 : Hid (termsAt W8 (.slice (some ⟨g, 0, none⟩) j gc) (constL j z)) := termsAt_of (by rw [const_len]; exact HO8.out) (by rw [const_len]; omega)
                  have HE8 : Hid (matchErr ps rs f ⟨(k : Int), constL j z⟩ = 0) := by
                    show _ = _
                    unfold matchErr
                    rw [HR0.out, if_neg (by simp)]
                    exact atom_ok hkl (by rw [const_len, hA]) (const_ok hA2 ⟨by omega, hz4⟩)
                  have HF8 : Hid (matchF ps rs f ⟨(k : Int), constL j z⟩ = matchL f ⟨(k : Int), constL j z⟩) := by
                    show _ = _
                    unfold matchF
                    rw [HE8.out, if_neg (by simp)]
                  have HAT8 := HDM.out W8 k8 (k : Int) _ _ HT8.out
                  rw [HE8.out, HF8.out] at HAT8
                  have HCM : Hid (∀ x ∈ matchL f ⟨(k : Int), constL j z⟩, x.a = (z : Int) ∧ x.pred = (k : Int)) := const_mem (by omega) hA2
                  have HLE : Hid ((matchL f ⟨(k : Int), constL j z⟩).length ≤ (ofP (k : Int) f).length) := match_less
                  have HUN : Hid (Base.underOf ps (matchL f ⟨(k : Int), constL j z⟩) f = (true, 0)) := by
                    show _ = _
                    rw [Round.underOf_right (match_right HFE.out) HFE.out, match_under HFE.out]
                  rw [hW8]
                  clear hW8 t0 t1 t0f t1f
                  generalize matchL f ⟨(k : Int), constL j z⟩ = M at *
                  go_wp2_with fail
                  refine HAT8.mono ?_
                  rintro e W9 ⟨u9, rfl, hs9, hb9⟩
                  have k9 : Below w.heap.size w W9 := k8.trans (hb9.mono k8.size)
                  have k39 : Below W3.heap.size W3 W9 := k38.trans (hb9.mono k38.size)
                  have HUC := Base.Under_c W9 _ u9 _ ps M f (HP.out W9 k9) hs9 (HF.out W9 k9)
                  rw [HUN.out] at HUC
                  have HFM9 : Hid (∀ x, Below W9.heap.size W9 x → factsAt x u9 M) := fun x hx => factsAt.lasts hx hs9
                  obtain ⟨ma, mc, rfl, _⟩ := id hs9
                  clear d0 d1 ac0 ac1 HAT8 hs9
                  obtain ⟨d0, d1⟩ := HQ3.out W9 k39
                  go_wp2_with fail
                  refine HUC.mono ?_
                  rintro e W10 ⟨rfl, hb10⟩
                  have k10 : Below w.heap.size w W10 := k9.trans (hb10.mono k9.size)
                  clear HUC d0 d1
                  have hMl : M.length ≤ 125 := by
                    have h1 := HLE.out
                    have h2 : (ofP (k : Int) f).length ≤ f.length := List.length_filter_le _ _
                    have h3 := HFS.out
                    omega
                  generalize (ofP (k : Int) f) = O at *
                  have HB10 : Hid (Below W9.heap.size W9 W10) := hb10
                  go_wp2_with fail
                  go_loopw [21] (fun i wr => ∃ (q : Nat), q ≤ M.length ∧ i = .int .i64 q ∧ wr = W10) (fun i _ => M.length - (intOf i).toNat)
                  case atStart => exact ⟨0, Nat.zero_le _, rfl, rfl⟩
                  case round =>
                    obtain ⟨q, hq, rfl, rfl⟩ := hrel
                    by_cases hql : q < M.length
                    · obtain ⟨mb, mo, mc', hmv, hmb, x0, x1, x2, x3⟩ := slice_cells (HFM9.out _ HB10.out) hql
                      obtain ⟨rfl, rfl⟩ : ma = some ⟨mb, mo, none⟩ ∧ mc = mc' := by simpa using hmv
                      have hq1 : (q : Int) < (M.length : Int) := by omega
                      have hcm := HCM.out _ (List.getElem_mem hql)
                      have y0 : wr.cell? ⟨mb, mo + q * 4, none⟩ = some (.int .i64 (k : Int)) := by rw [x0, hcm.2]
                      have y1 : wr.cell? ⟨mb, mo + q * 4 + 1, none⟩ = some (.int .i64 (z : Int)) := by rw [x1, hcm.1]
                      clear hmv x0 x1 x2 x3 hcm
                      go_wp2_with fail
                      go_roundw
                      case rel => exact ⟨q + 1, by omega, by go_num, trivial⟩
                      case measure => simp [intOf]; omega
                    · obtain rfl : q = M.length := by omega
                      have hle : (M.length : Int) ≤ (O.length : Int) := by have := HLE.out; omega
                      go_wp2_with fail
                      refine (askBegun_c _).mono ?_
                      rintro e W11 ⟨rfl, hb11⟩
                      go_wp2_with fail
                      go_ret
                      exact ⟨rfl, k10.trans (hb11.mono k10.size)⟩
    · have hfe' : factsErr ps f ≠ 0 := hfe
      go_wp2_with fail
      refine (askBegun_c _).mono ?_
      rintro e W3 ⟨rfl, hb3⟩
      go_wp2_with fail
      go_ret
      exact ⟨rfl, k2.trans (hb3.mono k2.size)⟩
  · have hpe' : progErr ps rs ≠ 0 := hpe
    go_wp2_with fail
    refine (askBegun_c _).mono ?_
    rintro e W3 ⟨rfl, hb3⟩
    go_wp2_with fail
    go_ret
    exact ⟨rfl, k1.trans (hb3.mono k1.size)⟩

set_option maxRecDepth 100000 in
theorem lawTrue_lifted (os : Os) (started : os.Started) (H : Type) (enc : TypeId × Value → H) :
    ReturnsInHanded {} Tryz.checked os 5 .any (Rows.askTrueSpec.pre6 enc Tryz.prog Tryz.f5 Rows.askTrueRow.domain false) (Rows.askTrueSpec.post enc Tryz.prog Tryz.f5 false true false false) := by
  refine Kit.lifted_of (C := Tryz.checked) (t := 4) (by kernel_rfl) started (by kernel_rfl) Tryz.func5
    (ChangeSpec.witness6 (enc := enc) (C := Tryz.checked) false ⟨#[], #[.agg #[.slice none 0 0, .slice none 0 0], .slice none 0 0, .int .i64 0, .int .i64 0], []⟩ 8 (by kernel_rfl) (by kernel_rfl) (by kernel_rfl) (by kernel_rfl))
    (by kernel_rfl) (by kernel_rfl) (by kernel_rfl) Tryz.underlying4 rfl ?_ ?_
  · intro ds hds
    rw [show Tryz.f5.params.toList.length = 4 by kernel_rfl] at hds
    match ds, hds with
    | [d0, d1, d2, d3], _ => rfl
  · intro W base args ds ps hval0 hA0 hsz0
    have hval : ∀ (j : Nat) t v, Tryz.f5.params[j]? = some t → args[j]? = some v → Value.okWide Tryz.prog W .any base t v := hval0
    have hA : DataW.TrodAll enc Tryz.prog W 0 (fun _ => true) true Tryz.f5.params.toList args.toList ds ps := hA0
    have hsz : (DataW.weightsEach Tryz.prog (Tryz.f5.params.toList ++ []) (ds ++ [])).all (· ≤ reachBytes) = true := hsz0
    rw [Tryz.params5] at hA hval hsz
    obtain ⟨v0, vs0, d0, ds0, p0, q0, hargs, rfl, rfl, h0, r0⟩ := trodAll_cons hA
    obtain ⟨v1, vs1, d1, ds1, p1, q1, rfl, rfl, rfl, h1, r1⟩ := trodAll_cons r0
    obtain ⟨v2, vs2, d2, ds2, p2, q2, rfl, rfl, rfl, h2, r2⟩ := trodAll_cons r1
    obtain ⟨v3, vs3, d3, ds3, p3, q3, rfl, rfl, rfl, h3, r3⟩ := trodAll_cons r2
    obtain ⟨rfl, rfl, rfl⟩ := trodAll_nil r3
    obtain rfl : args = #[v0, v1, v2, v3] := by cases args; simp_all
    have hL := Open.light_all hsz
    simp only [List.append_nil, DataW.weightsEach] at hL
    obtain ⟨n0, t0⟩ := Open.trod_one h0
    obtain ⟨n1, t1⟩ := Open.trod_one h1
    obtain ⟨n2, t2⟩ := Open.trod_one h2
    obtain ⟨n3, t3⟩ := Open.trod_one h3
    obtain ⟨pv, rv, ps, rs, e0, hp, hn, hr⟩ := Open.prog_of t0 (Open.light_left hL)
    obtain rfl := Open.agg_of Tryz.underlying25 (hval 0 25 v0 rfl rfl) e0
    obtain ⟨fv1, f1, e1, hf1, _⟩ := Open.facts_of t1 (Open.light_left (Open.light_right hL))
    obtain rfl := Open.slice_of Tryz.underlying26 (hval 1 26 v1 rfl rfl) e1
    obtain ⟨x2, e2, _, hs2⟩ := DataW.trod_int Tryz.underlying3 t2
    obtain rfl := Open.int_of Tryz.underlying3 (hval 2 3 v2 rfl rfl) e2
    obtain ⟨x3, e3, _, hs3⟩ := DataW.trod_int Tryz.underlying3 t3
    obtain rfl := Open.int_of Tryz.underlying3 (hval 3 3 v3 rfl rfl) e3
    exact lawTrue_walk W pv rv _ x2 x3 ps rs f1 hp hr hn hf1 (Prog.wf_range hs2) (Prog.wf_range hs3)
end Go.Proofs.YtlfccloaoopadafGreat.Ask
namespace Go.Proofs.YtlfccloaoopadafGreat
/-- THE STATEMENT -/
theorem askTrue_proved : Rows.AskTrueSaid :=
  OpenClaim.holds_of_wide 5 Tryz.f5 rfl rfl rfl rfl rfl rfl rfl ⟨rfl, rfl, rfl, rfl, rfl⟩ rfl rfl rfl rfl rfl (by kernel_rfl) Tryz.func5 (by kernel_rfl)
    (of_decide_eq_true (by kernel_rfl)) (by unfold Func.isWrapper; first | (rw [if_pos (by decide +kernel)]; kernel_rfl) | (rw [if_neg (by decide +kernel)]; exact ⟨rfl, rfl⟩))
    (fun os started H enc _ => Ask.lawTrue_lifted os started H enc)
#print axioms askTrue_proved
end Go.Proofs.YtlfccloaoopadafGreat
