/-
  What is proved: for every program and predicate: Only of package ask answers just what the document's own answers, errors too, and that is what the whole Model has of it; no condition.
-/
import Derived.Test.YtlfccloaoopadafGreatG26
import Derived.Test.YtlfccloaoopadafGreatH1
import Derived.Test.YtlfccloaoopadafGreatG29
import Derived.Test.YtlfccloaoopadafGreatG30
import Derived.Test.YtlfccloaoopadafGreatG31
import Derived.Test.YtlfccloaoopadafGreatG5
import Derived.Test.YtlfccloaoopadafGreatG8
namespace Go.Proofs.YtlfccloaoopadafGreat.Ask
open Go.ChangeShapes Go.WideShapes Go.ChangeAt Go.RowKit
open Base (factsErr cellsF own_lasts piece_one)
open Prog (progErr small needsErr slice_cells)
open Naive (modelL)

set_option maxRecDepth 100000 in
set_option maxHeartbeats 8000000 in
theorem lawOnly_walk (w : World) (pv rv : Value) (p : Int) (ps : List Prd) (rs : List Rul) (hp : predsAt w pv ps) (hr : rulesAt w rv rs) (hn : small ps) :
    Calls Tryz.prog 4 #[.agg #[pv, rv], .int .i64 p] w fun e w' => e = .returned (.bool true) ∧ Below w.heap.size w w' := by
  have HDO : Hid (∀ x, Below w.heap.size w x → Calls Tryz.prog 10 #[.agg #[pv, rv], .int .i64 p] x fun e w' => ∃ u, e = .returned (.tuple #[u, .int .i64 (needsErr ps rs p)]) ∧ factsAt w' u (onlyF ps rs p) ∧ Below x.heap.size x w') := fun x hx => devOnly_c x pv rv ps rs p (predsAt.lasts hx hp) (rulesAt.lasts hx hr) hn
  have HCP : Hid (∀ x, Below w.heap.size w x → Calls Tryz.prog 11 #[.agg #[pv, rv]] x fun e w' => e = .returned (.int .i64 (progErr ps rs)) ∧ Below x.heap.size x w') := fun x hx => Prog.checkProg_c x pv rv ps rs (predsAt.lasts hx hp) (rulesAt.lasts hx hr) hn
  have HOO : Hid (needsErr ps rs p = 0 → ∀ x, Below w.heap.size w x → Calls Tryz.prog 12 #[.agg #[pv, rv], .int .i64 p] x fun e w' => ∃ u, e = .returned u ∧ factsAt w' u (onlyF ps rs p) ∧ Below x.heap.size x w') := fun h x hx => onlyOf_c x pv rv ps rs p (predsAt.lasts hx hp) (rulesAt.lasts hx hr) h
  have HMO : Hid (progErr ps rs = 0 → ∀ x, Below w.heap.size w x → Calls Tryz.prog 13 #[.agg #[pv, rv]] x fun e w' => ∃ u, e = .returned u ∧ factsAt w' u (modelL ps rs) ∧ Below x.heap.size x w') := fun h x hx => Naive.modelOf_c x pv rv ps rs (predsAt.lasts hx hp) (rulesAt.lasts hx hr) h
  obtain ⟨pa, pc, rfl, _⟩ := hp
  obtain ⟨ra, rc, rfl, _⟩ := hr
  have HNO : Hid (needsErr ps rs p ≠ 0 → onlyF ps rs p = []) := fun h => by rw [onlyF, if_pos h]
  have HYES : Hid (needsErr ps rs p = 0 → onlyF ps rs p = (modelL ps rs).filter fun x => x.pred == p) := fun h => by rw [onlyF, if_neg (by rw [h]; simp)]
  generalize hO : onlyF ps rs p = O at *
  clear hO
  have HEND : Hid (∀ (W1 W x : World) (ua va za : Option Addr) (uc vc zc : Nat), Below w.heap.size w W → (∀ y, Below W.heap.size W y → factsAt y (.slice ua O.length uc) O ∧ factsAt y (.slice va O.length vc) O ∧ factsAt y (.slice za O.length zc) O) → Below W.heap.size W x → (Calls Tryz.prog 9 #[.slice ua O.length uc, .slice va O.length vc] x fun e w' => e = .returned (.bool true) ∧ Below x.heap.size x w') ∧ (Calls Tryz.prog 9 #[.slice ua O.length uc, .slice za O.length zc] x fun e w' => e = .returned (.bool true) ∧ Below x.heap.size x w')) := fun W1 W x ua va za uc vc zc _ hf hx => by
    obtain ⟨f1, f2, f3⟩ := hf x hx
    have h1 := Base.sameFacts_c x _ _ O O f1 f2
    have h2 := Base.sameFacts_c x _ _ O O f1 f3
    rw [decide_eq_true rfl] at h1 h2
    exact ⟨h1, h2⟩
  go_enter Tryz.func4, Tryz.ntmps4
  go_wp2_with fail
  refine (HDO.out _ (below_alloc _ _)).mono ?_
  rintro e W1 ⟨u1, rfl, hs1, hb1⟩
  have k1 : Below w.heap.size w W1 := below_trans (below_alloc _ _) hb1
  have B1 := Prog.boxL hb1
  obtain ⟨c0, c1, _⟩ := id B1
  have HS1 : Hid (∀ x, Below W1.heap.size W1 x → factsAt x u1 O) := fun x hx => factsAt.lasts hx hs1
  obtain ⟨ua, uc, rfl, _⟩ := hs1
  clear hb1
  go_wp2_with fail
  refine (HCP.out _ k1).mono ?_
  rintro e W2 ⟨rfl, hb2⟩
  have k2 : Below w.heap.size w W2 := k1.trans (hb2.mono k1.size)
  have B2 := Prog.boxO hb2 B1
  clear c0 c1
  obtain ⟨c0, c1, hwl⟩ := id B2
  by_cases hpe : progErr ps rs = 0
  · by_cases hrg : 0 ≤ p ∧ p < (ps.length : Int)
    · have hne : needsErr ps rs p = 0 := by rw [needsErr, if_neg (by rw [hpe]; simp), if_neg (by omega)]
      have HEQ : Hid (O = (modelL ps rs).filter fun x => x.pred == p) := HYES.out hne
      have HT := HOO.out hne W2 k2
      have HM := HMO.out hpe
      have HMS : Hid ((modelL ps rs).length ≤ 125) := Base.facts_short (Naive.right_parts (Naive.model_right hpe _)).2
      obtain ⟨hp0, hp1⟩ := hrg
      have hp0' : ¬ p < 0 := by omega
      have hp1' : ¬ (ps.length : Int) ≤ p := by omega
      rw [hpe, hne]
      clear hpe hne
      go_wp2_with fail
      refine HT.mono ?_
      rintro e W3 ⟨u3, rfl, hs3, hb3⟩
      have k3 : Below w.heap.size w W3 := k2.trans (hb3.mono k2.size)
      have HS3 : Hid (∀ x, Below W3.heap.size W3 x → factsAt x u3 O) := fun x hx => factsAt.lasts hx hs3
      obtain ⟨va, vc, rfl, _⟩ := hs3
      clear c0 c1
      obtain ⟨c0, c1, _⟩ := Prog.boxO hb3 B2
      have HM3 := HM W3 k3
      go_wp2_with fail
      refine HM3.mono ?_
      rintro e W4 ⟨u4, rfl, hs4, hb4⟩
      have k4 : Below w.heap.size w W4 := k3.trans (hb4.mono k3.size)
      generalize modelL ps rs = M at *
      have HFM : Hid (∀ x, Below W4.heap.size W4 x → factsAt x u4 M) := fun x hx => factsAt.lasts hx hs4
      obtain ⟨ma, mc, rfl, _⟩ := id hs4
      have hM : M.length ≤ 125 := HMS.out
      clear c0 c1 HT HM HM3 hs4
      go_wp2_with fail
      go_loopw [9, 11] (fun o i wr => ∃ (k : Nat) (u : Value), u = o ∧ k ≤ M.length ∧ i = .int .i64 k ∧ wr.ownsRow W4.heap.size 41 4 u ((M.take k).filter fun x => x.pred == p).length (cellsF ((M.take k).filter fun x => x.pred == p)) ∧ Below W4.heap.size W4 wr) (fun _ i _ => M.length - (intOf i).toNat)
      case atStart => exact ⟨0, _, rfl, Nat.zero_le _, rfl, ⟨rfl, .inl ⟨rfl, rfl⟩⟩, Below.refl _ _⟩
      case round =>
        obtain ⟨k, u, rfl, hk, rfl, hown, hbq⟩ := hrel
        by_cases hkl2 : k < M.length
        · obtain ⟨fb, fo, fc', hfv, hfb, x0, x1, x2, x3⟩ := slice_cells (HFM.out wr hbq) hkl2
          obtain ⟨rfl, rfl⟩ : ma = some ⟨fb, fo, none⟩ ∧ mc = fc' := by simpa using hfv
          have hk1 : (k : Int) < (M.length : Int) := by omega
          have HMT : Hid ((M.take (k + 1)).filter (fun x => x.pred == p) = (M.take k).filter (fun x => x.pred == p) ++ if M[k].pred == p then [M[k]] else []) := by
            show _ = _
            rw [List.take_add_one, List.getElem?_eq_getElem hkl2, Option.toList_some, List.filter_append, List.filter_cons, List.filter_nil]
          have HFL : Hid (((M.take k).filter fun x => x.pred == p).length ≤ 125) := by
            have h1 : ((M.take k).filter fun x => x.pred == p).length ≤ (M.take k).length := List.length_filter_le _ _
            rw [List.length_take] at h1
            show _ ≤ _
            omega
          have y0 : wr.cell? ⟨fb, fo + k * 4, none⟩ = some (.int .i64 M[k].pred) := x0
          have y1 : wr.cell? ⟨fb, fo + k * 4 + 1, none⟩ = some (.int .i64 M[k].a) := x1
          have y2 : wr.cell? ⟨fb, fo + k * 4 + 2, none⟩ = some (.int .i64 M[k].b) := x2
          have y3 : wr.cell? ⟨fb, fo + k * 4 + 3, none⟩ = some (.int .i64 M[k].val) := x3
          clear hfv x0 x1 x2 x3
          generalize M[k] = y at *
          generalize (M.take k).filter (fun x => x.pred == p) = Q at *
          have HOW : Hid (wr.ownsRow W4.heap.size 41 4 u Q.length (cellsF Q)) := hown
          have hsz : W4.heap.size ≤ wr.heap.size := hbq.size
          clear hown
          cases hyp : (y.pred == p)
          · rw [hyp, if_neg (by simp), List.append_nil] at HMT
            go_wp2_with fail
            go_roundw
            case rel => exact ⟨k + 1, u, rfl, by omega, by go_num, by rw [HMT.out]; exact HOW.out, hbq⟩
            case measure => simp [intOf]; omega
          · rw [hyp, if_pos rfl] at HMT
            go_wp2_with (at_builtin; refine Base.wpList_append_piece _ rfl _ _ rfl W4.heap.size u Q [y] (own_lasts HOW.out (below_alloc _ _)) rfl _ rfl (piece_one (heap_alloc_new _ _)) (by have := HFL.out; simp; omega) (by simp; omega) ?_; intro v6 w6 hown6 hgr6; have hx6 : Below W4.heap.size W4 w6 := Base.grown_below (hbq.alloc hsz _) (own_lasts HOW.out (below_alloc _ _)) hgr6 (by simp; omega))
            go_roundw
            case rel => exact ⟨k + 1, v6, rfl, by omega, by go_num, by rw [HMT.out]; exact hown6, hx6⟩
            case measure => simp [intOf]; omega
        · obtain rfl : k = M.length := by omega
          rw [List.take_length, ← HEQ.out] at hown
          have HFX : Hid (factsAt wr u O) := Base.factsAt_of hown (by rw [HEQ.out]; have h1 : (M.filter fun x => x.pred == p).length ≤ M.length := List.length_filter_le _ _; omega)
          obtain ⟨za, zc, rfl, _⟩ := id HFX.out
          have k5 : Below w.heap.size w wr := k4.trans (hbq.mono k4.size)
          have q35 : Below W3.heap.size W3 wr := hb4.trans (hbq.mono hb4.size)
          have q15 : Below W1.heap.size W1 wr := hb2.trans ((hb3.trans (q35.mono hb3.size)).mono hb2.size)
          have HAL : Hid (∀ y, Below wr.heap.size wr y → factsAt y (.slice ua O.length uc) O ∧ factsAt y (.slice va O.length vc) O ∧ factsAt y (.slice za O.length zc) O) := fun y hy => ⟨HS1.out y (q15.trans (hy.mono q15.size)), HS3.out y (q35.trans (hy.mono q35.size)), factsAt.lasts hy HFX.out⟩
          clear hown
          go_wp2_with fail
          refine (askBegun_c _).mono ?_
          rintro e W6 ⟨rfl, hb6⟩
          have k6 : Below w.heap.size w W6 := k5.trans (hb6.mono k5.size)
          have HE6 := (HEND.out wr wr W6 ua va za uc vc zc k5 HAL.out hb6).1
          go_wp2_with fail
          refine HE6.mono ?_
          rintro e W7 ⟨rfl, hb7⟩
          have q7 : Below wr.heap.size wr W7 := hb6.trans (hb7.mono hb6.size)
          have HE7 := (HEND.out wr wr W7 ua va za uc vc zc k5 HAL.out q7).2
          go_wp2_with fail
          refine HE7.mono ?_
          rintro e W8 ⟨rfl, hb8⟩
          go_wp2_with fail
          go_ret
          exact ⟨rfl, (k6.trans (hb7.mono k6.size)).trans (hb8.mono (k6.trans (hb7.mono k6.size)).size)⟩
    · have hne : needsErr ps rs p = 7 := by rw [needsErr, if_neg (by rw [hpe]; simp), if_pos (by omega)]
      obtain rfl := HNO.out (by rw [hne]; simp)
      have HAL : Hid (∀ y, Below W2.heap.size W2 y → factsAt y (.slice ua ([] : List Fct).length uc) [] ∧ factsAt y (.slice none ([] : List Fct).length 0) [] ∧ factsAt y (.slice none ([] : List Fct).length 0) []) := fun y hy => ⟨HS1.out y (hb2.trans (hy.mono hb2.size)), Base.facts_nil _, Base.facts_nil _⟩
      rw [hpe, hne]
      clear hne hpe
      by_cases hlt : p < 0
      all_goals
        go_wp2_with fail
        refine (askBegun_c _).mono ?_
        rintro e W6 ⟨rfl, hb6⟩
        have k6 : Below w.heap.size w W6 := k2.trans (hb6.mono k2.size)
        have HE6 := (HEND.out W2 W2 W6 ua none none uc 0 0 k2 HAL.out hb6).1
        go_wp2_with fail
        refine HE6.mono ?_
        rintro e W7 ⟨rfl, hb7⟩
        have q7 : Below W2.heap.size W2 W7 := hb6.trans (hb7.mono hb6.size)
        have HE7 := (HEND.out W2 W2 W7 ua none none uc 0 0 k2 HAL.out q7).2
        go_wp2_with fail
        refine HE7.mono ?_
        rintro e W8 ⟨rfl, hb8⟩
        go_wp2_with fail
        go_ret
        exact ⟨rfl, (k6.trans (hb7.mono k6.size)).trans (hb8.mono (k6.trans (hb7.mono k6.size)).size)⟩
  · have hpe' : (progErr ps rs == 0) = false := by simpa using hpe
    have hne : needsErr ps rs p = progErr ps rs := by rw [needsErr, if_pos hpe]
    obtain rfl := HNO.out (by rw [hne]; exact hpe)
    have HAL : Hid (∀ y, Below W2.heap.size W2 y → factsAt y (.slice ua ([] : List Fct).length uc) [] ∧ factsAt y (.slice none ([] : List Fct).length 0) [] ∧ factsAt y (.slice none ([] : List Fct).length 0) []) := fun y hy => ⟨HS1.out y (hb2.trans (hy.mono hb2.size)), Base.facts_nil _, Base.facts_nil _⟩
    rw [hne]
    clear hne hpe
    generalize progErr ps rs = E at *
    go_wp2_with fail
    refine (askBegun_c _).mono ?_
    rintro e W6 ⟨rfl, hb6⟩
    have k6 : Below w.heap.size w W6 := k2.trans (hb6.mono k2.size)
    have HE6 := (HEND.out W2 W2 W6 ua none none uc 0 0 k2 HAL.out hb6).1
    go_wp2_with fail
    refine HE6.mono ?_
    rintro e W7 ⟨rfl, hb7⟩
    have q7 : Below W2.heap.size W2 W7 := hb6.trans (hb7.mono hb6.size)
    have HE7 := (HEND.out W2 W2 W7 ua none none uc 0 0 k2 HAL.out q7).2
    go_wp2_with fail
    refine HE7.mono ?_
    rintro e W8 ⟨rfl, hb8⟩
    go_wp2_with fail
    go_ret
    exact ⟨rfl, (k6.trans (hb7.mono k6.size)).trans (hb8.mono (k6.trans (hb7.mono k6.size)).size)⟩

set_option maxRecDepth 100000 in
theorem lawOnly_lifted (os : Os) (started : os.Started) (H : Type) (enc : TypeId × Value → H) :
    ReturnsInHanded {} Tryz.checked os 4 .any (Rows.askOnlySpec.pre6 enc Tryz.prog Tryz.f4 Rows.askOnlyRow.domain false) (Rows.askOnlySpec.post enc Tryz.prog Tryz.f4 false true false false) := by
  refine Kit.lifted_of (C := Tryz.checked) (t := 4) (by kernel_rfl) started (by kernel_rfl) Tryz.func4
    (ChangeSpec.witness6 (enc := enc) (C := Tryz.checked) false ⟨#[], #[.agg #[.slice none 0 0, .slice none 0 0], .int .i64 0], []⟩ 8 (by kernel_rfl) (by kernel_rfl) (by kernel_rfl) (by kernel_rfl))
    (by kernel_rfl) (by kernel_rfl) (by kernel_rfl) Tryz.underlying4 rfl ?_ ?_
  · intro ds hds
    rw [show Tryz.f4.params.toList.length = 2 by kernel_rfl] at hds
    match ds, hds with
    | [d0, d1], _ => rfl
  · intro W base args ds ps hval0 hA0 hsz0
    have hval : ∀ (j : Nat) t v, Tryz.f4.params[j]? = some t → args[j]? = some v → Value.okWide Tryz.prog W .any base t v := hval0
    have hA : DataW.TrodAll enc Tryz.prog W 0 (fun _ => true) true Tryz.f4.params.toList args.toList ds ps := hA0
    have hsz : (DataW.weightsEach Tryz.prog (Tryz.f4.params.toList ++ []) (ds ++ [])).all (· ≤ reachBytes) = true := hsz0
    rw [Tryz.params4] at hA hval hsz
    obtain ⟨v0, vs0, d0, ds0, p0, q0, hargs, rfl, rfl, h0, r0⟩ := trodAll_cons hA
    obtain ⟨v1, vs1, d1, ds1, p1, q1, rfl, rfl, rfl, h1, r1⟩ := trodAll_cons r0
    obtain ⟨rfl, rfl, rfl⟩ := trodAll_nil r1
    obtain rfl : args = #[v0, v1] := by cases args; simp_all
    have hL := Open.light_all hsz
    simp only [List.append_nil, DataW.weightsEach] at hL
    obtain ⟨n0, t0⟩ := Open.trod_one h0
    obtain ⟨n1, t1⟩ := Open.trod_one h1
    obtain ⟨pv, rv, ps, rs, e0, hp, hn, hr⟩ := Open.prog_of t0 (Open.light_left hL)
    obtain rfl := Open.agg_of Tryz.underlying25 (hval 0 25 v0 rfl rfl) e0
    obtain ⟨x1, e1, _⟩ := DataW.trod_int Tryz.underlying3 t1
    obtain rfl := Open.int_of Tryz.underlying3 (hval 1 3 v1 rfl rfl) e1
    exact lawOnly_walk W pv rv x1 ps rs hp hr hn
end Go.Proofs.YtlfccloaoopadafGreat.Ask
namespace Go.Proofs.YtlfccloaoopadafGreat
/-- THE STATEMENT -/
theorem askOnly_proved : Rows.AskOnlySaid :=
  OpenClaim.holds_of_wide 4 Tryz.f4 rfl rfl rfl rfl rfl rfl rfl ⟨rfl, rfl, rfl, rfl, rfl⟩ rfl rfl rfl rfl rfl (by kernel_rfl) Tryz.func4 (by kernel_rfl)
    (of_decide_eq_true (by kernel_rfl)) (by unfold Func.isWrapper; first | (rw [if_pos (by decide +kernel)]; kernel_rfl) | (rw [if_neg (by decide +kernel)]; exact ⟨rfl, rfl⟩))
    (fun os started H enc _ => Ask.lawOnly_lifted os started H enc)
#print axioms askOnly_proved
end Go.Proofs.YtlfccloaoopadafGreat
