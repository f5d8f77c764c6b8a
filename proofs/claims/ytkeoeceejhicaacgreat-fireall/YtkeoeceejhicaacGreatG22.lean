/-
  The developers' All of package fire.
-/
import Derived.Test.YtkeoeceejhicaacGreatG12
import Derived.Test.YtkeoeceejhicaacGreatG21
import Derived.Test.YtkeoeceejhicaacGreatG11
import Derived.Test.YtkeoeceejhicaacGreatG20
namespace Go.Proofs.YtkeoeceejhicaacGreat.Fire
open Go.ChangeShapes Go.WideShapes Go.ChangeAt Go.RowKit
open Rule (Vars ruleErr)
open Base (factsErr own_lasts)
open Prog (slice_cells small)
open Go.Sort Go.Shelf Go.Lib

def encS (s : Stp) : List Value := [.int .i64 s.rule, .int .i64 s.x, .int .i64 s.y, .int .i64 s.z]
instance : Inhabited Stp := ⟨⟨0, 0, 0, 0⟩⟩
theorem four {P : Nat → Prop} (h0 : P 0) (h1 : P 1) (h2 : P 2) (h3 : P 3) : ∀ c, c < 4 → P c
  | 0, _ => h0
  | 1, _ => h1
  | 2, _ => h2
  | 3, _ => h3
  | c + 4, h => absurd h (by omega)
theorem holds_own {w : World} {base g cap : Nat} {l : List Stp} (h : w.ownsRow base 45 4 (.slice (some ⟨g, 0, none⟩) l.length cap) l.length (cellsS l)) (hl : l.length ≤ 500) : HoldsK encS 4 w g 0 l.toArray ∧ base ≤ g ∧ g < w.heap.size := by
  have hs := stepsAt_of h (by omega)
  obtain ⟨_, ⟨e, _⟩ | ⟨g', cap', cur, e, hg, hh, _⟩⟩ := h
  · cases e
  · obtain ⟨rfl, rfl⟩ : g = g' ∧ cap = cap' := by simpa using e
    refine ⟨fun t ht => ?_, hg, (Array.getElem?_eq_some_iff.1 hh).1⟩
    rw [size_flatK, List.size_toArray] at ht
    refine ⟨?_, by simp [World.frozen?, hh]⟩
    have hi : t / 4 < l.length := by omega
    obtain ⟨b, off, cap2, e2, _, a0, a1, a2, a3⟩ := step_cells hs hi
    obtain ⟨⟨rfl, rfl⟩, rfl⟩ : (g = b ∧ 0 = off) ∧ cap = cap2 := by simpa using e2
    rw [get_flatK _ _ _ _ (by rw [List.size_toArray]; omega)]
    have el : l.toArray[t / 4]! = l[t / 4] := by simp [hi]
    rw [el, show (0 + t : Nat) = 0 + t / 4 * 4 + t % 4 by omega]
    exact four (P := fun c => w.cell? ⟨g, 0 + t / 4 * 4 + c, none⟩ = some (id (encS l[t / 4])[c]!)) a0 a1 a2 a3 (t % 4) (by omega)
theorem sort_below {w : World} {base g n : Nat} {d : Array Stp} {os : Array Obj} (hb : base ≤ g) (hg : g < w.heap.size) : Below base w (sortWorldK encS 4 w g 0 n d os) := by
  refine ⟨rfl, rfl, rfl, ?_, fun k hk => ?_⟩
  · unfold sortWorldK grow putRowK putRow mapBlock Sort.ahead
    simp
  · unfold sortWorldK grow putRowK putRow mapBlock Sort.ahead
    show (Array.modify w.heap g _ ++ os)[k]? = w.heap[k]?
    rw [Array.getElem?_append_left (by simp; omega), Array.getElem?_modify, if_neg (by omega)]
theorem sort_holds {w : World} {g cap n : Nat} {l : List Stp} {d : Array Stp} {os : Array Obj} (h : HoldsK encS 4 w g 0 l.toArray) (hg : g < w.heap.size) (hs : d.size = l.length) (hl : l.length ≤ 500) : stepsAt (sortWorldK encS 4 w g 0 n d os) (.slice (some ⟨g, 0, none⟩) l.length cap) d.toList := by
  have h1 : HoldsK encS 4 (sortWorldK encS 4 w g 0 n d os) g 0 d := by
    have h0 : HoldsK encS 4 (Sort.ahead w n) g 0 l.toArray := h
    have hs' : d.size = l.toArray.size := by simpa using hs
    refine holdsK_grow _ _ _ _ _ _ _ ?_ (holdsK_putRowK _ _ _ _ _ _ _ h0 hs')
    unfold putRowK putRow mapBlock Sort.ahead
    simpa using hg
  have hdl : d.toList.length = l.length := (Array.length_toList).trans hs
  refine ⟨some ⟨g, 0, none⟩, cap, by rw [hdl], by rw [hdl]; omega, .inr ⟨g, 0, rfl, ?_, fun i x hi => ?_⟩⟩
  · exact Nat.lt_of_lt_of_le hg (sort_below (Nat.zero_le _) hg).size
  · have hi' : i < d.size := by
      have := (List.getElem?_eq_some_iff.1 hi).1
      simpa using this
    have ex : d[i]! = x := by
      rw [getElem!_pos d i hi']
      have := (List.getElem?_eq_some_iff.1 hi).2
      simpa using this
    have c := fun k hk => (h1.cell (c := k) hi' hk).1
    rw [ex] at c
    exact ⟨c 0 (by omega), c 1 (by omega), c 2 (by omega), c 3 (by omega)⟩
theorem ltOf_cmpS (s t : Stp) : ltOf cmpS s t = ltS s t := cmpS_lt s t
theorem swoS : SWO (ltOf cmpS) where
  irrefl x := by rw [ltOf_cmpS]; exact ltS_irrefl x
  trans x y z h1 h2 := by rw [ltOf_cmpS] at *; exact ltS_trans h1 h2
  ntrans x y z h1 h2 := by rw [ltOf_cmpS, ltS_not] at *; omega
theorem cmpLays (blk off size : Nat) (w : World) : CmpLays Tryz.prog 35 #[] encS 4 cmpS blk off size w := fun _ _ _ _ x y => all1_c x y _
set_option maxHeartbeats 1000000 in
theorem sort_c (w : World) (base : Nat) (v : Value) (l : List Stp) (h : w.ownsRow base 45 4 v l.length (cellsS l)) (hl : l.length ≤ 500) :
    Calls Tryz.prog 34 #[v, .func (.func 35) #[] #[]] w fun e w' => e = .returned (.tuple #[]) ∧ (∃ l' : List Stp, l'.Perm l ∧ l'.Pairwise (fun s t => ltS t s = false) ∧ stepsAt w' v l') ∧ Below base w w' := by
  have ho := h
  obtain ⟨_, ⟨rfl, hn⟩ | ⟨g, cap, cur, rfl, _, _, _⟩⟩ := h
  · have hl0 : l = [] := List.eq_nil_of_length_eq_zero hn
    subst hl0
    refine (show Calls Tryz.prog 34 #[.slice none 0 0, .func (.func 35) #[] #[]] w _ from AnyF.slices_SortFunc_none sortStep none 0 _ w).mono ?_
    rintro e w' ⟨rfl, rfl⟩
    exact ⟨rfl, ⟨[], List.Perm.refl _, List.Pairwise.nil, ⟨none, 0, rfl, by simp, .inl rfl⟩⟩, Below.refl _ _⟩
  · obtain ⟨hH, hb, hg⟩ := holds_own ho hl
    have hc := AnyQ.slices_SortFunc sortStep 4 Tryz.isAgg45 Tryz.sizeOf45 encS (fun _ => rfl) (fun x v hv => by simp [encS] at hv; rcases hv with rfl | rfl | rfl | rfl <;> rfl) cmpS swoS 35 #[] g 0 cap l.toArray w (enters_of Tryz.func35 (by kernel_rfl) rfl) (cmpLays g 0 _ w) hH hg (by rw [List.size_toArray]; omega)
    rw [List.size_toArray] at hc
    refine (show Calls Tryz.prog 34 #[.slice (some ⟨g, 0, none⟩) l.length cap, .func (.func 35) #[] #[]] w _ from hc).mono ?_
    rintro e w' ⟨rfl, d, n, os, ⟨hs, _, hp⟩, hso, rfl⟩
    replace hs : d.size = l.length := by have : l.toArray.size = l.length := List.size_toArray; omega
    refine ⟨rfl, ⟨d.toList, ?_, ?_, sort_holds hH hg hs hl⟩, sort_below hb hg⟩
    · have e1 : d.extract 0 l.length = d := by rw [← hs]; exact Array.extract_size
      have e2 : l.toArray.extract 0 l.length = l.toArray := by
        have := Array.extract_size (xs := l.toArray)
        rwa [List.size_toArray] at this
      rw [e1, e2] at hp
      exact hp
    · rw [List.pairwise_iff_getElem]
      intro i j hi hj hij
      have hi' : i < d.size := by simpa using hi
      have hj' : j < d.size := by simpa using hj
      have := hso i j (Nat.zero_le _) hij (by omega)
      rw [ltOf_cmpS, getElem!_pos d i hi', getElem!_pos d j hj'] at this
      simpa using this
theorem own_base {w : World} {base base' : Nat} {e : TypeId} {sz n : Nat} {v : Value} {xs : List Value} (h : w.ownsRow base e sz v n xs) (hb : base' ≤ base) : w.ownsRow base' e sz v n xs := by
  obtain ⟨h0, h1⟩ := h
  refine ⟨h0, ?_⟩
  rcases h1 with h1 | ⟨g, cap, cur, h1, h2, h3⟩
  · exact .inl h1
  · exact .inr ⟨g, cap, cur, h1, by omega, h3⟩
/-- E2, errors too -/
def allOf (ps : List Prd) (rs : List Rul) (f : List Fct) (n : Int) : List Stp := if fireErr ps rs f n ≠ 0 then [] else match rs[n.toNat]? with
  | some r => allL f r n
  | none => []
set_option maxRecDepth 100000 in
set_option maxHeartbeats 2000000 in
theorem devAll_c (w : World) (pv rv fv : Value) (ps : List Prd) (rs : List Rul) (f : List Fct) (n : Int) (hp : predsAt w pv ps) (hr : rulesAt w rv rs) (hf : factsAt w fv f) (hn : small ps) :
    Calls Tryz.prog 11 #[.agg #[pv, rv], fv, .int .i64 n] w fun e w' => (∃ v, e = .returned (.tuple #[v, .int .i64 (fireErr ps rs f n)]) ∧ stepsAt w' v (allOf ps rs f n)) ∧ Below w.heap.size w w' := by
  have HP : Hid (∀ x, Below w.heap.size w x → predsAt x pv ps) := fun x hx => predsAt.lasts hx hp
  have HR : Hid (∀ x, Below w.heap.size w x → rulesAt x rv rs) := fun x hx => rulesAt.lasts hx hr
  have HF : Hid (∀ x, Below w.heap.size w x → factsAt x fv f) := fun x hx => factsAt.lasts hx hf
  obtain ⟨W1, hW1⟩ : ∃ W1, w.alloc (.cells #[pv, rv] 25) = W1 := ⟨_, rfl⟩
  have b1 : Below w.heap.size w W1 := by rw [← hW1]; exact below_alloc _ _
  have HC : Hid (Calls Tryz.prog 24 #[.agg #[pv, rv], fv, .int .i64 n] W1 fun e w' => e = .returned (.int .i64 (fireErr ps rs f n)) ∧ Below W1.heap.size W1 w') := check_c W1 _ _ _ ps rs f n (HP.out _ b1) (HR.out _ b1) (HF.out _ b1) hn
  have q0 : W1.cell? ⟨w.heap.size, 0, none⟩ = some pv := by rw [← hW1]; simp [go_sem]
  have q1 : W1.cell? ⟨w.heap.size, 1, none⟩ = some rv := by rw [← hW1]; simp [go_sem]
  have s1 : W1.heap.size = w.heap.size + 1 := by rw [← hW1]; simp
  obtain ⟨pa, pc, rfl, _⟩ := hp
  obtain ⟨ra, rc, rfl, _⟩ := hr
  obtain ⟨fa, fc, rfl, _⟩ := hf
  by_cases hfe : fireErr ps rs f n = 0
  · obtain ⟨z1, z2, z3, z4⟩ := fire_zero hfe
    obtain ⟨m, rfl⟩ : ∃ m : Nat, n = (m : Int) := ⟨n.toNat, by omega⟩
    have hml : m < rs.length := by omega
    have HA : Hid (allOf ps rs f m = allL f rs[m] m) := by show _ = _; rw [allOf, if_neg (by rw [hfe]; simp), Int.toNat_natCast, List.getElem?_eq_getElem hml]
    have HST : Hid (∀ x, Below w.heap.size w x → Calls Tryz.prog 33 #[.agg #[.slice pa ps.length pc, .slice ra rs.length rc], .slice fa f.length fc, .int .i64 (m : Int)] x fun e w' => ∃ v l, e = .returned v ∧ w'.ownsRow x.heap.size 45 4 v l.length (cellsS l) ∧ Below x.heap.size x w' ∧ l.length ≤ 500 ∧ ∀ l' : List Stp, l'.Perm l → l'.Pairwise (fun s t => ltS t s = false) → l' = allL f rs[m] m) := fun x hx => by
      have hre : ruleErr ps rs[m] = 0 := rules_right z1 _ (List.getElem_mem hml)
      refine (steps_c x _ _ _ ps rs f m (HP.out _ hx) (HR.out _ hx) (HF.out _ hx) (rules_right z1) z2 hml).mono ?_
      rintro e w' ⟨v, rfl, ho, hb⟩
      refine ⟨v, _, rfl, own_base ho (by omega), hb, ?_, fun l' h1 h2 => lay_sorted hre z2 h1 h2⟩
      rw [List.length_map]
      have := lay_len hre z2
      omega
    have HCC : Hid (∀ x, Below W1.heap.size W1 x → x.cell? ⟨w.heap.size, 0, none⟩ = some (.slice pa ps.length pc) ∧ x.cell? ⟨w.heap.size, 1, none⟩ = some (.slice ra rs.length rc)) := fun x hx => ⟨(cell_lasts hx (by omega)).trans q0, (cell_lasts hx (by omega)).trans q1⟩
    have HFE : Hid (fireErr ps rs f m = 0) := hfe
    rw [hfe] at HC
    clear z1 z2 z3 z4 hfe
    generalize rs[m] = r at *
    go_enter Tryz.func11, Tryz.ntmps11
    go_wp2_with fail
    refine HC.out.mono ?_
    rintro e W2 ⟨rfl, hb2⟩
    have k2 : Below w.heap.size w W2 := b1.trans (hb2.mono b1.size)
    clear hW1 q0 q1 HC
    obtain ⟨c0, c1⟩ := HCC.out _ hb2
    go_wp2_with fail
    refine (HST.out _ k2).mono ?_
    rintro e W3 ⟨v, l, rfl, hown, hb3, hl, hall⟩
    have k3 : Below w.heap.size w W3 := k2.trans (hb3.mono k2.size)
    obtain ⟨va, vn, vc, rfl⟩ := own_slice hown
    have HSO : Hid (Calls Tryz.prog 34 #[.slice va vn vc, .func (.func 35) #[] #[]] W3 fun e w' => e = .returned (.tuple #[]) ∧ stepsAt w' (.slice va vn vc) (allL f r m) ∧ Below w.heap.size w w') := (sort_c W3 W2.heap.size (.slice va vn vc) l hown hl).mono fun e w' ⟨h1, ⟨l', h2, h3, h4⟩, h5⟩ => ⟨h1, by rw [← hall l' h2 h3]; exact h4, k3.trans (h5.mono k2.size)⟩
    clear hown hall hl c0 c1
    go_wp2_with fail
    refine HSO.out.mono ?_
    rintro e W4 ⟨rfl, hst, k4⟩
    go_wp2_with fail
    refine bodyPost_ret (v := .tuple #[.slice va vn vc, .int .i64 0]) (by simp [results, Tryz.results11, go_sem]) rfl ?_
    exact ⟨⟨.slice va vn vc, by rw [HFE.out], by rw [HA.out]; exact hst⟩, k4⟩
  · have HA : Hid (allOf ps rs f n = []) := by show _ = _; rw [allOf, if_pos hfe]
    go_enter Tryz.func11, Tryz.ntmps11
    go_wp2_with fail
    refine HC.out.mono ?_
    rintro e W2 ⟨rfl, hb2⟩
    have hfe' : (fireErr ps rs f n == 0) = false := by simpa using hfe
    clear HC
    go_wp2_with fail
    refine bodyPost_ret (v := .tuple #[.slice none 0 0, .int .i64 (fireErr ps rs f n)]) (by simp [results, Tryz.results11, go_sem]) rfl ?_
    exact ⟨⟨.slice none 0 0, rfl, by rw [HA.out]; exact ⟨none, 0, rfl, by simp, .inl rfl⟩⟩, b1.trans (hb2.mono b1.size)⟩
end Go.Proofs.YtkeoeceejhicaacGreat.Fire

/-
  What must be in any case of package fire.
-/
namespace Go.Proofs.YtkeoeceejhicaacGreat.Fire
open Go.ChangeShapes Go.WideShapes Go.ChangeAt Go.RowKit
open Rule (Vars)
open Base (factsErr pathsL paths_c b7)
open Prog (progErr g0 smallP)

theorem roads2_c (w : World) : Calls Tryz.prog 31 #[] w fun e w' => ∃ pa pn pc ra rn rc, e = .returned (.agg #[.slice pa pn pc, .slice ra rn rc]) ∧ predsAt w' (.slice pa pn pc) Roads.preds ∧ rulesAt w' (.slice ra rn rc) Roads.rules ∧ Below w.heap.size w w' :=
  (Roads.roads_c w).mono fun _ _ ⟨_, _, he, _, _, _, hp, hr, _, _, _, hb⟩ => ⟨_, _, _, _, _, _, he, hp, hr, hb⟩
theorem fe (n : Int) : fireErr Roads.preds Roads.rules pathsL n = if 0 ≤ n ∧ n < 7 then 0 else 7 := by
  rw [fireErr, if_neg (by rw [g0]; simp), if_neg (by rw [b7]; simp)]
  rfl
theorem h1 : holdsErr Roads.preds Roads.rules pathsL 5 ⟨0, 1, 2⟩ = 0 ∧ holdsOk Roads.preds Roads.rules pathsL 5 ⟨0, 1, 2⟩ = true ∧ holdsFact Roads.preds Roads.rules pathsL 5 ⟨0, 1, 2⟩ = ⟨1, 0, 2, 5⟩ := by
  have e : holdsErr Roads.preds Roads.rules pathsL 5 ⟨0, 1, 2⟩ = 0 := by rw [holdsErr, fe]; rfl
  exact ⟨e, by rw [holdsOk, e]; rfl, by rw [holdsFact, e]; rfl⟩
theorem h2 : holdsErr Roads.preds Roads.rules pathsL 5 ⟨1, 1, 2⟩ = 0 ∧ holdsOk Roads.preds Roads.rules pathsL 5 ⟨1, 1, 2⟩ = false ∧ holdsFact Roads.preds Roads.rules pathsL 5 ⟨1, 1, 2⟩ = ⟨0, 0, 0, 0⟩ := by
  have e : holdsErr Roads.preds Roads.rules pathsL 5 ⟨1, 1, 2⟩ = 0 := by rw [holdsErr, fe]; rfl
  exact ⟨e, by rw [holdsOk, e]; rfl, by rw [holdsFact, e]; rfl⟩
theorem h3 : holdsErr Roads.preds Roads.rules pathsL 5 ⟨5, 0, 0⟩ = 3 ∧ holdsOk Roads.preds Roads.rules pathsL 5 ⟨5, 0, 0⟩ = false ∧ holdsFact Roads.preds Roads.rules pathsL 5 ⟨5, 0, 0⟩ = ⟨0, 0, 0, 0⟩ := by
  have e : holdsErr Roads.preds Roads.rules pathsL 5 ⟨5, 0, 0⟩ = 3 := by rw [holdsErr, fe]; rfl
  exact ⟨e, by rw [holdsOk, e]; rfl, by rw [holdsFact, e]; rfl⟩
set_option maxRecDepth 100000 in
theorem al4 : allOf Roads.preds Roads.rules pathsL 4 = [⟨4, 0, 1, 0⟩, ⟨4, 1, 2, 0⟩] := by
  rw [allOf, fe]
  kernel_rfl
set_option maxRecDepth 100000 in
theorem al6 : (allOf Roads.preds Roads.rules pathsL 6).length = 2 := by
  rw [allOf, fe]
  kernel_rfl
theorem al7 : allOf Roads.preds Roads.rules pathsL 7 = [] := by
  rw [allOf, fe]
  rfl

theorem step_eql (a b : Stp) (w : World) : (binOp .eql 45 (.agg #[.int .i64 a.rule, .int .i64 a.x, .int .i64 a.y, .int .i64 a.z]) (.agg #[.int .i64 b.rule, .int .i64 b.x, .int .i64 b.y, .int .i64 b.z])).run Tryz.prog w = .ok (.bool (decide (a = b))) w := by
  have := step_equal a b w
  rw [stepV, stepV] at this
  simp [binOp, Op.equal, Op.maxDepth, this]

set_option maxRecDepth 100000 in
set_option maxHeartbeats 8000000 in
theorem fireBegun_c (w : World) : Calls Tryz.prog 10 #[] w fun e w' => e = .returned (.bool true) ∧ Below w.heap.size w w' := by
  have hse := step_eql ⟨4, 1, 2, 0⟩ ⟨4, 1, 2, 0⟩
  have hse' : ∀ w : World, (binOp .eql 45 (.agg #[.int .i64 4, .int .i64 1, .int .i64 2, .int .i64 0]) (.agg #[.int .i64 4, .int .i64 1, .int .i64 2, .int .i64 0])).run Tryz.prog w = .ok (.bool true) w := fun w => (hse w).trans (by simp)
  have hsg : Tryz.prog.eqGuardType Tryz.prog.depth 45 = false := by kernel_rfl
  clear hse
  go_enter Tryz.func10, Tryz.ntmps10
  go_wp2_with fail
  refine (roads2_c _).mono ?_
  rintro e a1 ⟨pa, pn, pc, ra, rn, rc, rfl, hp, hr, hb1⟩
  have k_a1 : Below w.heap.size w a1 := hb1
  clear hb1
  have HD : Hid (∀ x, Below a1.heap.size a1 x → predsAt x (.slice pa pn pc) Roads.preds ∧ rulesAt x (.slice ra rn rc) Roads.rules) := fun x hx => ⟨predsAt.lasts hx hp, rulesAt.lasts hx hr⟩
  clear hp hr
  go_wp2_with fail
  refine (paths_c _).mono ?_
  rintro e p1 ⟨fv, rfl, hf, _, hb2⟩
  have k_p1 : Below w.heap.size w p1 := k_a1.trans (hb2.mono k_a1.size)
  have HC : Hid (Calls Tryz.prog 8 #[.agg #[.slice pa pn pc, .slice ra rn rc], fv, .int .i64 5, .agg #[.int .i64 0, .int .i64 1, .int .i64 2]] p1 fun e w' => e = .returned (.tuple #[.bool true, .agg #[.int .i64 1, .int .i64 0, .int .i64 2, .int .i64 5], .int .i64 0]) ∧ Below p1.heap.size p1 w') := by
    have h := devHolds_c p1 _ _ fv Roads.preds Roads.rules pathsL 5 ⟨0, 1, 2⟩ (HD.out _ hb2).1 (HD.out _ hb2).2 hf smallP
    rw [h1.1, h1.2.1, h1.2.2] at h
    exact h
  obtain ⟨fa, fc, rfl, _⟩ := hf
  clear hb2 HD
  go_wp2_with fail
  refine HC.out.mono ?_
  rintro e c1 ⟨rfl, hb3⟩
  have k_c1 : Below w.heap.size w c1 := k_p1.trans (hb3.mono k_p1.size)
  clear hb3 HC
  go_wp2_with fail
  obtain ⟨d1, hD⟩ : ∃ d1, c1.alloc (.cells #[.int .i64 1, .int .i64 0, .int .i64 2, .int .i64 5] 29) = d1 := ⟨_, rfl⟩
  have k_d1 : Below w.heap.size w d1 := by rw [← hD]; exact k_c1.alloc k_c1.size _
  have HB1 : Hid (∀ x, Below d1.heap.size d1 x → x.cell? ⟨c1.heap.size, 0, none⟩ = some (.int .i64 1) ∧ x.cell? ⟨c1.heap.size, 1, none⟩ = some (.int .i64 0) ∧ x.cell? ⟨c1.heap.size, 2, none⟩ = some (.int .i64 2) ∧ x.cell? ⟨c1.heap.size, 3, none⟩ = some (.int .i64 5)) := fun x hx => by
    have e : c1.heap.size < d1.heap.size := by rw [← hD]; simp
    refine ⟨(cell_lasts hx e).trans ?_, (cell_lasts hx e).trans ?_, (cell_lasts hx e).trans ?_, (cell_lasts hx e).trans ?_⟩
    all_goals rw [← hD]; simp [go_sem]
  rw [hD]
  clear hD
  go_wp2_with fail
  refine (roads2_c _).mono ?_
  rintro e a2 ⟨pa, pn, pc, ra, rn, rc, rfl, hp, hr, hb1⟩
  have k_a2 : Below w.heap.size w a2 := k_d1.trans (hb1.mono k_d1.size)
  have q_a2 : Below d1.heap.size d1 a2 := hb1
  clear hb1
  have HD : Hid (∀ x, Below a2.heap.size a2 x → predsAt x (.slice pa pn pc) Roads.preds ∧ rulesAt x (.slice ra rn rc) Roads.rules) := fun x hx => ⟨predsAt.lasts hx hp, rulesAt.lasts hx hr⟩
  clear hp hr
  go_wp2_with fail
  refine (paths_c _).mono ?_
  rintro e p2 ⟨fv, rfl, hf, _, hb2⟩
  have k_p2 : Below w.heap.size w p2 := k_a2.trans (hb2.mono k_a2.size)
  have q_p2 : Below d1.heap.size d1 p2 := q_a2.trans (hb2.mono q_a2.size)
  have HC : Hid (Calls Tryz.prog 8 #[.agg #[.slice pa pn pc, .slice ra rn rc], fv, .int .i64 5, .agg #[.int .i64 1, .int .i64 1, .int .i64 2]] p2 fun e w' => e = .returned (.tuple #[.bool false, .agg #[.int .i64 0, .int .i64 0, .int .i64 0, .int .i64 0], .int .i64 0]) ∧ Below p2.heap.size p2 w') := by
    have h := devHolds_c p2 _ _ fv Roads.preds Roads.rules pathsL 5 ⟨1, 1, 2⟩ (HD.out _ hb2).1 (HD.out _ hb2).2 hf smallP
    rw [h2.1, h2.2.1, h2.2.2] at h
    exact h
  obtain ⟨fa, fc, rfl, _⟩ := hf
  clear hb2 HD
  go_wp2_with fail
  refine HC.out.mono ?_
  rintro e c2 ⟨rfl, hb3⟩
  have k_c2 : Below w.heap.size w c2 := k_p2.trans (hb3.mono k_p2.size)
  have q_c2 : Below d1.heap.size d1 c2 := q_p2.trans (hb3.mono q_p2.size)
  clear hb3 HC
  go_wp2_with fail
  obtain ⟨d2, hD⟩ : ∃ d2, c2.alloc (.cells #[.int .i64 0, .int .i64 0, .int .i64 0, .int .i64 0] 29) = d2 := ⟨_, rfl⟩
  have k_d2 : Below w.heap.size w d2 := by rw [← hD]; exact k_c2.alloc k_c2.size _
  have q_d2 : Below d1.heap.size d1 d2 := by rw [← hD]; exact q_c2.alloc q_c2.size _
  have HB2 : Hid (∀ x, Below d2.heap.size d2 x → x.cell? ⟨c2.heap.size, 0, none⟩ = some (.int .i64 0) ∧ x.cell? ⟨c2.heap.size, 1, none⟩ = some (.int .i64 0) ∧ x.cell? ⟨c2.heap.size, 2, none⟩ = some (.int .i64 0) ∧ x.cell? ⟨c2.heap.size, 3, none⟩ = some (.int .i64 0)) := fun x hx => by
    have e : c2.heap.size < d2.heap.size := by rw [← hD]; simp
    refine ⟨(cell_lasts hx e).trans ?_, (cell_lasts hx e).trans ?_, (cell_lasts hx e).trans ?_, (cell_lasts hx e).trans ?_⟩
    all_goals rw [← hD]; simp [go_sem]
  rw [hD]
  clear hD
  go_wp2_with fail
  refine (roads2_c _).mono ?_
  rintro e a3 ⟨pa, pn, pc, ra, rn, rc, rfl, hp, hr, hb1⟩
  have k_a3 : Below w.heap.size w a3 := k_d2.trans (hb1.mono k_d2.size)
  have q_a3 : Below d2.heap.size d2 a3 := hb1
  clear hb1
  have HD : Hid (∀ x, Below a3.heap.size a3 x → predsAt x (.slice pa pn pc) Roads.preds ∧ rulesAt x (.slice ra rn rc) Roads.rules) := fun x hx => ⟨predsAt.lasts hx hp, rulesAt.lasts hx hr⟩
  clear hp hr
  go_wp2_with fail
  refine (paths_c _).mono ?_
  rintro e p3 ⟨fv, rfl, hf, _, hb2⟩
  have k_p3 : Below w.heap.size w p3 := k_a3.trans (hb2.mono k_a3.size)
  have q_p3 : Below d2.heap.size d2 p3 := q_a3.trans (hb2.mono q_a3.size)
  have HC : Hid (Calls Tryz.prog 11 #[.agg #[.slice pa pn pc, .slice ra rn rc], fv, .int .i64 4] p3 fun e w' => (∃ v, e = .returned (.tuple #[v, .int .i64 0]) ∧ stepsAt w' v (allOf Roads.preds Roads.rules pathsL 4)) ∧ Below p3.heap.size p3 w') := by
    have h := devAll_c p3 _ _ fv Roads.preds Roads.rules pathsL 4 (HD.out _ hb2).1 (HD.out _ hb2).2 hf smallP
    have e : fireErr Roads.preds Roads.rules pathsL 4 = 0 := by rw [fe]; rfl
    rw [e] at h
    exact h
  obtain ⟨fa, fc, rfl, _⟩ := hf
  clear hb2 HD
  go_wp2_with fail
  refine HC.out.mono ?_
  rintro e c3 ⟨⟨v3, rfl, hst⟩, hb3⟩
  have k_c3 : Below w.heap.size w c3 := k_p3.trans (hb3.mono k_p3.size)
  have q_c3 : Below d2.heap.size d2 c3 := q_p3.trans (hb3.mono q_p3.size)
  clear hb3 HC
  rw [al4] at hst
  have HS : Hid (∀ x, Below c3.heap.size c3 x → stepsAt x v3 [⟨4, 0, 1, 0⟩, ⟨4, 1, 2, 0⟩]) := fun x hx => stepsAt.lasts hx hst
  obtain ⟨sb, so, sc, rfl, _, _⟩ := step_cells hst (j := 1) (by decide)
  have HB3 : Hid (∀ x, Below c3.heap.size c3 x → x.cell? ⟨sb, so + 4, none⟩ = some (.int .i64 4) ∧ x.cell? ⟨sb, so + 4 + 1, none⟩ = some (.int .i64 1) ∧ x.cell? ⟨sb, so + 4 + 2, none⟩ = some (.int .i64 2) ∧ x.cell? ⟨sb, so + 4 + 3, none⟩ = some (.int .i64 0)) := fun x hx => by
    obtain ⟨b, o, c, e, _, h⟩ := step_cells (HS.out x hx) (j := 1) (by decide)
    obtain ⟨⟨rfl, rfl⟩, rfl⟩ : (sb = b ∧ so = o) ∧ sc = c := by simpa using e
    exact h
  simp only [show ([⟨4, 0, 1, 0⟩, ⟨4, 1, 2, 0⟩] : List Stp).length = 2 from rfl] at HS ⊢
  clear hst HS
  go_wp2_with fail
  refine (roads2_c _).mono ?_
  rintro e a4 ⟨pa, pn, pc, ra, rn, rc, rfl, hp, hr, hb1⟩
  have k_a4 : Below w.heap.size w a4 := k_c3.trans (hb1.mono k_c3.size)
  have q_a4 : Below c3.heap.size c3 a4 := hb1
  clear hb1
  have HD : Hid (∀ x, Below a4.heap.size a4 x → predsAt x (.slice pa pn pc) Roads.preds ∧ rulesAt x (.slice ra rn rc) Roads.rules) := fun x hx => ⟨predsAt.lasts hx hp, rulesAt.lasts hx hr⟩
  clear hp hr
  go_wp2_with fail
  refine (paths_c _).mono ?_
  rintro e p4 ⟨fv, rfl, hf, _, hb2⟩
  have k_p4 : Below w.heap.size w p4 := k_a4.trans (hb2.mono k_a4.size)
  have q_p4 : Below c3.heap.size c3 p4 := q_a4.trans (hb2.mono q_a4.size)
  have HC : Hid (Calls Tryz.prog 11 #[.agg #[.slice pa pn pc, .slice ra rn rc], fv, .int .i64 7] p4 fun e w' => (∃ v, e = .returned (.tuple #[v, .int .i64 7]) ∧ stepsAt w' v (allOf Roads.preds Roads.rules pathsL 7)) ∧ Below p4.heap.size p4 w') := by
    have h := devAll_c p4 _ _ fv Roads.preds Roads.rules pathsL 7 (HD.out _ hb2).1 (HD.out _ hb2).2 hf smallP
    have e : fireErr Roads.preds Roads.rules pathsL 7 = 7 := by rw [fe]; rfl
    rw [e] at h
    exact h
  obtain ⟨fa, fc, rfl, _⟩ := hf
  clear hb2 HD
  go_wp2_with fail
  refine HC.out.mono ?_
  rintro e c4 ⟨⟨v4, rfl, hst⟩, hb3⟩
  have k_c4 : Below w.heap.size w c4 := k_p4.trans (hb3.mono k_p4.size)
  have q_c4 : Below c3.heap.size c3 c4 := q_p4.trans (hb3.mono q_p4.size)
  clear hb3 HC
  obtain ⟨sa4, sc4, rfl, _⟩ := hst
  simp only [al7]
  go_wp2_with fail
  refine (roads2_c _).mono ?_
  rintro e a5 ⟨pa, pn, pc, ra, rn, rc, rfl, hp, hr, hb1⟩
  have k_a5 : Below w.heap.size w a5 := k_c4.trans (hb1.mono k_c4.size)
  have q_a5 : Below c4.heap.size c4 a5 := hb1
  clear hb1
  have HD : Hid (∀ x, Below a5.heap.size a5 x → predsAt x (.slice pa pn pc) Roads.preds ∧ rulesAt x (.slice ra rn rc) Roads.rules) := fun x hx => ⟨predsAt.lasts hx hp, rulesAt.lasts hx hr⟩
  clear hp hr
  go_wp2_with fail
  refine (paths_c _).mono ?_
  rintro e p5 ⟨fv, rfl, hf, _, hb2⟩
  have k_p5 : Below w.heap.size w p5 := k_a5.trans (hb2.mono k_a5.size)
  have q_p5 : Below c4.heap.size c4 p5 := q_a5.trans (hb2.mono q_a5.size)
  have HC : Hid (Calls Tryz.prog 8 #[.agg #[.slice pa pn pc, .slice ra rn rc], fv, .int .i64 5, .agg #[.int .i64 5, .int .i64 0, .int .i64 0]] p5 fun e w' => e = .returned (.tuple #[.bool false, .agg #[.int .i64 0, .int .i64 0, .int .i64 0, .int .i64 0], .int .i64 3]) ∧ Below p5.heap.size p5 w') := by
    have h := devHolds_c p5 _ _ fv Roads.preds Roads.rules pathsL 5 ⟨5, 0, 0⟩ (HD.out _ hb2).1 (HD.out _ hb2).2 hf smallP
    rw [h3.1, h3.2.1, h3.2.2] at h
    exact h
  obtain ⟨fa, fc, rfl, _⟩ := hf
  clear hb2 HD
  go_wp2_with fail
  refine HC.out.mono ?_
  rintro e c5 ⟨rfl, hb3⟩
  have k_c5 : Below w.heap.size w c5 := k_p5.trans (hb3.mono k_p5.size)
  have q_c5 : Below c4.heap.size c4 c5 := q_p5.trans (hb3.mono q_p5.size)
  clear hb3 HC
  go_wp2_with fail
  obtain ⟨d5, hD⟩ : ∃ d5, c5.alloc (.cells #[.int .i64 0, .int .i64 0, .int .i64 0, .int .i64 0] 29) = d5 := ⟨_, rfl⟩
  have k_d5 : Below w.heap.size w d5 := by rw [← hD]; exact k_c5.alloc k_c5.size _
  have q_d5 : Below c4.heap.size c4 d5 := by rw [← hD]; exact q_c5.alloc q_c5.size _
  have HB5 : Hid (∀ x, Below d5.heap.size d5 x → x.cell? ⟨c5.heap.size, 0, none⟩ = some (.int .i64 0) ∧ x.cell? ⟨c5.heap.size, 1, none⟩ = some (.int .i64 0) ∧ x.cell? ⟨c5.heap.size, 2, none⟩ = some (.int .i64 0) ∧ x.cell? ⟨c5.heap.size, 3, none⟩ = some (.int .i64 0)) := fun x hx => by
    have e : c5.heap.size < d5.heap.size := by rw [← hD]; simp
    refine ⟨(cell_lasts hx e).trans ?_, (cell_lasts hx e).trans ?_, (cell_lasts hx e).trans ?_, (cell_lasts hx e).trans ?_⟩
    all_goals rw [← hD]; simp [go_sem]
  rw [hD]
  clear hD
  go_wp2_with fail
  refine (roads2_c _).mono ?_
  rintro e a6 ⟨pa, pn, pc, ra, rn, rc, rfl, hp, hr, hb1⟩
  have k_a6 : Below w.heap.size w a6 := k_d5.trans (hb1.mono k_d5.size)
  have q_a6 : Below d5.heap.size d5 a6 := hb1
  clear hb1
  have HD : Hid (∀ x, Below a6.heap.size a6 x → predsAt x (.slice pa pn pc) Roads.preds ∧ rulesAt x (.slice ra rn rc) Roads.rules) := fun x hx => ⟨predsAt.lasts hx hp, rulesAt.lasts hx hr⟩
  clear hp hr
  go_wp2_with fail
  refine (paths_c _).mono ?_
  rintro e p6 ⟨fv, rfl, hf, _, hb2⟩
  have k_p6 : Below w.heap.size w p6 := k_a6.trans (hb2.mono k_a6.size)
  have q_p6 : Below d5.heap.size d5 p6 := q_a6.trans (hb2.mono q_a6.size)
  have HC : Hid (Calls Tryz.prog 11 #[.agg #[.slice pa pn pc, .slice ra rn rc], fv, .int .i64 6] p6 fun e w' => (∃ v, e = .returned (.tuple #[v, .int .i64 0]) ∧ stepsAt w' v (allOf Roads.preds Roads.rules pathsL 6)) ∧ Below p6.heap.size p6 w') := by
    have h := devAll_c p6 _ _ fv Roads.preds Roads.rules pathsL 6 (HD.out _ hb2).1 (HD.out _ hb2).2 hf smallP
    have e : fireErr Roads.preds Roads.rules pathsL 6 = 0 := by rw [fe]; rfl
    rw [e] at h
    exact h
  obtain ⟨fa, fc, rfl, _⟩ := hf
  clear hb2 HD
  go_wp2_with fail
  refine HC.out.mono ?_
  rintro e c6 ⟨⟨v6, rfl, hst⟩, hb3⟩
  have k_c6 : Below w.heap.size w c6 := k_p6.trans (hb3.mono k_p6.size)
  have q_c6 : Below d5.heap.size d5 c6 := q_p6.trans (hb3.mono q_p6.size)
  clear hb3 HC
  obtain ⟨sa6, sc6, rfl, _⟩ := hst
  simp only [al6]
  have r5 : Below c4.heap.size c4 c6 := q_d5.trans (q_c6.mono q_d5.size)
  have r4 : Below c3.heap.size c3 c6 := q_c4.trans (r5.mono q_c4.size)
  have r3 : Below d2.heap.size d2 c6 := q_c3.trans (r4.mono q_c3.size)
  have r2 : Below d1.heap.size d1 c6 := q_d2.trans (r3.mono q_d2.size)
  obtain ⟨x0, x1, x2, x3⟩ := HB1.out _ r2
  obtain ⟨y0, y1, y2, y3⟩ := HB2.out _ r3
  obtain ⟨z0, z1, z2, z3⟩ := HB3.out _ r4
  clear HB1 HB2 HB3 HB5
  go_wp2_with fail
  go_ret
  exact ⟨rfl, k_c6⟩
end Go.Proofs.YtkeoeceejhicaacGreat.Fire
