/-
  The developers' All of package fire.
-/
import Derived.Test.YtlfccloaoopadafGreatDoorG34
import Derived.Test.YtlfccloaoopadafGreatDoorG35
import Derived.Test.YtlfccloaoopadafGreatDoorG27
import Derived.Test.YtlfccloaoopadafGreatDoorG21
import Derived.Test.YtlfccloaoopadafGreatDoorG22
import Derived.Test.YtlfccloaoopadafGreatDoorG14
import Derived.Test.YtlfccloaoopadafGreatDoorG9
import Derived.Test.YtlfccloaoopadafGreatDoorG24
import Derived.Test.YtlfccloaoopadafGreatDoorG37
namespace Go.Proofs.YtlfccloaoopadafGreatDoor.Fire
open Go.ChangeShapes Go.WideShapes Go.ChangeAt Go.RowKit
open Rule (Vars ruleErr)
open Base (factsErr own_lasts)
open Prog (slice_cells small)
open Go.Sort Go.Shelf Go.Lib

def encS (s : Stp) : List Value := [.int .i64 s.rule, .int .i64 s.x, .int .i64 s.y, .int .i64 s.z]
instance : Inhabited Stp := ⟨⟨0, 0, 0, 0⟩⟩
theorem four {P : Nat → Prop} (h0 : P 0) (h1 : P 1) (h2 : P 2) (h3 : P 3) : ∀ c, c < 4 → P c
  | 0, _ => h0
  | 1, _ => h1
  | 2, _ => h2
  | 3, _ => h3
  | c + 4, h => absurd h (by omega)
theorem holds_own {w : World} {base g cap : Nat} {l : List Stp} (h : w.ownsRow base 160 4 (.slice (some ⟨g, 0, none⟩) l.length cap) l.length (cellsS l)) (hl : l.length ≤ 500) : HoldsK encS 4 w g 0 l.toArray ∧ base ≤ g ∧ g < w.heap.size := by
  have hs := stepsAt_of h (by omega)
  obtain ⟨_, ⟨e, _⟩ | ⟨g', cap', cur, e, hg, hh, _⟩⟩ := h
  · cases e
  · obtain ⟨rfl, rfl⟩ : g = g' ∧ cap = cap' := by simpa using e
    refine ⟨fun t ht => ?_, hg, (Array.getElem?_eq_some_iff.1 hh).1⟩
    rw [size_flatK, List.size_toArray] at ht
    refine ⟨?_, by simp [World.frozen?, hh]⟩
    have hi : t / 4 < l.length := by omega
    obtain ⟨b, off, cap2, e2, _, a0, a1, a2, a3⟩ := step_cells hs hi
    obtain ⟨⟨rfl, rfl⟩, rfl⟩ : (g = b ∧ 0 = off) ∧ cap = cap2 := by simpa using e2
    rw [get_flatK _ _ _ _ (by rw [List.size_toArray]; omega)]
    have el : l.toArray[t / 4]! = l[t / 4] := by simp [hi]
    rw [el, show (0 + t : Nat) = 0 + t / 4 * 4 + t % 4 by omega]
    exact four (P := fun c => w.cell? ⟨g, 0 + t / 4 * 4 + c, none⟩ = some (id (encS l[t / 4])[c]!)) a0 a1 a2 a3 (t % 4) (by omega)
theorem sort_below {w : World} {base g n : Nat} {d : Array Stp} {os : Array Obj} (hb : base ≤ g) (hg : g < w.heap.size) : Below base w (sortWorldK encS 4 w g 0 n d os) := by
  refine ⟨rfl, rfl, rfl, ?_, fun k hk => ?_⟩
  · unfold sortWorldK grow putRowK putRow mapBlock Sort.ahead
    simp
  · unfold sortWorldK grow putRowK putRow mapBlock Sort.ahead
    show (Array.modify w.heap g _ ++ os)[k]? = w.heap[k]?
    rw [Array.getElem?_append_left (by simp; omega), Array.getElem?_modify, if_neg (by omega)]
theorem sort_holds {w : World} {g cap n : Nat} {l : List Stp} {d : Array Stp} {os : Array Obj} (h : HoldsK encS 4 w g 0 l.toArray) (hg : g < w.heap.size) (hs : d.size = l.length) (hl : l.length ≤ 500) : stepsAt (sortWorldK encS 4 w g 0 n d os) (.slice (some ⟨g, 0, none⟩) l.length cap) d.toList := by
  have h1 : HoldsK encS 4 (sortWorldK encS 4 w g 0 n d os) g 0 d := by
    have h0 : HoldsK encS 4 (Sort.ahead w n) g 0 l.toArray := h
    have hs' : d.size = l.toArray.size := by simpa using hs
    refine holdsK_grow _ _ _ _ _ _ _ ?_ (holdsK_putRowK _ _ _ _ _ _ _ h0 hs')
    unfold putRowK putRow mapBlock Sort.ahead
    simpa using hg
  have hdl : d.toList.length = l.length := (Array.length_toList).trans hs
  refine ⟨some ⟨g, 0, none⟩, cap, by rw [hdl], by rw [hdl]; omega, .inr ⟨g, 0, rfl, ?_, fun i x hi => ?_⟩⟩
  · exact Nat.lt_of_lt_of_le hg (sort_below (Nat.zero_le _) hg).size
  · have hi' : i < d.size := by
      have := (List.getElem?_eq_some_iff.1 hi).1
      simpa using this
    have ex : d[i]! = x := by
      rw [getElem!_pos d i hi']
      have := (List.getElem?_eq_some_iff.1 hi).2
      simpa using this
    have c := fun k hk => (h1.cell (c := k) hi' hk).1
    rw [ex] at c
    exact ⟨c 0 (by omega), c 1 (by omega), c 2 (by omega), c 3 (by omega)⟩
theorem ltOf_cmpS (s t : Stp) : ltOf cmpS s t = ltS s t := cmpS_lt s t
theorem swoS : SWO (ltOf cmpS) where
  irrefl x := by rw [ltOf_cmpS]; exact ltS_irrefl x
  trans x y z h1 h2 := by rw [ltOf_cmpS] at *; exact ltS_trans h1 h2
  ntrans x y z h1 h2 := by rw [ltOf_cmpS, ltS_not] at *; omega
theorem cmpLays (blk off size : Nat) (w : World) : CmpLays Tryz.prog 142 #[] encS 4 cmpS blk off size w := fun _ _ _ _ x y => all1_c x y _
set_option maxHeartbeats 1000000 in
theorem sort_c (w : World) (base : Nat) (v : Value) (l : List Stp) (h : w.ownsRow base 160 4 v l.length (cellsS l)) (hl : l.length ≤ 500) :
    Calls Tryz.prog 141 #[v, .func (.func 142) #[] #[]] w fun e w' => e = .returned (.tuple #[]) ∧ (∃ l' : List Stp, l'.Perm l ∧ l'.Pairwise (fun s t => ltS t s = false) ∧ stepsAt w' v l') ∧ Below base w w' := by
  have ho := h
  obtain ⟨_, ⟨rfl, hn⟩ | ⟨g, cap, cur, rfl, _, _, _⟩⟩ := h
  · have hl0 : l = [] := List.eq_nil_of_length_eq_zero hn
    subst hl0
    refine (show Calls Tryz.prog 141 #[.slice none 0 0, .func (.func 142) #[] #[]] w _ from AnyF.slices_SortFunc_none sortStep none 0 _ w).mono ?_
    rintro e w' ⟨rfl, rfl⟩
    exact ⟨rfl, ⟨[], List.Perm.refl _, List.Pairwise.nil, ⟨none, 0, rfl, by simp, .inl rfl⟩⟩, Below.refl _ _⟩
  · obtain ⟨hH, hb, hg⟩ := holds_own ho hl
    have hc := AnyQ.slices_SortFunc sortStep 4 Tryz.isAgg160 Tryz.sizeOf160 encS (fun _ => rfl) (fun x v hv => by simp [encS] at hv; rcases hv with rfl | rfl | rfl | rfl <;> rfl) cmpS swoS 142 #[] g 0 cap l.toArray w (enters_of Tryz.func142 (by kernel_rfl) rfl) (cmpLays g 0 _ w) hH hg (by rw [List.size_toArray]; omega)
    rw [List.size_toArray] at hc
    refine (show Calls Tryz.prog 141 #[.slice (some ⟨g, 0, none⟩) l.length cap, .func (.func 142) #[] #[]] w _ from hc).mono ?_
    rintro e w' ⟨rfl, d, n, os, ⟨hs, _, hp⟩, hso, rfl⟩
    replace hs : d.size = l.length := by have : l.toArray.size = l.length := List.size_toArray; omega
    refine ⟨rfl, ⟨d.toList, ?_, ?_, sort_holds hH hg hs hl⟩, sort_below hb hg⟩
    · have e1 : d.extract 0 l.length = d := by rw [← hs]; exact Array.extract_size
      have e2 : l.toArray.extract 0 l.length = l.toArray := by
        have := Array.extract_size (xs := l.toArray)
        rwa [List.size_toArray] at this
      rw [e1, e2] at hp
      exact hp
    · rw [List.pairwise_iff_getElem]
      intro i j hi hj hij
      have hi' : i < d.size := by simpa using hi
      have hj' : j < d.size := by simpa using hj
      have := hso i j (Nat.zero_le _) hij (by omega)
      rw [ltOf_cmpS, getElem!_pos d i hi', getElem!_pos d j hj'] at this
      simpa using this
theorem own_base {w : World} {base base' : Nat} {e : TypeId} {sz n : Nat} {v : Value} {xs : List Value} (h : w.ownsRow base e sz v n xs) (hb : base' ≤ base) : w.ownsRow base' e sz v n xs := by
  obtain ⟨h0, h1⟩ := h
  refine ⟨h0, ?_⟩
  rcases h1 with h1 | ⟨g, cap, cur, h1, h2, h3⟩
  · exact .inl h1
  · exact .inr ⟨g, cap, cur, h1, by omega, h3⟩
theorem own_ge {w : World} {base : Nat} {e : TypeId} {sz n : Nat} {v : Value} {xs : List Value} (h : w.ownsRow base e sz v n xs) {b : Nat} (hb : v.ownBlock = some b) : base ≤ b := by
  obtain ⟨_, ⟨rfl, _⟩ | ⟨g, cap, cur, rfl, hg, _⟩⟩ := h
  · cases hb
  · obtain rfl : g = b := by simpa [Value.ownBlock] using hb
    exact hg
/-- E2, errors too -/
def allOf (ps : List Prd) (rs : List Rul) (f : List Fct) (n : Int) : List Stp := if fireErr ps rs f n ≠ 0 then [] else match rs[n.toNat]? with
  | some r => allL f r n
  | none => []
set_option maxRecDepth 100000 in
set_option maxHeartbeats 2000000 in
theorem devAllN_c (w : World) (pv rv fv : Value) (ps : List Prd) (rs : List Rul) (f : List Fct) (n : Int) (hp : predsAt w pv ps) (hr : rulesAt w rv rs) (hf : factsAt w fv f) (hn : small ps) :
    Calls Tryz.prog 113 #[.agg #[pv, rv], fv, .int .i64 n] w fun e w' => (∃ v, e = .returned (.tuple #[v, .int .i64 (fireErr ps rs f n)]) ∧ stepsAt w' v (allOf ps rs f n) ∧ ∀ b, v.ownBlock = some b → w.heap.size ≤ b) ∧ Below w.heap.size w w' := by
  have HP : Hid (∀ x, Below w.heap.size w x → predsAt x pv ps) := fun x hx => predsAt.lasts hx hp
  have HR : Hid (∀ x, Below w.heap.size w x → rulesAt x rv rs) := fun x hx => rulesAt.lasts hx hr
  have HF : Hid (∀ x, Below w.heap.size w x → factsAt x fv f) := fun x hx => factsAt.lasts hx hf
  obtain ⟨W1, hW1⟩ : ∃ W1, w.alloc (.cells #[pv, rv] 25) = W1 := ⟨_, rfl⟩
  have b1 : Below w.heap.size w W1 := by rw [← hW1]; exact below_alloc _ _
  have HC : Hid (Calls Tryz.prog 139 #[.agg #[pv, rv], fv, .int .i64 n] W1 fun e w' => e = .returned (.int .i64 (fireErr ps rs f n)) ∧ Below W1.heap.size W1 w') := check_c W1 _ _ _ ps rs f n (HP.out _ b1) (HR.out _ b1) (HF.out _ b1) hn
  have q0 : W1.cell? ⟨w.heap.size, 0, none⟩ = some pv := by rw [← hW1]; simp [go_sem]
  have q1 : W1.cell? ⟨w.heap.size, 1, none⟩ = some rv := by rw [← hW1]; simp [go_sem]
  have s1 : W1.heap.size = w.heap.size + 1 := by rw [← hW1]; simp
  obtain ⟨pa, pc, rfl, _⟩ := hp
  obtain ⟨ra, rc, rfl, _⟩ := hr
  obtain ⟨fa, fc, rfl, _⟩ := hf
  by_cases hfe : fireErr ps rs f n = 0
  · obtain ⟨z1, z2, z3, z4⟩ := fire_zero hfe
    obtain ⟨m, rfl⟩ : ∃ m : Nat, n = (m : Int) := ⟨n.toNat, by omega⟩
    have hml : m < rs.length := by omega
    have HA : Hid (allOf ps rs f m = allL f rs[m] m) := by show _ = _; rw [allOf, if_neg (by rw [hfe]; simp), Int.toNat_natCast, List.getElem?_eq_getElem hml]
    have HST : Hid (∀ x, Below w.heap.size w x → Calls Tryz.prog 140 #[.agg #[.slice pa ps.length pc, .slice ra rs.length rc], .slice fa f.length fc, .int .i64 (m : Int)] x fun e w' => ∃ v l, e = .returned v ∧ w'.ownsRow x.heap.size 160 4 v l.length (cellsS l) ∧ Below x.heap.size x w' ∧ l.length ≤ 500 ∧ ∀ l' : List Stp, l'.Perm l → l'.Pairwise (fun s t => ltS t s = false) → l' = allL f rs[m] m) := fun x hx => by
      have hre : ruleErr ps rs[m] = 0 := rules_right z1 _ (List.getElem_mem hml)
      refine (steps_c x _ _ _ ps rs f m (HP.out _ hx) (HR.out _ hx) (HF.out _ hx) (rules_right z1) z2 hml).mono ?_
      rintro e w' ⟨v, rfl, ho, hb⟩
      refine ⟨v, _, rfl, own_base ho (by omega), hb, ?_, fun l' h1 h2 => lay_sorted hre z2 h1 h2⟩
      rw [List.length_map]
      have := lay_len hre z2
      omega
    have HCC : Hid (∀ x, Below W1.heap.size W1 x → x.cell? ⟨w.heap.size, 0, none⟩ = some (.slice pa ps.length pc) ∧ x.cell? ⟨w.heap.size, 1, none⟩ = some (.slice ra rs.length rc)) := fun x hx => ⟨(cell_lasts hx (by omega)).trans q0, (cell_lasts hx (by omega)).trans q1⟩
    have HFE : Hid (fireErr ps rs f m = 0) := hfe
    rw [hfe] at HC
    clear z1 z2 z3 z4 hfe
    generalize rs[m] = r at *
    go_enter Tryz.func113, Tryz.ntmps113
    go_wp2_with fail
    refine HC.out.mono ?_
    rintro e W2 ⟨rfl, hb2⟩
    have k2 : Below w.heap.size w W2 := b1.trans (hb2.mono b1.size)
    clear hW1 q0 q1 HC
    obtain ⟨c0, c1⟩ := HCC.out _ hb2
    go_wp2_with fail
    refine (HST.out _ k2).mono ?_
    rintro e W3 ⟨v, l, rfl, hown, hb3, hl, hall⟩
    have k3 : Below w.heap.size w W3 := k2.trans (hb3.mono k2.size)
    obtain ⟨va, vn, vc, rfl⟩ := own_slice hown
    have HSO : Hid (Calls Tryz.prog 141 #[.slice va vn vc, .func (.func 142) #[] #[]] W3 fun e w' => e = .returned (.tuple #[]) ∧ stepsAt w' (.slice va vn vc) (allL f r m) ∧ Below w.heap.size w w') := (sort_c W3 W2.heap.size (.slice va vn vc) l hown hl).mono fun e w' ⟨h1, ⟨l', h2, h3, h4⟩, h5⟩ => ⟨h1, by rw [← hall l' h2 h3]; exact h4, k3.trans (h5.mono k2.size)⟩
    have HNEW : Hid (∀ b, (Value.slice va vn vc).ownBlock = some b → w.heap.size ≤ b) := fun b hb => Nat.le_trans k2.size (own_ge hown hb)
    clear hown hall hl c0 c1
    go_wp2_with fail
    refine HSO.out.mono ?_
    rintro e W4 ⟨rfl, hst, k4⟩
    go_wp2_with fail
    refine bodyPost_ret (v := .tuple #[.slice va vn vc, .int .i64 0]) (by simp [results, Tryz.results113, go_sem]) rfl ?_
    exact ⟨⟨.slice va vn vc, by rw [HFE.out], by rw [HA.out]; exact hst, HNEW.out⟩, k4⟩
  · have HA : Hid (allOf ps rs f n = []) := by show _ = _; rw [allOf, if_pos hfe]
    go_enter Tryz.func113, Tryz.ntmps113
    go_wp2_with fail
    refine HC.out.mono ?_
    rintro e W2 ⟨rfl, hb2⟩
    have hfe' : (fireErr ps rs f n == 0) = false := by simpa using hfe
    clear HC
    go_wp2_with fail
    refine bodyPost_ret (v := .tuple #[.slice none 0 0, .int .i64 (fireErr ps rs f n)]) (by simp [results, Tryz.results113, go_sem]) rfl ?_
    exact ⟨⟨.slice none 0 0, rfl, by rw [HA.out]; exact ⟨none, 0, rfl, by simp, .inl rfl⟩, fun b hb => by cases hb⟩, b1.trans (hb2.mono b1.size)⟩
theorem devAll_c (w : World) (pv rv fv : Value) (ps : List Prd) (rs : List Rul) (f : List Fct) (n : Int) (hp : predsAt w pv ps) (hr : rulesAt w rv rs) (hf : factsAt w fv f) (hn : small ps) :
    Calls Tryz.prog 113 #[.agg #[pv, rv], fv, .int .i64 n] w fun e w' => (∃ v, e = .returned (.tuple #[v, .int .i64 (fireErr ps rs f n)]) ∧ stepsAt w' v (allOf ps rs f n)) ∧ Below w.heap.size w w' :=
  (devAllN_c w pv rv fv ps rs f n hp hr hf hn).mono fun _ _ ⟨⟨v, h1, h2, _⟩, h3⟩ => ⟨⟨v, h1, h2⟩, h3⟩
end Go.Proofs.YtlfccloaoopadafGreatDoor.Fire

/-
  The developers' 'told': a function value that goes through what the wanted rules tell, fact by fact; whoever ranges over it meets just these, in order.
-/
namespace Go.Proofs.YtlfccloaoopadafGreatDoor.Round
open Go.RowKit Go.Shelf
open Rule (Vars ruleErr kindOf factFine)
open Base (factsErr)
open Fire (consts bodyOk headF holdsF allL Stp stepsAt stepAt step_cells mem_all rules_right fireErr holdsErr holdsOk holdsFact devAllN_c devHolds_c allOf)
open Prog (progErr slice_cells small KeepsBut keepsBut_of_below)
attribute [local go_sem] Oper.semAt_some

theorem below_grown {A B : World} (h : Below A.heap.size A B) : A.grownBy B none := ⟨h.os, h.tape, h.output, h.size, fun k hk _ => h.block k hk⟩
/-- what a round keeps: all below n₀, and all cells but some blocks -/
structure Kept (n₀ : Nat) (X : Nat → Prop) (A B : World) : Prop where
  below : Below n₀ A B
  but : KeepsBut X A B
theorem Kept.refl (n₀ : Nat) (X : Nat → Prop) (A : World) : Kept n₀ X A A := ⟨Below.refl _ _, KeepsBut.refl _ _⟩
theorem Kept.trans {n₀ : Nat} {X : Nat → Prop} {A B C : World} (h : Kept n₀ X A B) (k : Kept n₀ X B C) : Kept n₀ X A C := ⟨h.below.trans k.below, h.but.trans k.but⟩
theorem Kept.of {n₀ : Nat} {X : Nat → Prop} {A B : World} (h : Below A.heap.size A B) (hn : n₀ ≤ A.heap.size) : Kept n₀ X A B := ⟨h.mono hn, keepsBut_of_below h⟩

theorem steps_kept {X : Nat → Prop} {A B : World} {v : Value} {l : List Stp} (hk : KeepsBut X A B) (hX : ∀ b, v.ownBlock = some b → ¬ X b) (h : stepsAt A v l) : stepsAt B v l := by
  obtain ⟨a, cap, rfl, hl, hx⟩ := h
  refine ⟨a, cap, rfl, hl, ?_⟩
  rcases hx with hx | ⟨b, off, rfl, hb, hx⟩
  · exact .inl hx
  · have hne := hX b rfl
    exact .inr ⟨b, off, rfl, Nat.lt_of_lt_of_le hb hk.size, fun i x hi => ⟨hk.cell hne (hx i x hi).1, hk.cell hne (hx i x hi).2.1, hk.cell hne (hx i x hi).2.2.1, hk.cell hne (hx i x hi).2.2.2⟩⟩
abbrev Told (T : List Fct) := { x : Fct // x ∈ T }
def toldV {T : List Fct} (x : Told T) : Array Value := #[.agg #[.int .i64 x.1.pred, .int .i64 x.1.a, .int .i64 x.1.b, .int .i64 x.1.val]]
def toldL {T : List Fct} (l : List (Told T)) : List Fct := l.map fun x => x.1
theorem toldL_snoc {T : List Fct} (l : List (Told T)) (x : Told T) : toldL (l ++ [x]) = toldL l ++ [x.1] := by simp [toldL]
theorem toldL_length {T : List Fct} (l : List (Told T)) : (toldL l).length = l.length := by simp [toldL]
theorem told_le (ps : List Prd) (S : Rul → Bool) (f : List Fct) (rs : List Rul) (k : Nat) : (toldS ps S f (rs.take k)).length ≤ (toldS ps S f rs).length := by
  have : toldS ps S f rs = toldS ps S f (rs.take k) ++ toldS ps S f (rs.drop k) := by
    unfold toldS
    rw [← List.flatMap_append, List.take_append_drop]
  rw [this, List.length_append]
  omega
theorem told_mem {ps : List Prd} {S : Rul → Bool} {f : List Fct} {rs : List Rul} {n : Nat} (hn : n < rs.length) (hS : S rs[n] = true) : ∀ x ∈ toldR ps f rs[n], x ∈ toldS ps S f rs := fun x hx =>
  List.mem_flatMap.2 ⟨rs[n], List.getElem_mem hn, by rw [if_pos hS]; exact hx⟩

set_option maxRecDepth 100000 in
set_option maxHeartbeats 4000000 in
theorem told1_stops (n : Nat) (hn : 1 ≤ n) (Bp Bw Bf n₀ : Nat) (X : Nat → Prop) (pv rv fv : Value) (g : Nat) (lb : Array Value) (ps : List Prd) (rs : List Rul) (f : List Fct) (S : Rul → Bool) (w : World)
    (hXp : ¬ X Bp) (hXw : ¬ X Bw) (hXf : ¬ X Bf) (hX : ∀ k, X k → n₀ ≤ k ∧ k < w.heap.size) (hn₀ : n₀ ≤ w.heap.size)
    (hc0 : w.cell? ⟨Bp, 0, none⟩ = some pv) (hc1 : w.cell? ⟨Bp, 1, none⟩ = some rv) (hc2 : w.cell? ⟨Bw, 0, none⟩ = some (.func (.func g) #[] lb)) (hc3 : w.cell? ⟨Bf, 0, none⟩ = some fv)
    (w₀ : World) (hw₀ : w₀.heap.size = n₀) (hb₀ : Below n₀ w₀ w) (hp : predsAt w₀ pv ps) (hr : rulesAt w₀ rv rs) (hf : factsAt w₀ fv f) (hsm : small ps) (hpe : progErr ps rs = 0) (hfe : factsErr ps f = 0)
    (eg : ∀ args w, (callFunc g args).run Tryz.prog w = .ok (.enter g args) w)
    (hwa : ∀ (x : World) (n : Nat) (hn : n < rs.length) (ha : Option Addr) (hc : Nat) (ba : Option Addr) (bc : Nat), Kept n₀ X w x → Calls Tryz.prog g (#[.agg #[.int .i64 rs[n].head.pred, .slice ha rs[n].head.args.length hc, .int .i64 rs[n].src, .int .i64 rs[n].n, .slice ba rs[n].body.length bc]] ++ lb) x fun e w' => e = .returned (.bool (S rs[n])) ∧ Below x.heap.size x w') :
    SeqStopsK Fence.wide n Tryz.prog 112 #[.pointer (some ⟨Bp, 0, none⟩), .pointer (some ⟨Bw, 0, none⟩), .pointer (some ⟨Bf, 0, none⟩)] (toldV (T := toldS ps S f rs)) (Kept n₀ X) (fun ys => toldL ys = toldS ps S f rs) (fun _ => True) (toldS ps S f rs).length w := fun l J Jx W hW hJ _ hY h0 => by
  have hre := rules_right hpe
  have HW : Hid (Kept n₀ X w W) := Kept.of hW hn₀
  have HW0 : Hid (∀ x, Kept n₀ X w x → Below w₀.heap.size w₀ x) := fun x hx => by rw [hw₀]; exact hb₀.trans hx.below
  have HD : Hid (∀ x, Kept n₀ X w x → predsAt x pv ps ∧ rulesAt x rv rs ∧ factsAt x fv f) := fun x hx => ⟨predsAt.lasts (HW0.out x hx) hp, rulesAt.lasts (HW0.out x hx) hr, factsAt.lasts (HW0.out x hx) hf⟩
  have HCE : Hid (∀ x, Kept n₀ X w x → x.cell? ⟨Bp, 0, none⟩ = some pv ∧ x.cell? ⟨Bp, 1, none⟩ = some rv ∧ x.cell? ⟨Bw, 0, none⟩ = some (.func (.func g) #[] lb) ∧ x.cell? ⟨Bf, 0, none⟩ = some fv) := fun x hx => ⟨hx.but.cell hXp hc0, hx.but.cell hXp hc1, hx.but.cell hXw hc2, hx.but.cell hXf hc3⟩
  have HALL : Hid (∀ x n, (hn : n < rs.length) → Kept n₀ X w x → Calls Tryz.prog 113 #[.agg #[pv, rv], fv, .int .i64 (n : Int)] x fun e w' => (∃ v, e = .returned (.tuple #[v, .int .i64 0]) ∧ stepsAt w' v (allL f rs[n] n) ∧ ∀ b, v.ownBlock = some b → x.heap.size ≤ b) ∧ Below x.heap.size x w') := fun x n hn hx => by
    have h := devAllN_c x pv rv fv ps rs f n (HD.out x hx).1 (HD.out x hx).2.1 (HD.out x hx).2.2 hsm
    have e : fireErr ps rs f n = 0 := by rw [fireErr, if_neg (by rw [hpe]; simp), if_neg (by rw [hfe]; simp), if_pos (by omega)]
    have e2 : allOf ps rs f n = allL f rs[n] n := by rw [allOf, if_neg (by rw [e]; simp), Int.toNat_natCast, List.getElem?_eq_getElem hn]
    rw [e, e2] at h
    exact h
  have HHO : Hid (∀ x n, (hn : n < rs.length) → ∀ k, (hk : k < (allL f rs[n] n).length) → Kept n₀ X w x → Calls Tryz.prog 114 #[.agg #[pv, rv], fv, .int .i64 (n : Int), .agg #[.int .i64 (allL f rs[n] n)[k].x, .int .i64 (allL f rs[n] n)[k].y, .int .i64 (allL f rs[n] n)[k].z]] x fun e w' => e = .returned (.tuple #[.bool true, .agg #[.int .i64 (headF ps f rs[n] (allL f rs[n] n)[k].vars).pred, .int .i64 (headF ps f rs[n] (allL f rs[n] n)[k].vars).a, .int .i64 (headF ps f rs[n] (allL f rs[n] n)[k].vars).b, .int .i64 (headF ps f rs[n] (allL f rs[n] n)[k].vars).val], .int .i64 0]) ∧ Below x.heap.size x w') := fun x n hn k hk hx => by
    have h := devHolds_c x pv rv fv ps rs f n (allL f rs[n] n)[k].vars (HD.out x hx).1 (HD.out x hx).2.1 (HD.out x hx).2.2 hsm
    obtain ⟨g1, g2, g3⟩ := told_holds (ps := ps) hk
    have e : fireErr ps rs f n = 0 := by rw [fireErr, if_neg (by rw [hpe]; simp), if_neg (by rw [hfe]; simp), if_pos (by omega)]
    have e0 : holdsErr ps rs f n (allL f rs[n] n)[k].vars = 0 := by rw [holdsErr, if_neg (by rw [e]; simp), if_pos g2]
    have e1 : holdsOk ps rs f n (allL f rs[n] n)[k].vars = true := by rw [holdsOk, if_neg (by rw [e0]; simp), Int.toNat_natCast, List.getElem?_eq_getElem hn]; exact g1
    have e2 : holdsFact ps rs f n (allL f rs[n] n)[k].vars = headF ps f rs[n] (allL f rs[n] n)[k].vars := by rw [holdsFact, if_neg (by rw [e0]; simp), Int.toNat_natCast, List.getElem?_eq_getElem hn]; exact g3
    rw [e0, e1, e2] at h
    exact h
  have HWA : Hid (∀ (x : World) (n : Nat) (hn : n < rs.length) (ha : Option Addr) (hc : Nat) (ba : Option Addr) (bc : Nat), Kept n₀ X w x → Calls Tryz.prog g (#[.agg #[.int .i64 rs[n].head.pred, .slice ha rs[n].head.args.length hc, .int .i64 rs[n].src, .int .i64 rs[n].n, .slice ba rs[n].body.length bc]] ++ lb) x fun e w' => e = .returned (.bool (S rs[n])) ∧ Below x.heap.size x w') := hwa
  have HX2 : Hid (∀ k, w.heap.size ≤ k → ¬ X k) := fun k hk h => by have := (hX k h).2; omega
  have HJB : Hid (∀ pre A B, J pre A → Below A.heap.size A B → J pre B) := fun pre A B h1 h2 => hJ _ _ _ none h1 (below_grown h2) (fun _ e => by cases e)
  have HN0 : Hid (∀ x, Kept n₀ X w x → n₀ ≤ x.heap.size) := fun x hx => Nat.le_trans hn₀ hx.but.size
  obtain ⟨pa, pc, rfl, _⟩ := hp
  obtain ⟨ra, rc, rfl, hrm, hrx⟩ := id hr
  obtain ⟨fa, fc, rfl, _⟩ := hf
  clear hrx hpe hfe hre hwa hX hb₀ hc0 hc1 hc2 hc3 hW hsm hXp hXw hXf hr
  refine callsIn_of_wp Tryz.func112 rfl trivial ?_ rfl
  simp only [Tryz.ntmps112, List.size_toArray, List.length_cons, List.length_nil, Nat.reduceAdd, Nat.reduceSub, Array.replicate_succ, Array.replicate_zero, List.push_toArray, List.append_toArray, List.nil_append, List.cons_append]
  obtain ⟨c0, c1, c2, c3⟩ := HCE.out W HW.out
  gi_wp2_with fail
  clear c0 c1 c2 c3
  gi_loopw [17] (fun i wr => ∃ (k : Nat) (pre : List (Told (toldS ps S f rs))), k ≤ rs.length ∧ i = .int .i64 k ∧ Hid (toldL pre = toldS ps S f (rs.take k)) ∧ J pre wr ∧ Kept n₀ X w wr) (fun i _ => rs.length - (intOf i).toNat)
  case atStart => exact ⟨0, [], Nat.zero_le _, rfl, rfl, h0, HW.out⟩
  case round =>
    obtain ⟨k, pre, hk, rfl, hpre, hJk, hkb⟩ := hrel
    obtain ⟨c0, c1, c2, c3⟩ := HCE.out wr hkb
    by_cases hkl : k < rs.length
    · obtain ⟨rb, ro, rc', hv, hrb, hcells⟩ := slice_cells (HD.out wr hkb).2.1 hkl
      obtain ⟨rfl, rfl⟩ : ra = some ⟨rb, ro, none⟩ ∧ rc = rc' := by simpa using hv
      obtain ⟨t0, ⟨hv', t1, t1'⟩, t2, t3, bv, t4, t5⟩ := hcells
      obtain ⟨ba, bc, rfl, _⟩ := t5
      obtain ⟨ha, hc, rfl, _⟩ := t1'
      have hkl1 : (k : Int) < (rs.length : Int) := by omega
      clear hv
      obtain ⟨W2, hW2⟩ : ∃ W2, wr.alloc (.cells #[.int .i64 rs[k].head.pred, .slice ha rs[k].head.args.length hc, .int .i64 rs[k].src, .int .i64 rs[k].n, .slice ba rs[k].body.length bc] 54) = W2 := ⟨_, rfl⟩
      have b2 : Below wr.heap.size wr W2 := by rw [← hW2]; exact below_alloc _ _
      have k2 : Kept n₀ X w W2 := hkb.trans (Kept.of b2 (HN0.out _ hkb))
      obtain ⟨d0, d1, d2, d3, d4⟩ : W2.cell? ⟨wr.heap.size, 0, none⟩ = some (.int .i64 rs[k].head.pred) ∧ W2.cell? ⟨wr.heap.size, 1, none⟩ = some (.slice ha rs[k].head.args.length hc) ∧ W2.cell? ⟨wr.heap.size, 2, none⟩ = some (.int .i64 rs[k].src) ∧ W2.cell? ⟨wr.heap.size, 3, none⟩ = some (.int .i64 rs[k].n) ∧ W2.cell? ⟨wr.heap.size, 4, none⟩ = some (.slice ba rs[k].body.length bc) := by rw [← hW2]; simp [go_sem]
      obtain ⟨e0, e1, e2, e3⟩ := HCE.out W2 k2
      have hJ2 : J pre W2 := HJB.out _ _ _ hJk b2
      gi_wp2_with fail
      refine ⟨trivial, CallsIn.mono (callsIn_wide.2 (HWA.out W2 k hkl ha hc ba bc k2)) ?_⟩
      rintro ex W3 ⟨rfl, hb3⟩
      have k3 : Kept n₀ X w W3 := k2.trans (Kept.of hb3 (HN0.out _ k2))
      have hJ3 : J pre W3 := HJB.out _ _ _ hJ2 hb3
      clear hW2 d0 d1 d2 d3 d4 e0 e1 e2 e3 c0 c1 c2 c3 t0 t1 t2 t3 t4 hJ2 hJk
      have HSU : Hid (toldS ps S f (rs.take (k + 1)) = toldS ps S f (rs.take k) ++ if S rs[k] then toldR ps f rs[k] else []) := toldS_succ hkl
      have HLE : Hid ((toldS ps S f (rs.take (k + 1))).length ≤ (toldS ps S f rs).length) := told_le ps S f rs (k + 1)
      cases hS : S rs[k]
      · have HSN : Hid (toldS ps S f (rs.take (k + 1)) = toldS ps S f (rs.take k)) := by show _ = _; rw [HSU.out, hS, if_neg (by simp), List.append_nil]
        clear HSU HLE
        gi_wp2_with fail
        go_roundw
        case rel => exact ⟨k + 1, pre, by omega, by go_num, by show _ = _; rw [HSN.out]; exact hpre.out, hJ3, k3⟩
        case measure => simp [intOf]; omega
      · have HSN : Hid (toldS ps S f (rs.take (k + 1)) = toldS ps S f (rs.take k) ++ toldR ps f rs[k]) := by show _ = _; rw [HSU.out, hS, if_pos rfl]
        have HIN : Hid (∀ x ∈ toldR ps f rs[k], x ∈ toldS ps S f rs) := told_mem hkl hS
        have HA1 : Hid (∀ x, Kept n₀ X w x → Calls Tryz.prog 113 #[.agg #[.slice pa ps.length pc, .slice (some ⟨rb, ro, none⟩) rs.length rc], .slice fa f.length fc, .int .i64 (k : Int)] x fun e w' => (∃ v, e = .returned (.tuple #[v, .int .i64 0]) ∧ stepsAt w' v (allL f rs[k] k) ∧ ∀ b, v.ownBlock = some b → x.heap.size ≤ b) ∧ Below x.heap.size x w') := fun x hx => HALL.out x k hkl hx
        have HH1 : Hid (∀ x q, (hq : q < (allL f rs[k] k).length) → Kept n₀ X w x → Calls Tryz.prog 114 #[.agg #[.slice pa ps.length pc, .slice (some ⟨rb, ro, none⟩) rs.length rc], .slice fa f.length fc, .int .i64 (k : Int), .agg #[.int .i64 (allL f rs[k] k)[q].x, .int .i64 (allL f rs[k] k)[q].y, .int .i64 (allL f rs[k] k)[q].z]] x fun e w' => e = .returned (.tuple #[.bool true, .agg #[.int .i64 (headF ps f rs[k] (allL f rs[k] k)[q].vars).pred, .int .i64 (headF ps f rs[k] (allL f rs[k] k)[q].vars).a, .int .i64 (headF ps f rs[k] (allL f rs[k] k)[q].vars).b, .int .i64 (headF ps f rs[k] (allL f rs[k] k)[q].vars).val], .int .i64 0]) ∧ Below x.heap.size x w') := fun x q hq hx => HHO.out x k hkl q hq hx
        clear HSU HALL HHO HWA hS
        generalize rs[k] = r at *
        obtain ⟨e0, e1, e2, e3⟩ := HCE.out W3 k3
        gi_wp2_with fail
        refine ⟨trivial, CallsIn.mono (callsIn_wide.2 (HA1.out W3 k3)) ?_⟩
        rintro ex W4 ⟨⟨vt, rfl, hst, hnew⟩, hb4⟩
        have k4 : Kept n₀ X w W4 := k3.trans (Kept.of hb4 (HN0.out _ k3))
        have hJ4 : J pre W4 := HJB.out _ _ _ hJ3 hb4
        clear e0 e1 e2 e3 hJ3 HA1
        have HSA : Hid (∀ x, Below W4.heap.size W4 x → stepsAt x vt (allL f r k)) := fun x hx => Fire.stepsAt.lasts hx hst
        have HRL : Hid ((toldR ps f r).length = (allL f r k).length) := by show _ = _; rw [toldR_any ps f r k, List.length_map]
        obtain ⟨ta, tc, rfl, _⟩ := hst
        have HSX : Hid (∀ A B, Kept n₀ X A B → stepsAt A (.slice ta (allL f r k).length tc) (allL f r k) → stepsAt B (.slice ta (allL f r k).length tc) (allL f r k)) := fun A B hB h => by
          exact steps_kept hB.but (fun b hb => HX2.out b (Nat.le_trans k3.but.size (hnew b hb))) h
        gi_wp2_with fail
        gi_loopw [35] (fun i wr3 => ∃ (q : Nat) (pre' : List (Told (toldS ps S f rs))), q ≤ (allL f r k).length ∧ i = .int .i64 q ∧ Hid (toldL pre' = toldS ps S f (rs.take k) ++ (toldR ps f r).take q) ∧ J pre' wr3 ∧ Kept n₀ X w wr3 ∧ stepsAt wr3 (.slice ta (allL f r k).length tc) (allL f r k)) (fun i _ => (allL f r k).length - (intOf i).toNat)
        case atStart => exact ⟨0, pre, Nat.zero_le _, rfl, by show _ = _; rw [List.take_zero, List.append_nil]; exact hpre.out, hJ4, k4, HSA.out _ (Below.refl _ _)⟩
        case round =>
          obtain ⟨q, pre', hq, rfl, hpre', hJq, hkq, hstq⟩ := hrel
          by_cases hql : q < (allL f r k).length
          · obtain ⟨sb, so, sc, hsv, hsb, q0, q1, q2, q3⟩ := step_cells hstq hql
            obtain ⟨rfl, rfl⟩ : ta = some ⟨sb, so, none⟩ ∧ tc = sc := by simpa using hsv
            have hq1 : (q : Int) < ((allL f r k).length : Int) := by omega
            have HH2 : Hid (∀ x, Kept n₀ X w x → Calls Tryz.prog 114 #[.agg #[.slice pa ps.length pc, .slice (some ⟨rb, ro, none⟩) rs.length rc], .slice fa f.length fc, .int .i64 (k : Int), .agg #[.int .i64 (allL f r k)[q].x, .int .i64 (allL f r k)[q].y, .int .i64 (allL f r k)[q].z]] x fun e w' => e = .returned (.tuple #[.bool true, .agg #[.int .i64 (headF ps f r (allL f r k)[q].vars).pred, .int .i64 (headF ps f r (allL f r k)[q].vars).a, .int .i64 (headF ps f r (allL f r k)[q].vars).b, .int .i64 (headF ps f r (allL f r k)[q].vars).val], .int .i64 0]) ∧ Below x.heap.size x w') := fun x hx => HH1.out x q hql hx
            have HT1 : Hid ((toldR ps f r).take (q + 1) = (toldR ps f r).take q ++ [headF ps f r (allL f r k)[q].vars]) := toldR_at hql
            have hin : headF ps f r (allL f r k)[q].vars ∈ toldS ps S f rs := HIN.out _ (by rw [toldR_any ps f r k]; exact List.mem_map.2 ⟨_, List.getElem_mem hql, rfl⟩)
            have HST : Hid (stepsAt wr (.slice (some ⟨sb, so, none⟩) (allL f r k).length tc) (allL f r k)) := hstq
            have hplen : pre'.length < (toldS ps S f rs).length := by
              have h1 := HLE.out
              have h2 := congrArg List.length hpre'.out
              rw [HSN.out, List.length_append, HRL.out] at h1
              rw [toldL_length, List.length_append, List.length_take, HRL.out] at h2
              omega
            clear hsv hstq
            generalize (allL f r k)[q] = sk at *
            generalize headF ps f r sk.vars = y at *
            obtain ⟨W5, hW5⟩ : ∃ W5, wr.alloc (.cells #[.int .i64 sk.rule, .int .i64 sk.x, .int .i64 sk.y, .int .i64 sk.z] 160) = W5 := ⟨_, rfl⟩
            have b5 : Below wr.heap.size wr W5 := by rw [← hW5]; exact below_alloc _ _
            have k5 : Kept n₀ X w W5 := hkq.trans (Kept.of b5 (HN0.out _ hkq))
            obtain ⟨d0, d1, d2, d3⟩ : W5.cell? ⟨wr.heap.size, 0, none⟩ = some (.int .i64 sk.rule) ∧ W5.cell? ⟨wr.heap.size, 1, none⟩ = some (.int .i64 sk.x) ∧ W5.cell? ⟨wr.heap.size, 2, none⟩ = some (.int .i64 sk.y) ∧ W5.cell? ⟨wr.heap.size, 3, none⟩ = some (.int .i64 sk.z) := by rw [← hW5]; simp [go_sem]
            obtain ⟨e0, e1, e2, e3⟩ := HCE.out W5 k5
            gi_wp2_with fail
            refine ⟨trivial, CallsIn.mono (callsIn_wide.2 (HH2.out W5 k5)) ?_⟩
            rintro ex W6 ⟨rfl, hb6⟩
            obtain ⟨W7, hW7⟩ : ∃ W7, W6.alloc (.cells #[.int .i64 y.pred, .int .i64 y.a, .int .i64 y.b, .int .i64 y.val] 82) = W7 := ⟨_, rfl⟩
            have b57 : Below W5.heap.size W5 W7 := by rw [← hW7]; exact hb6.alloc hb6.size _
            have b7 : Below wr.heap.size wr W7 := b5.trans (b57.mono b5.size)
            have k7 : Kept n₀ X w W7 := hkq.trans (Kept.of b7 (HN0.out _ hkq))
            obtain ⟨n0, n1, n2, n3⟩ : W7.cell? ⟨W6.heap.size, 0, none⟩ = some (.int .i64 y.pred) ∧ W7.cell? ⟨W6.heap.size, 1, none⟩ = some (.int .i64 y.a) ∧ W7.cell? ⟨W6.heap.size, 2, none⟩ = some (.int .i64 y.b) ∧ W7.cell? ⟨W6.heap.size, 3, none⟩ = some (.int .i64 y.val) := by rw [← hW7]; simp [go_sem]
            have hJ7 : J pre' W7 := HJB.out _ _ _ hJq b7
            have hst7 : Hid (stepsAt W7 (.slice (some ⟨sb, so, none⟩) (allL f r k).length tc) (allL f r k)) := Fire.stepsAt.lasts b7 HST.out
            clear hW5 d0 d1 d2 d3 e0 e1 e2 e3 q0 q1 q2 q3 hb6
            obtain ⟨fn, tmps, assign, body, hy, hR⟩ := hY pre' ⟨y, hin⟩ W7 hJ7 hplen
            dsimp only [toldV] at hy
            gi_wp2_with fail
            refine hR.mono ?_
            rintro ex W8 (⟨rfl, hJ8, hk8⟩ | ⟨rfl, hJx8⟩)
            · have hst8 : Hid (stepsAt W8 (.slice (some ⟨sb, so, none⟩) (allL f r k).length tc) (allL f r k)) := HSX.out _ _ hk8 hst7.out
              clear n0 n1 n2 n3 hy
              gi_wp2_with fail
              go_roundw
              case rel => exact ⟨q + 1, _, by omega, by go_num, by show _ = _; rw [toldL_snoc, hpre'.out, HT1.out, List.append_assoc], hJ8, k7.trans hk8, hst8.out⟩
              case measure => simp [intOf]; omega
            · clear n0 n1 n2 n3 hy
              gi_wp2_with fail
              refine bodyPost_ret (results_none rfl _ _ _) rfl ?_
              exact ⟨⟨_, rfl⟩, .inr ⟨_, trivial, hJx8⟩⟩
          · obtain rfl : q = (allL f r k).length := by omega
            have HRT : Hid ((toldR ps f r).take (allL f r k).length = toldR ps f r) := List.take_of_length_le (by rw [HRL.out]; exact Nat.le_refl _)
            gi_wp2_with fail
            go_roundw
            case rel => exact ⟨k + 1, pre', by omega, by go_num, by show _ = _; rw [hpre'.out, HSN.out, HRT.out], hJq, hkq⟩
            case measure => simp [intOf]; omega
    · obtain rfl : k = rs.length := by omega
      gi_wp2_with fail
      go_end0
      exact ⟨⟨_, rfl⟩, .inl ⟨pre, by have := hpre.out; rwa [List.take_length] at this, hJk⟩⟩
end Go.Proofs.YtlfccloaoopadafGreatDoor.Round

/-
  The developers' Once of package round.
-/
namespace Go.Proofs.YtlfccloaoopadafGreatDoor.Round
open Go.RowKit Go.Shelf
open Rule (Vars ruleErr kindOf factFine)
open Base (factsErr addF addC capOk capNew rowW)
open Fire (rules_right roundErr)
open Prog (progErr slice_cells small intsAt edges KeepsBut keepsBut_of_below devStrata_c leaves_marks)
open Strata (strataL at_)
attribute [local go_sem] Oper.semAt_some

/-- the strata of a right program -/
def stratOf (ps : List Prd) (rs : List Rul) : List Nat := (strataL (edges rs) ps.length).getD []
/-- F1, errors too -/
def onceF (ps : List Prd) (rs : List Rul) (f : List Fct) (s : Int) : List Fct := if roundErr ps rs f ≠ 0 then [] else addAll (kindOf ps) f (toldS ps (ofS (stratOf ps rs) s) f rs)
def onceC (ps : List Prd) (rs : List Rul) (f : List Fct) (s : Int) : Bool := if roundErr ps rs f ≠ 0 then false else chgAll (kindOf ps) f (toldS ps (ofS (stratOf ps rs) s) f rs)
theorem strat_some {ps : List Prd} {rs : List Rul} (h : progErr ps rs = 0) : strataL (edges rs) ps.length = some (stratOf ps rs) ∧ (stratOf ps rs).length = ps.length := by
  obtain ⟨h1, l, hl⟩ := Prog.prog_zero h
  have e : stratOf ps rs = l := by unfold stratOf; rw [hl]; rfl
  rw [e]
  exact ⟨hl, (Strata.strata_some (Prog.within_edges (Prog.parts_zero h1).2.2) hl).1⟩
theorem facts_kept {A B : World} {v : Value} {l : List Fct} {row : Option Nat} (h : factsAt A v l) (hg : A.grownBy B row) (hr : ∀ r, row = some r → ∃ o : Obj, A.heap[r]? = some o ∧ o.isCells = false) : factsAt B v l := by
  obtain ⟨a, cap, rfl, hl, hx⟩ := h
  refine ⟨a, cap, rfl, hl, ?_⟩
  rcases hx with hx | ⟨b, off, rfl, hb, hx⟩
  · exact .inl hx
  · exact .inr ⟨b, off, rfl, Nat.lt_of_lt_of_le hb hg.size, fun i x hi => ⟨cell_kept (hx i x hi).1 hg hr, cell_kept (hx i x hi).2.1 hg hr, cell_kept (hx i x hi).2.2.1 hg hr, cell_kept (hx i x hi).2.2.2 hg hr⟩⟩
theorem kept_grown {n₀ : Nat} {X : Nat → Prop} {W A B : World} {row : Option Nat} (h : Kept n₀ X W A) (hg : A.grownBy B row) (hn : n₀ ≤ W.heap.size) (hr : ∀ r, row = some r → W.heap.size ≤ r ∧ ∃ o : Obj, A.heap[r]? = some o ∧ o.isCells = false) : Kept n₀ X W B := by
  refine ⟨h.below.grown hg (Nat.le_trans hn h.but.size) (fun k e => Nat.le_trans hn (hr k e).1), Nat.le_trans h.but.size hg.size, fun k o hx hk ho => ?_⟩
  have hA := h.but.same k o hx hk ho
  exact (grownBy_keeps_cells hg (fun r e => (hr r e).2) hA ho).trans hA
theorem ints_via {A B : World} {v : Value} {l : List Nat} (h : intsAt A v l) (hc : ∀ b o u, b < A.heap.size → A.cell? ⟨b, o, none⟩ = some u → B.cell? ⟨b, o, none⟩ = some u) (hs : A.heap.size ≤ B.heap.size) : intsAt B v l := by
  obtain ⟨a, cap, rfl, hl, hx⟩ := h
  refine ⟨a, cap, rfl, hl, ?_⟩
  rcases hx with hx | ⟨b, off, rfl, hb, hx⟩
  · exact .inl hx
  · exact .inr ⟨b, off, rfl, Nat.lt_of_lt_of_le hb hs, fun i x hi => hc _ _ _ hb (hx i x hi)⟩
theorem facts_cells {A B : World} {v : Value} {l : List Fct} (h : factsAt A v l) (hc : ∀ b o u, A.cell? ⟨b, o, none⟩ = some u → B.cell? ⟨b, o, none⟩ = some u) (hs : A.heap.size ≤ B.heap.size) : factsAt B v l := by
  obtain ⟨a, cap, rfl, hl, hx⟩ := h
  refine ⟨a, cap, rfl, hl, ?_⟩
  rcases hx with hx | ⟨b, off, rfl, hb, hx⟩
  · exact .inl hx
  · exact .inr ⟨b, off, rfl, Nat.lt_of_lt_of_le hb hs, fun i x hi => ⟨hc _ _ _ (hx i x hi).1, hc _ _ _ (hx i x hi).2.1, hc _ _ _ (hx i x hi).2.2.1, hc _ _ _ (hx i x hi).2.2.2⟩⟩
theorem facts_box {A : World} {v u u' : Value} {B : Nat} {t : TypeId} {l : List Fct} (h : factsAt A v l) (hb : Boxed A B t u) (hu : ∀ k, u ≠ .int .i64 k) : factsAt (A.setCell ⟨B, 0, none⟩ u') v l := by
  have e : ∀ b o k, A.cell? ⟨b, o, none⟩ = some (.int .i64 k) → (A.setCell ⟨B, 0, none⟩ u').cell? ⟨b, o, none⟩ = some (.int .i64 k) := fun b o k hk => by
    rw [World.cell?_setCell_other A _ _ _ (fun e => by rw [← e, hb.cell] at hk; exact hu k (by simpa using hk))]
    exact hk
  obtain ⟨a, cap, rfl, hl, hx⟩ := h
  refine ⟨a, cap, rfl, hl, ?_⟩
  rcases hx with hx | ⟨b, off, rfl, hbl, hx⟩
  · exact .inl hx
  · exact .inr ⟨b, off, rfl, by rw [size_set]; exact hbl, fun i x hi => ⟨e _ _ _ (hx i x hi).1, e _ _ _ (hx i x hi).2.1, e _ _ _ (hx i x hi).2.2.1, e _ _ _ (hx i x hi).2.2.2⟩⟩
theorem kept_two {n₀ B : Nat} {X X1 : World} (h : Below X.heap.size X X1) (hn : n₀ ≤ X.heap.size) (hB : n₀ ≤ B) (u u' : Value) : Kept n₀ (fun k => k = B ∨ k = B + 1) X ((X1.setCell ⟨B, 0, none⟩ u).setCell ⟨B + 1, 0, none⟩ u') := by
  refine ⟨((h.mono hn).setCell (p := ⟨B, 0, none⟩) hB _).setCell (p := ⟨B + 1, 0, none⟩) (Nat.le_trans hB (Nat.le_succ _)) _, by rw [size_set, size_set]; exact h.size, fun k o hx hk _ => ?_⟩
  rw [Fire.heap_setCell_other (fun e => hx (.inr e.symm)), Fire.heap_setCell_other (fun e => hx (.inl e.symm))]
  exact (h.block k (Array.getElem?_eq_some_iff.1 hk).1).trans hk
theorem keepsOthers_below {A B : World} (h : Below A.heap.size A B) : KeepsOthers A B := ⟨h.size, fun k _ hk _ => (h.block k (Array.getElem?_eq_some_iff.1 hk).1).trans hk⟩

theorem rowW_kept {A B : World} {v : Value} {row : Option Nat} (h : rowW A v) (hg : A.grownBy B row) (hr : ∀ r, row = some r → ∃ o : Obj, A.heap[r]? = some o ∧ o.isCells = false) : rowW B v := fun g hgv => by
  obtain ⟨h1, cur, h2⟩ := h g hgv
  exact ⟨h1, cur, (grownBy_keeps_cells hg hr h2 rfl).trans h2⟩
theorem rowW_but {A B : World} {v : Value} (h : rowW A v) (hk : KeepsBut (fun _ => False) A B) : rowW B v := fun g hgv => by
  obtain ⟨h1, cur, h2⟩ := h g hgv
  exact ⟨h1, cur, hk.same g _ (fun x => x) h2 rfl⟩
/-- as leaves_marks, and no cells are other than they were -/
theorem leaves_but {F : Fence} {n : Nat} {P : Program} {fn : Func} {tmps : Array Value} {R : Ending → World → Prop} (n₀ : Nat) : ∀ (Ds : List Nat) (W : World), Ds.Nodup → (∀ D ∈ Ds, n₀ ≤ D ∧ W.heap[D]? = some (.deferred (some []))) →
    (∀ W', Below n₀ W W' → KeepsBut (fun _ => False) W W' → LeavesIn F n P fn tmps R [] .returning W') → LeavesInM F n P fn tmps R (Ds.map Prog.mark) .returning W
  | [], W, _, _, h => h W (Below.refl _ _) ⟨Nat.le_refl _, fun _ _ _ h _ => h⟩
  | D :: Ds, W, hn, hD, h => by
    obtain ⟨h1, h2⟩ := List.nodup_cons.1 hn
    have hD0 := hD D (by simp)
    have hbl : Below n₀ W (W.putObj D (.deferred none)) := (Below.refl n₀ W).grown (grownBy_putObj' W D _) (by have := (Array.getElem?_eq_some_iff.1 hD0.2).1; omega) (fun k e => by cases e; exact hD0.1)
    have hkb : KeepsBut (fun _ => False) W (W.putObj D (.deferred none)) := KeepsBut.putObj (fun _ => False) (.deferred none) hD0.2 rfl
    refine ⟨by simp, .inl ⟨D, W.putObj D (.deferred none), rfl, run_takeDeferred hD0.2, leaves_but n₀ Ds _ h2 (fun E hE => ?_) fun W' hb hc => ?_⟩⟩
    · have hE0 := hD E (by simp [hE])
      have hne : E ≠ D := fun e => h1 (e ▸ hE)
      exact ⟨hE0.1, (World.putObj_heap_other hne).trans hE0.2⟩
    · exact h W' (hbl.trans hb) ⟨Nat.le_trans hkb.size hc.size, fun k o hx hk ho => hc.same k o hx (hkb.same k o hx hk ho) ho⟩

set_option maxRecDepth 100000 in
set_option maxHeartbeats 8000000 in
theorem devOnce_w (w : World) (pv rv fv : Value) (ps : List Prd) (rs : List Rul) (f : List Fct) (s : Int) (hp : predsAt w pv ps) (hr : rulesAt w rv rs) (hf : factsAt w fv f) (hn : small ps) :
    Calls Tryz.prog 76 #[.agg #[pv, rv], fv, .int .i64 s] w fun e w' => ∃ u, e = .returned (.tuple #[u, .bool (onceC ps rs f s), .int .i64 (roundErr ps rs f)]) ∧ factsAt w' u (onceF ps rs f s) ∧ capNew w.heap.size u ∧ rowW w' u ∧ Below w.heap.size w w' := by
  have HD : Hid (∀ x, Below w.heap.size w x → predsAt x pv ps ∧ rulesAt x rv rs ∧ factsAt x fv f) := fun x hx => ⟨predsAt.lasts hx hp, rulesAt.lasts hx hr, factsAt.lasts hx hf⟩
  have HD0 : Hid (predsAt w pv ps ∧ rulesAt w rv rs ∧ factsAt w fv f) := ⟨hp, hr, hf⟩
  have HST : Hid (∀ x, Below w.heap.size w x → Calls Tryz.prog 47 #[.agg #[pv, rv]] x fun e w' => (∃ v, e = .returned (.tuple #[v, .int .i64 (progErr ps rs)]) ∧ (progErr ps rs ≠ 0 → v = .slice none 0 0) ∧ (∀ l, strataL (edges rs) ps.length = some l → progErr ps rs = 0 → intsAt w' v l)) ∧ Below x.heap.size x w') := fun x hx => devStrata_c x pv rv ps rs (HD.out x hx).1 (HD.out x hx).2.1 hn
  have HCH : Hid (∀ x, Below w.heap.size w x → Calls Tryz.prog 41 #[pv, fv] x fun e w' => e = .returned (.int .i64 (factsErr ps f)) ∧ Below x.heap.size x w') := fun x hx => Base.check_c x pv fv ps f (HD.out x hx).1 (HD.out x hx).2.2
  obtain ⟨pa, pc, rfl, _⟩ := hp
  obtain ⟨ra, rc, rfl, _⟩ := hr
  obtain ⟨fa, fc, rfl, _⟩ := hf
  obtain ⟨W1, hW1⟩ : ∃ W1, (w.alloc (.cells #[.slice pa ps.length pc, .slice ra rs.length rc] 25)).alloc (.cells #[.int .i64 s] 3) = W1 := ⟨_, rfl⟩
  have b1 : Below w.heap.size w W1 := by rw [← hW1]; exact ((Below.refl _ _).alloc (Nat.le_refl _) _).alloc (by simp) _
  have s1 : W1.heap.size = w.heap.size + 1 + 1 := by rw [← hW1]; simp
  have q0 : W1.cell? ⟨w.heap.size, 0, none⟩ = some (.slice pa ps.length pc) := by rw [← hW1]; simp [go_sem]
  have q1 : W1.cell? ⟨w.heap.size, 1, none⟩ = some (.slice ra rs.length rc) := by rw [← hW1]; simp [go_sem]
  have q2 : W1.cell? ⟨w.heap.size + 1, 0, none⟩ = some (.int .i64 s) := by rw [← hW1]; simp [go_sem]
  by_cases hpe : progErr ps rs = 0
  · have HL : Hid (strataL (edges rs) ps.length = some (stratOf ps rs) ∧ (stratOf ps rs).length = ps.length) := strat_some hpe
    have HK1 : Hid (∀ x, Below W1.heap.size W1 x → x.cell? ⟨w.heap.size, 0, none⟩ = some (.slice pa ps.length pc) ∧ x.cell? ⟨w.heap.size, 1, none⟩ = some (.slice ra rs.length rc) ∧ x.cell? ⟨w.heap.size + 1, 0, none⟩ = some (.int .i64 s)) := fun x hx => ⟨(cell_lasts hx (by omega)).trans q0, (cell_lasts hx (by omega)).trans q1, (cell_lasts hx (by omega)).trans q2⟩
    by_cases hfe : factsErr ps f = 0
    · have HE : Hid (roundErr ps rs f = 0 ∧ onceF ps rs f s = addAll (kindOf ps) f (toldS ps (ofS (stratOf ps rs) s) f rs) ∧ onceC ps rs f s = chgAll (kindOf ps) f (toldS ps (ofS (stratOf ps rs) s) f rs)) := by
        have e : roundErr ps rs f = 0 := by rw [roundErr, if_neg (by rw [hpe]; simp), hfe]
        exact ⟨e, by rw [onceF, if_neg (by rw [e]; simp)], by rw [onceC, if_neg (by rw [e]; simp)]⟩
      have HPE : Hid (progErr ps rs = 0 ∧ factsErr ps f = 0 ∧ small ps) := ⟨hpe, hfe, hn⟩
      rw [hpe] at HST
      rw [hfe] at HCH
      clear hpe hfe
      refine (callsIn_wide (n := 6)).1 (callsIn_of_wp_marks Tryz.func76 rfl trivial (wpIn_wide.2 ?_) rfl)
      simp only [Tryz.ntmps76, List.size_toArray, List.length_cons, List.length_nil, Nat.reduceAdd, Nat.reduceSub, Array.replicate_succ, Array.replicate_zero, List.push_toArray, List.append_toArray, List.nil_append, List.cons_append]
      go_wp2_with fail
      refine (HST.out _ b1).mono ?_
      rintro e W2 ⟨⟨vs, rfl, _, hints⟩, hb2⟩
      have hints := hints _ HL.out.1 (by first | rfl | trivial)
      obtain ⟨W3, hW3⟩ : ∃ W3, W2.alloc (.cells #[vs] 61) = W3 := ⟨_, rfl⟩
      have b13 : Below W1.heap.size W1 W3 := by rw [← hW3]; exact hb2.alloc hb2.size _
      have k3 : Below w.heap.size w W3 := b1.trans (b13.mono b1.size)
      have s3 : W3.heap.size = W2.heap.size + 1 := by rw [← hW3]; simp
      have q3 : W3.cell? ⟨W2.heap.size, 0, none⟩ = some vs := by rw [← hW3]; simp [go_sem]
      have HI3 : Hid (intsAt W3 vs (stratOf ps rs)) := by rw [← hW3]; exact Prog.intsAt.lasts (below_alloc _ _) hints
      have hs12 : W1.heap.size ≤ W2.heap.size := hb2.size
      obtain ⟨sa, sc, rfl, _⟩ := hints
      obtain ⟨c0, c1, c2⟩ := HK1.out _ b13
      clear hW1 q0 q1 q2 hb2 HST
      go_wp2_with fail
      clear hW3
      refine (HCH.out _ k3).mono ?_
      rintro e W4 ⟨rfl, hb4⟩
      have b14 : Below W1.heap.size W1 W4 := b13.trans (hb4.mono b13.size)
      have k4 : Below w.heap.size w W4 := b1.trans (b14.mono b1.size)
      clear c0 c1 c2 HCH
      obtain ⟨c0, c1, c2⟩ := HK1.out _ b14
      go_wp2_with fail
      refine (cloneF_w W4 _ f (HD.out _ k4).2.2 (by have := Base.facts_short HPE.out.2.1; omega)).mono ?_
      rintro e W5 ⟨v5, rfl, hf5, hcap5, hrw5, hb5⟩
      obtain ⟨va, vn, vc, rfl⟩ : ∃ a m c, v5 = .slice a m c := by obtain ⟨⟨a, m, c, e, _⟩, _⟩ := hcap5; exact ⟨a, m, c, e⟩
      have b15 : Below W1.heap.size W1 W5 := b14.trans (hb5.mono b14.size)
      have hs5 : w.heap.size < W5.heap.size := by have := b15.size; omega
      clear c0 c1 c2
      obtain ⟨c0, c1, c2⟩ := HK1.out _ b15
      go_wp2_with fail
      obtain ⟨W6, hW6⟩ : ∃ W6, (W5.alloc (.cells #[.slice va vn vc] 38)).alloc (.cells #[.bool false] 4) = W6 := ⟨_, rfl⟩
      have b46 : Below W4.heap.size W4 W6 := by rw [← hW6]; exact (hb5.alloc hb5.size _).alloc (by have := hb5.size; simp; omega) _
      have s6 : W6.heap.size = W5.heap.size + 1 + 1 := by rw [← hW6]; simp
      have X13 : Boxed W6 W5.heap.size 38 (.slice va vn vc) := by rw [← hW6]; exact (Below.heap_alloc _ _ _ (by simp)).trans (World.alloc_heap_new W5 _)
      have X14 : Boxed W6 (W5.heap.size + 1) 4 (.bool false) := by
        rw [← hW6]
        have := World.alloc_heap_new (W5.alloc (.cells #[.slice va vn vc] 38)) (.cells #[.bool false] 4)
        rwa [World.size_alloc] at this
      have HF6 : Hid (factsAt W6 (.slice va vn vc) f) := by rw [← hW6]; exact factsAt.lasts (((Below.refl _ _).alloc (Nat.le_refl _) _).alloc (by simp) _) hf5
      have HRW6 : Hid (rowW W6 (.slice va vn vc)) := by rw [← hW6]; exact hrw5.lasts (((Below.refl _ _).alloc (Nat.le_refl _) _).alloc (by simp) _)
      have b16 : Below W1.heap.size W1 W6 := b14.trans (b46.mono b14.size)
      have k6 : Below w.heap.size w W6 := b1.trans (b16.mono b1.size)
      rw [hW6]
      clear hW6 c0 c1 c2 hf5
      obtain ⟨c0, c1, c2⟩ := HK1.out _ b16
      refine (told_c W6 pa ps.length pc ra rs.length rc fa f.length fc _ _).mono ?_
      rintro e W7 ⟨rfl, hW7⟩
      have b67 : Below W6.heap.size W6 W7 := by rw [hW7]; exact (((Below.refl _ _).alloc (Nat.le_refl _) _).alloc (by simp) _).alloc (by simp; omega) _
      have s7 : W7.heap.size = W6.heap.size + 1 + 1 + 1 := by rw [hW7]; simp
      have t0 : W7.cell? ⟨W6.heap.size, 0, none⟩ = some (.slice pa ps.length pc) := by rw [hW7]; simp [go_sem]
      have t1 : W7.cell? ⟨W6.heap.size, 1, none⟩ = some (.slice ra rs.length rc) := by rw [hW7]; simp [go_sem]
      have t2 : W7.cell? ⟨W6.heap.size + 1 + 1, 0, none⟩ = some (.func (.func 97) #[] #[.pointer (some ⟨W2.heap.size, 0, none⟩), .pointer (some ⟨w.heap.size + 1, 0, none⟩)]) := by rw [hW7]; simp [go_sem]
      have t3 : W7.cell? ⟨W6.heap.size + 1, 0, none⟩ = some (.slice fa f.length fc) := by rw [hW7]; simp [go_sem]
      clear hW7 c0 c1 c2
      go_wp2_with fail
      have b17 : Below W1.heap.size W1 W7 := b16.trans (b67.mono b16.size)
      have k7 : Below w.heap.size w W7 := b1.trans (b17.mono b1.size)
      have b37 : Below W3.heap.size W3 W7 := (hb4.trans (b46.mono hb4.size)).trans (b67.mono (hb4.trans (b46.mono hb4.size)).size)
      have hs3 : W3.heap.size ≤ W5.heap.size := Nat.le_trans hb4.size hb5.size
      have Y13 : Boxed W7 W5.heap.size 38 (.slice va vn vc) := (b67.block _ X13.lt).trans X13
      have Y14 : Boxed W7 (W5.heap.size + 1) 4 (.bool false) := (b67.block _ X14.lt).trans X14
      have HF7 : Hid (factsAt W7 (.slice va vn vc) f) := factsAt.lasts b67 HF6.out
      have HRW7 : Hid (rowW W7 (.slice va vn vc)) := HRW6.out.lasts b67
      have HFR : Hid (∀ x, Kept w.heap.size (fun k => k = W5.heap.size ∨ k = W5.heap.size + 1) W7 x → x.cell? ⟨w.heap.size, 0, none⟩ = some (.slice pa ps.length pc) ∧ Below w.heap.size w x) := fun x hx => ⟨hx.but.cell (by omega) (HK1.out _ b17).1, k7.trans hx.below⟩
      have HWA : Hid (∀ (x : World) (n : Nat) (hn : n < rs.length) (ha : Option Addr) (hc : Nat) (ba : Option Addr) (bc : Nat), Kept w.heap.size (fun k => k = W5.heap.size ∨ k = W5.heap.size + 1) W7 x → Calls Tryz.prog 97 (#[.agg #[.int .i64 rs[n].head.pred, .slice ha rs[n].head.args.length hc, .int .i64 rs[n].src, .int .i64 rs[n].n, .slice ba rs[n].body.length bc]] ++ #[.pointer (some ⟨W2.heap.size, 0, none⟩), .pointer (some ⟨w.heap.size + 1, 0, none⟩)]) x fun e w' => e = .returned (.bool (ofS (stratOf ps rs) s rs[n])) ∧ Below x.heap.size x w') := fun x n hn ha hc ba bc hx => by
        obtain ⟨k, hk, e⟩ := Rule.isPred_iff.1 (Rule.atom_right (Fire.rule_parts (rules_right HPE.out.1 _ (List.getElem_mem hn))).1).1
        have hcell : ∀ b o u, b < W3.heap.size → W3.cell? ⟨b, o, none⟩ = some u → x.cell? ⟨b, o, none⟩ = some u := fun b o u hb hu => hx.but.cell (by omega) ((cell_lasts b37 hb).trans hu)
        have h := once1_c x W2.heap.size (w.heap.size + 1) k _ (stratOf ps rs) s rs[n] ha rs[n].head.args.length hc ba rs[n].body.length bc e (by rw [HL.out.2]; exact hk) (hcell _ _ _ (by omega) q3) (hcell _ _ _ (by omega) (HK1.out _ b13).2.2) (ints_via HI3.out hcell (Nat.le_trans b37.size hx.but.size)) (by have := hx.but.size; have := b37.size; omega) (by have := hx.but.size; have := b37.size; omega)
        exact h
      have HT : Hid (∀ x ∈ toldS ps (ofS (stratOf ps rs) s) f rs, factFine ps x = true) := toldS_fine (rules_right HPE.out.1) HPE.out.2.1
      have HADD : Hid (∀ x g a m c y, factsAt x (.slice a m c) g → capOk (.slice a m c) → factsErr ps g = 0 → factFine ps y = true → Below w.heap.size w x → Calls Tryz.prog 100 #[.slice pa ps.length pc, .slice a m c, .agg #[.int .i64 y.pred, .int .i64 y.a, .int .i64 y.b, .int .i64 y.val]] x fun e w' => ∃ a' m' c', e = .returned (.tuple #[.slice a' m' c', .bool (addC (kindOf ps) y g), .int .i64 0]) ∧ factsAt w' (.slice a' m' c') (addF (kindOf ps) y g) ∧ (capNew w.heap.size (.slice a' m' c') ∧ rowW w' (.slice a' m' c')) ∧ Below x.heap.size x w') := fun x g a m c y h1 h2 h3 h4 hx => by
        have h := Base.Add_w x _ _ ps g y.pred y.a y.b y.val (HD.out x hx).1 h1 h2
        rw [addOf_right h3 h4] at h
        refine h.mono ?_
        rintro e w' ⟨u, he, hfu, hcu, hru, hb⟩
        obtain ⟨⟨a', m', c', hu, _⟩, _⟩ := id hcu
        subst hu
        exact ⟨a', m', c', he, hfu, ⟨hcu.mono hx.size, hru⟩, hb⟩
      clear X13 X14 HF6 HI3 q3
      refine (wpIn_wide (n := 6)).1 (wpIn_rangeFunc_ownH (α := Told (toldS ps (ofS (stratOf ps rs) s) f rs)) rfl (by omega) (gf := 112) (lb := #[.pointer (some ⟨W5.heap.size + 1 + 1, 0, none⟩), .pointer (some ⟨W5.heap.size + 1 + 1 + 1 + 1, 0, none⟩), .pointer (some ⟨W5.heap.size + 1 + 1 + 1, 0, none⟩)]) rfl trivial (enters_of Tryz.func112 (by kernel_rfl) rfl)
        (told1_stops (6 - 1) (by omega) (W5.heap.size + 1 + 1) (W5.heap.size + 1 + 1 + 1 + 1) (W5.heap.size + 1 + 1 + 1) w.heap.size (fun k => k = W5.heap.size ∨ k = W5.heap.size + 1) _ _ _ 97 _ ps rs f (ofS (stratOf ps rs) s) W7 (by omega) (by omega) (by omega) (fun k hk => by omega) (by omega) (by rw [← s6]; exact t0) (by rw [← s6]; exact t1) (by rw [← s6]; exact t2) (by rw [← s6]; exact t3) w rfl k7 HD0.out.1 HD0.out.2.1 HD0.out.2.2 HPE.out.2.2 HPE.out.1 HPE.out.2.1 (enters_of Tryz.func97 (by kernel_rfl) rfl) HWA.out)
        Kept.trans (fun X k o o' hk h ho _ => ⟨(Below.refl _ X).grown (grownBy_putObj' X k o') (by have := (Array.getElem?_eq_some_iff.1 h).1; omega) (fun j e => by cases e; omega), KeepsBut.putObj _ o' h ho⟩) (Below.refl _ _) (fun _ => rfl)
        (fun pre X => ∃ a m c, Boxed X W5.heap.size 38 (.slice a m c) ∧ factsAt X (.slice a m c) (addAll (kindOf ps) f (toldL pre)) ∧ (capNew w.heap.size (.slice a m c) ∧ rowW X (.slice a m c)) ∧ Boxed X (W5.heap.size + 1) 4 (.bool (chgAll (kindOf ps) f (toldL pre))) ∧ Kept w.heap.size (fun k => k = W5.heap.size ∨ k = W5.heap.size + 1) W7 X)
        (fun _ _ _ => False)
        (fun pre A B row hs hg hr => by
          obtain ⟨a, m, c, g1, g2, g3, g4, g5⟩ := hs
          exact ⟨a, m, c, boxed_own _ _ (fun (_ : Unit) => _) () A B row g1 hg (fun r e => (hr r e).2), facts_kept g2 hg (fun r e => (hr r e).2), ⟨g3.1, rowW_kept g3.2 hg (fun r e => (hr r e).2)⟩, boxed_own _ _ (fun (_ : Unit) => _) () A B row g4 hg (fun r e => (hr r e).2), kept_grown g5 hg (by omega) hr⟩)
        (fun _ _ _ _ _ hs _ _ => hs)
        ⟨va, vn, vc, Y13, HF7.out, ⟨hcap5.mono k4.size, HRW7.out⟩, Y14, Kept.refl _ _ _⟩
        (fun x a' X => ∃ Bx, X.cell? ⟨Bx, 0, none⟩ = some (.int .i64 x.1.pred) ∧ X.cell? ⟨Bx, 1, none⟩ = some (.int .i64 x.1.a) ∧ X.cell? ⟨Bx, 2, none⟩ = some (.int .i64 x.1.b) ∧ X.cell? ⟨Bx, 3, none⟩ = some (.int .i64 x.1.val) ∧ a' = { tmps := #[.agg #[.slice pa ps.length pc, .slice ra rs.length rc], .slice fa f.length fc, .int .i64 s, .pointer (some ⟨w.heap.size, 0, none⟩), undef, .pointer (some ⟨w.heap.size + 1, 0, none⟩), .slice none 0 0, .bool false, .int .i64 0, .pointer (some ⟨W2.heap.size, 0, none⟩), .int .i64 0, .int .i64 0, .func (.func 97) #[] #[.pointer (some ⟨W2.heap.size, 0, none⟩), .pointer (some ⟨w.heap.size + 1, 0, none⟩)], .pointer (some ⟨W5.heap.size, 0, none⟩), .pointer (some ⟨W5.heap.size + 1, 0, none⟩), .pointer (some ⟨Bx, 0, none⟩), undef, undef, undef, .tuple #[.slice sa (stratOf ps rs).length sc, .int .i64 0], .agg #[.slice pa ps.length pc, .slice ra rs.length rc], .tuple #[.slice sa (stratOf ps rs).length sc, .int .i64 0], .slice sa (stratOf ps rs).length sc, .int .i64 0, .int .i64 0, .bool false, undef, .pointer (some ⟨w.heap.size, 0, none⟩), .slice pa ps.length pc, .slice fa f.length fc, .int .i64 0, .int .i64 0, .bool false, undef, .func (.func 97) #[] #[.pointer (some ⟨W2.heap.size, 0, none⟩), .pointer (some ⟨w.heap.size + 1, 0, none⟩)], .slice fa f.length fc, .slice va vn vc, .agg #[.slice pa ps.length pc, .slice ra rs.length rc], .slice fa f.length fc, .func (.func 97) #[] #[.pointer (some ⟨W2.heap.size, 0, none⟩), .pointer (some ⟨w.heap.size + 1, 0, none⟩)], .func (.func 112) #[] #[.pointer (some ⟨W5.heap.size + 1 + 1, 0, none⟩), .pointer (some ⟨W5.heap.size + 1 + 1 + 1 + 1, 0, none⟩), .pointer (some ⟨W5.heap.size + 1 + 1 + 1, 0, none⟩)], .agg #[.int .i64 x.1.pred, .int .i64 x.1.a, .int .i64 x.1.b, .int .i64 x.1.val], undef, undef, undef, undef, undef, undef, undef, undef, undef, undef, undef, undef, undef, undef, undef, undef], defers := [] })
        (fun x a' _ A B row hs hg hr => by
          obtain ⟨Bx, g0, g1, g2, g3, rfl⟩ := hs
          exact ⟨Bx, cell_kept g0 hg (fun r e => (hr r e).2), cell_kept g1 hg (fun r e => (hr r e).2), cell_kept g2 hg (fun r e => (hr r e).2), cell_kept g3 hg (fun r e => (hr r e).2), rfl⟩) ?assign ?body ?done ?stop)
      case assign =>
        rintro l' pre x X K ⟨a, m, c, g1, g2, g3, g4, g5⟩ hK
        dsimp only [toldV] at hK ⊢
        gi_wp2
        refine hK _ _ ((KeepsOthers.alloc _ _).from _) (Kept.of (below_alloc _ _) (Nat.le_trans (by omega) g5.but.size)) ⟨a, m, c, g1.alloc _, factsAt.lasts (below_alloc _ _) g2, ⟨g3.1, g3.2.lasts (below_alloc _ _)⟩, g4.alloc _, g5.trans (Kept.of (below_alloc _ _) (Nat.le_trans (by omega) g5.but.size))⟩ ⟨X.heap.size, ?_, ?_, ?_, ?_, rfl⟩
        all_goals simp [go_sem]
      case body =>
        rintro l' pre ⟨y, hy⟩ a' X hl' _ ⟨a, m, c, g1, g2, g3, g4, g5⟩ ⟨Bx, e0, e1, e2, e3, rfl⟩ _
        dsimp only at e0 e1 e2 e3 ⊢
        have hfy : factFine ps y = true := HT.out y hy
        have HGE : Hid (factsErr ps (addAll (kindOf ps) f (toldL pre)) = 0) := addAll_right HPE.out.2.1 fun x hx => by
          obtain ⟨z, _, rfl⟩ := List.mem_map.1 hx
          exact HT.out _ z.2
        have HIN : Hid (toldL (pre ++ [(⟨y, hy⟩ : Told (toldS ps (ofS (stratOf ps rs) s) f rs))]) = toldL pre ++ [y]) := toldL_snoc _ _
        obtain ⟨r0, kx⟩ := HFR.out X g5
        have HAD : Hid (Calls Tryz.prog 100 #[.slice pa ps.length pc, .slice a m c, .agg #[.int .i64 y.pred, .int .i64 y.a, .int .i64 y.b, .int .i64 y.val]] X fun e w' => ∃ a' m' c', e = .returned (.tuple #[.slice a' m' c', .bool (addC (kindOf ps) y (addAll (kindOf ps) f (toldL pre))), .int .i64 0]) ∧ factsAt w' (.slice a' m' c') (addF (kindOf ps) y (addAll (kindOf ps) f (toldL pre))) ∧ (capNew w.heap.size (.slice a' m' c') ∧ rowW w' (.slice a' m' c')) ∧ Below X.heap.size X w') := HADD.out X _ a m c y g2 g3.1.1 HGE.out hfy kx
        have i1 := g1.cell
        have HCC : Hid (∀ b : Bool, b = chgAll (kindOf ps) f (toldL pre ++ [y]) ↔ b = (chgAll (kindOf ps) f (toldL pre) || addC (kindOf ps) y (addAll (kindOf ps) f (toldL pre)))) := fun b => by rw [chgAll_one]
        have HFF : Hid (addAll (kindOf ps) f (toldL pre ++ [y]) = addF (kindOf ps) y (addAll (kindOf ps) f (toldL pre))) := addAll_one _ _ _ _
        generalize chgAll (kindOf ps) f (toldL pre) = ch at *
        generalize addC (kindOf ps) y (addAll (kindOf ps) f (toldL pre)) = ad at *
        gi_wp2_with fail
        refine ⟨trivial, CallsIn.mono (callsIn_wide.2 HAD.out) ?_⟩
        rintro ex X1 ⟨a1, m1, c1, rfl, h1, h2, hb⟩
        have j1 : Boxed X1 W5.heap.size 38 (.slice a m c) := (hb.block _ g1.lt).trans g1
        have j4 : Boxed X1 (W5.heap.size + 1) 4 (.bool ch) := (hb.block _ g4.lt).trans g4
        have l1 := j1.cell
        have l1f := j1.frozen
        have l4 := j4.cell
        have l4f := j4.frozen
        have HKX : Hid (∀ u u', KeepsFrom W7.heap.size X ((X1.setCell ⟨W5.heap.size, 0, none⟩ u).setCell ⟨W5.heap.size + 1, 0, none⟩ u') ∧ Kept w.heap.size (fun k => k = W5.heap.size ∨ k = W5.heap.size + 1) X ((X1.setCell ⟨W5.heap.size, 0, none⟩ u).setCell ⟨W5.heap.size + 1, 0, none⟩ u')) := fun u u' => ⟨((keepsOthers_below hb).trans ((KeepsOthers.setCell _ _ _).trans (KeepsOthers.setCell _ _ _))).from _, kept_two hb (Nat.le_trans (by omega) g5.but.size) (by omega) u u'⟩
        have HNX : Hid (∀ b : Bool, b = (ch || ad) → ∃ a' m' c', Boxed ((X1.setCell ⟨W5.heap.size, 0, none⟩ (.slice a1 m1 c1)).setCell ⟨W5.heap.size + 1, 0, none⟩ (.bool b)) W5.heap.size 38 (.slice a' m' c') ∧ factsAt ((X1.setCell ⟨W5.heap.size, 0, none⟩ (.slice a1 m1 c1)).setCell ⟨W5.heap.size + 1, 0, none⟩ (.bool b)) (.slice a' m' c') (addAll (kindOf ps) f (toldL pre ++ [y])) ∧ (capNew w.heap.size (.slice a' m' c') ∧ rowW ((X1.setCell ⟨W5.heap.size, 0, none⟩ (.slice a1 m1 c1)).setCell ⟨W5.heap.size + 1, 0, none⟩ (.bool b)) (.slice a' m' c')) ∧ Boxed ((X1.setCell ⟨W5.heap.size, 0, none⟩ (.slice a1 m1 c1)).setCell ⟨W5.heap.size + 1, 0, none⟩ (.bool b)) (W5.heap.size + 1) 4 (.bool (chgAll (kindOf ps) f (toldL pre ++ [y]))) ∧ Kept w.heap.size (fun k => k = W5.heap.size ∨ k = W5.heap.size + 1) W7 ((X1.setCell ⟨W5.heap.size, 0, none⟩ (.slice a1 m1 c1)).setCell ⟨W5.heap.size + 1, 0, none⟩ (.bool b))) := fun b hbb => by
          refine ⟨a1, m1, c1, (j1.set _).other (by omega) _, ?_, ⟨h2.1, (h2.2.set _ _ _).set _ _ _⟩, ?_, g5.trans (HKX.out _ _).2⟩
          · rw [HFF.out]
            exact facts_box (facts_box h1 j1 (fun k e => by cases e)) (j4.other (by omega) _) (fun k e => by cases e)
          · rw [← (HCC.out b).2 hbb]
            exact (j4.other (by omega) _).set _
        clear e0 e1 e2 e3 r0 i1 HAD h1 h2 j1 j4 HFF HCC
        cases ch <;> cases ad
        all_goals gi_wp2_with fail
        all_goals exact ⟨(HKX.out _ _).1, (HKX.out _ _).2, by dsimp only; rw [HIN.out]; exact HNX.out _ rfl⟩
      case done =>
        rintro D xs X hD hS ⟨a, m, c, g1, g2, g3, g4, g5⟩ hK
        rw [hS] at g2 g4
        have i1 := g1.cell
        have i4 := g4.cell
        have HX : Hid (factsAt X (.slice a m c) (addAll (kindOf ps) f (toldS ps (ofS (stratOf ps rs) s) f rs))) := g2
        have HXB : Hid (Below w.heap.size w X) := (HFR.out X g5).2
        generalize chgAll (kindOf ps) f (toldS ps (ofS (stratOf ps rs) s) f rs) = ch at *
        go_wp2_with fail
        go_quiet (fail)
        go_wp2_with fail
        show LeavesInM _ _ _ _ _ _ ([D].map Prog.mark) _ _
        refine leaves_but w.heap.size [D] _ (by simp) (fun D' hD' => ?_) fun W' hb hk => ?_
        · rw [List.mem_singleton.1 hD']
          exact ⟨by omega, hK⟩
        · refine ⟨.tuple #[.slice a m c, .bool ch, .int .i64 0], by simp [results, Tryz.f76, go_sem], ?_⟩
          exact ⟨.slice a m c, by rw [HE.out.1, HE.out.2.2], by rw [HE.out.2.1]; exact facts_cells HX.out (fun b o u hu => hk.cell (fun x => x) hu) hb.size, g3.1, rowW_but (A := X.drewN nq) g3.2 hk, Below.trans (b := X.drewN nq) (HXB.out.trans ⟨rfl, rfl, rfl, Nat.le_refl _, fun _ _ => rfl⟩) hb⟩
      case stop =>
        intro D c pre X hD _ hix hK
        exact hix.elim
    · have HE : Hid (roundErr ps rs f = factsErr ps f ∧ onceF ps rs f s = [] ∧ onceC ps rs f s = false) := by
        have e : roundErr ps rs f = factsErr ps f := by rw [roundErr, if_neg (by rw [hpe]; simp)]
        exact ⟨e, by rw [onceF, if_pos (by rw [e]; exact hfe)], by rw [onceC, if_pos (by rw [e]; exact hfe)]⟩
      rw [hpe] at HST
      have hfe' : (factsErr ps f == 0) = false := by simpa using hfe
      go_enter Tryz.func76, Tryz.ntmps76
      go_wp2_with fail
      refine (HST.out _ b1).mono ?_
      rintro e W2 ⟨⟨vs, rfl, _, hints⟩, hb2⟩
      have hints := hints _ HL.out.1 (by first | rfl | trivial)
      obtain ⟨sa, sc, rfl, _⟩ := hints
      have hs2 : w.heap.size < W2.heap.size := by have := hb2.size; omega
      clear hW1 q0 q1 q2
      obtain ⟨c0, c1, c2⟩ := HK1.out _ hb2
      have k2 : Below w.heap.size w W2 := b1.trans (hb2.mono b1.size)
      go_wp2_with fail
      refine (HCH.out _ (k2.alloc k2.size _)).mono ?_
      rintro e W4 ⟨rfl, hb4⟩
      have k4 : Below w.heap.size w W4 := k2.trans (((below_alloc _ _).trans (hb4.mono (by simp))).mono k2.size)
      clear c0 c1 c2
      go_wp2_with fail
      refine bodyPost_ret (v := .tuple #[.slice none 0 0, .bool false, .int .i64 (factsErr ps f)]) (by simp [results, Tryz.results76, go_sem]) rfl ?_
      exact ⟨.slice none 0 0, by rw [HE.out.1, HE.out.2.2], by rw [HE.out.2.1]; exact Base.facts_nil _, Base.new_nil _, Base.rowW_nil _, k4⟩
  · have HE : Hid (roundErr ps rs f = progErr ps rs ∧ onceF ps rs f s = [] ∧ onceC ps rs f s = false) := by
      have e : roundErr ps rs f = progErr ps rs := by rw [roundErr, if_pos hpe]
      exact ⟨e, by rw [onceF, if_pos (by rw [e]; exact hpe)], by rw [onceC, if_pos (by rw [e]; exact hpe)]⟩
    have hpe' : (progErr ps rs == 0) = false := by simpa using hpe
    go_enter Tryz.func76, Tryz.ntmps76
    go_wp2_with fail
    refine (HST.out _ b1).mono ?_
    rintro e W2 ⟨⟨vs, rfl, hvs, _⟩, hb2⟩
    obtain rfl := hvs hpe
    have k2 : Below w.heap.size w W2 := b1.trans (hb2.mono b1.size)
    clear hW1 q0 q1 q2
    go_wp2_with fail
    refine bodyPost_ret (v := .tuple #[.slice none 0 0, .bool false, .int .i64 (progErr ps rs)]) (by simp [results, Tryz.results76, go_sem]) rfl ?_
    exact ⟨.slice none 0 0, by rw [HE.out.1, HE.out.2.2], by rw [HE.out.2.1]; exact Base.facts_nil _, Base.new_nil _, Base.rowW_nil _, k2.alloc k2.size _⟩
theorem devOnce_n (w : World) (pv rv fv : Value) (ps : List Prd) (rs : List Rul) (f : List Fct) (s : Int) (hp : predsAt w pv ps) (hr : rulesAt w rv rs) (hf : factsAt w fv f) (hn : small ps) :
    Calls Tryz.prog 76 #[.agg #[pv, rv], fv, .int .i64 s] w fun e w' => ∃ u, e = .returned (.tuple #[u, .bool (onceC ps rs f s), .int .i64 (roundErr ps rs f)]) ∧ factsAt w' u (onceF ps rs f s) ∧ capNew w.heap.size u ∧ Below w.heap.size w w' :=
  (devOnce_w w pv rv fv ps rs f s hp hr hf hn).mono fun _ _ ⟨u, h1, h2, h3, _, h4⟩ => ⟨u, h1, h2, h3, h4⟩
theorem devOnce_c (w : World) (pv rv fv : Value) (ps : List Prd) (rs : List Rul) (f : List Fct) (s : Int) (hp : predsAt w pv ps) (hr : rulesAt w rv rs) (hf : factsAt w fv f) (hn : small ps) :
    Calls Tryz.prog 76 #[.agg #[pv, rv], fv, .int .i64 s] w fun e w' => ∃ u, e = .returned (.tuple #[u, .bool (onceC ps rs f s), .int .i64 (roundErr ps rs f)]) ∧ factsAt w' u (onceF ps rs f s) ∧ capOk u ∧ Below w.heap.size w w' :=
  (devOnce_n w pv rv fv ps rs f s hp hr hf hn).mono fun _ _ ⟨u, h1, h2, h3, h4⟩ => ⟨u, h1, h2, h3.1, h4⟩
end Go.Proofs.YtlfccloaoopadafGreatDoor.Round

/-
  The developers' Closed of package round.
-/
namespace Go.Proofs.YtlfccloaoopadafGreatDoor.Round
open Go.RowKit Go.Shelf
open Rule (Vars ruleErr kindOf factFine)
open Base (factsErr under underOne)
open Fire (rules_right roundErr)
open Prog (progErr slice_cells small KeepsBut devCheck_c leaves_marks)
attribute [local go_sem] Oper.semAt_some

/-- F1, errors too -/
def closedB (ps : List Prd) (rs : List Rul) (f : List Fct) : Bool := if roundErr ps rs f ≠ 0 then false else under (kindOf ps) (toldS ps (fun _ => true) f rs) f

end Go.Proofs.YtlfccloaoopadafGreatDoor.Round

/-
  Rounds in plain words: no fact is less behind a round; it changes something just if something is told that is not there; all is closed just if no stratum's round changes anything.
-/
namespace Go.Proofs.YtlfccloaoopadafGreatDoor.Round
open Lat (within lift err)
open Rule (ruleErr kindOf factFine)
open Base (place get factsErr addF addC under underOne Right Fine right_of fine_of)
open Fire (rules_right roundErr)
open Prog (progErr edges)
open Strata (strataL at_)

theorem add_same {ps : List Prd} {f : List Fct} {x : Fct} (hf : factsErr ps f = 0) (hx : factFine ps x = true) : addF (kindOf ps) x f = f ↔ underOne (kindOf ps) f x = true := by
  constructor
  · intro h
    have := Base.under_one (right_of hf) (fine_of hx)
    rw [h, under_one] at this
    exact this
  · intro h
    have h1 : under (kindOf ps) [x] f = true := by rw [under_one]; exact h
    exact Base.under_anti (right_of (add_right hf hx)) (right_of hf) (Base.add_least (right_of hf) (right_of hf) (fine_of hx) (Base.under_refl (right_of hf)) h1) (Base.under_add (right_of hf) (fine_of hx))
theorem addC_same {ps : List Prd} {f : List Fct} {x : Fct} (hf : factsErr ps f = 0) (hx : factFine ps x = true) : addC (kindOf ps) x f = !underOne (kindOf ps) f x := by
  have h1 := Base.addC_iff (x := x) (right_of hf)
  cases h : underOne (kindOf ps) f x
  · have hne : addF (kindOf ps) x f ≠ f := fun e => by rw [(add_same hf hx).1 e] at h; cases h
    rw [h1.2 hne]
    rfl
  · have e := (add_same hf hx).2 h
    cases h2 : addC (kindOf ps) x f
    · rfl
    · exact absurd e (h1.1 h2)
theorem under_addAll {ps : List Prd} : ∀ {xs f : List Fct}, factsErr ps f = 0 → (∀ x ∈ xs, factFine ps x = true) → under (kindOf ps) f (addAll (kindOf ps) f xs) = true
  | [], f, hf, _ => Base.under_refl (right_of hf)
  | x :: xs, f, hf, hx => by
    rw [addAll]
    have hx0 := hx x (by simp)
    have hxs : ∀ y ∈ xs, factFine ps y = true := fun y hy => hx y (by simp [hy])
    exact Base.under_trans (right_of hf) (right_of (add_right hf hx0)) (right_of (addAll_right (add_right hf hx0) hxs)) (Base.under_add (right_of hf) (fine_of hx0)) (under_addAll (add_right hf hx0) hxs)
/-- nothing changes just if all that is told is there -/
theorem chg_under {ps : List Prd} : ∀ {xs f : List Fct}, factsErr ps f = 0 → (∀ x ∈ xs, factFine ps x = true) → chgAll (kindOf ps) f xs = !under (kindOf ps) xs f
  | [], f, _, _ => rfl
  | x :: xs, f, hf, hx => by
    have hx0 := hx x (by simp)
    have hxs : ∀ y ∈ xs, factFine ps y = true := fun y hy => hx y (by simp [hy])
    rw [chgAll, addC_same hf hx0]
    have e : under (kindOf ps) (x :: xs) f = (underOne (kindOf ps) f x && under (kindOf ps) xs f) := by unfold under; rw [List.all_cons]
    rw [e]
    cases h : underOne (kindOf ps) f x
    · simp
    · rw [(add_same hf hx0).2 h, chg_under hf hxs]
      simp
theorem addAll_same {ps : List Prd} : ∀ {xs f : List Fct}, factsErr ps f = 0 → (∀ x ∈ xs, factFine ps x = true) → under (kindOf ps) xs f = true → addAll (kindOf ps) f xs = f
  | [], f, _, _, _ => rfl
  | x :: xs, f, hf, hx, hu => by
    have hu' : underOne (kindOf ps) f x = true ∧ under (kindOf ps) xs f = true := by unfold under at hu ⊢; rw [List.all_cons, Bool.and_eq_true] at hu; exact hu
    rw [addAll, (add_same hf (hx x (by simp))).2 hu'.1]
    exact addAll_same hf (fun y hy => hx y (by simp [hy])) hu'.2
/-- what is added is there -/
theorem told_under {ps : List Prd} : ∀ {xs f : List Fct}, factsErr ps f = 0 → (∀ x ∈ xs, factFine ps x = true) → under (kindOf ps) xs (addAll (kindOf ps) f xs) = true
  | [], f, _, _ => rfl
  | x :: xs, f, hf, hx => by
    have hx0 := hx x (by simp)
    have hxs : ∀ y ∈ xs, factFine ps y = true := fun y hy => hx y (by simp [hy])
    have hr := add_right hf hx0
    have e : under (kindOf ps) (x :: xs) (addAll (kindOf ps) f (x :: xs)) = (underOne (kindOf ps) (addAll (kindOf ps) f (x :: xs)) x && under (kindOf ps) xs (addAll (kindOf ps) f (x :: xs))) := by unfold under; rw [List.all_cons]
    rw [e, addAll, Bool.and_eq_true]
    refine ⟨?_, told_under hr hxs⟩
    rw [← under_one]
    exact Base.under_trans (right_of (one_right hf hx0)) (right_of hr) (right_of (addAll_right hr hxs)) (Base.under_one (right_of hf) (fine_of hx0)) (under_addAll hr hxs)
theorem chg_same {ps : List Prd} {xs f : List Fct} (hf : factsErr ps f = 0) (hx : ∀ x ∈ xs, factFine ps x = true) : chgAll (kindOf ps) f xs = !decide (f = addAll (kindOf ps) f xs) := by
  rw [chg_under hf hx]
  cases h : under (kindOf ps) xs f
  · by_cases e : f = addAll (kindOf ps) f xs
    · have := told_under hf hx
      rw [← e, h] at this
      cases this
    · rw [decide_eq_false e]
  · rw [decide_eq_true (addAll_same hf hx h).symm]
theorem strat_small {ps : List Prd} {rs : List Rul} (h : progErr ps rs = 0) {r : Rul} (hr : r ∈ rs) : at_ (stratOf ps rs) r.head.pred.toNat < ps.length := by
  obtain ⟨k, hk, e⟩ := Rule.isPred_iff.1 (Rule.atom_right (Fire.rule_parts (rules_right h r hr)).1).1
  rw [e, Int.toNat_natCast]
  exact Strata.strata_small (Prog.within_edges (Prog.parts_zero (Prog.prog_zero h).1).2.2) (strat_some h).1 hk
theorem closed_any {ps : List Prd} {rs : List Rul} {f : List Fct} (h : progErr ps rs = 0) (hf : factsErr ps f = 0) : closedB ps rs f = !(List.range ps.length).any fun (s : Nat) => onceC ps rs f (s : Int) := by
  have e0 : roundErr ps rs f = 0 := by rw [roundErr, if_neg (by rw [h]; simp), hf]
  have hre := rules_right h
  have hfine := fun S => toldS_fine (S := S) hre hf
  have hc : ∀ s : Int, onceC ps rs f s = !under (kindOf ps) (toldS ps (ofS (stratOf ps rs) s) f rs) f := fun s => by rw [onceC, if_neg (by rw [e0]; simp), chg_under hf (hfine _)]
  rw [closedB, if_neg (by rw [e0]; simp)]
  have key : under (kindOf ps) (toldS ps (fun _ => true) f rs) f = true ↔ ∀ s : Nat, s < ps.length → under (kindOf ps) (toldS ps (ofS (stratOf ps rs) (s : Int)) f rs) f = true := by
    unfold under
    simp only [List.all_eq_true]
    constructor
    · intro hu s _ x hx
      obtain ⟨r, hr, hx⟩ := List.mem_flatMap.1 hx
      split at hx
      · exact hu x (List.mem_flatMap.2 ⟨r, hr, by rw [if_pos rfl]; exact hx⟩)
      · cases hx
    · intro hu x hx
      obtain ⟨r, hr, hx⟩ := List.mem_flatMap.1 hx
      rw [if_pos rfl] at hx
      refine hu (at_ (stratOf ps rs) r.head.pred.toNat) (strat_small h hr) x (List.mem_flatMap.2 ⟨r, hr, ?_⟩)
      rw [if_pos (by unfold ofS; simp)]
      exact hx
  cases hu : under (kindOf ps) (toldS ps (fun _ => true) f rs) f
  · have : ¬ ∀ s : Nat, s < ps.length → under (kindOf ps) (toldS ps (ofS (stratOf ps rs) (s : Int)) f rs) f = true := fun hall => by rw [key.2 hall] at hu; cases hu
    have hex : (List.range ps.length).any (fun (s : Nat) => onceC ps rs f (s : Int)) = true := by
      refine Classical.byContradiction fun hno => this fun s hs => ?_
      have hno := List.any_eq_false.1 (Bool.eq_false_iff.2 hno) s (List.mem_range.2 hs)
      rw [hc] at hno
      simpa using hno
    rw [hex]
    rfl
  · have hall := key.1 hu
    have hno : (List.range ps.length).any (fun (s : Nat) => onceC ps rs f (s : Int)) = false := List.any_eq_false.2 fun s hs => by
      rw [hc, hall s (List.mem_range.1 hs)]
      simp
    rw [hno]
    rfl
end Go.Proofs.YtlfccloaoopadafGreatDoor.Round

/-
  Strata in plain words: a round of a stratum changes no fact of another one; a round of a stratum that there is not changes nothing.
-/
namespace Go.Proofs.YtlfccloaoopadafGreatDoor.Round
open Rule (ruleErr kindOf factFine)
open Base (place factsErr addF fine_of right_of place_inj)
open Fire (rules_right roundErr)
open Prog (progErr)
open Strata (at_)

/-- the facts that are not of stratum s -/
def others (L : List Nat) (s : Int) (f : List Fct) : List Fct := f.filter fun x => !decide ((at_ L x.pred.toNat : Int) = s)
def isThere (L : List Nat) (s : Int) : Bool := L.any fun t => decide ((t : Int) = s)
theorem others_take {L : List Nat} {s : Int} {f : List Fct} {n : Nat} (hn : n < f.length) : others L s (f.take (n + 1)) = others L s (f.take n) ++ if (at_ L f[n].pred.toNat : Int) = s then [] else [f[n]] := by
  unfold others
  rw [List.take_add_one, List.getElem?_eq_getElem hn, List.filter_append]
  congr 1
  by_cases h : (at_ L f[n].pred.toNat : Int) = s
  · simp [h]
  · simp [h]
theorem others_length (L : List Nat) (s : Int) (f : List Fct) (n : Nat) : (others L s (f.take n)).length ≤ f.length := Nat.le_trans (List.length_filter_le _ _) (by rw [List.length_take]; omega)
theorem there_take {L : List Nat} {s : Int} {n : Nat} (hn : n < L.length) : isThere (L.take (n + 1)) s = (isThere (L.take n) s || decide ((L[n] : Int) = s)) := by
  unfold isThere
  rw [List.take_add_one, List.getElem?_eq_getElem hn, List.any_append]
  simp
theorem others_add {ps : List Prd} {L : List Nat} {s : Int} {x : Fct} (hx : factFine ps x = true) (hs : (at_ L x.pred.toNat : Int) = s) : ∀ {f : List Fct}, (∀ y ∈ f, Base.Fine ps.length (kindOf ps) y) → others L s (addF (kindOf ps) x f) = others L s f
  | [], _ => by simp [addF, others, hs]
  | y :: f, hf => by
    have hy := hf y (by simp)
    rw [addF]
    by_cases e : place y = place x
    · rw [if_pos e]
      have hp := (place_inj hy (fine_of hx) e).1
      unfold others
      rw [List.filter_cons, List.filter_cons]
      have h1 : (!decide ((at_ L y.pred.toNat : Int) = s)) = false := by rw [hp, hs]; simp
      simp only [h1]
      rfl
    · rw [if_neg e]
      by_cases l : place x < place y
      · rw [if_pos l]
        unfold others
        rw [List.filter_cons]
        have h1 : (!decide ((at_ L x.pred.toNat : Int) = s)) = false := by rw [hs]; simp
        rw [h1]
        rfl
      · rw [if_neg l]
        have ih := others_add hx hs (f := f) (fun z hz => hf z (by simp [hz]))
        unfold others at ih ⊢
        rw [List.filter_cons, List.filter_cons, ih]
theorem others_all {ps : List Prd} {L : List Nat} {s : Int} : ∀ {xs f : List Fct}, factsErr ps f = 0 → (∀ x ∈ xs, factFine ps x = true) → (∀ x ∈ xs, (at_ L x.pred.toNat : Int) = s) → others L s (addAll (kindOf ps) f xs) = others L s f
  | [], _, _, _, _ => rfl
  | x :: xs, f, hf, hx, hs => by
    have hx0 := hx x (by simp)
    rw [addAll, others_all (add_right hf hx0) (fun y hy => hx y (by simp [hy])) (fun y hy => hs y (by simp [hy]))]
    exact others_add hx0 (hs x (by simp)) (right_of hf).fine
theorem told_level {ps : List Prd} {L : List Nat} {s : Int} {f : List Fct} {rs : List Rul} : ∀ x ∈ toldS ps (ofS L s) f rs, (at_ L x.pred.toNat : Int) = s := fun x hx => by
  obtain ⟨r, hrm, hx⟩ := List.mem_flatMap.1 hx
  split at hx
  · rename_i hS
    obtain ⟨t, _, rfl⟩ := List.mem_map.1 hx
    unfold ofS at hS
    exact of_decide_eq_true hS
  · cases hx
theorem once_level {ps : List Prd} {rs : List Rul} {f : List Fct} (s : Int) (h : roundErr ps rs f = 0) : progErr ps rs = 0 ∧ factsErr ps f = 0 ∧ factsErr ps (onceF ps rs f s) = 0 ∧ others (stratOf ps rs) s (onceF ps rs f s) = others (stratOf ps rs) s f ∧ (isThere (stratOf ps rs) s || !onceC ps rs f s) = true := by
  have h' := h
  rw [roundErr] at h'
  split at h'
  · contradiction
  · rename_i h1
    have hpe : progErr ps rs = 0 := Classical.not_not.1 h1
    have hre := rules_right hpe
    have hx := toldS_fine (S := ofS (stratOf ps rs) s) hre h'
    rw [onceF, if_neg (by rw [h]; simp), onceC, if_neg (by rw [h]; simp)]
    refine ⟨hpe, h', addAll_right h' hx, others_all h' hx told_level, ?_⟩
    cases ht : isThere (stratOf ps rs) s
    · have hnil : toldS ps (ofS (stratOf ps rs) s) f rs = [] := by
        unfold toldS
        rw [List.flatMap_eq_nil_iff]
        intro r hr
        rw [if_neg]
        intro hS
        unfold ofS at hS
        have hS := of_decide_eq_true hS
        obtain ⟨k, hk, e⟩ := Rule.isPred_iff.1 (Rule.atom_right (Fire.rule_parts (hre r hr)).1).1
        rw [e, Int.toNat_natCast] at hS
        have hl := (strat_some hpe).2
        have hk' : k < (stratOf ps rs).length := by omega
        have : isThere (stratOf ps rs) s = true := by
          unfold isThere
          rw [List.any_eq_true]
          refine ⟨(stratOf ps rs)[k], List.getElem_mem hk', ?_⟩
          unfold at_ at hS
          simp [hk'] at hS
          simpa using hS
        rw [ht] at this
        cases this
      rw [hnil]
      rfl
    · rfl
theorem fact_pred {ps : List Prd} {f : List Fct} (h : factsErr ps f = 0) {x : Fct} (hx : x ∈ f) : ∃ e : Nat, x.pred = (e : Int) ∧ e < ps.length := by
  have hf := (right_of h).fine x hx
  exact ⟨x.pred.toNat, by have := hf.p0; omega, by have := hf.p0; have := hf.p1; omega⟩
end Go.Proofs.YtlfccloaoopadafGreatDoor.Round

/-
  All that follows, in plain words: the rounds of a stratum end, as values rise; the facts behind them, and how many there are; stratum by stratum.
-/
namespace Go.Proofs.YtlfccloaoopadafGreatDoor.Naive
open Lat (err le join within)
open Rule (ruleErr kindOf factFine)
open Base (place get get_mem get_err factsErr factsErr_zero predsOk under under_iff right_of pred_of)
open Fire (roundErr)
open Prog (progErr)
open Strata (at_ sum_lt sum_le)
open Round (onceF onceC stratOf addAll toldS ofS)

/-- how far a value has risen -/
def rank (k v : Int) : Nat := if k = 2 then (15 - v).toNat else v.toNat
theorem rank_le {k v : Int} (h : err k v = 0) : rank k v ≤ 15 := by
  obtain ⟨_, h0, h1⟩ := Lat.err_ok h
  unfold rank
  split <;> omega
theorem rank_inj {k a b : Int} (ha : err k a = 0) (hb : err k b = 0) (h : rank k a = rank k b) : a = b := by
  obtain ⟨_, h0, h1⟩ := Lat.err_ok ha
  obtain ⟨_, h2, h3⟩ := Lat.err_ok hb
  unfold rank at h
  split at h <;> omega
theorem rank_mono {k a b : Int} (ha : err k a = 0) (hb : err k b = 0) (h : le k a b) : rank k a ≤ rank k b := by
  obtain ⟨hk, h0, h1⟩ := Lat.err_ok ha
  obtain ⟨_, h2, h3⟩ := Lat.err_ok hb
  unfold le at h
  rcases hk with rfl | rfl | rfl | rfl
  · rw [Lat.err_zero ha, Lat.err_zero hb]
    exact Nat.le_refl _
  · rw [Lat.join_max, Lat.maxI] at h
    show a.toNat ≤ b.toNat
    split at h <;> omega
  · rw [Lat.join_min, Lat.minI] at h
    show (15 - a).toNat ≤ (15 - b).toNat
    split at h <;> omega
  · rw [Lat.join_bits] at h
    obtain ⟨n, hn, rfl⟩ := Lat.nat_of h0 h1
    obtain ⟨m, hm, rfl⟩ := Lat.nat_of h2 h3
    rw [Lat.orB_nat n m hn hm] at h
    have h' : n ||| m = m := by exact_mod_cast h
    have : n ≤ n ||| m := Nat.left_le_or
    show (n : Int).toNat ≤ (m : Int).toNat
    simp only [Int.toNat_natCast]
    omega
def wt (k : Int) : Option Int → Nat
  | none => 0
  | some v => rank k v + 1
def ranks (ps : List Prd) (f : List Fct) : List Nat := (List.range 125).map fun (pl : Nat) => wt (kindOf ps ((pl : Int) / 25)) (get f (pl : Int))
/-- how far facts have risen -/
def pot (ps : List Prd) (f : List Fct) : Nat := (ranks ps f).sum
/-- facts rise no further -/
@[irreducible] def lim : Nat := 2000
theorem lim_is : lim = 2000 := by unfold lim; rfl
theorem ranks_at {ps : List Prd} {f : List Fct} {k : Nat} (hk : k < 125) : at_ (ranks ps f) k = wt (kindOf ps ((k : Int) / 25)) (get f (k : Int)) := by
  unfold at_ ranks
  simp [hk]
theorem ranks_out {ps : List Prd} {f : List Fct} {k : Nat} (hk : ¬ k < 125) : at_ (ranks ps f) k = 0 := by
  unfold at_ ranks
  simp [List.getD, hk]
theorem ranks_length (ps : List Prd) (f : List Fct) : (ranks ps f).length = 125 := by simp [ranks]
theorem pot_le {ps : List Prd} {f : List Fct} (hf : factsErr ps f = 0) : pot ps f ≤ lim := by
  rw [lim_is]
  have h : (ranks ps f).sum ≤ (ranks ps f).length * 16 := sum_le fun k hk => by
    rw [ranks_length] at hk
    rw [ranks_at hk]
    cases e : get f (k : Int) with
    | none => exact Nat.zero_le _
    | some v =>
      have := rank_le (get_err (right_of hf) e)
      show rank _ v + 1 ≤ 16
      omega
  rw [ranks_length] at h
  exact h
theorem get_out {ps : List Prd} {f : List Fct} (hf : factsErr ps f = 0) {pl : Int} (h : pl < 0 ∨ 125 ≤ pl) : get f pl = none := by
  cases e : get f pl with
  | none => rfl
  | some v =>
    obtain ⟨x, hx, hp, _⟩ := get_mem e
    obtain ⟨_, _, _, _, _, _, _⟩ := (right_of hf).fine x hx
    have := (factsErr_zero hf).1
    unfold place at hp
    omega
theorem pot_lt {ps : List Prd} {f g : List Fct} (hf : factsErr ps f = 0) (hg : factsErr ps g = 0) (hu : under (kindOf ps) f g = true) (hne : f ≠ g) : pot ps f < pot ps g := by
  have hu' := (under_iff (right_of hf)).1 hu
  have hle : ∀ k : Nat, k < 125 → wt (kindOf ps ((k : Int) / 25)) (get f (k : Int)) ≤ wt (kindOf ps ((k : Int) / 25)) (get g (k : Int)) := fun k _ => by
    cases e : get f (k : Int) with
    | none => exact Nat.zero_le _
    | some v =>
      obtain ⟨u, hu1, hu2⟩ := hu' _ _ e
      rw [hu1]
      have := rank_mono (get_err (right_of hf) e) (get_err (right_of hg) hu1) hu2
      show rank _ v + 1 ≤ rank _ u + 1
      omega
  refine sum_lt (by rw [ranks_length, ranks_length]) (fun k => ?_) fun hs => hne ?_
  · by_cases hk : k < 125
    · rw [ranks_at hk, ranks_at hk]
      exact hle k hk
    · rw [ranks_out hk, ranks_out hk]
      exact Nat.le_refl _
  · refine Base.ext (right_of hf) (right_of hg) fun pl => ?_
    by_cases ho : pl < 0 ∨ 125 ≤ pl
    · rw [get_out hf ho, get_out hg ho]
    · obtain ⟨k, hk, rfl⟩ : ∃ k : Nat, k < 125 ∧ pl = (k : Int) := ⟨pl.toNat, by omega, by omega⟩
      have h1 : at_ (ranks ps f) k = at_ (ranks ps g) k := by rw [hs]
      rw [ranks_at hk, ranks_at hk] at h1
      cases e : get f (k : Int) with
      | none =>
        cases e' : get g (k : Int) with
        | none => rfl
        | some u =>
          rw [e, e'] at h1
          exact absurd h1 (by show ¬ 0 = rank _ u + 1; omega)
      | some v =>
        obtain ⟨u, hu1, _⟩ := hu' _ _ e
        rw [e, hu1] at h1
        have h2 : rank (kindOf ps ((k : Int) / 25)) v = rank (kindOf ps ((k : Int) / 25)) u := Nat.succ.inj h1
        rw [hu1, rank_inj (get_err (right_of hf) e) (get_err (right_of hg) hu1) h2]

theorem preds_ok {ps : List Prd} {rs : List Rul} (h : progErr ps rs = 0) : predsOk ps = true := by
  have h1 := (Prog.prog_zero h).1
  rw [Prog.partsErr] at h1
  split at h1
  · contradiction
  · split at h1
    · contradiction
    · split at h1
      · contradiction
      · split at h1
        · contradiction
        · rename_i h3
          split at h1
          · contradiction
          · rename_i h4
            unfold predsOk
            rw [List.all_eq_true]
            intro q hq
            have a3 := List.any_eq_false.1 (Bool.eq_false_iff.2 h3) q hq
            have a4 := List.any_eq_false.1 (Bool.eq_false_iff.2 h4) q hq
            unfold Base.predOk
            simp only [Bool.not_eq_true, Bool.not_eq_false'] at a3 a4
            simp [a3, a4]
theorem nil_right {ps : List Prd} {rs : List Rul} (h : progErr ps rs = 0) : roundErr ps rs [] = 0 := by
  rw [roundErr, if_neg (by rw [h]; simp)]
  exact Round.factsErr_of (Prog.parts_zero (Prog.prog_zero h).1).1 (preds_ok h) (by simp [Base.Sorted]) (by simp)
theorem once_right {ps : List Prd} {rs : List Rul} {f : List Fct} (s : Int) (h : roundErr ps rs f = 0) : roundErr ps rs (onceF ps rs f s) = 0 := by
  obtain ⟨h1, _, h2, _⟩ := Round.once_level s h
  rw [roundErr, if_neg (by rw [h1]; simp), h2]
theorem once_under {ps : List Prd} {rs : List Rul} {f : List Fct} (s : Int) (h : roundErr ps rs f = 0) : under (kindOf ps) f (onceF ps rs f s) = true ∧ onceC ps rs f s = !decide (f = onceF ps rs f s) := by
  obtain ⟨h1, h2, _⟩ := Round.once_level s h
  have hx := Round.toldS_fine (S := ofS (stratOf ps rs) s) (Fire.rules_right h1) h2
  rw [onceF, if_neg (by rw [h]; simp), onceC, if_neg (by rw [h]; simp)]
  exact ⟨Round.under_addAll h2 hx, Round.chg_same h2 hx⟩
theorem once_pot {ps : List Prd} {rs : List Rul} {f : List Fct} {s : Int} (h : roundErr ps rs f = 0) (hc : onceC ps rs f s = true) : pot ps f < pot ps (onceF ps rs f s) := by
  obtain ⟨_, h2, h3, _⟩ := Round.once_level s h
  obtain ⟨h4, h5⟩ := once_under s h
  refine pot_lt h2 h3 h4 fun e => ?_
  rw [h5, decide_eq_true e] at hc
  cases hc

/-- the rounds of a stratum, at most n -/
def runF (ps : List Prd) (rs : List Rul) (s : Int) : Nat → List Fct → List Fct
  | 0, f => f
  | n + 1, f => if onceC ps rs f s then runF ps rs s n (onceF ps rs f s) else f
def runN (ps : List Prd) (rs : List Rul) (s : Int) : Nat → List Fct → Nat
  | 0, _ => 0
  | n + 1, f => if onceC ps rs f s then runN ps rs s n (onceF ps rs f s) + 1 else 0
theorem run_more {ps : List Prd} {rs : List Rul} {s : Int} (n : Nat) : ∀ {f : List Fct}, roundErr ps rs f = 0 → lim < n + pot ps f → runF ps rs s (n + 1) f = runF ps rs s n f ∧ runN ps rs s (n + 1) f = runN ps rs s n f ∧ onceC ps rs (runF ps rs s n f) s = false := by
  induction n with
  | zero =>
    intro f h hp
    have := pot_le (Round.once_level s h).2.1
    omega
  | succ n ih =>
    intro f h hp
    cases hc : onceC ps rs f s
    · have e : ∀ m, runF ps rs s (m + 1) f = f := fun m => by rw [runF, hc]; rfl
      have e' : ∀ m, runN ps rs s (m + 1) f = 0 := fun m => by rw [runN, hc]; rfl
      rw [e, e, e', e']
      exact ⟨rfl, rfl, hc⟩
    · have hq := once_pot h hc
      obtain ⟨i1, i2, i3⟩ := ih (once_right s h) (f := onceF ps rs f s) (by omega)
      have e : ∀ m, runF ps rs s (m + 1) f = runF ps rs s m (onceF ps rs f s) := fun m => by rw [runF, hc]; rfl
      have e' : ∀ m, runN ps rs s (m + 1) f = runN ps rs s m (onceF ps rs f s) + 1 := fun m => by rw [runN, hc]; rfl
      rw [e, e, e', e', i1, i2]
      exact ⟨rfl, rfl, i3⟩
/-- all rounds of a stratum -/
def finF (ps : List Prd) (rs : List Rul) (s : Int) (f : List Fct) : List Fct := runF ps rs s (lim + 1) f
def finN (ps : List Prd) (rs : List Rul) (s : Int) (f : List Fct) : Nat := runN ps rs s (lim + 1) f
theorem fin_stop {ps : List Prd} {rs : List Rul} {s : Int} {f : List Fct} (hc : onceC ps rs f s = false) : finF ps rs s f = f ∧ finN ps rs s f = 0 := by
  rw [finF, finN, runF, runN, hc]
  exact ⟨rfl, rfl⟩
theorem fin_step {ps : List Prd} {rs : List Rul} {s : Int} {f : List Fct} (h : roundErr ps rs f = 0) (hc : onceC ps rs f s = true) : finF ps rs s f = finF ps rs s (onceF ps rs f s) ∧ finN ps rs s f = finN ps rs s (onceF ps rs f s) + 1 := by
  have hq := once_pot h hc
  obtain ⟨i1, i2, _⟩ := run_more (s := s) lim (once_right s h) (by omega)
  rw [finF, finN, runF, runN, hc, finF, finN, i1, i2]
  exact ⟨rfl, rfl⟩
theorem fin_closed {ps : List Prd} {rs : List Rul} {s : Int} {f : List Fct} (h : roundErr ps rs f = 0) : onceC ps rs (finF ps rs s f) s = false := (run_more (lim + 1) h (by omega)).2.2
theorem run_right {ps : List Prd} {rs : List Rul} {s : Int} : ∀ (n : Nat) {f : List Fct}, roundErr ps rs f = 0 → roundErr ps rs (runF ps rs s n f) = 0
  | 0, _, h => h
  | n + 1, f, h => by
    rw [runF]
    split
    · exact run_right n (once_right s h)
    · exact h
theorem run_count {ps : List Prd} {rs : List Rul} {s : Int} : ∀ (n : Nat) {f : List Fct}, roundErr ps rs f = 0 → runN ps rs s n f + pot ps f ≤ lim
  | 0, f, h => by
    have := pot_le (Round.once_level s h).2.1
    rw [runN]
    omega
  | n + 1, f, h => by
    rw [runN]
    split
    · rename_i hc
      have := run_count n (s := s) (once_right s h)
      have := once_pot h hc
      omega
    · have := pot_le (Round.once_level s h).2.1
      omega
/-- how many strata there are -/
def strataN (L : List Nat) : Nat := L.foldl (fun n s => max n (s + 1)) 0
/-- all that follows of the strata below t -/
def modelTo (ps : List Prd) (rs : List Rul) : Nat → List Fct
  | 0 => []
  | t + 1 => finF ps rs (t : Int) (modelTo ps rs t)
def roundsTo (ps : List Prd) (rs : List Rul) (t : Nat) : List Nat := (List.range t).map fun (s : Nat) => finN ps rs (s : Int) (modelTo ps rs s)
def modelL (ps : List Prd) (rs : List Rul) : List Fct := modelTo ps rs (strataN (stratOf ps rs))
def roundsL (ps : List Prd) (rs : List Rul) : List Nat := roundsTo ps rs (strataN (stratOf ps rs))
theorem model_right {ps : List Prd} {rs : List Rul} (h : progErr ps rs = 0) : ∀ t, roundErr ps rs (modelTo ps rs t) = 0
  | 0 => nil_right h
  | t + 1 => run_right (lim + 1) (model_right h t)
theorem rounds_succ (ps : List Prd) (rs : List Rul) (t : Nat) : roundsTo ps rs (t + 1) = roundsTo ps rs t ++ [finN ps rs (t : Int) (modelTo ps rs t)] := by
  unfold roundsTo
  rw [List.range_succ, List.map_append]
  rfl
end Go.Proofs.YtlfccloaoopadafGreatDoor.Naive

/-
  Lists of numbers that grow; the greatest stratum, as the document's own 'most' tells it.
-/
namespace Go.Proofs.YtlfccloaoopadafGreatDoor.Naive
open Go.ChangeShapes Go.WideShapes Go.ChangeAt Go.RowKit
open Prog (intsAt intsAt.lasts slice_cells intV)
open Base (add_none)

def cellsI (l : List Nat) : List Value := l.map intV
theorem cellsI_length (l : List Nat) : (cellsI l).length = l.length * 1 := by simp [cellsI]
theorem cellsI_append (l m : List Nat) : cellsI (l ++ m) = cellsI l ++ cellsI m := by simp [cellsI]
theorem cellsI_one (l : List Nat) : ∀ u ∈ cellsI l, u.oneCell' = true := fun u hu => by
  obtain ⟨n, _, rfl⟩ := List.mem_map.1 hu
  rfl
theorem infoInt : (Tryz.prog.info? 3).map (fun i => (i.zero, i.size, i.bytes)) = some (some (.int .i64 0), 1, 8) := by kernel_rfl
section
variable {P : Program}
/-- where a row lies behind append: where it lay, or in a new block -/
theorem append_new (w : World) (base : Nat) (t ty e : TypeId) (i : TypeInfo) (z : Value) (size bytes : Nat) (ht : P.underlying t = some (.slice e)) (hi : P.info? e = some i) (hz : i.zero = some z)
    (hsize : i.size = size) (hby : i.bytes = bytes)
    (v : Value) (n : Nat) (xs : List Value) (hown : w.ownsRow base e size v n xs)
    (a : Addr) (m c : Nat) (news : List Value) (hl : news.length = m * size) (hnews : ∀ j u, news[j]? = some u → w.cell? (a.add j) = some u) (h1 : ∀ u ∈ news, u.oneCell' = true)
    (h63 : n + m ≤ maxLen) (hbytes : ((n + m) + (n + m) / 4 + 192) * bytes ≤ 281474976710656) (hm : 0 < m) {v' : Value} {w' : World}
    (hr : (Builtin.append_ #[t, t] ty #[v, .slice (some a) m c]).run P w = .ok v' w') : ∀ g, v'.ownBlock = some g → v.ownBlock = some g ∨ g = w.heap.size := by
  subst hsize
  subst hby
  have hsmall : n + m ≤ 9223372036854775807 := by simp only [maxLen] at h63; omega
  intro b hb
  rcases hown.2 with ⟨rfl, rfl⟩ | ⟨g, cap, cur, rfl, hbg, hg, hnc, hcm, hcs, htake⟩
  · have hr' := run_append_nil (P := P) w t ty e i z ht hi hz a m c news hl hnews (by omega) (by omega) (by have hb := hbytes; simp only [Nat.zero_add] at hb; exact Nat.le_trans (Nat.mul_le_mul_right _ (by omega)) hb)
    rw [hr] at hr'
    injection hr' with e1 e2
    subst e1
    exact .inr (by simpa [Value.ownBlock] using hb.symm)
  · by_cases hroom : n + m ≤ cap
    · have hfit : n * i.size + news.length ≤ cur.size := by rw [hl, hcs, ← Nat.add_mul]; exact Nat.mul_le_mul_right _ hroom
      have hr' := run_append_room (P := P) w t ty e i ht hi g n cap cur hg a m c news hl hnews h1 hroom hfit
      rw [hr] at hr'
      injection hr' with e1 e2
      subst e1
      exact .inl hb
    · have holds : ∀ j u, xs[j]? = some u → w.cell? ((⟨g, 0, none⟩ : Addr).add j) = some u := hown.cells (g := g) rfl
      have hr' := run_append_grow (P := P) w t ty e i z ht hi hz ⟨g, 0, none⟩ n cap xs hown.1 holds a m c news hl hnews (by omega) (by omega) (growslice_fits_wide (by omega) hbytes)
      rw [hr] at hr'
      injection hr' with e1 e2
      subst e1
      exact .inr (by simpa [Value.ownBlock] using hb.symm)
end
theorem wpList_append_int (w : World) {ops : Array Oper} {rest : List Oper} {o : Oper} {a : Act} {Q : Exit → Act → World → Prop} (hgd : o.guard = none) (s x : Operand)
    (ho : o.op = .call { callee := .builtin .append, args := #[s, x], argTypes := #[61, 61] }) (base : Nat) (v : Value) (xs : List Nat) (t : Nat) (hown : w.ownsRow base 3 1 v xs.length (cellsI xs)) (hs : a.eval s = v) (B : Nat) (hy : a.eval x = .slice (some ⟨B, 0, none⟩) 1 1) (u : TypeId) (hp : w.heap[B]? = some (.cells #[.int .i64 (t : Int)] u))
    (hb : xs.length ≤ 500) (hbase : base ≤ w.heap.size)
    (h : ∀ v' w', w'.ownsRow base 3 1 v' (xs ++ [t]).length (cellsI (xs ++ [t])) → w.grownBy w' v.ownBlock → (∀ g, v'.ownBlock = some g → v.ownBlock = some g ∨ g = w.heap.size) → wpList Tryz.prog ops Q rest (a.put o.dst v') w') : wpList Tryz.prog ops Q (o :: rest) a w := by
  obtain ⟨i, hi, hz, hsz, hby⟩ := info_parts infoInt
  have hc : ∀ j y, (cellsI [t])[j]? = some y → w.cell? ((⟨B, 0, none⟩ : Addr).add j) = some y := fun j y hj => by
    cases j with
    | zero =>
      obtain rfl : intV t = y := by simpa [cellsI] using hj
      rw [add_none]
      simp [World.cell?, hp, intV]
    | succ j => simp [cellsI] at hj
  refine wpList_plain hgd fun _ hK => ?_
  obtain ⟨v', w', hr, h2, h3, _⟩ := run_append_own_wide (P := Tryz.prog) w base 61 o.type 3 i _ 1 8 Tryz.underlying61 hi hz hsz hby rfl (by omega) v xs.length (cellsI xs) hown ⟨B, 0, none⟩ 1 1 (cellsI [t]) (cellsI_length _) hc (cellsI_one _) (by unfold maxLen; omega) (by omega) hbase
  have h4 := append_new w base 61 o.type 3 i _ 1 8 Tryz.underlying61 hi hz hsz hby v xs.length (cellsI xs) hown ⟨B, 0, none⟩ 1 1 (cellsI [t]) (cellsI_length _) hc (cellsI_one _) (by unfold maxLen; omega) (by omega) (by omega) hr
  unfold Oper.wp execOp
  simp only [ho, resolve, invoke, builtin, Sem.run_bind, Sem.run_pure, Result.andThen_ok, List.map_toArray, List.map_cons, List.map_nil, hs, hy, hr]
  exact hK _ _ (h v' w' (by rw [List.length_append, cellsI_append]; exact h2) h3 h4)
theorem intsAt_own {w : World} {base : Nat} {e : TypeId} {v : Value} {l : List Nat} (h : w.ownsRow base e 1 v l.length (cellsI l)) (hl : l.length ≤ 140737488355328) : intsAt w v l := by
  obtain ⟨h0, h1⟩ := h
  rcases h1 with ⟨rfl, hn⟩ | ⟨g, cap, cur, rfl, hb, hg, hc, hm, hsz, htk⟩
  · have : l = [] := List.eq_nil_of_length_eq_zero hn
    subst this
    exact ⟨none, 0, rfl, by simp, .inl rfl⟩
  · refine ⟨_, cap, rfl, hl, .inr ⟨g, 0, rfl, (Array.getElem?_eq_some_iff.1 hg).1, ?_⟩⟩
    intro i x hi
    show w.cell? ⟨g, 0 + i * 1, none⟩ = some (.int .i64 (x : Int))
    have hz : (cellsI l)[i]? = some (.int .i64 (x : Int)) := by unfold cellsI; rw [List.getElem?_map, hi]; rfl
    rw [← htk] at hz
    have hj : i < l.length * 1 := by
      have := (List.getElem?_eq_some_iff.1 hz).1
      simp at this
      omega
    rw [List.getElem?_take_of_lt hj] at hz
    simp [World.cell?, hg]
    simpa using hz
theorem ints_none (w : World) (base : Nat) : w.ownsRow base 3 1 (.slice none 0 0) ([] : List Nat).length (cellsI []) := ⟨rfl, .inl ⟨rfl, rfl⟩⟩
theorem strataN_take {L : List Nat} {k : Nat} (hk : k < L.length) : strataN (L.take (k + 1)) = max (strataN (L.take k)) (L[k] + 1) := by
  unfold strataN
  rw [List.take_add_one, List.getElem?_eq_getElem hk, List.foldl_append]
  rfl

end Go.Proofs.YtlfccloaoopadafGreatDoor.Naive

/-
  What the document's own 'model' answers: all that follows, and of each stratum how many rounds.
-/
namespace Go.Proofs.YtlfccloaoopadafGreatDoor.Naive
open Go.ChangeShapes Go.WideShapes Go.ChangeAt Go.RowKit
open Prog (progErr intsAt intsAt.lasts slice_cells)
open Base (factsErr factsNew own_lasts)
open Fire (roundErr)
open Round (onceF onceC stratOf addAll toldS ofS chgAll strat_some)

/-- facts lie in another block than v -/
def Apart (u v : Value) (l : List Fct) : Prop := l = [] ∨ ∀ b, u.ownBlock = some b → v.ownBlock ≠ some b
/-- facts last while another row grows -/
theorem facts_grown {A B : World} {u v : Value} {l : List Fct} (h : factsAt A u l) (hg : A.grownBy B v.ownBlock) (hne : Apart u v l) : factsAt B u l := by
  obtain ⟨a, cap, rfl, hl, hx⟩ := h
  refine ⟨a, cap, rfl, hl, ?_⟩
  rcases hne with rfl | hne
  · exact .inl rfl
  · rcases hx with hx | ⟨b, off, rfl, hb, hx⟩
    · exact .inl hx
    · have e : ∀ o, B.cell? ⟨b, o, none⟩ = A.cell? ⟨b, o, none⟩ := fun o => World.cell?_of_block (hg.block b hb (fun e => hne b rfl e.symm))
      exact .inr ⟨b, off, rfl, Nat.lt_of_lt_of_le hb hg.size, fun i x hi => ⟨(e _).trans (hx i x hi).1, (e _).trans (hx i x hi).2.1, (e _).trans (hx i x hi).2.2.1, (e _).trans (hx i x hi).2.2.2⟩⟩
theorem apart_new {n : Nat} {A : World} {u v : Value} {l : List Fct} (h : factsNew n A u l) (hv : ∀ g, v.ownBlock = some g → g < n) : Apart u v l := .inr fun b hb e => by
  have := h.2 b hb
  have := hv b e
  omega
theorem apart_grow {n : Nat} {A : World} {u v v' : Value} {l : List Fct} (h : factsAt A u l) (ha : Apart u v l) (hn : A.heap.size ≤ n) (hv : ∀ g, v'.ownBlock = some g → v.ownBlock = some g ∨ g = n) : Apart u v' l := by
  rcases ha with rfl | ha
  · exact .inl rfl
  · obtain ⟨a, cap, rfl, hl, hx⟩ := h
    rcases hx with rfl | ⟨b, off, rfl, hb, hx⟩
    · exact .inl rfl
    · refine .inr fun c hc e => ?_
      obtain rfl : b = c := by simpa [Value.ownBlock] using hc
      rcases hv b e with e' | e'
      · exact ha b hc e'
      · omega
theorem below_grow {n : Nat} {A B C : World} {v : Value} {e : TypeId} {k : Nat} {xs : List Value} (hb : Below n A B) (hown : B.ownsRow n e 1 v k xs) (hg : B.grownBy C v.ownBlock) (hs : n ≤ B.heap.size) : Below n A C := hb.grown hg hs (fun k hk => (hown.lt k hk).1)
theorem fin_count {ps : List Prd} {rs : List Rul} {s : Int} {f : List Fct} (h : roundErr ps rs f = 0) : finN ps rs s f ≤ 2000 := Nat.le_trans (Nat.le_trans (Nat.le_add_right _ _) (run_count (lim + 1) h)) (Nat.le_of_eq lim_is)
theorem fin_one {ps : List Prd} {rs : List Rul} {s : Int} {g f : List Fct} {j : Nat} (h : finF ps rs s g = finF ps rs s f ∧ finN ps rs s g + j = finN ps rs s f) (hr : roundErr ps rs g = 0) :
    (onceC ps rs g s = false → g = finF ps rs s f ∧ j = finN ps rs s f) ∧ (onceC ps rs g s = true → finF ps rs s (onceF ps rs g s) = finF ps rs s f ∧ finN ps rs s (onceF ps rs g s) + (j + 1) = finN ps rs s f) := by
  constructor
  · intro hc
    obtain ⟨e1, e2⟩ := fin_stop hc
    rw [e1, e2, Nat.zero_add] at h
    exact h
  · intro hc
    obtain ⟨e1, e2⟩ := fin_step hr hc
    rw [e1, e2] at h
    exact ⟨h.1, by omega⟩

end Go.Proofs.YtlfccloaoopadafGreatDoor.Naive

/-
  What the document's own ModelOf and RoundsOf answer; how many strata the developers count.
-/
namespace Go.Proofs.YtlfccloaoopadafGreatDoor.Naive
open Go.ChangeShapes Go.WideShapes Go.ChangeAt Go.RowKit
open Prog (progErr intsAt intsAt.lasts slice_cells small devStrata_c edges)
open Strata (strataL)
open Round (stratOf strat_some)

/-- how many strata, errors too -/
def countN (ps : List Prd) (rs : List Rul) : Nat := if progErr ps rs ≠ 0 then 0 else strataN (stratOf ps rs)
set_option maxRecDepth 100000 in
set_option maxHeartbeats 4000000 in
theorem countStrata_c (w : World) (pv rv : Value) (ps : List Prd) (rs : List Rul) (hp : predsAt w pv ps) (hr : rulesAt w rv rs) (hn : small ps) :
    Calls Tryz.prog 45 #[.agg #[pv, rv]] w fun e w' => e = .returned (.tuple #[.int .i64 (countN ps rs : Int), .int .i64 (progErr ps rs)]) ∧ Below w.heap.size w w' := by
  have HST : Hid (∀ x, Below w.heap.size w x → Calls Tryz.prog 47 #[.agg #[pv, rv]] x fun e w' => (∃ v L, e = .returned (.tuple #[v, .int .i64 (progErr ps rs)]) ∧ countN ps rs = strataN L ∧ intsAt w' v L ∧ ∀ t ∈ L, t < 5) ∧ Below x.heap.size x w') := fun x hx => (devStrata_c x pv rv ps rs (predsAt.lasts hx hp) (rulesAt.lasts hx hr) hn).mono fun _ w' ⟨⟨v, h1, h2, h3⟩, h4⟩ => by
    refine ⟨?_, h4⟩
    by_cases hpe : progErr ps rs = 0
    · obtain ⟨l1, l2⟩ := strat_some hpe
      obtain ⟨z1, z2, z3⟩ := Prog.parts_zero (Prog.prog_zero hpe).1
      refine ⟨v, stratOf ps rs, h1, by rw [countN, if_neg (by rw [hpe]; simp)], h3 _ l1 hpe, fun t ht => ?_⟩
      obtain ⟨k, hk, e⟩ := List.getElem_of_mem ht
      have h := Strata.strata_small (Prog.within_edges z3) l1 (k := k) (by omega)
      unfold Strata.at_ at h
      simp [hk] at h
      omega
    · have := h2 hpe
      subst this
      exact ⟨_, [], h1, by rw [countN, if_pos hpe]; rfl, ⟨none, 0, rfl, by simp, .inl rfl⟩, by simp⟩
  obtain ⟨pa, pc, rfl, _⟩ := hp
  obtain ⟨ra, rc, rfl, _⟩ := hr
  generalize progErr ps rs = E at *
  generalize countN ps rs = N at *
  go_enter Tryz.func45, Tryz.ntmps45
  go_wp2_with fail
  refine (HST.out _ (below_alloc _ _)).mono ?_
  rintro e W1 ⟨⟨v, L, rfl, hN, hi, h5⟩, hb⟩
  have HN : Hid (N = strataN L) := hN
  have H5 : Hid (∀ t ∈ L, t < 5) := h5
  have HI : Hid (intsAt W1 v L) := hi
  obtain ⟨sa, sc, rfl, hm, _⟩ := hi
  clear hN h5
  go_wp2_with fail
  have k1 : Below w.heap.size w W1 := below_trans (below_alloc _ _) hb
  go_loopw [6, 16] (fun n i wr => ∃ k : Nat, k ≤ L.length ∧ i = .int .i64 k ∧ n = .int .i64 (strataN (L.take k) : Int) ∧ wr = W1) (fun _ i _ => L.length - (intOf i).toNat)
  case atStart => exact ⟨0, Nat.zero_le _, rfl, rfl, rfl⟩
  case round =>
    obtain ⟨k, hk, rfl, rfl, rfl⟩ := hrel
    by_cases hlt : k < L.length
    · obtain ⟨lb, lo, lc, hlv, hlb, l0⟩ := slice_cells HI.out hlt
      obtain ⟨rfl, rfl⟩ : sa = some ⟨lb, lo, none⟩ ∧ sc = lc := by simpa using hlv
      have l0' : wr.cell? ⟨lb, lo + k, none⟩ = some (.int .i64 (L[k] : Int)) := by have := l0; rwa [Nat.mul_one] at this
      have HT : Hid (strataN (L.take (k + 1)) = max (strataN (L.take k)) (L[k] + 1)) := strataN_take hlt
      have hk0 : (k : Int) < (L.length : Int) := by omega
      have ht5 : (L[k] : Int) ≤ 5 := by have := H5.out _ (List.getElem_mem hlt); omega
      clear l0 hlv
      generalize L[k] = t at *
      generalize strataN (L.take k) = m at *
      go_wp2_with fail
      exact ⟨⟨k + 1, by omega, by go_num, by rw [HT.out]; congr 1; omega, trivial⟩, by simp [intOf]; omega⟩
    · obtain rfl : k = L.length := by omega
      rw [List.take_length, ← HN.out]
      go_wp2_with fail
      refine bodyPost_ret (v := .tuple #[.int .i64 (N : Int), .int .i64 E]) (by simp [results, Tryz.results45, go_sem]) rfl ?_
      exact ⟨rfl, k1⟩
end Go.Proofs.YtlfccloaoopadafGreatDoor.Naive

/-
  The developers' 'rounds': a function value that goes through the rounds that change something, stratum by stratum; whoever ranges over it meets just these, and at the end all that follows lies where the last of them told.
-/
namespace Go.Proofs.YtlfccloaoopadafGreatDoor.Naive
open Go.RowKit Go.Shelf
open Prog (progErr small KeepsBut slice_cells)
open Base (capNew factsErr rowW)
open Fire (roundErr)
open Round (onceF onceC Kept below_grown devOnce_w)
open RangeTold (Tells)
attribute [local go_sem] Oper.semAt_some

/-- a round: its stratum, and where the facts behind it lie -/
abbrev Rnd := Nat × Value
def rndV (x : Rnd) : Array Value := #[.int .i64 (x.1 : Int), x.2]
def lastV (xs : List Rnd) : Value := (xs.getLast?.map Prod.snd).getD (.slice none 0 0)
/-- the strata of the rounds that change something, in order -/
def seqTo (ps : List Prd) (rs : List Rul) (t : Nat) : List Nat := (List.range t).flatMap fun (s : Nat) => List.replicate (finN ps rs (s : Int) (modelTo ps rs s)) s
theorem seq_succ (ps : List Prd) (rs : List Rul) (t : Nat) : seqTo ps rs (t + 1) = seqTo ps rs t ++ List.replicate (finN ps rs (t : Int) (modelTo ps rs t)) t := by
  unfold seqTo
  rw [List.range_succ, List.flatMap_append, List.flatMap_singleton]
theorem seq_le (ps : List Prd) (rs : List Rul) {t N : Nat} (h : t ≤ N) : (seqTo ps rs t).length ≤ (seqTo ps rs N).length := by
  induction N with
  | zero => rw [show t = 0 by omega]; exact Nat.le_refl _
  | succ N ih =>
    by_cases e : t = N + 1
    · rw [e]; exact Nat.le_refl _
    · rw [seq_succ, List.length_append]
      exact Nat.le_trans (ih (by omega)) (Nat.le_add_right _ _)
theorem lastV_snoc (xs : List Rnd) (x : Rnd) : lastV (xs ++ [x]) = x.2 := by simp [lastV]
theorem facts_but {X : Nat → Prop} {A B : World} {v : Value} {l : List Fct} (hk : KeepsBut X A B) (hX : ∀ b, v.ownBlock = some b → ¬ X b) (h : factsAt A v l) : factsAt B v l := by
  obtain ⟨a, cap, rfl, hl, hx⟩ := h
  refine ⟨a, cap, rfl, hl, ?_⟩
  rcases hx with hx | ⟨b, off, rfl, hb, hx⟩
  · exact .inl hx
  · have hne := hX b rfl
    exact .inr ⟨b, off, rfl, Nat.lt_of_lt_of_le hb hk.size, fun i x hi => ⟨hk.cell hne (hx i x hi).1, hk.cell hne (hx i x hi).2.1, hk.cell hne (hx i x hi).2.2.1, hk.cell hne (hx i x hi).2.2.2⟩⟩

/-- facts in a row of the call's own that may be written -/
def FW (n : Nat) (w : World) (v : Value) (l : List Fct) : Prop := factsAt w v l ∧ capNew n v ∧ rowW w v
theorem FW.nil (n : Nat) (w : World) : FW n w (.slice none 0 0) [] := ⟨Base.facts_nil _, Base.new_nil _, Base.rowW_nil _⟩
theorem FW.lasts {n : Nat} {w w' : World} {v : Value} {l : List Fct} (h : FW n w v l) (hb : Below w.heap.size w w') : FW n w' v l := ⟨factsAt.lasts hb h.1, h.2.1, h.2.2.lasts hb⟩
theorem FW.but {n : Nat} {X : Nat → Prop} {A B : World} {v : Value} {l : List Fct} (hk : KeepsBut X A B) (hX : ∀ b, v.ownBlock = some b → ¬ X b) (h : FW n A v l) : FW n B v l := ⟨facts_but hk hX h.1, h.2.1, fun g hg => by
  obtain ⟨h1, cur, h2⟩ := h.2.2 g hg
  exact ⟨h1, cur, hk.same g _ (hX g hg) h2 rfl⟩⟩
theorem facts_unique {w : World} {v : Value} {f g : List Fct} (h : factsAt w v f) (k : factsAt w v g) : f = g := by
  obtain ⟨a, c, rfl, _, hx⟩ := h
  obtain ⟨a', c', e, _, ky⟩ := k
  simp only [Value.slice.injEq] at e
  obtain ⟨rfl, hl, rfl⟩ := e
  refine List.ext_getElem hl fun i h1 h2 => ?_
  rcases hx with rfl | ⟨b, off, rfl, hb, hx⟩
  · simp at h1
  rcases ky with rfl | ⟨b', off', e', _, ky⟩
  · simp at h2
  simp only [Option.some.injEq, Addr.mk.injEq, and_true] at e'
  obtain ⟨rfl, rfl⟩ := e'
  obtain ⟨p0, p1, p2, p3⟩ := hx i f[i] (by simp [h1])
  obtain ⟨q0, q1, q2, q3⟩ := ky i g[i] (by simp [h2])
  rw [p0] at q0
  rw [p1] at q1
  rw [p2] at q2
  rw [p3] at q3
  simp only [Option.some.injEq, Value.int.injEq, true_and] at q0 q1 q2 q3
  revert q0 q1 q2 q3
  generalize f[i] = x
  generalize g[i] = y
  intro q0 q1 q2 q3
  cases x
  cases y
  simp_all
open Classical in
/-- how far the facts at v may still rise -/
noncomputable def left (ps : List Prd) (v : Value) (w : World) : Nat := if h : ∃ g, factsAt w v g then lim - pot ps h.choose else 0
theorem left_eq {ps : List Prd} {v : Value} {w : World} {g : List Fct} (h : factsAt w v g) : left ps v w = lim - pot ps g := by
  have hex : ∃ g, factsAt w v g := ⟨g, h⟩
  rw [left, dif_pos hex, facts_unique hex.choose_spec h]

set_option maxRecDepth 100000 in
set_option maxHeartbeats 4000000 in
theorem rounds1_tells (n : Nat) (hn : 1 ≤ n) (Bs Bp n₀ : Nat) (X : Nat → Prop) (pv rv : Value) (ps : List Prd) (rs : List Rul) (N : Nat) (w : World)
    (hXs : ¬ X Bs) (hXp : ¬ X Bp) (hX : ∀ k, X k → n₀ ≤ k ∧ k < w.heap.size) (hn₀ : n₀ ≤ w.heap.size)
    (hc0 : w.cell? ⟨Bs, 0, none⟩ = some (.int .i64 (N : Int))) (hc1 : w.cell? ⟨Bp, 0, none⟩ = some pv) (hc2 : w.cell? ⟨Bp, 1, none⟩ = some rv)
    (w₀ : World) (hw₀ : w₀.heap.size = n₀) (hb₀ : Below n₀ w₀ w) (hp : predsAt w₀ pv ps) (hr : rulesAt w₀ rv rs) (hsm : small ps) (hpe : progErr ps rs = 0) (hN : N ≤ 5) :
    Tells Fence.wide n Tryz.prog 75 #[.pointer (some ⟨Bs, 0, none⟩), .pointer (some ⟨Bp, 0, none⟩)] rndV (fun x _ => x.1 < N ∧ ∃ a m c, x.2 = .slice a m c) (Kept n₀ X) (fun xs W' => xs.map Prod.fst = seqTo ps rs N ∧ FW n₀ W' (lastV xs) (modelTo ps rs N)) (seqTo ps rs N).length w := fun l J W hW hJ hY h0 => by
  have HW : Hid (Kept n₀ X w W) := Kept.of hW hn₀
  have HW0 : Hid (∀ x, Kept n₀ X w x → Below w₀.heap.size w₀ x) := fun x hx => by rw [hw₀]; exact hb₀.trans hx.below
  have HCE : Hid (∀ x, Kept n₀ X w x → x.cell? ⟨Bs, 0, none⟩ = some (.int .i64 (N : Int)) ∧ x.cell? ⟨Bp, 0, none⟩ = some pv ∧ x.cell? ⟨Bp, 1, none⟩ = some rv) := fun x hx => ⟨hx.but.cell hXs hc0, hx.but.cell hXp hc1, hx.but.cell hXp hc2⟩
  have HON : Hid (∀ x u g (t : Nat), roundErr ps rs g = 0 → factsAt x u g → Kept n₀ X w x → Calls Tryz.prog 76 #[.agg #[pv, rv], u, .int .i64 (t : Int)] x fun e w' => ∃ a m c, e = .returned (.tuple #[.slice a m c, .bool (onceC ps rs g (t : Int)), .int .i64 0]) ∧ factsAt w' (.slice a m c) (onceF ps rs g (t : Int)) ∧ (capNew x.heap.size (.slice a m c) ∧ rowW w' (.slice a m c)) ∧ Below x.heap.size x w') := fun x u g t h1 h2 hx => by
    have h := devOnce_w x pv rv u ps rs g (t : Int) (predsAt.lasts (HW0.out x hx) hp) (rulesAt.lasts (HW0.out x hx) hr) h2 hsm
    rw [h1] at h
    refine h.mono ?_
    rintro e w' ⟨u', he, hf, hc, hrw, hb⟩
    obtain ⟨a, m, c, rfl, _⟩ := id hc.1
    exact ⟨a, m, c, he, hf, ⟨hc, hrw⟩, hb⟩
  have HX2 : Hid (∀ k, w.heap.size ≤ k → ¬ X k) := fun k hk h => by have := (hX k h).2; omega
  have HJB : Hid (∀ pre A B, J pre A → Below A.heap.size A B → J pre B) := fun pre A B h1 h2 => hJ _ _ _ none h1 (below_grown h2) (fun _ e => by cases e)
  have HN0 : Hid (∀ x, Kept n₀ X w x → n₀ ≤ x.heap.size) := fun x hx => Nat.le_trans hn₀ hx.but.size
  have HMR : Hid (∀ t, roundErr ps rs (modelTo ps rs t) = 0) := model_right hpe
  obtain ⟨pa, pc, rfl, _⟩ := hp
  obtain ⟨ra, rc, rfl, _⟩ := hr
  clear hpe hX hb₀ hc0 hc1 hc2 hW hsm hXs hXp
  refine callsIn_of_wp Tryz.func75 rfl trivial ?_ rfl
  simp only [Tryz.ntmps75, List.size_toArray, List.length_cons, List.length_nil, Nat.reduceAdd, Nat.reduceSub, Array.replicate_succ, Array.replicate_zero, List.push_toArray, List.append_toArray, List.nil_append, List.cons_append]
  obtain ⟨c0, c1, c2⟩ := HCE.out W HW.out
  gi_wp2_with fail
  clear c0 c1 c2
  gi_loopw [4, 10] (fun f i wr => ∃ (t : Nat) (u : Value) (pre : List Rnd), u = f ∧ t ≤ N ∧ i = .int .i64 t ∧ Hid (pre.map Prod.fst = seqTo ps rs t) ∧ Hid (lastV pre = u) ∧ FW n₀ wr u (modelTo ps rs t) ∧ (∀ b, u.ownBlock = some b → ¬ X b) ∧ J pre wr ∧ Kept n₀ X w wr) (fun _ i _ => N - (intOf i).toNat)
  case atStart => exact ⟨0, _, [], rfl, Nat.zero_le _, rfl, rfl, rfl, FW.nil _ _, (fun b h => by cases h), h0, HW.out⟩
  case round =>
    obtain ⟨t, u, pre, rfl, ht, rfl, hpre, hlast, hfu, hnx, hJt, hkt⟩ := hrel
    by_cases hlt : t < N
    · have hlt' : (t : Int) < (N : Int) := by omega
      have HLT : Hid (t < N) := hlt
      have HSE : Hid (seqTo ps rs (t + 1) = seqTo ps rs t ++ List.replicate (finN ps rs (t : Int) (modelTo ps rs t)) t) := seq_succ ps rs t
      have HSL : Hid ((seqTo ps rs (t + 1)).length ≤ (seqTo ps rs N).length) := seq_le ps rs (by omega)
      have HMS : Hid (modelTo ps rs (t + 1) = finF ps rs (t : Int) (modelTo ps rs t)) := by show _ = _; rw [modelTo]
      have HM0 : Hid (roundErr ps rs (modelTo ps rs t) = 0) := HMR.out t
      generalize hFN : finN ps rs (t : Int) (modelTo ps rs t) = FN at *
      have HFN : Hid (finN ps rs (t : Int) (modelTo ps rs t) = FN) := hFN
      clear hFN
      generalize modelTo ps rs t = M at *
      have HFU : Hid (FW n₀ wr u M) := hfu
      clear hfu
      gi_wp2_with fail
      gi_loopw [4] (fun f wr3 => ∃ (j : Nat) (u' : Value) (g : List Fct) (pre' : List Rnd), u' = f ∧ Hid (roundErr ps rs g = 0 ∧ finF ps rs (t : Int) g = finF ps rs (t : Int) M ∧ finN ps rs (t : Int) g + j = finN ps rs (t : Int) M) ∧ Hid (pre'.map Prod.fst = seqTo ps rs t ++ List.replicate j t) ∧ Hid (lastV pre' = u') ∧ FW n₀ wr3 u' g ∧ (∀ b, u'.ownBlock = some b → ¬ X b) ∧ J pre' wr3 ∧ Kept n₀ X w wr3) (fun f wr3 => left ps f wr3)
      case atStart => exact ⟨0, u, M, pre, rfl, ⟨HM0.out, rfl, Nat.add_zero _⟩, by show _ = _; rw [hpre.out]; simp, hlast, HFU.out, hnx, hJt, hkt⟩
      case round =>
        obtain ⟨j, u', g, pre', rfl, hg, hpre', hlast', hfg, hnx', hJ3, hk3⟩ := hrel
        obtain ⟨c0, c1, c2⟩ := HCE.out wr hk3
        have HON4 := HON.out wr u' g t hg.out.1 hfg.1 hk3
        have HF1 := fin_one hg.out.2 hg.out.1
        have HG0 : Hid (roundErr ps rs g = 0) := hg.out.1
        have HFG : Hid (FW n₀ wr u' g) := hfg
        rw [HFN.out] at HF1
        clear hfg hg
        cases hc : onceC ps rs g (t : Int)
        · obtain ⟨e1, e2⟩ := HF1.1 hc
          subst e2
          have HME : Hid (g = finF ps rs (t : Int) M) := e1
          rw [hc] at HON4
          clear HF1 e1 hc
          gi_wp2_with fail
          refine ⟨trivial, CallsIn.mono (callsIn_wide.2 HON4) ?_⟩
          rintro e W4 ⟨a4, m4, q4, rfl, _, _, hb4⟩
          have k4 : Kept n₀ X w W4 := hk3.trans (Kept.of hb4 (HN0.out _ hk3))
          have hJ4 : J pre' W4 := HJB.out _ _ _ hJ3 hb4
          have HF4 : Hid (FW n₀ W4 u' g) := HFG.out.lasts hb4
          clear c0 c1 c2
          gi_wp2_with fail
          have q5 : (t : Int) ≤ 5 := by have := HLT.out; omega
          go_roundw
          case rel => exact ⟨t + 1, u', pre', rfl, HLT.out, by go_num, by show _ = _; rw [hpre'.out, HSE.out], hlast', by rw [HMS.out, ← HME.out]; exact HF4.out, hnx', hJ4, k4⟩
          case measure => have := HLT.out; simp [intOf]; omega
        · obtain ⟨e1, e2⟩ := HF1.2 hc
          have HE : Hid (roundErr ps rs (onceF ps rs g (t : Int)) = 0 ∧ finF ps rs (t : Int) (onceF ps rs g (t : Int)) = finF ps rs (t : Int) M ∧ finN ps rs (t : Int) (onceF ps rs g (t : Int)) + (j + 1) = finN ps rs (t : Int) M) := ⟨once_right _ HG0.out, e1, by rw [HFN.out]; exact e2⟩
          have HPO : Hid (pot ps g < pot ps (onceF ps rs g (t : Int)) ∧ pot ps (onceF ps rs g (t : Int)) ≤ lim) := ⟨once_pot HG0.out hc, pot_le (Round.once_level (t : Int) HG0.out).2.2.1⟩
          have hj1 : j + 1 ≤ FN := by omega
          rw [hc] at HON4
          clear HF1 e1 e2 hc
          generalize onceF ps rs g (t : Int) = g' at *
          have hplen : pre'.length < (seqTo ps rs N).length := by
            have h1 := HSL.out
            have h2 := congrArg List.length hpre'.out
            rw [HSE.out, List.length_append, List.length_replicate] at h1
            rw [List.length_map, List.length_append, List.length_replicate] at h2
            omega
          gi_wp2_with fail
          refine ⟨trivial, CallsIn.mono (callsIn_wide.2 HON4) ?_⟩
          rintro e W4 ⟨a4, m4, q4, rfl, hf4, hnew4, hb4⟩
          have k4 : Kept n₀ X w W4 := hk3.trans (Kept.of hb4 (HN0.out _ hk3))
          have hJ4 : J pre' W4 := HJB.out _ _ _ hJ3 hb4
          have HF4 : Hid (FW n₀ W4 (.slice a4 m4 q4) g') := ⟨hf4, hnew4.1.mono (HN0.out _ hk3), hnew4.2⟩
          have HNX : Hid (∀ b, (Value.slice a4 m4 q4).ownBlock = some b → ¬ X b) := fun b hb => HX2.out b (Nat.le_trans hk3.but.size (hnew4.1.2 b hb))
          obtain ⟨fn, tmps, assign, body, hy, hR⟩ := hY pre' (t, .slice a4 m4 q4) W4 ⟨HLT.out, _, _, _, rfl⟩ hJ4 hplen
          dsimp only [rndV] at hy
          clear c0 c1 c2 hf4 hnew4
          gi_wp2_with fail
          refine hR.mono ?_
          rintro ex W8 ⟨rfl, hJ8, hk8⟩
          have HF8 : Hid (FW n₀ W8 (.slice a4 m4 q4) g') := FW.but hk8.but HNX.out HF4.out
          clear hy
          gi_wp2_with fail
          go_roundw
          case rel => exact ⟨j + 1, _, g', pre' ++ [(t, Value.slice a4 m4 q4)], rfl, HE.out, by show _ = _; rw [List.map_append, hpre'.out, List.replicate_succ', List.append_assoc]; rfl, (by show _ = _; exact lastV_snoc _ _), HF8.out, HNX.out, hJ8, k4.trans hk8⟩
          case measure => rw [left_eq HF8.out.1, left_eq HFG.out.1]; have := HPO.out; omega
    · obtain rfl : t = N := by omega
      gi_wp2_with fail
      go_end0
      exact ⟨⟨_, rfl⟩, pre, ⟨hpre.out, by rw [hlast.out]; exact hfu⟩, hJt⟩
end Go.Proofs.YtlfccloaoopadafGreatDoor.Naive

/-
  What the developers' naive.Model answers.
-/
namespace Go.Proofs.YtlfccloaoopadafGreatDoor.Naive
open Go.RowKit Go.Shelf
open Prog (progErr small KeepsBut keepsBut_of_below leaves_marks)
open Base (capNew factsErr)
open Fire (roundErr)
open Round (Kept kept_grown facts_kept facts_cells stratOf rowW_kept rowW_but leaves_but)
open RangeTold (Tells range_told)
attribute [local go_sem] Oper.semAt_some

theorem rounds_c (w : World) (pa : Option Addr) (pn pc : Nat) (ra : Option Addr) (rn rc : Nat) (s : Int) : Calls Tryz.prog 46 #[.agg #[.slice pa pn pc, .slice ra rn rc], .int .i64 s] w fun e w' => e = .returned (.func (.func 75) #[] #[.pointer (some ⟨w.heap.size + 1, 0, none⟩), .pointer (some ⟨w.heap.size, 0, none⟩)]) ∧
    w' = (w.alloc (.cells #[.slice pa pn pc, .slice ra rn rc] 25)).alloc (.cells #[.int .i64 s] 3) := by
  go_enter Tryz.func46, Tryz.ntmps46
  go_wp2_with fail
  go_ret
  exact ⟨rfl, rfl⟩

theorem count_small (ps : List Prd) (rs : List Rul) : countN ps rs ≤ 5 := by
  unfold countN
  split
  · omega
  · rename_i hpe
    have hpe := Classical.not_not.1 hpe
    obtain ⟨l1, l2⟩ := Round.strat_some hpe
    obtain ⟨z1, z2, z3⟩ := Prog.parts_zero (Prog.prog_zero hpe).1
    have : ∀ (l : List Nat) (n : Nat), n ≤ 5 → (∀ x ∈ l, x < 5) → l.foldl (fun n s => max n (s + 1)) n ≤ 5 := fun l => by
      induction l with
      | nil => intro n h _; exact h
      | cons x l ih =>
        intro n h hx
        have := hx x (by simp)
        exact ih _ (Nat.max_le.2 ⟨h, this⟩) (fun y hy => hx y (by simp [hy]))
    refine this _ 0 (by omega) fun x hx => ?_
    obtain ⟨k, hk, e⟩ := List.getElem_of_mem hx
    have h := Strata.strata_small (Prog.within_edges z3) l1 (k := k) (by omega)
    unfold Strata.at_ at h
    simp [hk] at h
    omega
theorem kept_one {n₀ B : Nat} {X : World} (hB : n₀ ≤ B) (u : Value) : Kept n₀ (fun k => k = B) X (X.setCell ⟨B, 0, none⟩ u) :=
  ⟨(Below.refl _ _).setCell (p := ⟨B, 0, none⟩) hB _, by rw [size_set]; exact Nat.le_refl _, fun k o hx hk _ => by
    rw [Fire.heap_setCell_other (fun e => hx e.symm)]
    exact hk⟩
/-- G1, errors too -/
def modelF (ps : List Prd) (rs : List Rul) : List Fct := if progErr ps rs ≠ 0 then [] else modelL ps rs

set_option maxRecDepth 100000 in
set_option maxHeartbeats 8000000 in
theorem devModel_w (w : World) (pv rv : Value) (ps : List Prd) (rs : List Rul) (hp : predsAt w pv ps) (hr : rulesAt w rv rs) (hn : small ps) :
    Calls Tryz.prog 16 #[.agg #[pv, rv]] w fun e w' => ∃ u, e = .returned (.tuple #[u, .int .i64 (progErr ps rs)]) ∧ FW w.heap.size w' u (modelF ps rs) ∧ Below w.heap.size w w' := by
  have HCS : Hid (∀ x, Below w.heap.size w x → Calls Tryz.prog 45 #[.agg #[pv, rv]] x fun e w' => e = .returned (.tuple #[.int .i64 (countN ps rs : Int), .int .i64 (progErr ps rs)]) ∧ Below x.heap.size x w') := fun x hx => countStrata_c x pv rv ps rs (predsAt.lasts hx hp) (rulesAt.lasts hx hr) hn
  have HD0 : Hid (predsAt w pv ps ∧ rulesAt w rv rs ∧ small ps) := ⟨hp, hr, hn⟩
  obtain ⟨pa, pc, rfl, _⟩ := hp
  obtain ⟨ra, rc, rfl, _⟩ := hr
  obtain ⟨W1, hW1⟩ : ∃ W1, w.alloc (.cells #[.slice pa ps.length pc, .slice ra rs.length rc] 25) = W1 := ⟨_, rfl⟩
  have b1 : Below w.heap.size w W1 := by rw [← hW1]; exact below_alloc _ _
  have B1 : W1.cell? ⟨w.heap.size, 0, none⟩ = some (.slice pa ps.length pc) ∧ W1.cell? ⟨w.heap.size, 1, none⟩ = some (.slice ra rs.length rc) ∧ w.heap.size < W1.heap.size := by rw [← hW1]; exact ⟨by simp [go_sem], by simp [go_sem], by simp⟩
  by_cases hpe : progErr ps rs = 0
  · have HPE : Hid (progErr ps rs = 0) := hpe
    have HN : Hid (countN ps rs = strataN (stratOf ps rs)) := by show _ = _; rw [countN, if_neg (by rw [hpe]; simp)]
    have HMF : Hid (modelF ps rs = modelTo ps rs (countN ps rs)) := by show _ = _; rw [modelF, if_neg (by rw [hpe]; simp), modelL, HN.out]
    have HN5 : Hid (countN ps rs ≤ 5) := count_small ps rs
    rw [hpe] at HCS ⊢
    rw [HMF.out]
    clear hpe HMF HN
    generalize countN ps rs = N at *
    refine (callsIn_wide (n := 6)).1 (callsIn_of_wp_marks Tryz.func16 rfl trivial (wpIn_wide.2 ?_) rfl)
    simp only [Tryz.ntmps16, List.size_toArray, List.length_cons, List.length_nil, Nat.reduceAdd, Nat.reduceSub, Array.replicate_succ, Array.replicate_zero, List.push_toArray, List.append_toArray, List.nil_append, List.cons_append]
    go_wp2_with fail
    clear hW1
    refine (HCS.out _ b1).mono ?_
    rintro e W2 ⟨rfl, hb2⟩
    have k2 : Below w.heap.size w W2 := b1.trans (hb2.mono b1.size)
    obtain ⟨c0, c1, _⟩ := Prog.boxO hb2 B1
    go_wp2_with fail
    obtain ⟨W3, hW3⟩ : ∃ W3, W2.alloc (.cells #[.slice none 0 0] 38) = W3 := ⟨_, rfl⟩
    have b23 : Below W2.heap.size W2 W3 := by rw [← hW3]; exact below_alloc _ _
    have s3 : W3.heap.size = W2.heap.size + 1 := by rw [← hW3]; simp
    have X3 : Boxed W3 W2.heap.size 38 (.slice none 0 0) := by rw [← hW3]; exact World.alloc_heap_new W2 _
    rw [hW3]
    clear hW3 c0 c1
    refine (rounds_c W3 pa ps.length pc ra rs.length rc (N : Int)).mono ?_
    rintro e W4 ⟨rfl, hW4⟩
    have b34 : Below W3.heap.size W3 W4 := by rw [hW4]; exact ((Below.refl _ _).alloc (Nat.le_refl _) _).alloc (by simp) _
    have s4 : W4.heap.size = W3.heap.size + 1 + 1 := by rw [hW4]; simp
    have t0 : W4.cell? ⟨W3.heap.size + 1, 0, none⟩ = some (.int .i64 (N : Int)) := by rw [hW4]; simp [go_sem]
    have t1 : W4.cell? ⟨W3.heap.size, 0, none⟩ = some (.slice pa ps.length pc) := by rw [hW4]; simp [go_sem]
    have t2 : W4.cell? ⟨W3.heap.size, 1, none⟩ = some (.slice ra rs.length rc) := by rw [hW4]; simp [go_sem]
    clear hW4
    go_wp2_with fail
    have k4 : Below w.heap.size w W4 := (k2.trans (b23.mono k2.size)).trans (b34.mono (k2.trans (b23.mono k2.size)).size)
    have Y3 : Boxed W4 W2.heap.size 38 (.slice none 0 0) := (b34.block _ X3.lt).trans X3
    have hsw : w.heap.size ≤ W2.heap.size := k2.size
    have HWB : Hid (∀ x, Kept w.heap.size (fun k => k = W2.heap.size) W4 x → Below w.heap.size w x) := fun x hx => k4.trans hx.below
    clear X3
    refine (wpIn_wide (n := 6)).1 (range_told (α := Rnd) rfl (by omega) (gf := 75) (lb := #[.pointer (some ⟨W2.heap.size + 1 + 1, 0, none⟩), .pointer (some ⟨W2.heap.size + 1, 0, none⟩)]) rfl trivial (enters_of Tryz.func75 (by kernel_rfl) rfl)
      (rounds1_tells (6 - 1) (by omega) (W2.heap.size + 1 + 1) (W2.heap.size + 1) w.heap.size (fun k => k = W2.heap.size) _ _ ps rs N W4 (by omega) (by omega) (fun k hk => by omega) (by omega) (by rw [← s3]; exact t0) (by rw [← s3]; exact t1) (by rw [← s3]; exact t2) w rfl k4 HD0.out.1 HD0.out.2.1 HD0.out.2.2 HPE.out HN5.out)
      Kept.trans (fun X k o o' hk h ho _ => ⟨(Below.refl _ X).grown (grownBy_putObj' X k o') (by have := (Array.getElem?_eq_some_iff.1 h).1; omega) (fun j e => by cases e; omega), KeepsBut.putObj _ o' h ho⟩) (Below.refl _ _) (fun _ => rfl)
      (fun pre X => Boxed X W2.heap.size 38 (lastV pre) ∧ Kept w.heap.size (fun k => k = W2.heap.size) W4 X)
      (fun pre A B row hs hg hr => ⟨boxed_own _ _ (fun (_ : Unit) => _) () A B row hs.1 hg (fun r e => (hr r e).2), kept_grown hs.2 hg (by omega) hr⟩)
      (fun xs A B row hs hg hr => ⟨hs.1, facts_kept hs.2.1 hg (fun r e => (hr r e).2), hs.2.2.1, rowW_kept hs.2.2.2 hg (fun r e => (hr r e).2)⟩)
      ⟨Y3, Kept.refl _ _ _⟩
      (fun x a' X => ∃ a m c, x.2 = .slice a m c ∧ a' = { tmps := #[.agg #[.slice pa ps.length pc, .slice ra rs.length rc], .pointer (some ⟨w.heap.size, 0, none⟩), .slice none 0 0, .int .i64 0, .int .i64 N, .int .i64 0, .pointer (some ⟨W2.heap.size, 0, none⟩), undef, .slice a m c, .tuple #[.int .i64 N, .int .i64 0], .agg #[.slice pa ps.length pc, .slice ra rs.length rc], .tuple #[.int .i64 N, .int .i64 0], .int .i64 N, .int .i64 0, .int .i64 0, .bool false, undef, .agg #[.slice pa ps.length pc, .slice ra rs.length rc], .int .i64 N, .func (.func 75) #[] #[.pointer (some ⟨W2.heap.size + 1 + 1, 0, none⟩), .pointer (some ⟨W2.heap.size + 1, 0, none⟩)], .int .i64 x.1, .slice a m c, undef, undef], defers := [] })
      (fun x a' _ A B row hs hg hr => hs) ?assign ?body ?done)
    case assign =>
      rintro l' pre ⟨s, _⟩ X K ⟨_, a, m, c, hx⟩ ⟨g1, g2⟩ hK
      dsimp only at hx
      subst hx
      dsimp only [rndV] at hK ⊢
      gi_wp2
      exact hK _ _ (KeepsFrom.refl _ _) (Kept.refl _ _ _) ⟨g1, g2⟩ ⟨a, m, c, rfl, rfl⟩
    case body =>
      rintro l' pre ⟨s, _⟩ a' X hl' _ ⟨g1, g2⟩ ⟨a, m, c, hx, rfl⟩ _
      dsimp only at hx
      subst hx
      have i1 := g1.cell
      have i2 := g1.frozen
      gi_wp2_with fail
      exact ⟨(KeepsOthers.setCell _ _ _).from _, kept_one hsw _, by rw [lastV_snoc]; exact g1.set _, g2.trans (kept_one hsw _)⟩
    case done =>
      rintro D xs X hD ⟨_, hF⟩ ⟨g1, g2⟩ hK
      have i1 := g1.cell
      have HX : Hid (FW w.heap.size X (lastV xs) (modelTo ps rs N)) := hF
      have HXB : Hid (Below w.heap.size w X) := HWB.out X g2
      clear hF
      generalize lastV xs = u at *
      go_wp2_with fail
      show LeavesInM _ _ _ _ _ _ ([D].map Prog.mark) _ _
      refine leaves_but w.heap.size [D] _ (by simp) (fun D' hD' => ?_) fun W' hb hk => ?_
      · rw [List.mem_singleton.1 hD']
        exact ⟨by omega, hK⟩
      · refine ⟨.tuple #[u, .int .i64 0], by simp [results, Tryz.f16, go_sem], ?_⟩
        exact ⟨u, rfl, ⟨facts_cells HX.out.1 (fun b o u hu => hk.cell (fun x => x) hu) hb.size, HX.out.2.1, rowW_but HX.out.2.2 hk⟩, HXB.out.trans hb⟩
  · have HPE : Hid (modelF ps rs = []) := by show _ = _; rw [modelF, if_pos hpe]
    have hpe' : (progErr ps rs == 0) = false := by simpa using hpe
    rw [HPE.out]
    go_enter Tryz.func16, Tryz.ntmps16
    go_wp2_with fail
    clear hW1
    refine (HCS.out _ b1).mono ?_
    rintro e W2 ⟨rfl, hb2⟩
    have k2 : Below w.heap.size w W2 := b1.trans (hb2.mono b1.size)
    go_wp2_with fail
    refine bodyPost_ret (v := .tuple #[.slice none 0 0, .int .i64 (progErr ps rs)]) (by simp [results, Tryz.results16, go_sem]) rfl ?_
    exact ⟨_, rfl, FW.nil _ _, by first | exact k2 | exact k2.alloc k2.size _⟩
theorem devModel_c (w : World) (pv rv : Value) (ps : List Prd) (rs : List Rul) (hp : predsAt w pv ps) (hr : rulesAt w rv rs) (hn : small ps) :
    Calls Tryz.prog 16 #[.agg #[pv, rv]] w fun e w' => ∃ u, e = .returned (.tuple #[u, .int .i64 (progErr ps rs)]) ∧ factsAt w' u (modelF ps rs) ∧ Below w.heap.size w w' :=
  (devModel_w w pv rv ps rs hp hr hn).mono fun _ _ ⟨u, h1, h2, h3⟩ => ⟨u, h1, h2.1, h3⟩
end Go.Proofs.YtlfccloaoopadafGreatDoor.Naive
