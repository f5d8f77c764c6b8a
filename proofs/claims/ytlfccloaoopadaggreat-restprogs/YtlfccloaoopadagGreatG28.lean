/-
  The developers' All of package fire.
-/
import Derived.Test.YtlfccloaoopadagGreatG26
import Derived.Test.YtlfccloaoopadagGreatG27
import Derived.Test.YtlfccloaoopadagGreatG24
import Derived.Test.YtlfccloaoopadagGreatG14
import Derived.Test.YtlfccloaoopadagGreatG15
import Derived.Test.YtlfccloaoopadagGreatG17
namespace Go.Proofs.YtlfccloaoopadagGreat.Fire
open Go.ChangeShapes Go.WideShapes Go.ChangeAt Go.RowKit
open Rule (Vars ruleErr)
open Base (factsErr own_lasts)
open Prog (slice_cells small)
open Go.Sort Go.Shelf Go.Lib

def encS (s : Stp) : List Value := [.int .i64 s.rule, .int .i64 s.x, .int .i64 s.y, .int .i64 s.z]
instance : Inhabited Stp := ⟨⟨0, 0, 0, 0⟩⟩
theorem four {P : Nat → Prop} (h0 : P 0) (h1 : P 1) (h2 : P 2) (h3 : P 3) : ∀ c, c < 4 → P c
  | 0, _ => h0
  | 1, _ => h1
  | 2, _ => h2
  | 3, _ => h3
  | c + 4, h => absurd h (by omega)
theorem holds_own {w : World} {base g cap : Nat} {l : List Stp} (h : w.ownsRow base 99 4 (.slice (some ⟨g, 0, none⟩) l.length cap) l.length (cellsS l)) (hl : l.length ≤ 500) : HoldsK encS 4 w g 0 l.toArray ∧ base ≤ g ∧ g < w.heap.size := by
  have hs := stepsAt_of h (by omega)
  obtain ⟨_, ⟨e, _⟩ | ⟨g', cap', cur, e, hg, hh, _⟩⟩ := h
  · cases e
  · obtain ⟨rfl, rfl⟩ : g = g' ∧ cap = cap' := by simpa using e
    refine ⟨fun t ht => ?_, hg, (Array.getElem?_eq_some_iff.1 hh).1⟩
    rw [size_flatK, List.size_toArray] at ht
    refine ⟨?_, by simp [World.frozen?, hh]⟩
    have hi : t / 4 < l.length := by omega
    obtain ⟨b, off, cap2, e2, _, a0, a1, a2, a3⟩ := step_cells hs hi
    obtain ⟨⟨rfl, rfl⟩, rfl⟩ : (g = b ∧ 0 = off) ∧ cap = cap2 := by simpa using e2
    rw [get_flatK _ _ _ _ (by rw [List.size_toArray]; omega)]
    have el : l.toArray[t / 4]! = l[t / 4] := by simp [hi]
    rw [el, show (0 + t : Nat) = 0 + t / 4 * 4 + t % 4 by omega]
    exact four (P := fun c => w.cell? ⟨g, 0 + t / 4 * 4 + c, none⟩ = some (id (encS l[t / 4])[c]!)) a0 a1 a2 a3 (t % 4) (by omega)
theorem sort_below {w : World} {base g n : Nat} {d : Array Stp} {os : Array Obj} (hb : base ≤ g) (hg : g < w.heap.size) : Below base w (sortWorldK encS 4 w g 0 n d os) := by
  refine ⟨rfl, rfl, rfl, ?_, fun k hk => ?_⟩
  · unfold sortWorldK grow putRowK putRow mapBlock Sort.ahead
    simp
  · unfold sortWorldK grow putRowK putRow mapBlock Sort.ahead
    show (Array.modify w.heap g _ ++ os)[k]? = w.heap[k]?
    rw [Array.getElem?_append_left (by simp; omega), Array.getElem?_modify, if_neg (by omega)]
theorem sort_holds {w : World} {g cap n : Nat} {l : List Stp} {d : Array Stp} {os : Array Obj} (h : HoldsK encS 4 w g 0 l.toArray) (hg : g < w.heap.size) (hs : d.size = l.length) (hl : l.length ≤ 500) : stepsAt (sortWorldK encS 4 w g 0 n d os) (.slice (some ⟨g, 0, none⟩) l.length cap) d.toList := by
  have h1 : HoldsK encS 4 (sortWorldK encS 4 w g 0 n d os) g 0 d := by
    have h0 : HoldsK encS 4 (Sort.ahead w n) g 0 l.toArray := h
    have hs' : d.size = l.toArray.size := by simpa using hs
    refine holdsK_grow _ _ _ _ _ _ _ ?_ (holdsK_putRowK _ _ _ _ _ _ _ h0 hs')
    unfold putRowK putRow mapBlock Sort.ahead
    simpa using hg
  have hdl : d.toList.length = l.length := (Array.length_toList).trans hs
  refine ⟨some ⟨g, 0, none⟩, cap, by rw [hdl], by rw [hdl]; omega, .inr ⟨g, 0, rfl, ?_, fun i x hi => ?_⟩⟩
  · exact Nat.lt_of_lt_of_le hg (sort_below (Nat.zero_le _) hg).size
  · have hi' : i < d.size := by
      have := (List.getElem?_eq_some_iff.1 hi).1
      simpa using this
    have ex : d[i]! = x := by
      rw [getElem!_pos d i hi']
      have := (List.getElem?_eq_some_iff.1 hi).2
      simpa using this
    have c := fun k hk => (h1.cell (c := k) hi' hk).1
    rw [ex] at c
    exact ⟨c 0 (by omega), c 1 (by omega), c 2 (by omega), c 3 (by omega)⟩
theorem ltOf_cmpS (s t : Stp) : ltOf cmpS s t = ltS s t := cmpS_lt s t
theorem swoS : SWO (ltOf cmpS) where
  irrefl x := by rw [ltOf_cmpS]; exact ltS_irrefl x
  trans x y z h1 h2 := by rw [ltOf_cmpS] at *; exact ltS_trans h1 h2
  ntrans x y z h1 h2 := by rw [ltOf_cmpS, ltS_not] at *; omega
theorem cmpLays (blk off size : Nat) (w : World) : CmpLays Tryz.prog 115 #[] encS 4 cmpS blk off size w := fun _ _ _ _ x y => all1_c x y _
set_option maxHeartbeats 1000000 in
theorem sort_c (w : World) (base : Nat) (v : Value) (l : List Stp) (h : w.ownsRow base 99 4 v l.length (cellsS l)) (hl : l.length ≤ 500) :
    Calls Tryz.prog 114 #[v, .func (.func 115) #[] #[]] w fun e w' => e = .returned (.tuple #[]) ∧ (∃ l' : List Stp, l'.Perm l ∧ l'.Pairwise (fun s t => ltS t s = false) ∧ stepsAt w' v l') ∧ Below base w w' := by
  have ho := h
  obtain ⟨_, ⟨rfl, hn⟩ | ⟨g, cap, cur, rfl, _, _, _⟩⟩ := h
  · have hl0 : l = [] := List.eq_nil_of_length_eq_zero hn
    subst hl0
    refine (show Calls Tryz.prog 114 #[.slice none 0 0, .func (.func 115) #[] #[]] w _ from AnyF.slices_SortFunc_none sortStep none 0 _ w).mono ?_
    rintro e w' ⟨rfl, rfl⟩
    exact ⟨rfl, ⟨[], List.Perm.refl _, List.Pairwise.nil, ⟨none, 0, rfl, by simp, .inl rfl⟩⟩, Below.refl _ _⟩
  · obtain ⟨hH, hb, hg⟩ := holds_own ho hl
    have hc := AnyQ.slices_SortFunc sortStep 4 Tryz.isAgg99 Tryz.sizeOf99 encS (fun _ => rfl) (fun x v hv => by simp [encS] at hv; rcases hv with rfl | rfl | rfl | rfl <;> rfl) cmpS swoS 115 #[] g 0 cap l.toArray w (enters_of Tryz.func115 (by kernel_rfl) rfl) (cmpLays g 0 _ w) hH hg (by rw [List.size_toArray]; omega)
    rw [List.size_toArray] at hc
    refine (show Calls Tryz.prog 114 #[.slice (some ⟨g, 0, none⟩) l.length cap, .func (.func 115) #[] #[]] w _ from hc).mono ?_
    rintro e w' ⟨rfl, d, n, os, ⟨hs, _, hp⟩, hso, rfl⟩
    replace hs : d.size = l.length := by have : l.toArray.size = l.length := List.size_toArray; omega
    refine ⟨rfl, ⟨d.toList, ?_, ?_, sort_holds hH hg hs hl⟩, sort_below hb hg⟩
    · have e1 : d.extract 0 l.length = d := by rw [← hs]; exact Array.extract_size
      have e2 : l.toArray.extract 0 l.length = l.toArray := by
        have := Array.extract_size (xs := l.toArray)
        rwa [List.size_toArray] at this
      rw [e1, e2] at hp
      exact hp
    · rw [List.pairwise_iff_getElem]
      intro i j hi hj hij
      have hi' : i < d.size := by simpa using hi
      have hj' : j < d.size := by simpa using hj
      have := hso i j (Nat.zero_le _) hij (by omega)
      rw [ltOf_cmpS, getElem!_pos d i hi', getElem!_pos d j hj'] at this
      simpa using this
theorem own_base {w : World} {base base' : Nat} {e : TypeId} {sz n : Nat} {v : Value} {xs : List Value} (h : w.ownsRow base e sz v n xs) (hb : base' ≤ base) : w.ownsRow base' e sz v n xs := by
  obtain ⟨h0, h1⟩ := h
  refine ⟨h0, ?_⟩
  rcases h1 with h1 | ⟨g, cap, cur, h1, h2, h3⟩
  · exact .inl h1
  · exact .inr ⟨g, cap, cur, h1, by omega, h3⟩
theorem own_ge {w : World} {base : Nat} {e : TypeId} {sz n : Nat} {v : Value} {xs : List Value} (h : w.ownsRow base e sz v n xs) {b : Nat} (hb : v.ownBlock = some b) : base ≤ b := by
  obtain ⟨_, ⟨rfl, _⟩ | ⟨g, cap, cur, rfl, hg, _⟩⟩ := h
  · cases hb
  · obtain rfl : g = b := by simpa [Value.ownBlock] using hb
    exact hg
/-- E2, errors too -/
def allOf (ps : List Prd) (rs : List Rul) (f : List Fct) (n : Int) : List Stp := if fireErr ps rs f n ≠ 0 then [] else match rs[n.toNat]? with
  | some r => allL f r n
  | none => []
set_option maxRecDepth 100000 in
set_option maxHeartbeats 2000000 in
theorem devAllN_c (w : World) (pv rv fv : Value) (ps : List Prd) (rs : List Rul) (f : List Fct) (n : Int) (hp : predsAt w pv ps) (hr : rulesAt w rv rs) (hf : factsAt w fv f) (hn : small ps) :
    Calls Tryz.prog 82 #[.agg #[pv, rv], fv, .int .i64 n] w fun e w' => (∃ v, e = .returned (.tuple #[v, .int .i64 (fireErr ps rs f n)]) ∧ stepsAt w' v (allOf ps rs f n) ∧ ∀ b, v.ownBlock = some b → w.heap.size ≤ b) ∧ Below w.heap.size w w' := by
  have HP : Hid (∀ x, Below w.heap.size w x → predsAt x pv ps) := fun x hx => predsAt.lasts hx hp
  have HR : Hid (∀ x, Below w.heap.size w x → rulesAt x rv rs) := fun x hx => rulesAt.lasts hx hr
  have HF : Hid (∀ x, Below w.heap.size w x → factsAt x fv f) := fun x hx => factsAt.lasts hx hf
  obtain ⟨W1, hW1⟩ : ∃ W1, w.alloc (.cells #[pv, rv] 25) = W1 := ⟨_, rfl⟩
  have b1 : Below w.heap.size w W1 := by rw [← hW1]; exact below_alloc _ _
  have HC : Hid (Calls Tryz.prog 112 #[.agg #[pv, rv], fv, .int .i64 n] W1 fun e w' => e = .returned (.int .i64 (fireErr ps rs f n)) ∧ Below W1.heap.size W1 w') := check_c W1 _ _ _ ps rs f n (HP.out _ b1) (HR.out _ b1) (HF.out _ b1) hn
  have q0 : W1.cell? ⟨w.heap.size, 0, none⟩ = some pv := by rw [← hW1]; simp [go_sem]
  have q1 : W1.cell? ⟨w.heap.size, 1, none⟩ = some rv := by rw [← hW1]; simp [go_sem]
  have s1 : W1.heap.size = w.heap.size + 1 := by rw [← hW1]; simp
  obtain ⟨pa, pc, rfl, _⟩ := hp
  obtain ⟨ra, rc, rfl, _⟩ := hr
  obtain ⟨fa, fc, rfl, _⟩ := hf
  by_cases hfe : fireErr ps rs f n = 0
  · obtain ⟨z1, z2, z3, z4⟩ := fire_zero hfe
    obtain ⟨m, rfl⟩ : ∃ m : Nat, n = (m : Int) := ⟨n.toNat, by omega⟩
    have hml : m < rs.length := by omega
    have HA : Hid (allOf ps rs f m = allL f rs[m] m) := by show _ = _; rw [allOf, if_neg (by rw [hfe]; simp), Int.toNat_natCast, List.getElem?_eq_getElem hml]
    have HST : Hid (∀ x, Below w.heap.size w x → Calls Tryz.prog 113 #[.agg #[.slice pa ps.length pc, .slice ra rs.length rc], .slice fa f.length fc, .int .i64 (m : Int)] x fun e w' => ∃ v l, e = .returned v ∧ w'.ownsRow x.heap.size 99 4 v l.length (cellsS l) ∧ Below x.heap.size x w' ∧ l.length ≤ 500 ∧ ∀ l' : List Stp, l'.Perm l → l'.Pairwise (fun s t => ltS t s = false) → l' = allL f rs[m] m) := fun x hx => by
      have hre : ruleErr ps rs[m] = 0 := rules_right z1 _ (List.getElem_mem hml)
      refine (steps_c x _ _ _ ps rs f m (HP.out _ hx) (HR.out _ hx) (HF.out _ hx) (rules_right z1) z2 hml).mono ?_
      rintro e w' ⟨v, rfl, ho, hb⟩
      refine ⟨v, _, rfl, own_base ho (by omega), hb, ?_, fun l' h1 h2 => lay_sorted hre z2 h1 h2⟩
      rw [List.length_map]
      have := lay_len hre z2
      omega
    have HCC : Hid (∀ x, Below W1.heap.size W1 x → x.cell? ⟨w.heap.size, 0, none⟩ = some (.slice pa ps.length pc) ∧ x.cell? ⟨w.heap.size, 1, none⟩ = some (.slice ra rs.length rc)) := fun x hx => ⟨(cell_lasts hx (by omega)).trans q0, (cell_lasts hx (by omega)).trans q1⟩
    have HFE : Hid (fireErr ps rs f m = 0) := hfe
    rw [hfe] at HC
    clear z1 z2 z3 z4 hfe
    generalize rs[m] = r at *
    go_enter Tryz.func82, Tryz.ntmps82
    go_wp2_with fail
    refine HC.out.mono ?_
    rintro e W2 ⟨rfl, hb2⟩
    have k2 : Below w.heap.size w W2 := b1.trans (hb2.mono b1.size)
    clear hW1 q0 q1 HC
    obtain ⟨c0, c1⟩ := HCC.out _ hb2
    go_wp2_with fail
    refine (HST.out _ k2).mono ?_
    rintro e W3 ⟨v, l, rfl, hown, hb3, hl, hall⟩
    have k3 : Below w.heap.size w W3 := k2.trans (hb3.mono k2.size)
    obtain ⟨va, vn, vc, rfl⟩ := own_slice hown
    have HSO : Hid (Calls Tryz.prog 114 #[.slice va vn vc, .func (.func 115) #[] #[]] W3 fun e w' => e = .returned (.tuple #[]) ∧ stepsAt w' (.slice va vn vc) (allL f r m) ∧ Below w.heap.size w w') := (sort_c W3 W2.heap.size (.slice va vn vc) l hown hl).mono fun e w' ⟨h1, ⟨l', h2, h3, h4⟩, h5⟩ => ⟨h1, by rw [← hall l' h2 h3]; exact h4, k3.trans (h5.mono k2.size)⟩
    have HNEW : Hid (∀ b, (Value.slice va vn vc).ownBlock = some b → w.heap.size ≤ b) := fun b hb => Nat.le_trans k2.size (own_ge hown hb)
    clear hown hall hl c0 c1
    go_wp2_with fail
    refine HSO.out.mono ?_
    rintro e W4 ⟨rfl, hst, k4⟩
    go_wp2_with fail
    refine bodyPost_ret (v := .tuple #[.slice va vn vc, .int .i64 0]) (by simp [results, Tryz.results82, go_sem]) rfl ?_
    exact ⟨⟨.slice va vn vc, by rw [HFE.out], by rw [HA.out]; exact hst, HNEW.out⟩, k4⟩
  · have HA : Hid (allOf ps rs f n = []) := by show _ = _; rw [allOf, if_pos hfe]
    go_enter Tryz.func82, Tryz.ntmps82
    go_wp2_with fail
    refine HC.out.mono ?_
    rintro e W2 ⟨rfl, hb2⟩
    have hfe' : (fireErr ps rs f n == 0) = false := by simpa using hfe
    clear HC
    go_wp2_with fail
    refine bodyPost_ret (v := .tuple #[.slice none 0 0, .int .i64 (fireErr ps rs f n)]) (by simp [results, Tryz.results82, go_sem]) rfl ?_
    exact ⟨⟨.slice none 0 0, rfl, by rw [HA.out]; exact ⟨none, 0, rfl, by simp, .inl rfl⟩, fun b hb => by cases hb⟩, b1.trans (hb2.mono b1.size)⟩
theorem devAll_c (w : World) (pv rv fv : Value) (ps : List Prd) (rs : List Rul) (f : List Fct) (n : Int) (hp : predsAt w pv ps) (hr : rulesAt w rv rs) (hf : factsAt w fv f) (hn : small ps) :
    Calls Tryz.prog 82 #[.agg #[pv, rv], fv, .int .i64 n] w fun e w' => (∃ v, e = .returned (.tuple #[v, .int .i64 (fireErr ps rs f n)]) ∧ stepsAt w' v (allOf ps rs f n)) ∧ Below w.heap.size w w' :=
  (devAllN_c w pv rv fv ps rs f n hp hr hf hn).mono fun _ _ ⟨⟨v, h1, h2, _⟩, h3⟩ => ⟨⟨v, h1, h2⟩, h3⟩
end Go.Proofs.YtlfccloaoopadagGreat.Fire

/-
  The developers' 'told': a function value that goes through what the wanted rules tell, fact by fact; whoever ranges over it meets just these, in order.
-/
namespace Go.Proofs.YtlfccloaoopadagGreat.Round
open Go.RowKit Go.Shelf
open Rule (Vars ruleErr kindOf factFine)
open Base (factsErr)
open Fire (consts bodyOk headF holdsF allL Stp stepsAt stepAt step_cells mem_all rules_right fireErr holdsErr holdsOk holdsFact devAllN_c devHolds_c allOf)
open Prog (progErr slice_cells small KeepsBut keepsBut_of_below)
attribute [local go_sem] Oper.semAt_some

theorem below_grown {A B : World} (h : Below A.heap.size A B) : A.grownBy B none := ⟨h.os, h.tape, h.output, h.size, fun k hk _ => h.block k hk⟩
/-- what a round keeps: all below n₀, and all cells but some blocks -/
structure Kept (n₀ : Nat) (X : Nat → Prop) (A B : World) : Prop where
  below : Below n₀ A B
  but : KeepsBut X A B
theorem Kept.refl (n₀ : Nat) (X : Nat → Prop) (A : World) : Kept n₀ X A A := ⟨Below.refl _ _, KeepsBut.refl _ _⟩
theorem Kept.trans {n₀ : Nat} {X : Nat → Prop} {A B C : World} (h : Kept n₀ X A B) (k : Kept n₀ X B C) : Kept n₀ X A C := ⟨h.below.trans k.below, h.but.trans k.but⟩
theorem Kept.of {n₀ : Nat} {X : Nat → Prop} {A B : World} (h : Below A.heap.size A B) (hn : n₀ ≤ A.heap.size) : Kept n₀ X A B := ⟨h.mono hn, keepsBut_of_below h⟩

theorem steps_kept {X : Nat → Prop} {A B : World} {v : Value} {l : List Stp} (hk : KeepsBut X A B) (hX : ∀ b, v.ownBlock = some b → ¬ X b) (h : stepsAt A v l) : stepsAt B v l := by
  obtain ⟨a, cap, rfl, hl, hx⟩ := h
  refine ⟨a, cap, rfl, hl, ?_⟩
  rcases hx with hx | ⟨b, off, rfl, hb, hx⟩
  · exact .inl hx
  · have hne := hX b rfl
    exact .inr ⟨b, off, rfl, Nat.lt_of_lt_of_le hb hk.size, fun i x hi => ⟨hk.cell hne (hx i x hi).1, hk.cell hne (hx i x hi).2.1, hk.cell hne (hx i x hi).2.2.1, hk.cell hne (hx i x hi).2.2.2⟩⟩
abbrev Told (T : List Fct) := { x : Fct // x ∈ T }
def toldV {T : List Fct} (x : Told T) : Array Value := #[.agg #[.int .i64 x.1.pred, .int .i64 x.1.a, .int .i64 x.1.b, .int .i64 x.1.val]]
def toldL {T : List Fct} (l : List (Told T)) : List Fct := l.map fun x => x.1
theorem toldL_snoc {T : List Fct} (l : List (Told T)) (x : Told T) : toldL (l ++ [x]) = toldL l ++ [x.1] := by simp [toldL]
theorem toldL_length {T : List Fct} (l : List (Told T)) : (toldL l).length = l.length := by simp [toldL]
theorem told_le (ps : List Prd) (S : Rul → Bool) (f : List Fct) (rs : List Rul) (k : Nat) : (toldS ps S f (rs.take k)).length ≤ (toldS ps S f rs).length := by
  have : toldS ps S f rs = toldS ps S f (rs.take k) ++ toldS ps S f (rs.drop k) := by
    unfold toldS
    rw [← List.flatMap_append, List.take_append_drop]
  rw [this, List.length_append]
  omega
theorem told_mem {ps : List Prd} {S : Rul → Bool} {f : List Fct} {rs : List Rul} {n : Nat} (hn : n < rs.length) (hS : S rs[n] = true) : ∀ x ∈ toldR ps f rs[n], x ∈ toldS ps S f rs := fun x hx =>
  List.mem_flatMap.2 ⟨rs[n], List.getElem_mem hn, by rw [if_pos hS]; exact hx⟩

set_option maxRecDepth 100000 in
set_option maxHeartbeats 4000000 in
theorem told1_stops (n : Nat) (hn : 1 ≤ n) (Bp Bw Bf n₀ : Nat) (X : Nat → Prop) (pv rv fv : Value) (g : Nat) (lb : Array Value) (ps : List Prd) (rs : List Rul) (f : List Fct) (S : Rul → Bool) (w : World)
    (hXp : ¬ X Bp) (hXw : ¬ X Bw) (hXf : ¬ X Bf) (hX : ∀ k, X k → n₀ ≤ k ∧ k < w.heap.size) (hn₀ : n₀ ≤ w.heap.size)
    (hc0 : w.cell? ⟨Bp, 0, none⟩ = some pv) (hc1 : w.cell? ⟨Bp, 1, none⟩ = some rv) (hc2 : w.cell? ⟨Bw, 0, none⟩ = some (.func (.func g) #[] lb)) (hc3 : w.cell? ⟨Bf, 0, none⟩ = some fv)
    (w₀ : World) (hw₀ : w₀.heap.size = n₀) (hb₀ : Below n₀ w₀ w) (hp : predsAt w₀ pv ps) (hr : rulesAt w₀ rv rs) (hf : factsAt w₀ fv f) (hsm : small ps) (hpe : progErr ps rs = 0) (hfe : factsErr ps f = 0)
    (eg : ∀ args w, (callFunc g args).run Tryz.prog w = .ok (.enter g args) w)
    (hwa : ∀ (x : World) (n : Nat) (hn : n < rs.length) (ha : Option Addr) (hc : Nat) (ba : Option Addr) (bc : Nat), Kept n₀ X w x → Calls Tryz.prog g (#[.agg #[.int .i64 rs[n].head.pred, .slice ha rs[n].head.args.length hc, .int .i64 rs[n].src, .int .i64 rs[n].n, .slice ba rs[n].body.length bc]] ++ lb) x fun e w' => e = .returned (.bool (S rs[n])) ∧ Below x.heap.size x w') :
    SeqStopsK Fence.wide n Tryz.prog 81 #[.pointer (some ⟨Bp, 0, none⟩), .pointer (some ⟨Bw, 0, none⟩), .pointer (some ⟨Bf, 0, none⟩)] (toldV (T := toldS ps S f rs)) (Kept n₀ X) (fun ys => toldL ys = toldS ps S f rs) (fun _ => True) (toldS ps S f rs).length w := fun l J Jx W hW hJ _ hY h0 => by
  have hre := rules_right hpe
  have HW : Hid (Kept n₀ X w W) := Kept.of hW hn₀
  have HW0 : Hid (∀ x, Kept n₀ X w x → Below w₀.heap.size w₀ x) := fun x hx => by rw [hw₀]; exact hb₀.trans hx.below
  have HD : Hid (∀ x, Kept n₀ X w x → predsAt x pv ps ∧ rulesAt x rv rs ∧ factsAt x fv f) := fun x hx => ⟨predsAt.lasts (HW0.out x hx) hp, rulesAt.lasts (HW0.out x hx) hr, factsAt.lasts (HW0.out x hx) hf⟩
  have HCE : Hid (∀ x, Kept n₀ X w x → x.cell? ⟨Bp, 0, none⟩ = some pv ∧ x.cell? ⟨Bp, 1, none⟩ = some rv ∧ x.cell? ⟨Bw, 0, none⟩ = some (.func (.func g) #[] lb) ∧ x.cell? ⟨Bf, 0, none⟩ = some fv) := fun x hx => ⟨hx.but.cell hXp hc0, hx.but.cell hXp hc1, hx.but.cell hXw hc2, hx.but.cell hXf hc3⟩
  have HALL : Hid (∀ x n, (hn : n < rs.length) → Kept n₀ X w x → Calls Tryz.prog 82 #[.agg #[pv, rv], fv, .int .i64 (n : Int)] x fun e w' => (∃ v, e = .returned (.tuple #[v, .int .i64 0]) ∧ stepsAt w' v (allL f rs[n] n) ∧ ∀ b, v.ownBlock = some b → x.heap.size ≤ b) ∧ Below x.heap.size x w') := fun x n hn hx => by
    have h := devAllN_c x pv rv fv ps rs f n (HD.out x hx).1 (HD.out x hx).2.1 (HD.out x hx).2.2 hsm
    have e : fireErr ps rs f n = 0 := by rw [fireErr, if_neg (by rw [hpe]; simp), if_neg (by rw [hfe]; simp), if_pos (by omega)]
    have e2 : allOf ps rs f n = allL f rs[n] n := by rw [allOf, if_neg (by rw [e]; simp), Int.toNat_natCast, List.getElem?_eq_getElem hn]
    rw [e, e2] at h
    exact h
  have HHO : Hid (∀ x n, (hn : n < rs.length) → ∀ k, (hk : k < (allL f rs[n] n).length) → Kept n₀ X w x → Calls Tryz.prog 83 #[.agg #[pv, rv], fv, .int .i64 (n : Int), .agg #[.int .i64 (allL f rs[n] n)[k].x, .int .i64 (allL f rs[n] n)[k].y, .int .i64 (allL f rs[n] n)[k].z]] x fun e w' => e = .returned (.tuple #[.bool true, .agg #[.int .i64 (headF ps f rs[n] (allL f rs[n] n)[k].vars).pred, .int .i64 (headF ps f rs[n] (allL f rs[n] n)[k].vars).a, .int .i64 (headF ps f rs[n] (allL f rs[n] n)[k].vars).b, .int .i64 (headF ps f rs[n] (allL f rs[n] n)[k].vars).val], .int .i64 0]) ∧ Below x.heap.size x w') := fun x n hn k hk hx => by
    have h := devHolds_c x pv rv fv ps rs f n (allL f rs[n] n)[k].vars (HD.out x hx).1 (HD.out x hx).2.1 (HD.out x hx).2.2 hsm
    obtain ⟨g1, g2, g3⟩ := told_holds (ps := ps) hk
    have e : fireErr ps rs f n = 0 := by rw [fireErr, if_neg (by rw [hpe]; simp), if_neg (by rw [hfe]; simp), if_pos (by omega)]
    have e0 : holdsErr ps rs f n (allL f rs[n] n)[k].vars = 0 := by rw [holdsErr, if_neg (by rw [e]; simp), if_pos g2]
    have e1 : holdsOk ps rs f n (allL f rs[n] n)[k].vars = true := by rw [holdsOk, if_neg (by rw [e0]; simp), Int.toNat_natCast, List.getElem?_eq_getElem hn]; exact g1
    have e2 : holdsFact ps rs f n (allL f rs[n] n)[k].vars = headF ps f rs[n] (allL f rs[n] n)[k].vars := by rw [holdsFact, if_neg (by rw [e0]; simp), Int.toNat_natCast, List.getElem?_eq_getElem hn]; exact g3
    rw [e0, e1, e2] at h
    exact h
  have HWA : Hid (∀ (x : World) (n : Nat) (hn : n < rs.length) (ha : Option Addr) (hc : Nat) (ba : Option Addr) (bc : Nat), Kept n₀ X w x → Calls Tryz.prog g (#[.agg #[.int .i64 rs[n].head.pred, .slice ha rs[n].head.args.length hc, .int .i64 rs[n].src, .int .i64 rs[n].n, .slice ba rs[n].body.length bc]] ++ lb) x fun e w' => e = .returned (.bool (S rs[n])) ∧ Below x.heap.size x w') := hwa
  have HX2 : Hid (∀ k, w.heap.size ≤ k → ¬ X k) := fun k hk h => by have := (hX k h).2; omega
  have HJB : Hid (∀ pre A B, J pre A → Below A.heap.size A B → J pre B) := fun pre A B h1 h2 => hJ _ _ _ none h1 (below_grown h2) (fun _ e => by cases e)
  have HN0 : Hid (∀ x, Kept n₀ X w x → n₀ ≤ x.heap.size) := fun x hx => Nat.le_trans hn₀ hx.but.size
  obtain ⟨pa, pc, rfl, _⟩ := hp
  obtain ⟨ra, rc, rfl, hrm, hrx⟩ := id hr
  obtain ⟨fa, fc, rfl, _⟩ := hf
  clear hrx hpe hfe hre hwa hX hb₀ hc0 hc1 hc2 hc3 hW hsm hXp hXw hXf hr
  refine callsIn_of_wp Tryz.func81 rfl trivial ?_ rfl
  simp only [Tryz.ntmps81, List.size_toArray, List.length_cons, List.length_nil, Nat.reduceAdd, Nat.reduceSub, Array.replicate_succ, Array.replicate_zero, List.push_toArray, List.append_toArray, List.nil_append, List.cons_append]
  obtain ⟨c0, c1, c2, c3⟩ := HCE.out W HW.out
  gi_wp2_with fail
  clear c0 c1 c2 c3
  gi_loopw [17] (fun i wr => ∃ (k : Nat) (pre : List (Told (toldS ps S f rs))), k ≤ rs.length ∧ i = .int .i64 k ∧ Hid (toldL pre = toldS ps S f (rs.take k)) ∧ J pre wr ∧ Kept n₀ X w wr) (fun i _ => rs.length - (intOf i).toNat)
  case atStart => exact ⟨0, [], Nat.zero_le _, rfl, rfl, h0, HW.out⟩
  case round =>
    obtain ⟨k, pre, hk, rfl, hpre, hJk, hkb⟩ := hrel
    obtain ⟨c0, c1, c2, c3⟩ := HCE.out wr hkb
    by_cases hkl : k < rs.length
    · obtain ⟨rb, ro, rc', hv, hrb, hcells⟩ := slice_cells (HD.out wr hkb).2.1 hkl
      obtain ⟨rfl, rfl⟩ : ra = some ⟨rb, ro, none⟩ ∧ rc = rc' := by simpa using hv
      obtain ⟨t0, ⟨hv', t1, t1'⟩, t2, t3, bv, t4, t5⟩ := hcells
      obtain ⟨ba, bc, rfl, _⟩ := t5
      obtain ⟨ha, hc, rfl, _⟩ := t1'
      have hkl1 : (k : Int) < (rs.length : Int) := by omega
      clear hv
      obtain ⟨W2, hW2⟩ : ∃ W2, wr.alloc (.cells #[.int .i64 rs[k].head.pred, .slice ha rs[k].head.args.length hc, .int .i64 rs[k].src, .int .i64 rs[k].n, .slice ba rs[k].body.length bc] 58) = W2 := ⟨_, rfl⟩
      have b2 : Below wr.heap.size wr W2 := by rw [← hW2]; exact below_alloc _ _
      have k2 : Kept n₀ X w W2 := hkb.trans (Kept.of b2 (HN0.out _ hkb))
      obtain ⟨d0, d1, d2, d3, d4⟩ : W2.cell? ⟨wr.heap.size, 0, none⟩ = some (.int .i64 rs[k].head.pred) ∧ W2.cell? ⟨wr.heap.size, 1, none⟩ = some (.slice ha rs[k].head.args.length hc) ∧ W2.cell? ⟨wr.heap.size, 2, none⟩ = some (.int .i64 rs[k].src) ∧ W2.cell? ⟨wr.heap.size, 3, none⟩ = some (.int .i64 rs[k].n) ∧ W2.cell? ⟨wr.heap.size, 4, none⟩ = some (.slice ba rs[k].body.length bc) := by rw [← hW2]; simp [go_sem]
      obtain ⟨e0, e1, e2, e3⟩ := HCE.out W2 k2
      have hJ2 : J pre W2 := HJB.out _ _ _ hJk b2
      gi_wp2_with fail
      refine ⟨trivial, CallsIn.mono (callsIn_wide.2 (HWA.out W2 k hkl ha hc ba bc k2)) ?_⟩
      rintro ex W3 ⟨rfl, hb3⟩
      have k3 : Kept n₀ X w W3 := k2.trans (Kept.of hb3 (HN0.out _ k2))
      have hJ3 : J pre W3 := HJB.out _ _ _ hJ2 hb3
      clear hW2 d0 d1 d2 d3 d4 e0 e1 e2 e3 c0 c1 c2 c3 t0 t1 t2 t3 t4 hJ2 hJk
      have HSU : Hid (toldS ps S f (rs.take (k + 1)) = toldS ps S f (rs.take k) ++ if S rs[k] then toldR ps f rs[k] else []) := toldS_succ hkl
      have HLE : Hid ((toldS ps S f (rs.take (k + 1))).length ≤ (toldS ps S f rs).length) := told_le ps S f rs (k + 1)
      cases hS : S rs[k]
      · have HSN : Hid (toldS ps S f (rs.take (k + 1)) = toldS ps S f (rs.take k)) := by show _ = _; rw [HSU.out, hS, if_neg (by simp), List.append_nil]
        clear HSU HLE
        gi_wp2_with fail
        go_roundw
        case rel => exact ⟨k + 1, pre, by omega, by go_num, by show _ = _; rw [HSN.out]; exact hpre.out, hJ3, k3⟩
        case measure => simp [intOf]; omega
      · have HSN : Hid (toldS ps S f (rs.take (k + 1)) = toldS ps S f (rs.take k) ++ toldR ps f rs[k]) := by show _ = _; rw [HSU.out, hS, if_pos rfl]
        have HIN : Hid (∀ x ∈ toldR ps f rs[k], x ∈ toldS ps S f rs) := told_mem hkl hS
        have HA1 : Hid (∀ x, Kept n₀ X w x → Calls Tryz.prog 82 #[.agg #[.slice pa ps.length pc, .slice (some ⟨rb, ro, none⟩) rs.length rc], .slice fa f.length fc, .int .i64 (k : Int)] x fun e w' => (∃ v, e = .returned (.tuple #[v, .int .i64 0]) ∧ stepsAt w' v (allL f rs[k] k) ∧ ∀ b, v.ownBlock = some b → x.heap.size ≤ b) ∧ Below x.heap.size x w') := fun x hx => HALL.out x k hkl hx
        have HH1 : Hid (∀ x q, (hq : q < (allL f rs[k] k).length) → Kept n₀ X w x → Calls Tryz.prog 83 #[.agg #[.slice pa ps.length pc, .slice (some ⟨rb, ro, none⟩) rs.length rc], .slice fa f.length fc, .int .i64 (k : Int), .agg #[.int .i64 (allL f rs[k] k)[q].x, .int .i64 (allL f rs[k] k)[q].y, .int .i64 (allL f rs[k] k)[q].z]] x fun e w' => e = .returned (.tuple #[.bool true, .agg #[.int .i64 (headF ps f rs[k] (allL f rs[k] k)[q].vars).pred, .int .i64 (headF ps f rs[k] (allL f rs[k] k)[q].vars).a, .int .i64 (headF ps f rs[k] (allL f rs[k] k)[q].vars).b, .int .i64 (headF ps f rs[k] (allL f rs[k] k)[q].vars).val], .int .i64 0]) ∧ Below x.heap.size x w') := fun x q hq hx => HHO.out x k hkl q hq hx
        clear HSU HALL HHO HWA hS
        generalize rs[k] = r at *
        obtain ⟨e0, e1, e2, e3⟩ := HCE.out W3 k3
        gi_wp2_with fail
        refine ⟨trivial, CallsIn.mono (callsIn_wide.2 (HA1.out W3 k3)) ?_⟩
        rintro ex W4 ⟨⟨vt, rfl, hst, hnew⟩, hb4⟩
        have k4 : Kept n₀ X w W4 := k3.trans (Kept.of hb4 (HN0.out _ k3))
        have hJ4 : J pre W4 := HJB.out _ _ _ hJ3 hb4
        clear e0 e1 e2 e3 hJ3 HA1
        have HSA : Hid (∀ x, Below W4.heap.size W4 x → stepsAt x vt (allL f r k)) := fun x hx => Fire.stepsAt.lasts hx hst
        have HRL : Hid ((toldR ps f r).length = (allL f r k).length) := by show _ = _; rw [toldR_any ps f r k, List.length_map]
        obtain ⟨ta, tc, rfl, _⟩ := hst
        have HSX : Hid (∀ A B, Kept n₀ X A B → stepsAt A (.slice ta (allL f r k).length tc) (allL f r k) → stepsAt B (.slice ta (allL f r k).length tc) (allL f r k)) := fun A B hB h => by
          exact steps_kept hB.but (fun b hb => HX2.out b (Nat.le_trans k3.but.size (hnew b hb))) h
        gi_wp2_with fail
        gi_loopw [35] (fun i wr3 => ∃ (q : Nat) (pre' : List (Told (toldS ps S f rs))), q ≤ (allL f r k).length ∧ i = .int .i64 q ∧ Hid (toldL pre' = toldS ps S f (rs.take k) ++ (toldR ps f r).take q) ∧ J pre' wr3 ∧ Kept n₀ X w wr3 ∧ stepsAt wr3 (.slice ta (allL f r k).length tc) (allL f r k)) (fun i _ => (allL f r k).length - (intOf i).toNat)
        case atStart => exact ⟨0, pre, Nat.zero_le _, rfl, by show _ = _; rw [List.take_zero, List.append_nil]; exact hpre.out, hJ4, k4, HSA.out _ (Below.refl _ _)⟩
        case round =>
          obtain ⟨q, pre', hq, rfl, hpre', hJq, hkq, hstq⟩ := hrel
          by_cases hql : q < (allL f r k).length
          · obtain ⟨sb, so, sc, hsv, hsb, q0, q1, q2, q3⟩ := step_cells hstq hql
            obtain ⟨rfl, rfl⟩ : ta = some ⟨sb, so, none⟩ ∧ tc = sc := by simpa using hsv
            have hq1 : (q : Int) < ((allL f r k).length : Int) := by omega
            have HH2 : Hid (∀ x, Kept n₀ X w x → Calls Tryz.prog 83 #[.agg #[.slice pa ps.length pc, .slice (some ⟨rb, ro, none⟩) rs.length rc], .slice fa f.length fc, .int .i64 (k : Int), .agg #[.int .i64 (allL f r k)[q].x, .int .i64 (allL f r k)[q].y, .int .i64 (allL f r k)[q].z]] x fun e w' => e = .returned (.tuple #[.bool true, .agg #[.int .i64 (headF ps f r (allL f r k)[q].vars).pred, .int .i64 (headF ps f r (allL f r k)[q].vars).a, .int .i64 (headF ps f r (allL f r k)[q].vars).b, .int .i64 (headF ps f r (allL f r k)[q].vars).val], .int .i64 0]) ∧ Below x.heap.size x w') := fun x hx => HH1.out x q hql hx
            have HT1 : Hid ((toldR ps f r).take (q + 1) = (toldR ps f r).take q ++ [headF ps f r (allL f r k)[q].vars]) := toldR_at hql
            have hin : headF ps f r (allL f r k)[q].vars ∈ toldS ps S f rs := HIN.out _ (by rw [toldR_any ps f r k]; exact List.mem_map.2 ⟨_, List.getElem_mem hql, rfl⟩)
            have HST : Hid (stepsAt wr (.slice (some ⟨sb, so, none⟩) (allL f r k).length tc) (allL f r k)) := hstq
            have hplen : pre'.length < (toldS ps S f rs).length := by
              have h1 := HLE.out
              have h2 := congrArg List.length hpre'.out
              rw [HSN.out, List.length_append, HRL.out] at h1
              rw [toldL_length, List.length_append, List.length_take, HRL.out] at h2
              omega
            clear hsv hstq
            generalize (allL f r k)[q] = sk at *
            generalize headF ps f r sk.vars = y at *
            obtain ⟨W5, hW5⟩ : ∃ W5, wr.alloc (.cells #[.int .i64 sk.rule, .int .i64 sk.x, .int .i64 sk.y, .int .i64 sk.z] 99) = W5 := ⟨_, rfl⟩
            have b5 : Below wr.heap.size wr W5 := by rw [← hW5]; exact below_alloc _ _
            have k5 : Kept n₀ X w W5 := hkq.trans (Kept.of b5 (HN0.out _ hkq))
            obtain ⟨d0, d1, d2, d3⟩ : W5.cell? ⟨wr.heap.size, 0, none⟩ = some (.int .i64 sk.rule) ∧ W5.cell? ⟨wr.heap.size, 1, none⟩ = some (.int .i64 sk.x) ∧ W5.cell? ⟨wr.heap.size, 2, none⟩ = some (.int .i64 sk.y) ∧ W5.cell? ⟨wr.heap.size, 3, none⟩ = some (.int .i64 sk.z) := by rw [← hW5]; simp [go_sem]
            obtain ⟨e0, e1, e2, e3⟩ := HCE.out W5 k5
            gi_wp2_with fail
            refine ⟨trivial, CallsIn.mono (callsIn_wide.2 (HH2.out W5 k5)) ?_⟩
            rintro ex W6 ⟨rfl, hb6⟩
            obtain ⟨W7, hW7⟩ : ∃ W7, W6.alloc (.cells #[.int .i64 y.pred, .int .i64 y.a, .int .i64 y.b, .int .i64 y.val] 44) = W7 := ⟨_, rfl⟩
            have b57 : Below W5.heap.size W5 W7 := by rw [← hW7]; exact hb6.alloc hb6.size _
            have b7 : Below wr.heap.size wr W7 := b5.trans (b57.mono b5.size)
            have k7 : Kept n₀ X w W7 := hkq.trans (Kept.of b7 (HN0.out _ hkq))
            obtain ⟨n0, n1, n2, n3⟩ : W7.cell? ⟨W6.heap.size, 0, none⟩ = some (.int .i64 y.pred) ∧ W7.cell? ⟨W6.heap.size, 1, none⟩ = some (.int .i64 y.a) ∧ W7.cell? ⟨W6.heap.size, 2, none⟩ = some (.int .i64 y.b) ∧ W7.cell? ⟨W6.heap.size, 3, none⟩ = some (.int .i64 y.val) := by rw [← hW7]; simp [go_sem]
            have hJ7 : J pre' W7 := HJB.out _ _ _ hJq b7
            have hst7 : Hid (stepsAt W7 (.slice (some ⟨sb, so, none⟩) (allL f r k).length tc) (allL f r k)) := Fire.stepsAt.lasts b7 HST.out
            clear hW5 d0 d1 d2 d3 e0 e1 e2 e3 q0 q1 q2 q3 hb6
            obtain ⟨fn, tmps, assign, body, hy, hR⟩ := hY pre' ⟨y, hin⟩ W7 hJ7 hplen
            dsimp only [toldV] at hy
            gi_wp2_with fail
            refine hR.mono ?_
            rintro ex W8 (⟨rfl, hJ8, hk8⟩ | ⟨rfl, hJx8⟩)
            · have hst8 : Hid (stepsAt W8 (.slice (some ⟨sb, so, none⟩) (allL f r k).length tc) (allL f r k)) := HSX.out _ _ hk8 hst7.out
              clear n0 n1 n2 n3 hy
              gi_wp2_with fail
              go_roundw
              case rel => exact ⟨q + 1, _, by omega, by go_num, by show _ = _; rw [toldL_snoc, hpre'.out, HT1.out, List.append_assoc], hJ8, k7.trans hk8, hst8.out⟩
              case measure => simp [intOf]; omega
            · clear n0 n1 n2 n3 hy
              gi_wp2_with fail
              refine bodyPost_ret (results_none rfl _ _ _) rfl ?_
              exact ⟨⟨_, rfl⟩, .inr ⟨_, trivial, hJx8⟩⟩
          · obtain rfl : q = (allL f r k).length := by omega
            have HRT : Hid ((toldR ps f r).take (allL f r k).length = toldR ps f r) := List.take_of_length_le (by rw [HRL.out]; exact Nat.le_refl _)
            gi_wp2_with fail
            go_roundw
            case rel => exact ⟨k + 1, pre', by omega, by go_num, by show _ = _; rw [hpre'.out, HSN.out, HRT.out], hJq, hkq⟩
            case measure => simp [intOf]; omega
    · obtain rfl : k = rs.length := by omega
      gi_wp2_with fail
      go_end0
      exact ⟨⟨_, rfl⟩, .inl ⟨pre, by have := hpre.out; rwa [List.take_length] at this, hJk⟩⟩
end Go.Proofs.YtlfccloaoopadagGreat.Round

/-
  The developers' Once of package round.
-/
namespace Go.Proofs.YtlfccloaoopadagGreat.Round
open Go.RowKit Go.Shelf
open Rule (Vars ruleErr kindOf factFine)
open Base (factsErr addF addC capOk capNew rowW)
open Fire (rules_right roundErr)
open Prog (progErr slice_cells small intsAt edges KeepsBut keepsBut_of_below devStrata_c leaves_marks)
open Strata (strataL at_)
attribute [local go_sem] Oper.semAt_some

/-- the strata of a right program -/
def stratOf (ps : List Prd) (rs : List Rul) : List Nat := (strataL (edges rs) ps.length).getD []
/-- F1, errors too -/
def onceF (ps : List Prd) (rs : List Rul) (f : List Fct) (s : Int) : List Fct := if roundErr ps rs f ≠ 0 then [] else addAll (kindOf ps) f (toldS ps (ofS (stratOf ps rs) s) f rs)
def onceC (ps : List Prd) (rs : List Rul) (f : List Fct) (s : Int) : Bool := if roundErr ps rs f ≠ 0 then false else chgAll (kindOf ps) f (toldS ps (ofS (stratOf ps rs) s) f rs)
theorem strat_some {ps : List Prd} {rs : List Rul} (h : progErr ps rs = 0) : strataL (edges rs) ps.length = some (stratOf ps rs) ∧ (stratOf ps rs).length = ps.length := by
  obtain ⟨h1, l, hl⟩ := Prog.prog_zero h
  have e : stratOf ps rs = l := by unfold stratOf; rw [hl]; rfl
  rw [e]
  exact ⟨hl, (Strata.strata_some (Prog.within_edges (Prog.parts_zero h1).2.2) hl).1⟩
theorem facts_kept {A B : World} {v : Value} {l : List Fct} {row : Option Nat} (h : factsAt A v l) (hg : A.grownBy B row) (hr : ∀ r, row = some r → ∃ o : Obj, A.heap[r]? = some o ∧ o.isCells = false) : factsAt B v l := by
  obtain ⟨a, cap, rfl, hl, hx⟩ := h
  refine ⟨a, cap, rfl, hl, ?_⟩
  rcases hx with hx | ⟨b, off, rfl, hb, hx⟩
  · exact .inl hx
  · exact .inr ⟨b, off, rfl, Nat.lt_of_lt_of_le hb hg.size, fun i x hi => ⟨cell_kept (hx i x hi).1 hg hr, cell_kept (hx i x hi).2.1 hg hr, cell_kept (hx i x hi).2.2.1 hg hr, cell_kept (hx i x hi).2.2.2 hg hr⟩⟩
theorem kept_grown {n₀ : Nat} {X : Nat → Prop} {W A B : World} {row : Option Nat} (h : Kept n₀ X W A) (hg : A.grownBy B row) (hn : n₀ ≤ W.heap.size) (hr : ∀ r, row = some r → W.heap.size ≤ r ∧ ∃ o : Obj, A.heap[r]? = some o ∧ o.isCells = false) : Kept n₀ X W B := by
  refine ⟨h.below.grown hg (Nat.le_trans hn h.but.size) (fun k e => Nat.le_trans hn (hr k e).1), Nat.le_trans h.but.size hg.size, fun k o hx hk ho => ?_⟩
  have hA := h.but.same k o hx hk ho
  exact (grownBy_keeps_cells hg (fun r e => (hr r e).2) hA ho).trans hA
theorem ints_via {A B : World} {v : Value} {l : List Nat} (h : intsAt A v l) (hc : ∀ b o u, b < A.heap.size → A.cell? ⟨b, o, none⟩ = some u → B.cell? ⟨b, o, none⟩ = some u) (hs : A.heap.size ≤ B.heap.size) : intsAt B v l := by
  obtain ⟨a, cap, rfl, hl, hx⟩ := h
  refine ⟨a, cap, rfl, hl, ?_⟩
  rcases hx with hx | ⟨b, off, rfl, hb, hx⟩
  · exact .inl hx
  · exact .inr ⟨b, off, rfl, Nat.lt_of_lt_of_le hb hs, fun i x hi => hc _ _ _ hb (hx i x hi)⟩
theorem facts_cells {A B : World} {v : Value} {l : List Fct} (h : factsAt A v l) (hc : ∀ b o u, A.cell? ⟨b, o, none⟩ = some u → B.cell? ⟨b, o, none⟩ = some u) (hs : A.heap.size ≤ B.heap.size) : factsAt B v l := by
  obtain ⟨a, cap, rfl, hl, hx⟩ := h
  refine ⟨a, cap, rfl, hl, ?_⟩
  rcases hx with hx | ⟨b, off, rfl, hb, hx⟩
  · exact .inl hx
  · exact .inr ⟨b, off, rfl, Nat.lt_of_lt_of_le hb hs, fun i x hi => ⟨hc _ _ _ (hx i x hi).1, hc _ _ _ (hx i x hi).2.1, hc _ _ _ (hx i x hi).2.2.1, hc _ _ _ (hx i x hi).2.2.2⟩⟩
theorem facts_box {A : World} {v u u' : Value} {B : Nat} {t : TypeId} {l : List Fct} (h : factsAt A v l) (hb : Boxed A B t u) (hu : ∀ k, u ≠ .int .i64 k) : factsAt (A.setCell ⟨B, 0, none⟩ u') v l := by
  have e : ∀ b o k, A.cell? ⟨b, o, none⟩ = some (.int .i64 k) → (A.setCell ⟨B, 0, none⟩ u').cell? ⟨b, o, none⟩ = some (.int .i64 k) := fun b o k hk => by
    rw [World.cell?_setCell_other A _ _ _ (fun e => by rw [← e, hb.cell] at hk; exact hu k (by simpa using hk))]
    exact hk
  obtain ⟨a, cap, rfl, hl, hx⟩ := h
  refine ⟨a, cap, rfl, hl, ?_⟩
  rcases hx with hx | ⟨b, off, rfl, hbl, hx⟩
  · exact .inl hx
  · exact .inr ⟨b, off, rfl, by rw [size_set]; exact hbl, fun i x hi => ⟨e _ _ _ (hx i x hi).1, e _ _ _ (hx i x hi).2.1, e _ _ _ (hx i x hi).2.2.1, e _ _ _ (hx i x hi).2.2.2⟩⟩
theorem kept_two {n₀ B : Nat} {X X1 : World} (h : Below X.heap.size X X1) (hn : n₀ ≤ X.heap.size) (hB : n₀ ≤ B) (u u' : Value) : Kept n₀ (fun k => k = B ∨ k = B + 1) X ((X1.setCell ⟨B, 0, none⟩ u).setCell ⟨B + 1, 0, none⟩ u') := by
  refine ⟨((h.mono hn).setCell (p := ⟨B, 0, none⟩) hB _).setCell (p := ⟨B + 1, 0, none⟩) (Nat.le_trans hB (Nat.le_succ _)) _, by rw [size_set, size_set]; exact h.size, fun k o hx hk _ => ?_⟩
  rw [Fire.heap_setCell_other (fun e => hx (.inr e.symm)), Fire.heap_setCell_other (fun e => hx (.inl e.symm))]
  exact (h.block k (Array.getElem?_eq_some_iff.1 hk).1).trans hk
theorem keepsOthers_below {A B : World} (h : Below A.heap.size A B) : KeepsOthers A B := ⟨h.size, fun k _ hk _ => (h.block k (Array.getElem?_eq_some_iff.1 hk).1).trans hk⟩

theorem rowW_kept {A B : World} {v : Value} {row : Option Nat} (h : rowW A v) (hg : A.grownBy B row) (hr : ∀ r, row = some r → ∃ o : Obj, A.heap[r]? = some o ∧ o.isCells = false) : rowW B v := fun g hgv => by
  obtain ⟨h1, cur, h2⟩ := h g hgv
  exact ⟨h1, cur, (grownBy_keeps_cells hg hr h2 rfl).trans h2⟩
theorem rowW_but {A B : World} {v : Value} (h : rowW A v) (hk : KeepsBut (fun _ => False) A B) : rowW B v := fun g hgv => by
  obtain ⟨h1, cur, h2⟩ := h g hgv
  exact ⟨h1, cur, hk.same g _ (fun x => x) h2 rfl⟩
/-- as leaves_marks, and no cells are other than they were -/
theorem leaves_but {F : Fence} {n : Nat} {P : Program} {fn : Func} {tmps : Array Value} {R : Ending → World → Prop} (n₀ : Nat) : ∀ (Ds : List Nat) (W : World), Ds.Nodup → (∀ D ∈ Ds, n₀ ≤ D ∧ W.heap[D]? = some (.deferred (some []))) →
    (∀ W', Below n₀ W W' → KeepsBut (fun _ => False) W W' → LeavesIn F n P fn tmps R [] .returning W') → LeavesInM F n P fn tmps R (Ds.map Prog.mark) .returning W
  | [], W, _, _, h => h W (Below.refl _ _) ⟨Nat.le_refl _, fun _ _ _ h _ => h⟩
  | D :: Ds, W, hn, hD, h => by
    obtain ⟨h1, h2⟩ := List.nodup_cons.1 hn
    have hD0 := hD D (by simp)
    have hbl : Below n₀ W (W.putObj D (.deferred none)) := (Below.refl n₀ W).grown (grownBy_putObj' W D _) (by have := (Array.getElem?_eq_some_iff.1 hD0.2).1; omega) (fun k e => by cases e; exact hD0.1)
    have hkb : KeepsBut (fun _ => False) W (W.putObj D (.deferred none)) := KeepsBut.putObj (fun _ => False) (.deferred none) hD0.2 rfl
    refine ⟨by simp, .inl ⟨D, W.putObj D (.deferred none), rfl, run_takeDeferred hD0.2, leaves_but n₀ Ds _ h2 (fun E hE => ?_) fun W' hb hc => ?_⟩⟩
    · have hE0 := hD E (by simp [hE])
      have hne : E ≠ D := fun e => h1 (e ▸ hE)
      exact ⟨hE0.1, (World.putObj_heap_other hne).trans hE0.2⟩
    · exact h W' (hbl.trans hb) ⟨Nat.le_trans hkb.size hc.size, fun k o hx hk ho => hc.same k o hx (hkb.same k o hx hk ho) ho⟩

set_option maxRecDepth 100000 in
set_option maxHeartbeats 8000000 in
theorem devOnce_w (w : World) (pv rv fv : Value) (ps : List Prd) (rs : List Rul) (f : List Fct) (s : Int) (hp : predsAt w pv ps) (hr : rulesAt w rv rs) (hf : factsAt w fv f) (hn : small ps) :
    Calls Tryz.prog 17 #[.agg #[pv, rv], fv, .int .i64 s] w fun e w' => ∃ u, e = .returned (.tuple #[u, .bool (onceC ps rs f s), .int .i64 (roundErr ps rs f)]) ∧ factsAt w' u (onceF ps rs f s) ∧ capNew w.heap.size u ∧ rowW w' u ∧ Below w.heap.size w w' := by
  have HD : Hid (∀ x, Below w.heap.size w x → predsAt x pv ps ∧ rulesAt x rv rs ∧ factsAt x fv f) := fun x hx => ⟨predsAt.lasts hx hp, rulesAt.lasts hx hr, factsAt.lasts hx hf⟩
  have HD0 : Hid (predsAt w pv ps ∧ rulesAt w rv rs ∧ factsAt w fv f) := ⟨hp, hr, hf⟩
  have HST : Hid (∀ x, Below w.heap.size w x → Calls Tryz.prog 13 #[.agg #[pv, rv]] x fun e w' => (∃ v, e = .returned (.tuple #[v, .int .i64 (progErr ps rs)]) ∧ (progErr ps rs ≠ 0 → v = .slice none 0 0) ∧ (∀ l, strataL (edges rs) ps.length = some l → progErr ps rs = 0 → intsAt w' v l)) ∧ Below x.heap.size x w') := fun x hx => devStrata_c x pv rv ps rs (HD.out x hx).1 (HD.out x hx).2.1 hn
  have HCH : Hid (∀ x, Below w.heap.size w x → Calls Tryz.prog 29 #[pv, fv] x fun e w' => e = .returned (.int .i64 (factsErr ps f)) ∧ Below x.heap.size x w') := fun x hx => Base.check_c x pv fv ps f (HD.out x hx).1 (HD.out x hx).2.2
  obtain ⟨pa, pc, rfl, _⟩ := hp
  obtain ⟨ra, rc, rfl, _⟩ := hr
  obtain ⟨fa, fc, rfl, _⟩ := hf
  obtain ⟨W1, hW1⟩ : ∃ W1, (w.alloc (.cells #[.slice pa ps.length pc, .slice ra rs.length rc] 25)).alloc (.cells #[.int .i64 s] 3) = W1 := ⟨_, rfl⟩
  have b1 : Below w.heap.size w W1 := by rw [← hW1]; exact ((Below.refl _ _).alloc (Nat.le_refl _) _).alloc (by simp) _
  have s1 : W1.heap.size = w.heap.size + 1 + 1 := by rw [← hW1]; simp
  have q0 : W1.cell? ⟨w.heap.size, 0, none⟩ = some (.slice pa ps.length pc) := by rw [← hW1]; simp [go_sem]
  have q1 : W1.cell? ⟨w.heap.size, 1, none⟩ = some (.slice ra rs.length rc) := by rw [← hW1]; simp [go_sem]
  have q2 : W1.cell? ⟨w.heap.size + 1, 0, none⟩ = some (.int .i64 s) := by rw [← hW1]; simp [go_sem]
  by_cases hpe : progErr ps rs = 0
  · have HL : Hid (strataL (edges rs) ps.length = some (stratOf ps rs) ∧ (stratOf ps rs).length = ps.length) := strat_some hpe
    have HK1 : Hid (∀ x, Below W1.heap.size W1 x → x.cell? ⟨w.heap.size, 0, none⟩ = some (.slice pa ps.length pc) ∧ x.cell? ⟨w.heap.size, 1, none⟩ = some (.slice ra rs.length rc) ∧ x.cell? ⟨w.heap.size + 1, 0, none⟩ = some (.int .i64 s)) := fun x hx => ⟨(cell_lasts hx (by omega)).trans q0, (cell_lasts hx (by omega)).trans q1, (cell_lasts hx (by omega)).trans q2⟩
    by_cases hfe : factsErr ps f = 0
    · have HE : Hid (roundErr ps rs f = 0 ∧ onceF ps rs f s = addAll (kindOf ps) f (toldS ps (ofS (stratOf ps rs) s) f rs) ∧ onceC ps rs f s = chgAll (kindOf ps) f (toldS ps (ofS (stratOf ps rs) s) f rs)) := by
        have e : roundErr ps rs f = 0 := by rw [roundErr, if_neg (by rw [hpe]; simp), hfe]
        exact ⟨e, by rw [onceF, if_neg (by rw [e]; simp)], by rw [onceC, if_neg (by rw [e]; simp)]⟩
      have HPE : Hid (progErr ps rs = 0 ∧ factsErr ps f = 0 ∧ small ps) := ⟨hpe, hfe, hn⟩
      rw [hpe] at HST
      rw [hfe] at HCH
      clear hpe hfe
      refine (callsIn_wide (n := 6)).1 (callsIn_of_wp_marks Tryz.func17 rfl trivial (wpIn_wide.2 ?_) rfl)
      simp only [Tryz.ntmps17, List.size_toArray, List.length_cons, List.length_nil, Nat.reduceAdd, Nat.reduceSub, Array.replicate_succ, Array.replicate_zero, List.push_toArray, List.append_toArray, List.nil_append, List.cons_append]
      go_wp2_with fail
      refine (HST.out _ b1).mono ?_
      rintro e W2 ⟨⟨vs, rfl, _, hints⟩, hb2⟩
      have hints := hints _ HL.out.1 (by first | rfl | trivial)
      obtain ⟨W3, hW3⟩ : ∃ W3, W2.alloc (.cells #[vs] 39) = W3 := ⟨_, rfl⟩
      have b13 : Below W1.heap.size W1 W3 := by rw [← hW3]; exact hb2.alloc hb2.size _
      have k3 : Below w.heap.size w W3 := b1.trans (b13.mono b1.size)
      have s3 : W3.heap.size = W2.heap.size + 1 := by rw [← hW3]; simp
      have q3 : W3.cell? ⟨W2.heap.size, 0, none⟩ = some vs := by rw [← hW3]; simp [go_sem]
      have HI3 : Hid (intsAt W3 vs (stratOf ps rs)) := by rw [← hW3]; exact Prog.intsAt.lasts (below_alloc _ _) hints
      have hs12 : W1.heap.size ≤ W2.heap.size := hb2.size
      obtain ⟨sa, sc, rfl, _⟩ := hints
      obtain ⟨c0, c1, c2⟩ := HK1.out _ b13
      clear hW1 q0 q1 q2 hb2 HST
      go_wp2_with fail
      clear hW3
      refine (HCH.out _ k3).mono ?_
      rintro e W4 ⟨rfl, hb4⟩
      have b14 : Below W1.heap.size W1 W4 := b13.trans (hb4.mono b13.size)
      have k4 : Below w.heap.size w W4 := b1.trans (b14.mono b1.size)
      clear c0 c1 c2 HCH
      obtain ⟨c0, c1, c2⟩ := HK1.out _ b14
      go_wp2_with fail
      refine (cloneF_w W4 _ f (HD.out _ k4).2.2 (by have := Base.facts_short HPE.out.2.1; omega)).mono ?_
      rintro e W5 ⟨v5, rfl, hf5, hcap5, hrw5, hb5⟩
      obtain ⟨va, vn, vc, rfl⟩ : ∃ a m c, v5 = .slice a m c := by obtain ⟨⟨a, m, c, e, _⟩, _⟩ := hcap5; exact ⟨a, m, c, e⟩
      have b15 : Below W1.heap.size W1 W5 := b14.trans (hb5.mono b14.size)
      have hs5 : w.heap.size < W5.heap.size := by have := b15.size; omega
      clear c0 c1 c2
      obtain ⟨c0, c1, c2⟩ := HK1.out _ b15
      go_wp2_with fail
      obtain ⟨W6, hW6⟩ : ∃ W6, (W5.alloc (.cells #[.slice va vn vc] 30)).alloc (.cells #[.bool false] 4) = W6 := ⟨_, rfl⟩
      have b46 : Below W4.heap.size W4 W6 := by rw [← hW6]; exact (hb5.alloc hb5.size _).alloc (by have := hb5.size; simp; omega) _
      have s6 : W6.heap.size = W5.heap.size + 1 + 1 := by rw [← hW6]; simp
      have X13 : Boxed W6 W5.heap.size 30 (.slice va vn vc) := by rw [← hW6]; exact (Below.heap_alloc _ _ _ (by simp)).trans (World.alloc_heap_new W5 _)
      have X14 : Boxed W6 (W5.heap.size + 1) 4 (.bool false) := by
        rw [← hW6]
        have := World.alloc_heap_new (W5.alloc (.cells #[.slice va vn vc] 30)) (.cells #[.bool false] 4)
        rwa [World.size_alloc] at this
      have HF6 : Hid (factsAt W6 (.slice va vn vc) f) := by rw [← hW6]; exact factsAt.lasts (((Below.refl _ _).alloc (Nat.le_refl _) _).alloc (by simp) _) hf5
      have HRW6 : Hid (rowW W6 (.slice va vn vc)) := by rw [← hW6]; exact hrw5.lasts (((Below.refl _ _).alloc (Nat.le_refl _) _).alloc (by simp) _)
      have b16 : Below W1.heap.size W1 W6 := b14.trans (b46.mono b14.size)
      have k6 : Below w.heap.size w W6 := b1.trans (b16.mono b1.size)
      rw [hW6]
      clear hW6 c0 c1 c2 hf5
      obtain ⟨c0, c1, c2⟩ := HK1.out _ b16
      refine (told_c W6 pa ps.length pc ra rs.length rc fa f.length fc _ _).mono ?_
      rintro e W7 ⟨rfl, hW7⟩
      have b67 : Below W6.heap.size W6 W7 := by rw [hW7]; exact (((Below.refl _ _).alloc (Nat.le_refl _) _).alloc (by simp) _).alloc (by simp; omega) _
      have s7 : W7.heap.size = W6.heap.size + 1 + 1 + 1 := by rw [hW7]; simp
      have t0 : W7.cell? ⟨W6.heap.size, 0, none⟩ = some (.slice pa ps.length pc) := by rw [hW7]; simp [go_sem]
      have t1 : W7.cell? ⟨W6.heap.size, 1, none⟩ = some (.slice ra rs.length rc) := by rw [hW7]; simp [go_sem]
      have t2 : W7.cell? ⟨W6.heap.size + 1 + 1, 0, none⟩ = some (.func (.func 43) #[] #[.pointer (some ⟨W2.heap.size, 0, none⟩), .pointer (some ⟨w.heap.size + 1, 0, none⟩)]) := by rw [hW7]; simp [go_sem]
      have t3 : W7.cell? ⟨W6.heap.size + 1, 0, none⟩ = some (.slice fa f.length fc) := by rw [hW7]; simp [go_sem]
      clear hW7 c0 c1 c2
      go_wp2_with fail
      have b17 : Below W1.heap.size W1 W7 := b16.trans (b67.mono b16.size)
      have k7 : Below w.heap.size w W7 := b1.trans (b17.mono b1.size)
      have b37 : Below W3.heap.size W3 W7 := (hb4.trans (b46.mono hb4.size)).trans (b67.mono (hb4.trans (b46.mono hb4.size)).size)
      have hs3 : W3.heap.size ≤ W5.heap.size := Nat.le_trans hb4.size hb5.size
      have Y13 : Boxed W7 W5.heap.size 30 (.slice va vn vc) := (b67.block _ X13.lt).trans X13
      have Y14 : Boxed W7 (W5.heap.size + 1) 4 (.bool false) := (b67.block _ X14.lt).trans X14
      have HF7 : Hid (factsAt W7 (.slice va vn vc) f) := factsAt.lasts b67 HF6.out
      have HRW7 : Hid (rowW W7 (.slice va vn vc)) := HRW6.out.lasts b67
      have HFR : Hid (∀ x, Kept w.heap.size (fun k => k = W5.heap.size ∨ k = W5.heap.size + 1) W7 x → x.cell? ⟨w.heap.size, 0, none⟩ = some (.slice pa ps.length pc) ∧ Below w.heap.size w x) := fun x hx => ⟨hx.but.cell (by omega) (HK1.out _ b17).1, k7.trans hx.below⟩
      have HWA : Hid (∀ (x : World) (n : Nat) (hn : n < rs.length) (ha : Option Addr) (hc : Nat) (ba : Option Addr) (bc : Nat), Kept w.heap.size (fun k => k = W5.heap.size ∨ k = W5.heap.size + 1) W7 x → Calls Tryz.prog 43 (#[.agg #[.int .i64 rs[n].head.pred, .slice ha rs[n].head.args.length hc, .int .i64 rs[n].src, .int .i64 rs[n].n, .slice ba rs[n].body.length bc]] ++ #[.pointer (some ⟨W2.heap.size, 0, none⟩), .pointer (some ⟨w.heap.size + 1, 0, none⟩)]) x fun e w' => e = .returned (.bool (ofS (stratOf ps rs) s rs[n])) ∧ Below x.heap.size x w') := fun x n hn ha hc ba bc hx => by
        obtain ⟨k, hk, e⟩ := Rule.isPred_iff.1 (Rule.atom_right (Fire.rule_parts (rules_right HPE.out.1 _ (List.getElem_mem hn))).1).1
        have hcell : ∀ b o u, b < W3.heap.size → W3.cell? ⟨b, o, none⟩ = some u → x.cell? ⟨b, o, none⟩ = some u := fun b o u hb hu => hx.but.cell (by omega) ((cell_lasts b37 hb).trans hu)
        have h := once1_c x W2.heap.size (w.heap.size + 1) k _ (stratOf ps rs) s rs[n] ha rs[n].head.args.length hc ba rs[n].body.length bc e (by rw [HL.out.2]; exact hk) (hcell _ _ _ (by omega) q3) (hcell _ _ _ (by omega) (HK1.out _ b13).2.2) (ints_via HI3.out hcell (Nat.le_trans b37.size hx.but.size)) (by have := hx.but.size; have := b37.size; omega) (by have := hx.but.size; have := b37.size; omega)
        exact h
      have HT : Hid (∀ x ∈ toldS ps (ofS (stratOf ps rs) s) f rs, factFine ps x = true) := toldS_fine (rules_right HPE.out.1) HPE.out.2.1
      have HADD : Hid (∀ x g a m c y, factsAt x (.slice a m c) g → capOk (.slice a m c) → factsErr ps g = 0 → factFine ps y = true → Below w.heap.size w x → Calls Tryz.prog 18 #[.slice pa ps.length pc, .slice a m c, .agg #[.int .i64 y.pred, .int .i64 y.a, .int .i64 y.b, .int .i64 y.val]] x fun e w' => ∃ a' m' c', e = .returned (.tuple #[.slice a' m' c', .bool (addC (kindOf ps) y g), .int .i64 0]) ∧ factsAt w' (.slice a' m' c') (addF (kindOf ps) y g) ∧ (capNew w.heap.size (.slice a' m' c') ∧ rowW w' (.slice a' m' c')) ∧ Below x.heap.size x w') := fun x g a m c y h1 h2 h3 h4 hx => by
        have h := Base.Add_w x _ _ ps g y.pred y.a y.b y.val (HD.out x hx).1 h1 h2
        rw [addOf_right h3 h4] at h
        refine h.mono ?_
        rintro e w' ⟨u, he, hfu, hcu, hru, hb⟩
        obtain ⟨⟨a', m', c', hu, _⟩, _⟩ := id hcu
        subst hu
        exact ⟨a', m', c', he, hfu, ⟨hcu.mono hx.size, hru⟩, hb⟩
      clear X13 X14 HF6 HI3 q3
      refine (wpIn_wide (n := 6)).1 (wpIn_rangeFunc_ownH (α := Told (toldS ps (ofS (stratOf ps rs) s) f rs)) rfl (by omega) (gf := 81) (lb := #[.pointer (some ⟨W5.heap.size + 1 + 1, 0, none⟩), .pointer (some ⟨W5.heap.size + 1 + 1 + 1 + 1, 0, none⟩), .pointer (some ⟨W5.heap.size + 1 + 1 + 1, 0, none⟩)]) rfl trivial (enters_of Tryz.func81 (by kernel_rfl) rfl)
        (told1_stops (6 - 1) (by omega) (W5.heap.size + 1 + 1) (W5.heap.size + 1 + 1 + 1 + 1) (W5.heap.size + 1 + 1 + 1) w.heap.size (fun k => k = W5.heap.size ∨ k = W5.heap.size + 1) _ _ _ 43 _ ps rs f (ofS (stratOf ps rs) s) W7 (by omega) (by omega) (by omega) (fun k hk => by omega) (by omega) (by rw [← s6]; exact t0) (by rw [← s6]; exact t1) (by rw [← s6]; exact t2) (by rw [← s6]; exact t3) w rfl k7 HD0.out.1 HD0.out.2.1 HD0.out.2.2 HPE.out.2.2 HPE.out.1 HPE.out.2.1 (enters_of Tryz.func43 (by kernel_rfl) rfl) HWA.out)
        Kept.trans (fun X k o o' hk h ho _ => ⟨(Below.refl _ X).grown (grownBy_putObj' X k o') (by have := (Array.getElem?_eq_some_iff.1 h).1; omega) (fun j e => by cases e; omega), KeepsBut.putObj _ o' h ho⟩) (Below.refl _ _) (fun _ => rfl)
        (fun pre X => ∃ a m c, Boxed X W5.heap.size 30 (.slice a m c) ∧ factsAt X (.slice a m c) (addAll (kindOf ps) f (toldL pre)) ∧ (capNew w.heap.size (.slice a m c) ∧ rowW X (.slice a m c)) ∧ Boxed X (W5.heap.size + 1) 4 (.bool (chgAll (kindOf ps) f (toldL pre))) ∧ Kept w.heap.size (fun k => k = W5.heap.size ∨ k = W5.heap.size + 1) W7 X)
        (fun _ _ _ => False)
        (fun pre A B row hs hg hr => by
          obtain ⟨a, m, c, g1, g2, g3, g4, g5⟩ := hs
          exact ⟨a, m, c, boxed_own _ _ (fun (_ : Unit) => _) () A B row g1 hg (fun r e => (hr r e).2), facts_kept g2 hg (fun r e => (hr r e).2), ⟨g3.1, rowW_kept g3.2 hg (fun r e => (hr r e).2)⟩, boxed_own _ _ (fun (_ : Unit) => _) () A B row g4 hg (fun r e => (hr r e).2), kept_grown g5 hg (by omega) hr⟩)
        (fun _ _ _ _ _ hs _ _ => hs)
        ⟨va, vn, vc, Y13, HF7.out, ⟨hcap5.mono k4.size, HRW7.out⟩, Y14, Kept.refl _ _ _⟩
        (fun x a' X => ∃ Bx, X.cell? ⟨Bx, 0, none⟩ = some (.int .i64 x.1.pred) ∧ X.cell? ⟨Bx, 1, none⟩ = some (.int .i64 x.1.a) ∧ X.cell? ⟨Bx, 2, none⟩ = some (.int .i64 x.1.b) ∧ X.cell? ⟨Bx, 3, none⟩ = some (.int .i64 x.1.val) ∧ a' = { tmps := #[.agg #[.slice pa ps.length pc, .slice ra rs.length rc], .slice fa f.length fc, .int .i64 s, .pointer (some ⟨w.heap.size, 0, none⟩), undef, .pointer (some ⟨w.heap.size + 1, 0, none⟩), .slice none 0 0, .bool false, .int .i64 0, .pointer (some ⟨W2.heap.size, 0, none⟩), .int .i64 0, .int .i64 0, .func (.func 43) #[] #[.pointer (some ⟨W2.heap.size, 0, none⟩), .pointer (some ⟨w.heap.size + 1, 0, none⟩)], .pointer (some ⟨W5.heap.size, 0, none⟩), .pointer (some ⟨W5.heap.size + 1, 0, none⟩), .pointer (some ⟨Bx, 0, none⟩), undef, undef, undef, .tuple #[.slice sa (stratOf ps rs).length sc, .int .i64 0], .agg #[.slice pa ps.length pc, .slice ra rs.length rc], .tuple #[.slice sa (stratOf ps rs).length sc, .int .i64 0], .slice sa (stratOf ps rs).length sc, .int .i64 0, .int .i64 0, .bool false, undef, .pointer (some ⟨w.heap.size, 0, none⟩), .slice pa ps.length pc, .slice fa f.length fc, .int .i64 0, .int .i64 0, .bool false, undef, .func (.func 43) #[] #[.pointer (some ⟨W2.heap.size, 0, none⟩), .pointer (some ⟨w.heap.size + 1, 0, none⟩)], .slice fa f.length fc, .slice va vn vc, .agg #[.slice pa ps.length pc, .slice ra rs.length rc], .slice fa f.length fc, .func (.func 43) #[] #[.pointer (some ⟨W2.heap.size, 0, none⟩), .pointer (some ⟨w.heap.size + 1, 0, none⟩)], .func (.func 81) #[] #[.pointer (some ⟨W5.heap.size + 1 + 1, 0, none⟩), .pointer (some ⟨W5.heap.size + 1 + 1 + 1 + 1, 0, none⟩), .pointer (some ⟨W5.heap.size + 1 + 1 + 1, 0, none⟩)], .agg #[.int .i64 x.1.pred, .int .i64 x.1.a, .int .i64 x.1.b, .int .i64 x.1.val], undef, undef, undef, undef, undef, undef, undef, undef, undef, undef, undef, undef, undef, undef, undef, undef], defers := [] })
        (fun x a' _ A B row hs hg hr => by
          obtain ⟨Bx, g0, g1, g2, g3, rfl⟩ := hs
          exact ⟨Bx, cell_kept g0 hg (fun r e => (hr r e).2), cell_kept g1 hg (fun r e => (hr r e).2), cell_kept g2 hg (fun r e => (hr r e).2), cell_kept g3 hg (fun r e => (hr r e).2), rfl⟩) ?assign ?body ?done ?stop)
      case assign =>
        rintro l' pre x X K ⟨a, m, c, g1, g2, g3, g4, g5⟩ hK
        dsimp only [toldV] at hK ⊢
        gi_wp2
        refine hK _ _ ((KeepsOthers.alloc _ _).from _) (Kept.of (below_alloc _ _) (Nat.le_trans (by omega) g5.but.size)) ⟨a, m, c, g1.alloc _, factsAt.lasts (below_alloc _ _) g2, ⟨g3.1, g3.2.lasts (below_alloc _ _)⟩, g4.alloc _, g5.trans (Kept.of (below_alloc _ _) (Nat.le_trans (by omega) g5.but.size))⟩ ⟨X.heap.size, ?_, ?_, ?_, ?_, rfl⟩
        all_goals simp [go_sem]
      case body =>
        rintro l' pre ⟨y, hy⟩ a' X hl' _ ⟨a, m, c, g1, g2, g3, g4, g5⟩ ⟨Bx, e0, e1, e2, e3, rfl⟩ _
        dsimp only at e0 e1 e2 e3 ⊢
        have hfy : factFine ps y = true := HT.out y hy
        have HGE : Hid (factsErr ps (addAll (kindOf ps) f (toldL pre)) = 0) := addAll_right HPE.out.2.1 fun x hx => by
          obtain ⟨z, _, rfl⟩ := List.mem_map.1 hx
          exact HT.out _ z.2
        have HIN : Hid (toldL (pre ++ [(⟨y, hy⟩ : Told (toldS ps (ofS (stratOf ps rs) s) f rs))]) = toldL pre ++ [y]) := toldL_snoc _ _
        obtain ⟨r0, kx⟩ := HFR.out X g5
        have HAD : Hid (Calls Tryz.prog 18 #[.slice pa ps.length pc, .slice a m c, .agg #[.int .i64 y.pred, .int .i64 y.a, .int .i64 y.b, .int .i64 y.val]] X fun e w' => ∃ a' m' c', e = .returned (.tuple #[.slice a' m' c', .bool (addC (kindOf ps) y (addAll (kindOf ps) f (toldL pre))), .int .i64 0]) ∧ factsAt w' (.slice a' m' c') (addF (kindOf ps) y (addAll (kindOf ps) f (toldL pre))) ∧ (capNew w.heap.size (.slice a' m' c') ∧ rowW w' (.slice a' m' c')) ∧ Below X.heap.size X w') := HADD.out X _ a m c y g2 g3.1.1 HGE.out hfy kx
        have i1 := g1.cell
        have HCC : Hid (∀ b : Bool, b = chgAll (kindOf ps) f (toldL pre ++ [y]) ↔ b = (chgAll (kindOf ps) f (toldL pre) || addC (kindOf ps) y (addAll (kindOf ps) f (toldL pre)))) := fun b => by rw [chgAll_one]
        have HFF : Hid (addAll (kindOf ps) f (toldL pre ++ [y]) = addF (kindOf ps) y (addAll (kindOf ps) f (toldL pre))) := addAll_one _ _ _ _
        generalize chgAll (kindOf ps) f (toldL pre) = ch at *
        generalize addC (kindOf ps) y (addAll (kindOf ps) f (toldL pre)) = ad at *
        gi_wp2_with fail
        refine ⟨trivial, CallsIn.mono (callsIn_wide.2 HAD.out) ?_⟩
        rintro ex X1 ⟨a1, m1, c1, rfl, h1, h2, hb⟩
        have j1 : Boxed X1 W5.heap.size 30 (.slice a m c) := (hb.block _ g1.lt).trans g1
        have j4 : Boxed X1 (W5.heap.size + 1) 4 (.bool ch) := (hb.block _ g4.lt).trans g4
        have l1 := j1.cell
        have l1f := j1.frozen
        have l4 := j4.cell
        have l4f := j4.frozen
        have HKX : Hid (∀ u u', KeepsFrom W7.heap.size X ((X1.setCell ⟨W5.heap.size, 0, none⟩ u).setCell ⟨W5.heap.size + 1, 0, none⟩ u') ∧ Kept w.heap.size (fun k => k = W5.heap.size ∨ k = W5.heap.size + 1) X ((X1.setCell ⟨W5.heap.size, 0, none⟩ u).setCell ⟨W5.heap.size + 1, 0, none⟩ u')) := fun u u' => ⟨((keepsOthers_below hb).trans ((KeepsOthers.setCell _ _ _).trans (KeepsOthers.setCell _ _ _))).from _, kept_two hb (Nat.le_trans (by omega) g5.but.size) (by omega) u u'⟩
        have HNX : Hid (∀ b : Bool, b = (ch || ad) → ∃ a' m' c', Boxed ((X1.setCell ⟨W5.heap.size, 0, none⟩ (.slice a1 m1 c1)).setCell ⟨W5.heap.size + 1, 0, none⟩ (.bool b)) W5.heap.size 30 (.slice a' m' c') ∧ factsAt ((X1.setCell ⟨W5.heap.size, 0, none⟩ (.slice a1 m1 c1)).setCell ⟨W5.heap.size + 1, 0, none⟩ (.bool b)) (.slice a' m' c') (addAll (kindOf ps) f (toldL pre ++ [y])) ∧ (capNew w.heap.size (.slice a' m' c') ∧ rowW ((X1.setCell ⟨W5.heap.size, 0, none⟩ (.slice a1 m1 c1)).setCell ⟨W5.heap.size + 1, 0, none⟩ (.bool b)) (.slice a' m' c')) ∧ Boxed ((X1.setCell ⟨W5.heap.size, 0, none⟩ (.slice a1 m1 c1)).setCell ⟨W5.heap.size + 1, 0, none⟩ (.bool b)) (W5.heap.size + 1) 4 (.bool (chgAll (kindOf ps) f (toldL pre ++ [y]))) ∧ Kept w.heap.size (fun k => k = W5.heap.size ∨ k = W5.heap.size + 1) W7 ((X1.setCell ⟨W5.heap.size, 0, none⟩ (.slice a1 m1 c1)).setCell ⟨W5.heap.size + 1, 0, none⟩ (.bool b))) := fun b hbb => by
          refine ⟨a1, m1, c1, (j1.set _).other (by omega) _, ?_, ⟨h2.1, (h2.2.set _ _ _).set _ _ _⟩, ?_, g5.trans (HKX.out _ _).2⟩
          · rw [HFF.out]
            exact facts_box (facts_box h1 j1 (fun k e => by cases e)) (j4.other (by omega) _) (fun k e => by cases e)
          · rw [← (HCC.out b).2 hbb]
            exact (j4.other (by omega) _).set _
        clear e0 e1 e2 e3 r0 i1 HAD h1 h2 j1 j4 HFF HCC
        cases ch <;> cases ad
        all_goals gi_wp2_with fail
        all_goals exact ⟨(HKX.out _ _).1, (HKX.out _ _).2, by dsimp only; rw [HIN.out]; exact HNX.out _ rfl⟩
      case done =>
        rintro D xs X hD hS ⟨a, m, c, g1, g2, g3, g4, g5⟩ hK
        rw [hS] at g2 g4
        have i1 := g1.cell
        have i4 := g4.cell
        have HX : Hid (factsAt X (.slice a m c) (addAll (kindOf ps) f (toldS ps (ofS (stratOf ps rs) s) f rs))) := g2
        have HXB : Hid (Below w.heap.size w X) := (HFR.out X g5).2
        generalize chgAll (kindOf ps) f (toldS ps (ofS (stratOf ps rs) s) f rs) = ch at *
        go_wp2_with fail
        go_quiet (fail)
        go_wp2_with fail
        show LeavesInM _ _ _ _ _ _ ([D].map Prog.mark) _ _
        refine leaves_but w.heap.size [D] _ (by simp) (fun D' hD' => ?_) fun W' hb hk => ?_
        · rw [List.mem_singleton.1 hD']
          exact ⟨by omega, hK⟩
        · refine ⟨.tuple #[.slice a m c, .bool ch, .int .i64 0], by simp [results, Tryz.f17, go_sem], ?_⟩
          exact ⟨.slice a m c, by rw [HE.out.1, HE.out.2.2], by rw [HE.out.2.1]; exact facts_cells HX.out (fun b o u hu => hk.cell (fun x => x) hu) hb.size, g3.1, rowW_but (A := X.drewN nq) g3.2 hk, Below.trans (b := X.drewN nq) (HXB.out.trans ⟨rfl, rfl, rfl, Nat.le_refl _, fun _ _ => rfl⟩) hb⟩
      case stop =>
        intro D c pre X hD _ hix hK
        exact hix.elim
    · have HE : Hid (roundErr ps rs f = factsErr ps f ∧ onceF ps rs f s = [] ∧ onceC ps rs f s = false) := by
        have e : roundErr ps rs f = factsErr ps f := by rw [roundErr, if_neg (by rw [hpe]; simp)]
        exact ⟨e, by rw [onceF, if_pos (by rw [e]; exact hfe)], by rw [onceC, if_pos (by rw [e]; exact hfe)]⟩
      rw [hpe] at HST
      have hfe' : (factsErr ps f == 0) = false := by simpa using hfe
      go_enter Tryz.func17, Tryz.ntmps17
      go_wp2_with fail
      refine (HST.out _ b1).mono ?_
      rintro e W2 ⟨⟨vs, rfl, _, hints⟩, hb2⟩
      have hints := hints _ HL.out.1 (by first | rfl | trivial)
      obtain ⟨sa, sc, rfl, _⟩ := hints
      have hs2 : w.heap.size < W2.heap.size := by have := hb2.size; omega
      clear hW1 q0 q1 q2
      obtain ⟨c0, c1, c2⟩ := HK1.out _ hb2
      have k2 : Below w.heap.size w W2 := b1.trans (hb2.mono b1.size)
      go_wp2_with fail
      refine (HCH.out _ (k2.alloc k2.size _)).mono ?_
      rintro e W4 ⟨rfl, hb4⟩
      have k4 : Below w.heap.size w W4 := k2.trans (((below_alloc _ _).trans (hb4.mono (by simp))).mono k2.size)
      clear c0 c1 c2
      go_wp2_with fail
      refine bodyPost_ret (v := .tuple #[.slice none 0 0, .bool false, .int .i64 (factsErr ps f)]) (by simp [results, Tryz.results17, go_sem]) rfl ?_
      exact ⟨.slice none 0 0, by rw [HE.out.1, HE.out.2.2], by rw [HE.out.2.1]; exact Base.facts_nil _, Base.new_nil _, Base.rowW_nil _, k4⟩
  · have HE : Hid (roundErr ps rs f = progErr ps rs ∧ onceF ps rs f s = [] ∧ onceC ps rs f s = false) := by
      have e : roundErr ps rs f = progErr ps rs := by rw [roundErr, if_pos hpe]
      exact ⟨e, by rw [onceF, if_pos (by rw [e]; exact hpe)], by rw [onceC, if_pos (by rw [e]; exact hpe)]⟩
    have hpe' : (progErr ps rs == 0) = false := by simpa using hpe
    go_enter Tryz.func17, Tryz.ntmps17
    go_wp2_with fail
    refine (HST.out _ b1).mono ?_
    rintro e W2 ⟨⟨vs, rfl, hvs, _⟩, hb2⟩
    obtain rfl := hvs hpe
    have k2 : Below w.heap.size w W2 := b1.trans (hb2.mono b1.size)
    clear hW1 q0 q1 q2
    go_wp2_with fail
    refine bodyPost_ret (v := .tuple #[.slice none 0 0, .bool false, .int .i64 (progErr ps rs)]) (by simp [results, Tryz.results17, go_sem]) rfl ?_
    exact ⟨.slice none 0 0, by rw [HE.out.1, HE.out.2.2], by rw [HE.out.2.1]; exact Base.facts_nil _, Base.new_nil _, Base.rowW_nil _, k2.alloc k2.size _⟩
theorem devOnce_n (w : World) (pv rv fv : Value) (ps : List Prd) (rs : List Rul) (f : List Fct) (s : Int) (hp : predsAt w pv ps) (hr : rulesAt w rv rs) (hf : factsAt w fv f) (hn : small ps) :
    Calls Tryz.prog 17 #[.agg #[pv, rv], fv, .int .i64 s] w fun e w' => ∃ u, e = .returned (.tuple #[u, .bool (onceC ps rs f s), .int .i64 (roundErr ps rs f)]) ∧ factsAt w' u (onceF ps rs f s) ∧ capNew w.heap.size u ∧ Below w.heap.size w w' :=
  (devOnce_w w pv rv fv ps rs f s hp hr hf hn).mono fun _ _ ⟨u, h1, h2, h3, _, h4⟩ => ⟨u, h1, h2, h3, h4⟩
theorem devOnce_c (w : World) (pv rv fv : Value) (ps : List Prd) (rs : List Rul) (f : List Fct) (s : Int) (hp : predsAt w pv ps) (hr : rulesAt w rv rs) (hf : factsAt w fv f) (hn : small ps) :
    Calls Tryz.prog 17 #[.agg #[pv, rv], fv, .int .i64 s] w fun e w' => ∃ u, e = .returned (.tuple #[u, .bool (onceC ps rs f s), .int .i64 (roundErr ps rs f)]) ∧ factsAt w' u (onceF ps rs f s) ∧ capOk u ∧ Below w.heap.size w w' :=
  (devOnce_n w pv rv fv ps rs f s hp hr hf hn).mono fun _ _ ⟨u, h1, h2, h3, h4⟩ => ⟨u, h1, h2, h3.1, h4⟩
end Go.Proofs.YtlfccloaoopadagGreat.Round

/-
  The developers' Closed of package round.
-/
namespace Go.Proofs.YtlfccloaoopadagGreat.Round
open Go.RowKit Go.Shelf
open Rule (Vars ruleErr kindOf factFine)
open Base (factsErr under underOne)
open Fire (rules_right roundErr)
open Prog (progErr slice_cells small KeepsBut devCheck_c leaves_marks)
attribute [local go_sem] Oper.semAt_some

/-- F1, errors too -/
def closedB (ps : List Prd) (rs : List Rul) (f : List Fct) : Bool := if roundErr ps rs f ≠ 0 then false else under (kindOf ps) (toldS ps (fun _ => true) f rs) f

set_option maxRecDepth 100000 in
set_option maxHeartbeats 8000000 in
theorem devClosed_c (w : World) (pv rv fv : Value) (ps : List Prd) (rs : List Rul) (f : List Fct) (hp : predsAt w pv ps) (hr : rulesAt w rv rs) (hf : factsAt w fv f) (hn : small ps) :
    Calls Tryz.prog 40 #[.agg #[pv, rv], fv] w fun e w' => e = .returned (.tuple #[.bool (closedB ps rs f), .int .i64 (roundErr ps rs f)]) ∧ Below w.heap.size w w' := by
  have HD : Hid (∀ x, Below w.heap.size w x → predsAt x pv ps ∧ rulesAt x rv rs ∧ factsAt x fv f) := fun x hx => ⟨predsAt.lasts hx hp, rulesAt.lasts hx hr, factsAt.lasts hx hf⟩
  have HD0 : Hid (predsAt w pv ps ∧ rulesAt w rv rs ∧ factsAt w fv f) := ⟨hp, hr, hf⟩
  have HPC : Hid (∀ x, Below w.heap.size w x → Calls Tryz.prog 23 #[.agg #[pv, rv]] x fun e w' => e = .returned (.int .i64 (progErr ps rs)) ∧ Below x.heap.size x w') := fun x hx => devCheck_c x pv rv ps rs (HD.out x hx).1 (HD.out x hx).2.1 hn
  have HCH : Hid (∀ x, Below w.heap.size w x → Calls Tryz.prog 29 #[pv, fv] x fun e w' => e = .returned (.int .i64 (factsErr ps f)) ∧ Below x.heap.size x w') := fun x hx => Base.check_c x pv fv ps f (HD.out x hx).1 (HD.out x hx).2.2
  obtain ⟨pa, pc, rfl, _⟩ := hp
  obtain ⟨ra, rc, rfl, _⟩ := hr
  obtain ⟨fa, fc, rfl, _⟩ := hf
  obtain ⟨W1, hW1⟩ : ∃ W1, (((w.alloc (.cells #[.slice pa ps.length pc, .slice ra rs.length rc] 25)).alloc (.cells #[.slice fa f.length fc] 30)).alloc (.cells #[.bool false] 4)).alloc (.cells #[.int .i64 0] 26) = W1 := ⟨_, rfl⟩
  have b1 : Below w.heap.size w W1 := by rw [← hW1]; exact ((((Below.refl _ _).alloc (Nat.le_refl _) _).alloc (by simp) _).alloc (by simp; omega) _).alloc (by simp; omega) _
  have s1 : W1.heap.size = w.heap.size + 1 + 1 + 1 + 1 := by rw [← hW1]; simp
  have q0 : W1.cell? ⟨w.heap.size, 0, none⟩ = some (.slice pa ps.length pc) := by rw [← hW1]; simp [go_sem]
  have q1 : W1.cell? ⟨w.heap.size, 1, none⟩ = some (.slice ra rs.length rc) := by rw [← hW1]; simp [go_sem]
  have q2 : W1.cell? ⟨w.heap.size + 1, 0, none⟩ = some (.slice fa f.length fc) := by rw [← hW1]; simp [go_sem]
  have X2 : Boxed W1 (w.heap.size + 1 + 1) 4 (.bool false) := by
    rw [← hW1]
    have h := Boxed.new ((w.alloc (.cells #[.slice pa ps.length pc, .slice ra rs.length rc] 25)).alloc (.cells #[.slice fa f.length fc] 30)) 4 (.bool false)
    simp only [World.size_alloc] at h
    exact h.alloc _
  have X3 : Boxed W1 (w.heap.size + 1 + 1 + 1) 26 (.int .i64 0) := by
    rw [← hW1]
    have h := Boxed.new (((w.alloc (.cells #[.slice pa ps.length pc, .slice ra rs.length rc] 25)).alloc (.cells #[.slice fa f.length fc] 30)).alloc (.cells #[.bool false] 4)) 26 (.int .i64 0)
    simp only [World.size_alloc] at h
    exact h
  have HK1 : Hid (∀ x, Below W1.heap.size W1 x → x.cell? ⟨w.heap.size, 0, none⟩ = some (.slice pa ps.length pc) ∧ x.cell? ⟨w.heap.size, 1, none⟩ = some (.slice ra rs.length rc) ∧ x.cell? ⟨w.heap.size + 1, 0, none⟩ = some (.slice fa f.length fc) ∧ Boxed x (w.heap.size + 1 + 1) 4 (.bool false) ∧ Boxed x (w.heap.size + 1 + 1 + 1) 26 (.int .i64 0)) := fun x hx => ⟨(cell_lasts hx (by omega)).trans q0, (cell_lasts hx (by omega)).trans q1, (cell_lasts hx (by omega)).trans q2, (hx.block _ X2.lt).trans X2, (hx.block _ X3.lt).trans X3⟩
  clear X2 X3
  by_cases hpe : progErr ps rs = 0
  · by_cases hfe : factsErr ps f = 0
    · have HE : Hid (roundErr ps rs f = 0 ∧ closedB ps rs f = under (kindOf ps) (toldS ps (fun _ => true) f rs) f) := by
        have e : roundErr ps rs f = 0 := by rw [roundErr, if_neg (by rw [hpe]; simp), hfe]
        exact ⟨e, by rw [closedB, if_neg (by rw [e]; simp)]⟩
      have HPE : Hid (progErr ps rs = 0 ∧ factsErr ps f = 0 ∧ small ps) := ⟨hpe, hfe, hn⟩
      rw [hpe] at HPC
      rw [hfe] at HCH
      clear hpe hfe
      refine (callsIn_wide (n := 6)).1 (callsIn_of_wp_marks Tryz.func40 rfl trivial (wpIn_wide.2 ?_) rfl)
      simp only [Tryz.ntmps40, List.size_toArray, List.length_cons, List.length_nil, Nat.reduceAdd, Nat.reduceSub, Array.replicate_succ, Array.replicate_zero, List.push_toArray, List.append_toArray, List.nil_append, List.cons_append]
      go_wp2_with fail
      refine (HPC.out _ b1).mono ?_
      rintro e W2 ⟨rfl, hb2⟩
      have k2 : Below w.heap.size w W2 := b1.trans (hb2.mono b1.size)
      clear hW1 q0 q1 q2
      obtain ⟨c0, c1, c2, _⟩ := HK1.out _ hb2
      go_wp2_with fail
      refine (HCH.out _ k2).mono ?_
      rintro e W4 ⟨rfl, hb4⟩
      have b14 : Below W1.heap.size W1 W4 := hb2.trans (hb4.mono hb2.size)
      have k4 : Below w.heap.size w W4 := b1.trans (b14.mono b1.size)
      clear c0 c1 c2 HCH HPC
      obtain ⟨c0, c1, c2, _⟩ := HK1.out _ b14
      go_wp2_with fail
      refine (told_c W4 pa ps.length pc ra rs.length rc fa f.length fc _ _).mono ?_
      rintro e W7 ⟨rfl, hW7⟩
      have b47 : Below W4.heap.size W4 W7 := by rw [hW7]; exact (((Below.refl _ _).alloc (Nat.le_refl _) _).alloc (by simp) _).alloc (by simp; omega) _
      have s7 : W7.heap.size = W4.heap.size + 1 + 1 + 1 := by rw [hW7]; simp
      have t0 : W7.cell? ⟨W4.heap.size, 0, none⟩ = some (.slice pa ps.length pc) := by rw [hW7]; simp [go_sem]
      have t1 : W7.cell? ⟨W4.heap.size, 1, none⟩ = some (.slice ra rs.length rc) := by rw [hW7]; simp [go_sem]
      have t2 : W7.cell? ⟨W4.heap.size + 1 + 1, 0, none⟩ = some (.func (.func 80) #[] #[]) := by rw [hW7]; simp [go_sem]
      have t3 : W7.cell? ⟨W4.heap.size + 1, 0, none⟩ = some (.slice fa f.length fc) := by rw [hW7]; simp [go_sem]
      clear hW7 c0 c1 c2
      go_wp2_with fail
      have b17 : Below W1.heap.size W1 W7 := b14.trans (b47.mono b14.size)
      have k7 : Below w.heap.size w W7 := b1.trans (b17.mono b1.size)
      obtain ⟨c0, c1, c2, c3, c4⟩ := HK1.out _ b17
      have HFR : Hid (∀ x, Kept w.heap.size (fun _ => False) W7 x → x.cell? ⟨w.heap.size, 0, none⟩ = some (.slice pa ps.length pc) ∧ x.cell? ⟨w.heap.size + 1, 0, none⟩ = some (.slice fa f.length fc) ∧ Boxed x (w.heap.size + 1 + 1) 4 (.bool false) ∧ Boxed x (w.heap.size + 1 + 1 + 1) 26 (.int .i64 0) ∧ Below w.heap.size w x) := fun x hx => ⟨hx.but.cell (fun h => h) c0, hx.but.cell (fun h => h) c2, hx.but.same _ _ (fun h => h) c3 rfl, hx.but.same _ _ (fun h => h) c4 rfl, k7.trans hx.below⟩
      have HT : Hid (∀ x ∈ toldS ps (fun _ => true) f rs, factFine ps x = true) := toldS_fine (rules_right HPE.out.1) HPE.out.2.1
      have HUN : Hid (∀ y, factFine ps y = true → ∀ x g, Below w.heap.size w x → factsAt x (.slice (some ⟨g, 0, none⟩) 1 1) [y] → Calls Tryz.prog 10 #[.slice pa ps.length pc, .slice (some ⟨g, 0, none⟩) 1 1, .slice fa f.length fc] x fun e w' => e = .returned (.tuple #[.bool (underOne (kindOf ps) f y), .int .i64 0]) ∧ Below x.heap.size x w') := fun y hy x g hx h1 => by
        have h := Base.Under_c x _ _ _ ps [y] f (HD.out x hx).1 h1 (HD.out x hx).2.2
        rw [underOf_right (one_right HPE.out.2.1 hy) HPE.out.2.1, under_one] at h
        exact h
      have HNU : Hid (∀ y ∈ toldS ps (fun _ => true) f rs, underOne (kindOf ps) f y = false → under (kindOf ps) (toldS ps (fun _ => true) f rs) f = false) := fun y hy hu => by
        unfold under
        rw [List.all_eq_false]
        exact ⟨y, hy, by rw [hu]; simp⟩
      clear c0 c1 c2 c3 c4
      refine (wpIn_wide (n := 6)).1 (wpIn_rangeFunc_ownH (α := Told (toldS ps (fun _ => true) f rs)) rfl (by omega) (gf := 81) (lb := #[.pointer (some ⟨W4.heap.size, 0, none⟩), .pointer (some ⟨W4.heap.size + 1 + 1, 0, none⟩), .pointer (some ⟨W4.heap.size + 1, 0, none⟩)]) rfl trivial (enters_of Tryz.func81 (by kernel_rfl) rfl)
        (told1_stops (6 - 1) (by omega) W4.heap.size (W4.heap.size + 1 + 1) (W4.heap.size + 1) w.heap.size (fun _ => False) _ _ _ 80 _ ps rs f (fun _ => true) W7 (fun h => h) (fun h => h) (fun h => h) (fun k hk => hk.elim) (by have := k7.size; omega) t0 t1 t2 t3 w rfl k7 HD0.out.1 HD0.out.2.1 HD0.out.2.2 HPE.out.2.2 HPE.out.1 HPE.out.2.1 (enters_of Tryz.func80 (by kernel_rfl) rfl) (fun x n hn ha hc ba bc _ => closed1_c x _ _ _ ha _ hc ba _ bc))
        Kept.trans (fun X k o o' hk h ho _ => ⟨(Below.refl _ X).grown (grownBy_putObj' X k o') (by have := (Array.getElem?_eq_some_iff.1 h).1; have := k7.size; omega) (fun j e => by cases e; have := k7.size; omega), KeepsBut.putObj _ o' h ho⟩) (Below.refl _ _) (fun _ => rfl)
        (fun pre X => under (kindOf ps) (toldL pre) f = true ∧ Kept w.heap.size (fun _ => False) W7 X)
        (fun c _ X => c = .ret ∧ under (kindOf ps) (toldS ps (fun _ => true) f rs) f = false ∧ Boxed X (w.heap.size + 1 + 1) 4 (.bool false) ∧ Boxed X (w.heap.size + 1 + 1 + 1) 26 (.int .i64 0) ∧ Below w.heap.size w X)
        (fun pre A B row hs hg hr => ⟨hs.1, kept_grown hs.2 hg (by have := k7.size; omega) hr⟩)
        (fun c s A B row hs hg hr => ⟨hs.1, hs.2.1, boxed_own _ _ (fun (_ : Unit) => _) () A B row hs.2.2.1 hg (fun r e => (hr r e).2), boxed_own _ _ (fun (_ : Unit) => _) () A B row hs.2.2.2.1 hg (fun r e => (hr r e).2), hs.2.2.2.2.grown hg hs.2.2.2.2.size (fun k e => by have := (hr k e).1; have := k7.size; omega)⟩)
        ⟨rfl, Kept.refl _ _ _⟩
        (fun x a' X => ∃ Bx, X.cell? ⟨Bx, 0, none⟩ = some (.int .i64 x.1.pred) ∧ X.cell? ⟨Bx, 1, none⟩ = some (.int .i64 x.1.a) ∧ X.cell? ⟨Bx, 2, none⟩ = some (.int .i64 x.1.b) ∧ X.cell? ⟨Bx, 3, none⟩ = some (.int .i64 x.1.val) ∧ a' = { tmps := #[.agg #[.slice pa ps.length pc, .slice ra rs.length rc], .slice fa f.length fc, .pointer (some ⟨w.heap.size, 0, none⟩), .pointer (some ⟨w.heap.size + 1, 0, none⟩), .pointer (some ⟨w.heap.size + 1 + 1, 0, none⟩), .pointer (some ⟨w.heap.size + 1 + 1 + 1, 0, none⟩), .int .i64 0, .int .i64 0, .func (.func 80) #[] #[], .pointer (some ⟨Bx, 0, none⟩), undef, undef, .agg #[.slice pa ps.length pc, .slice ra rs.length rc], .int .i64 0, .int .i64 0, .bool false, undef, .pointer (some ⟨w.heap.size, 0, none⟩), .slice pa ps.length pc, .slice fa f.length fc, .int .i64 0, .int .i64 0, .bool false, undef, .agg #[.slice pa ps.length pc, .slice ra rs.length rc], .slice fa f.length fc, .func (.func 80) #[] #[], .func (.func 81) #[] #[.pointer (some ⟨W4.heap.size, 0, none⟩), .pointer (some ⟨W4.heap.size + 1 + 1, 0, none⟩), .pointer (some ⟨W4.heap.size + 1, 0, none⟩)], .agg #[.int .i64 x.1.pred, .int .i64 x.1.a, .int .i64 x.1.b, .int .i64 x.1.val], undef, undef, undef, undef, undef, undef, undef, undef, undef, undef, undef], defers := [] })
        (fun x a' _ A B row hs hg hr => by
          obtain ⟨Bx, g0, g1, g2, g3, rfl⟩ := hs
          exact ⟨Bx, cell_kept g0 hg (fun r e => (hr r e).2), cell_kept g1 hg (fun r e => (hr r e).2), cell_kept g2 hg (fun r e => (hr r e).2), cell_kept g3 hg (fun r e => (hr r e).2), rfl⟩) ?assign ?body ?done ?stop)
      case assign =>
        rintro l' pre x X K ⟨g1, g5⟩ hK
        have hnx : w.heap.size ≤ X.heap.size := Nat.le_trans k7.size g5.but.size
        dsimp only [toldV] at hK ⊢
        gi_wp2
        refine hK _ _ ((KeepsOthers.alloc _ _).from _) (Kept.of (below_alloc _ _) hnx) ⟨g1, g5.trans (Kept.of (below_alloc _ _) hnx)⟩ ⟨X.heap.size, ?_, ?_, ?_, ?_, rfl⟩
        all_goals simp [go_sem]
      case body =>
        rintro l' pre ⟨y, hy⟩ a' X hl' _ ⟨g1, g5⟩ ⟨Bx, e0, e1, e2, e3, rfl⟩ _
        dsimp only at e0 e1 e2 e3 ⊢
        have hfy : factFine ps y = true := HT.out y hy
        have HIN : Hid (toldL (pre ++ [(⟨y, hy⟩ : Told (toldS ps (fun _ => true) f rs))]) = toldL pre ++ [y]) := toldL_snoc _ _
        have hnx : w.heap.size ≤ X.heap.size := Nat.le_trans k7.size g5.but.size
        obtain ⟨r0, r1, r2, r3, kx⟩ := HFR.out X g5
        have HUC : Hid (Calls Tryz.prog 10 #[.slice pa ps.length pc, .slice (some ⟨X.heap.size, 0, none⟩) 1 1, .slice fa f.length fc] (X.alloc (.cells #[.int .i64 y.pred, .int .i64 y.a, .int .i64 y.b, .int .i64 y.val] 44)) fun e w' => e = .returned (.tuple #[.bool (underOne (kindOf ps) f y), .int .i64 0]) ∧ Below (X.alloc (.cells #[.int .i64 y.pred, .int .i64 y.a, .int .i64 y.b, .int .i64 y.val] 44)).heap.size (X.alloc (.cells #[.int .i64 y.pred, .int .i64 y.a, .int .i64 y.b, .int .i64 y.val] 44)) w') := HUN.out y hfy _ X.heap.size (kx.alloc kx.size _) (facts_new X y)
        have hlt1 : w.heap.size + 1 < X.heap.size := by have := r2.lt; omega
        gi_wp2_with fail
        refine ⟨trivial, CallsIn.mono (callsIn_wide.2 HUC.out) ?_⟩
        rintro ex X1 ⟨rfl, hb⟩
        have hbX : Below X.heap.size X X1 := (below_alloc _ _).trans (hb.mono (by simp))
        have kK : Kept w.heap.size (fun _ => False) W7 X1 := g5.trans (Kept.of hbX hnx)
        obtain ⟨_, _, j2, j3, kx1⟩ := HFR.out X1 kK
        have l2 := j2.cell
        have l2f := j2.frozen
        have l3 := j3.cell
        have l3f := j3.frozen
        have HKF : Hid (KeepsFrom W7.heap.size X X1 ∧ Kept w.heap.size (fun _ => False) X X1) := ⟨(keepsOthers_below hbX).from _, Kept.of hbX hnx⟩
        cases hu : underOne (kindOf ps) f y
        · have HNO : Hid (under (kindOf ps) (toldS ps (fun _ => true) f rs) f = false) := HNU.out y hy hu
          have HFI : Hid (KeepsFrom W7.heap.size X ((X1.setCell ⟨w.heap.size + 1 + 1, 0, none⟩ (.bool false)).setCell ⟨w.heap.size + 1 + 1 + 1, 0, none⟩ (.int .i64 0)) ∧ Boxed ((X1.setCell ⟨w.heap.size + 1 + 1, 0, none⟩ (.bool false)).setCell ⟨w.heap.size + 1 + 1 + 1, 0, none⟩ (.int .i64 0)) (w.heap.size + 1 + 1) 4 (.bool false) ∧ Boxed ((X1.setCell ⟨w.heap.size + 1 + 1, 0, none⟩ (.bool false)).setCell ⟨w.heap.size + 1 + 1 + 1, 0, none⟩ (.int .i64 0)) (w.heap.size + 1 + 1 + 1) 26 (.int .i64 0) ∧ Below w.heap.size w ((X1.setCell ⟨w.heap.size + 1 + 1, 0, none⟩ (.bool false)).setCell ⟨w.heap.size + 1 + 1 + 1, 0, none⟩ (.int .i64 0))) :=
            ⟨((keepsOthers_below hbX).trans ((KeepsOthers.setCell _ _ _).trans (KeepsOthers.setCell _ _ _))).from _, (j2.set _).other (by omega) _, (j3.other (by omega) _).set _, (kx1.setCell (p := ⟨w.heap.size + 1 + 1, 0, none⟩) (show w.heap.size ≤ w.heap.size + 1 + 1 by omega) _).setCell (p := ⟨w.heap.size + 1 + 1 + 1, 0, none⟩) (show w.heap.size ≤ w.heap.size + 1 + 1 + 1 by omega) _⟩
          clear e0 e1 e2 e3 r0 r1 r2 r3 j2 j3 HUC
          gi_wp2_with fail
          exact ⟨HFI.out.1, rfl, HNO.out, HFI.out.2.1, HFI.out.2.2.1, HFI.out.2.2.2⟩
        · have HYES : Hid (under (kindOf ps) (toldL pre ++ [y]) f = true) := by show _ = _; rw [under_append, g1, under_one, hu]; rfl
          clear e0 e1 e2 e3 r0 r1 r2 r3 j2 j3 HUC
          gi_wp2_with fail
          exact ⟨HKF.out.1, HKF.out.2, by rw [HIN.out]; exact HYES.out, kK⟩
      case done =>
        rintro D xs X hD hS ⟨g1, g5⟩ hK
        rw [hS] at g1
        obtain ⟨_, _, j2, j3, kx⟩ := HFR.out X g5
        have l2 := j2.cell
        have l2f := j2.frozen
        have l3 := j3.cell
        have l3f := j3.frozen
        have HFI : Hid (Boxed ((X.setCell ⟨w.heap.size + 1 + 1, 0, none⟩ (.bool true)).setCell ⟨w.heap.size + 1 + 1 + 1, 0, none⟩ (.int .i64 0)) (w.heap.size + 1 + 1) 4 (.bool true) ∧ Boxed ((X.setCell ⟨w.heap.size + 1 + 1, 0, none⟩ (.bool true)).setCell ⟨w.heap.size + 1 + 1 + 1, 0, none⟩ (.int .i64 0)) (w.heap.size + 1 + 1 + 1) 26 (.int .i64 0) ∧ Below w.heap.size w ((X.setCell ⟨w.heap.size + 1 + 1, 0, none⟩ (.bool true)).setCell ⟨w.heap.size + 1 + 1 + 1, 0, none⟩ (.int .i64 0))) :=
          ⟨(j2.set _).other (by omega) _, (j3.other (by omega) _).set _, (kx.setCell (p := ⟨w.heap.size + 1 + 1, 0, none⟩) (show w.heap.size ≤ w.heap.size + 1 + 1 by omega) _).setCell (p := ⟨w.heap.size + 1 + 1 + 1, 0, none⟩) (show w.heap.size ≤ w.heap.size + 1 + 1 + 1 by omega) _⟩
        clear j2 j3
        go_wp2_with fail
        show LeavesInM _ _ _ _ _ _ ([D].map Prog.mark) _ _
        refine leaves_marks w.heap.size [D] _ (by simp) (fun D' hD' => ?_) fun W' hb hc => ?_
        · rw [List.mem_singleton.1 hD']
          exact ⟨by have := k7.size; omega, ((KeepsOthers.setCell _ _ _).trans (KeepsOthers.setCell _ _ _)).same _ _ hK rfl⟩
        · have r1 := hc _ _ _ HFI.out.1.cell
          have r2 := hc _ _ _ HFI.out.2.1.cell
          refine ⟨.tuple #[.bool true, .int .i64 0], by simp [results, Tryz.f40, go_sem, r1, r2], ?_, HFI.out.2.2.trans hb⟩
          rw [HE.out.1, HE.out.2, g1]
      case stop =>
        rintro D c pre X hD _ ⟨rfl, hu, j2, j3, kx⟩ hK
        refine wpIn_wide.2 (wp_ret ?_)
        show LeavesInM _ _ _ _ _ _ ([D].map Prog.mark) _ _
        refine leaves_marks w.heap.size [D] _ (by simp) (fun D' hD' => ?_) fun W' hb hc => ?_
        · rw [List.mem_singleton.1 hD']
          exact ⟨by have := k7.size; omega, hK⟩
        · have r1 := hc _ _ _ j2.cell
          have r2 := hc _ _ _ j3.cell
          refine ⟨.tuple #[.bool false, .int .i64 0], by simp [results, Tryz.f40, go_sem, r1, r2], ?_, kx.trans hb⟩
          rw [HE.out.1, HE.out.2, hu]
    · have HE : Hid (roundErr ps rs f = factsErr ps f ∧ closedB ps rs f = false) := by
        have e : roundErr ps rs f = factsErr ps f := by rw [roundErr, if_neg (by rw [hpe]; simp)]
        exact ⟨e, by rw [closedB, if_pos (by rw [e]; exact hfe)]⟩
      rw [hpe] at HPC
      have hfe' : (factsErr ps f == 0) = false := by simpa using hfe
      go_enter Tryz.func40, Tryz.ntmps40
      go_wp2_with fail
      refine (HPC.out _ b1).mono ?_
      rintro e W2 ⟨rfl, hb2⟩
      have k2 : Below w.heap.size w W2 := b1.trans (hb2.mono b1.size)
      clear hW1 q0 q1 q2
      obtain ⟨c0, c1, c2, _⟩ := HK1.out _ hb2
      go_wp2_with fail
      refine (HCH.out _ k2).mono ?_
      rintro e W4 ⟨rfl, hb4⟩
      have b14 : Below W1.heap.size W1 W4 := hb2.trans (hb4.mono hb2.size)
      have k4 : Below w.heap.size w W4 := b1.trans (b14.mono b1.size)
      clear c0 c1 c2
      obtain ⟨_, _, _, j2, j3⟩ := HK1.out _ b14
      have l2 := j2.cell
      have l2f := j2.frozen
      have l3 := j3.cell
      have l3f := j3.frozen
      go_wp2_with fail
      refine bodyPost_ret (v := .tuple #[.bool false, .int .i64 (factsErr ps f)]) (by simp [results, Tryz.results40, go_sem, l2, l3]) rfl ?_
      exact ⟨by rw [HE.out.1, HE.out.2], (k4.setCell (p := ⟨w.heap.size + 1 + 1, 0, none⟩) (show w.heap.size ≤ w.heap.size + 1 + 1 by omega) _).setCell (p := ⟨w.heap.size + 1 + 1 + 1, 0, none⟩) (show w.heap.size ≤ w.heap.size + 1 + 1 + 1 by omega) _⟩
  · have HE : Hid (roundErr ps rs f = progErr ps rs ∧ closedB ps rs f = false) := by
      have e : roundErr ps rs f = progErr ps rs := by rw [roundErr, if_pos hpe]
      exact ⟨e, by rw [closedB, if_pos (by rw [e]; exact hpe)]⟩
    have hpe' : (progErr ps rs == 0) = false := by simpa using hpe
    go_enter Tryz.func40, Tryz.ntmps40
    go_wp2_with fail
    refine (HPC.out _ b1).mono ?_
    rintro e W2 ⟨rfl, hb2⟩
    have k2 : Below w.heap.size w W2 := b1.trans (hb2.mono b1.size)
    clear hW1 q0 q1 q2
    obtain ⟨_, _, _, j2, j3⟩ := HK1.out _ hb2
    have l2 := j2.cell
    have l2f := j2.frozen
    have l3 := j3.cell
    have l3f := j3.frozen
    go_wp2_with fail
    refine bodyPost_ret (v := .tuple #[.bool false, .int .i64 (progErr ps rs)]) (by simp [results, Tryz.results40, go_sem, l2, l3]) rfl ?_
    exact ⟨by rw [HE.out.1, HE.out.2], (k2.setCell (p := ⟨w.heap.size + 1 + 1, 0, none⟩) (show w.heap.size ≤ w.heap.size + 1 + 1 by omega) _).setCell (p := ⟨w.heap.size + 1 + 1 + 1, 0, none⟩) (show w.heap.size ≤ w.heap.size + 1 + 1 + 1 by omega) _⟩
end Go.Proofs.YtlfccloaoopadagGreat.Round

/-
  What must be in any case of package fire.
-/
namespace Go.Proofs.YtlfccloaoopadagGreat.Fire
open Go.ChangeShapes Go.WideShapes Go.ChangeAt Go.RowKit
open Rule (Vars)
open Base (factsErr pathsL paths_c b7)
open Prog (progErr g0 smallP)

theorem roads2_c (w : World) : Calls Tryz.prog 26 #[] w fun e w' => ∃ pa pn pc ra rn rc, e = .returned (.agg #[.slice pa pn pc, .slice ra rn rc]) ∧ predsAt w' (.slice pa pn pc) Roads.preds ∧ rulesAt w' (.slice ra rn rc) Roads.rules ∧ Below w.heap.size w w' :=
  (Roads.roads_c w).mono fun _ _ ⟨_, _, he, _, _, _, hp, hr, _, _, _, hb⟩ => ⟨_, _, _, _, _, _, he, hp, hr, hb⟩
theorem fe (n : Int) : fireErr Roads.preds Roads.rules pathsL n = if 0 ≤ n ∧ n < 7 then 0 else 7 := by
  rw [fireErr, if_neg (by rw [g0]; simp), if_neg (by rw [b7]; simp)]
  rfl
theorem h1 : holdsErr Roads.preds Roads.rules pathsL 5 ⟨0, 1, 2⟩ = 0 ∧ holdsOk Roads.preds Roads.rules pathsL 5 ⟨0, 1, 2⟩ = true ∧ holdsFact Roads.preds Roads.rules pathsL 5 ⟨0, 1, 2⟩ = ⟨1, 0, 2, 5⟩ := by
  have e : holdsErr Roads.preds Roads.rules pathsL 5 ⟨0, 1, 2⟩ = 0 := by rw [holdsErr, fe]; rfl
  exact ⟨e, by rw [holdsOk, e]; rfl, by rw [holdsFact, e]; rfl⟩
theorem h2 : holdsErr Roads.preds Roads.rules pathsL 5 ⟨1, 1, 2⟩ = 0 ∧ holdsOk Roads.preds Roads.rules pathsL 5 ⟨1, 1, 2⟩ = false ∧ holdsFact Roads.preds Roads.rules pathsL 5 ⟨1, 1, 2⟩ = ⟨0, 0, 0, 0⟩ := by
  have e : holdsErr Roads.preds Roads.rules pathsL 5 ⟨1, 1, 2⟩ = 0 := by rw [holdsErr, fe]; rfl
  exact ⟨e, by rw [holdsOk, e]; rfl, by rw [holdsFact, e]; rfl⟩
theorem h3 : holdsErr Roads.preds Roads.rules pathsL 5 ⟨5, 0, 0⟩ = 3 ∧ holdsOk Roads.preds Roads.rules pathsL 5 ⟨5, 0, 0⟩ = false ∧ holdsFact Roads.preds Roads.rules pathsL 5 ⟨5, 0, 0⟩ = ⟨0, 0, 0, 0⟩ := by
  have e : holdsErr Roads.preds Roads.rules pathsL 5 ⟨5, 0, 0⟩ = 3 := by rw [holdsErr, fe]; rfl
  exact ⟨e, by rw [holdsOk, e]; rfl, by rw [holdsFact, e]; rfl⟩
set_option maxRecDepth 100000 in
theorem al4 : allOf Roads.preds Roads.rules pathsL 4 = [⟨4, 0, 1, 0⟩, ⟨4, 1, 2, 0⟩] := by
  rw [allOf, fe]
  kernel_rfl
set_option maxRecDepth 100000 in
theorem al6 : (allOf Roads.preds Roads.rules pathsL 6).length = 2 := by
  rw [allOf, fe]
  kernel_rfl
theorem al7 : allOf Roads.preds Roads.rules pathsL 7 = [] := by
  rw [allOf, fe]
  rfl

theorem step_eql (a b : Stp) (w : World) : (binOp .eql 99 (.agg #[.int .i64 a.rule, .int .i64 a.x, .int .i64 a.y, .int .i64 a.z]) (.agg #[.int .i64 b.rule, .int .i64 b.x, .int .i64 b.y, .int .i64 b.z])).run Tryz.prog w = .ok (.bool (decide (a = b))) w := by
  have := step_equal a b w
  rw [stepV, stepV] at this
  simp [binOp, Op.equal, Op.maxDepth, this]

end Go.Proofs.YtlfccloaoopadagGreat.Fire

/-
  What must be in any case of package round.
-/
namespace Go.Proofs.YtlfccloaoopadagGreat.Round
open Go.ChangeShapes Go.WideShapes Go.ChangeAt Go.RowKit
open Base (factsErr pathsL paths_c b7 capOk)
open Prog (progErr g0 g1 gt smallP edges)
open Fire (roundErr roads2_c)
open Strata (strataL)

def after : List Fct := [⟨0, 0, 1, 0⟩, ⟨0, 1, 2, 0⟩, ⟨0, 2, 0, 0⟩, ⟨0, 3, 0, 0⟩, ⟨1, 0, 1, 1⟩, ⟨1, 0, 2, 5⟩, ⟨1, 1, 2, 1⟩]
theorem st1 : stratOf Roads.preds Roads.rules = [0, 0, 1] := by
  unfold stratOf
  rw [show Roads.preds.length = 3 from rfl, g1]
  rfl
theorem st2 : stratOf Roads.preds [] = [0, 0, 0] := by decide
theorem e1 : roundErr Roads.preds Roads.rules pathsL = 0 := by rw [roundErr, if_neg (by rw [g0]; simp), b7]
theorem b8 : factsErr Roads.preds after = 0 := by decide
theorem e2 : roundErr Roads.preds Roads.rules after = 0 := by rw [roundErr, if_neg (by rw [g0]; simp), b8]
theorem g9 : progErr Roads.preds [] = 0 := by
  have h : Prog.partsErr Roads.preds [] = 0 := by rw [Prog.parts_rules (by decide) (by decide) gt (by decide) (by decide)]; decide
  rw [Prog.prog_round h, show strataL (edges []) Roads.preds.length = some [0, 0, 0] by decide]; rfl
theorem e3 : roundErr Roads.preds [] pathsL = 0 := by rw [roundErr, if_neg (by rw [g9]; simp), b7]
set_option maxRecDepth 100000 in
theorem o1 : onceF Roads.preds Roads.rules pathsL 0 = after := by
  rw [onceF, e1, st1]
  kernel_rfl
set_option maxRecDepth 100000 in
theorem o2 : onceC Roads.preds Roads.rules pathsL 0 = true := by
  rw [onceC, e1, st1]
  kernel_rfl
set_option maxRecDepth 100000 in
theorem o3 : closedB Roads.preds Roads.rules after = false := by
  rw [closedB, e2]
  kernel_rfl
theorem o4 : onceC Roads.preds [] pathsL 0 = false := by
  rw [onceC, e3]
  rfl
theorem o5 : closedB Roads.preds [] pathsL = true := by
  rw [closedB, e3]
  rfl
theorem rules_nil (w : World) : rulesAt w (.slice none 0 0) [] := ⟨none, 0, rfl, by simp, .inl rfl⟩

set_option maxRecDepth 100000 in
set_option maxHeartbeats 8000000 in
theorem roundBegun_c (w : World) : Calls Tryz.prog 15 #[] w fun e w' => e = .returned (.bool true) ∧ Below w.heap.size w w' := by
  go_enter Tryz.func15, Tryz.ntmps15
  go_wp2_with fail
  refine (roads2_c _).mono ?_
  rintro e a1 ⟨pa, pn, pc, ra, rn, rc, rfl, hp, hr, hb1⟩
  have HD : Hid (∀ x, Below a1.heap.size a1 x → predsAt x (.slice pa pn pc) Roads.preds ∧ rulesAt x (.slice ra rn rc) Roads.rules) := fun x hx => ⟨predsAt.lasts hx hp, rulesAt.lasts hx hr⟩
  clear hp hr
  go_wp2_with fail
  refine (paths_c _).mono ?_
  rintro e p1 ⟨fv, rfl, hf, _, hb2⟩
  have HC : Hid (Calls Tryz.prog 17 #[.agg #[.slice pa pn pc, .slice ra rn rc], fv, .int .i64 0] p1 fun e w' => ∃ u, e = .returned (.tuple #[u, .bool true, .int .i64 0]) ∧ factsAt w' u after ∧ capOk u ∧ Below p1.heap.size p1 w') := by
    have h := devOnce_c p1 _ _ fv Roads.preds Roads.rules pathsL 0 (HD.out _ hb2).1 (HD.out _ hb2).2 hf smallP
    rw [e1, o1, o2] at h
    exact h
  obtain ⟨fa, fc, rfl, _⟩ := hf
  have k1 : Below w.heap.size w p1 := hb1.trans (hb2.mono hb1.size)
  clear hb1 hb2 HD
  go_wp2_with fail
  refine HC.out.mono ?_
  rintro e c1 ⟨u1, rfl, hfu, _, hb3⟩
  have k_c1 : Below w.heap.size w c1 := k1.trans (hb3.mono k1.size)
  have HU : Hid (∀ x, Below c1.heap.size c1 x → factsAt x u1 after) := fun x hx => factsAt.lasts hx hfu
  obtain ⟨ua, uc, rfl, _, hux⟩ := hfu
  obtain ⟨ub, uo, rfl, hub, hux⟩ := hux.resolve_left (by simp [after])
  obtain ⟨x0, x1, x2, x3⟩ := hux 4 ⟨1, 0, 1, 1⟩ rfl
  have HX : Hid (∀ x, Below c1.heap.size c1 x → x.cell? ⟨ub, uo + 16, none⟩ = some (.int .i64 1) ∧ x.cell? ⟨ub, uo + 16 + 1, none⟩ = some (.int .i64 0) ∧ x.cell? ⟨ub, uo + 16 + 2, none⟩ = some (.int .i64 1) ∧ x.cell? ⟨ub, uo + 16 + 3, none⟩ = some (.int .i64 1)) := fun x hx => ⟨(cell_lasts hx hub).trans x0, (cell_lasts hx hub).trans x1, (cell_lasts hx hub).trans x2, (cell_lasts hx hub).trans x3⟩
  simp only [show after.length = 7 from rfl] at HU ⊢
  clear hux x0 x1 x2 x3 hb3 HC
  go_wp2_with fail
  refine (roads2_c _).mono ?_
  rintro e a2 ⟨pa, pn, pc, ra, rn, rc, rfl, hp, hr, hb1⟩
  have HC : Hid (Calls Tryz.prog 40 #[.agg #[.slice pa pn pc, .slice ra rn rc], .slice (some ⟨ub, uo, none⟩) 7 uc] a2 fun e w' => e = .returned (.tuple #[.bool false, .int .i64 0]) ∧ Below a2.heap.size a2 w') := by
    have h := devClosed_c a2 _ _ _ Roads.preds Roads.rules after hp hr (HU.out _ hb1) smallP
    rw [e2, o3] at h
    exact h
  clear hp hr HU
  go_wp2_with fail
  refine HC.out.mono ?_
  rintro e c2 ⟨rfl, hb3⟩
  have q_c2 : Below c1.heap.size c1 c2 := hb1.trans (hb3.mono hb1.size)
  clear hb1 hb3 HC
  go_wp2_with fail
  refine (roads2_c _).mono ?_
  rintro e a3 ⟨pa, pn, pc, ra, rn, rc, rfl, hp, hr, hb1⟩
  have hfd : ∀ w' : World, (Instr.field 25 (.agg #[.slice pa pn pc, .slice ra rn rc]) 0).run Tryz.prog w' = .ok (.slice pa pn pc) w' := fun _ => by kernel_rfl
  have HD : Hid (∀ x, Below a3.heap.size a3 x → predsAt x (.slice pa pn pc) Roads.preds) := fun x hx => predsAt.lasts hx hp
  clear hp hr
  go_wp2_with fail
  clear hfd
  refine (paths_c _).mono ?_
  rintro e p3 ⟨fv, rfl, hf, _, hb2⟩
  have HC : Hid (Calls Tryz.prog 17 #[.agg #[.slice pa pn pc, .slice none 0 0], fv, .int .i64 0] p3 fun e w' => ∃ u, e = .returned (.tuple #[u, .bool false, .int .i64 0]) ∧ capOk u ∧ Below p3.heap.size p3 w') := by
    have h := devOnce_c p3 _ _ fv Roads.preds [] pathsL 0 (HD.out _ hb2) (rules_nil _) hf smallP
    rw [e3, o4] at h
    exact h.mono fun _ _ ⟨u, h1, _, h2, h3⟩ => ⟨u, h1, h2, h3⟩
  obtain ⟨fa, fc, rfl, _⟩ := hf
  have q_p3 : Below c1.heap.size c1 p3 := q_c2.trans ((hb1.trans (hb2.mono hb1.size)).mono q_c2.size)
  clear hb1 hb2 HD
  go_wp2_with fail
  refine HC.out.mono ?_
  rintro e c3 ⟨u3, rfl, hcu, hb3⟩
  have q_c3 : Below c1.heap.size c1 c3 := q_p3.trans (hb3.mono q_p3.size)
  obtain ⟨ua3, un3, uc3, rfl, _⟩ := hcu
  clear hb3 HC
  go_wp2_with fail
  refine (roads2_c _).mono ?_
  rintro e a4 ⟨pa, pn, pc, ra, rn, rc, rfl, hp, hr, hb1⟩
  have hfd : ∀ w' : World, (Instr.field 25 (.agg #[.slice pa pn pc, .slice ra rn rc]) 0).run Tryz.prog w' = .ok (.slice pa pn pc) w' := fun _ => by kernel_rfl
  have HD : Hid (∀ x, Below a4.heap.size a4 x → predsAt x (.slice pa pn pc) Roads.preds) := fun x hx => predsAt.lasts hx hp
  clear hp hr
  go_wp2_with fail
  clear hfd
  refine (paths_c _).mono ?_
  rintro e p4 ⟨fv, rfl, hf, _, hb2⟩
  have HC : Hid (Calls Tryz.prog 40 #[.agg #[.slice pa pn pc, .slice none 0 0], fv] p4 fun e w' => e = .returned (.tuple #[.bool true, .int .i64 0]) ∧ Below p4.heap.size p4 w') := by
    have h := devClosed_c p4 _ _ fv Roads.preds [] pathsL (HD.out _ hb2) (rules_nil _) hf smallP
    rw [e3, o5] at h
    exact h
  obtain ⟨fa, fc, rfl, _⟩ := hf
  have q_p4 : Below c1.heap.size c1 p4 := q_c3.trans ((hb1.trans (hb2.mono hb1.size)).mono q_c3.size)
  clear hb1 hb2 HD
  go_wp2_with fail
  refine HC.out.mono ?_
  rintro e c4 ⟨rfl, hb3⟩
  have q_c4 : Below c1.heap.size c1 c4 := q_p4.trans (hb3.mono q_p4.size)
  obtain ⟨x0, x1, x2, x3⟩ := HX.out _ q_c4
  clear hb3 HC HX
  go_wp2_with fail
  go_ret
  exact ⟨rfl, k_c1.trans (q_c4.mono k_c1.size)⟩
end Go.Proofs.YtlfccloaoopadagGreat.Round
