/-
  The developers' check, find and bodyHolds of package fire.
-/
import Derived.Test.YtlfccloaoopadafGreatDoorG26
import Derived.Test.YtlfccloaoopadafGreatDoorG2
import Derived.Test.YtlfccloaoopadafGreatDoorG24
import Derived.Test.YtlfccloaoopadafGreatDoorG27
import Derived.Test.YtlfccloaoopadafGreatDoorG14
namespace Go.Proofs.YtlfccloaoopadafGreatDoor.Fire
open Go.ChangeShapes Go.WideShapes Go.ChangeAt Go.RowKit
open Rule (Vars groundErr argAt groundTo groundOf kindOf isPred atomErr ruleErr ground_c)
open Base (place get findTo findOf factsErr Find_c Asks LitM litMAt litMsAt containsLit_c)
open Prog (progErr small slice_cells boxL boxO devCheck_c)

set_option maxRecDepth 100000 in
set_option maxHeartbeats 2000000 in
theorem check_c (w : World) (pv rv fv : Value) (ps : List Prd) (rs : List Rul) (f : List Fct) (n : Int) (hp : predsAt w pv ps) (hr : rulesAt w rv rs) (hf : factsAt w fv f) (hn : small ps) :
    Calls Tryz.prog 139 #[.agg #[pv, rv], fv, .int .i64 n] w fun e w' => e = .returned (.int .i64 (fireErr ps rs f n)) ∧ Below w.heap.size w w' := by
  have HP : Hid (∀ x, Below w.heap.size w x → predsAt x pv ps) := fun x hx => predsAt.lasts hx hp
  have HR : Hid (∀ x, Below w.heap.size w x → rulesAt x rv rs) := fun x hx => rulesAt.lasts hx hr
  have HF : Hid (∀ x, Below w.heap.size w x → factsAt x fv f) := fun x hx => factsAt.lasts hx hf
  obtain ⟨pa, pc, rfl, hpm, hpx⟩ := hp
  obtain ⟨ra, rc, rfl, hrm, hrx⟩ := hr
  obtain ⟨fa, fc, rfl, hfm, hfx⟩ := hf
  clear hpx hrx hfx
  by_cases hpe : progErr ps rs = 0
  · by_cases hfe : factsErr ps f = 0
    · have HE : Hid (fireErr ps rs f n = if 0 ≤ n ∧ n < (rs.length : Int) then 0 else 7) := by show _ = _; rw [fireErr, if_neg (by rw [hpe]; simp), if_neg (by rw [hfe]; simp)]
      go_enter Tryz.func139, Tryz.ntmps139
      go_wp2_with fail
      refine (devCheck_c _ _ _ ps rs (HP.out _ (below_alloc _ _)) (HR.out _ (below_alloc _ _)) hn).mono ?_
      rw [hpe]
      rintro e w1 ⟨rfl, hb1⟩
      have B1 := boxL hb1
      obtain ⟨c0, c1, _⟩ := id B1
      have k1 : Below w.heap.size w w1 := below_trans (below_alloc _ _) hb1
      clear hb1
      go_wp2_with fail
      refine (Base.check_c _ _ _ ps f (HP.out _ k1) (HF.out _ k1)).mono ?_
      rw [hfe]
      rintro e w2 ⟨rfl, hb2⟩
      have B2 := boxO hb2 B1
      have k2 : Below w.heap.size w w2 := k1.trans (hb2.mono k1.size)
      clear hb2 B1 c0 c1
      obtain ⟨c0, c1, _⟩ := id B2
      by_cases h0 : n < 0
      · have H : Hid (fireErr ps rs f n = 7) := by show _ = _; rw [HE.out, if_neg (by omega)]
        go_wp2_with fail
        go_ret
        exact ⟨by rw [H.out]; rfl, k2⟩
      · by_cases h1 : (rs.length : Int) ≤ n
        · have H : Hid (fireErr ps rs f n = 7) := by show _ = _; rw [HE.out, if_neg (by omega)]
          go_wp2_with fail
          go_ret
          exact ⟨by rw [H.out]; rfl, k2⟩
        · have H : Hid (fireErr ps rs f n = 0) := by show _ = _; rw [HE.out, if_pos (by omega)]
          go_wp2_with fail
          go_ret
          exact ⟨by rw [H.out]; rfl, k2⟩
    · rw [fire_facts hpe hfe]
      go_enter Tryz.func139, Tryz.ntmps139
      go_wp2_with fail
      refine (devCheck_c _ _ _ ps rs (HP.out _ (below_alloc _ _)) (HR.out _ (below_alloc _ _)) hn).mono ?_
      rw [hpe]
      rintro e w1 ⟨rfl, hb1⟩
      have B1 := boxL hb1
      obtain ⟨c0, c1, _⟩ := id B1
      have k1 : Below w.heap.size w w1 := below_trans (below_alloc _ _) hb1
      clear hb1
      go_wp2_with fail
      refine (Base.check_c _ _ _ ps f (HP.out _ k1) (HF.out _ k1)).mono ?_
      rintro e w2 ⟨rfl, hb2⟩
      go_wp2_with fail
      go_ret
      exact ⟨rfl, k1.trans (hb2.mono k1.size)⟩
  · rw [fire_prog hpe]
    go_enter Tryz.func139, Tryz.ntmps139
    go_wp2_with fail
    refine (devCheck_c _ _ _ ps rs (HP.out _ (below_alloc _ _)) (HR.out _ (below_alloc _ _)) hn).mono ?_
    rintro e w1 ⟨rfl, hb1⟩
    go_wp2_with fail
    go_ret
    exact ⟨rfl, below_trans (below_alloc _ _) hb1⟩

theorem find_eq {ps : List Prd} {f : List Fct} {a : Atm} {v : Vars} (hfe : factsErr ps f = 0) (ha : atomErr ps a = 0) (hv : consts v = true) : groundOf v a.pred a.args = atomF v a ∧ findOf ps f (atomF v a) = (findTo f (place (atomF v a)), (get f (place (atomF v a))).isSome, 0) := by
  obtain ⟨h1, h2⟩ := atom_ground (v := v) ha (Base.factsErr_zero hfe).2.1 hv
  exact ⟨by rw [groundOf, if_pos h1]; rfl, by rw [findOf, if_neg (by rw [hfe]; simp), if_neg (by rw [h2]; simp)]⟩

set_option maxRecDepth 100000 in
set_option maxHeartbeats 2000000 in
theorem find_c (w : World) (pv fv : Value) (ps : List Prd) (f : List Fct) (a : Atm) (sa : Option Addr) (sc : Nat) (v : Vars) (hp : predsAt w pv ps) (hf : factsAt w fv f) (hs : termsAt w (.slice sa a.args.length sc) a.args) (hfe : factsErr ps f = 0) (ha : atomErr ps a = 0) (hv : consts v = true) :
    Calls Tryz.prog 171 #[pv, fv, .agg #[.int .i64 a.pred, .slice sa a.args.length sc], .agg #[.int .i64 v.x, .int .i64 v.y, .int .i64 v.z]] w fun e w' => e = .returned (.tuple #[.int .i64 (findTo f (place (atomF v a))), .bool (get f (place (atomF v a))).isSome]) ∧ Below w.heap.size w w' := by
  have HP : Hid (∀ x, Below w.heap.size w x → predsAt x pv ps) := fun x hx => predsAt.lasts hx hp
  have HF : Hid (∀ x, Below w.heap.size w x → factsAt x fv f) := fun x hx => factsAt.lasts hx hf
  have HS : Hid (∀ x, Below w.heap.size w x → termsAt x (.slice sa a.args.length sc) a.args) := fun x hx => termsAt.lasts hx hs
  obtain ⟨e1, e2⟩ := find_eq (v := v) hfe ha hv
  obtain ⟨pa, pc, rfl, hpm, hpx⟩ := hp
  obtain ⟨fa, fc, rfl, hfm, hfx⟩ := hf
  clear hpx hfx hs
  have HG : Hid (∀ x, Below w.heap.size w x → Calls Tryz.prog 173 #[.agg #[.int .i64 a.pred, .slice sa a.args.length sc], .agg #[.int .i64 v.x, .int .i64 v.y, .int .i64 v.z]] x fun e w' => (∃ er, e = .returned (.tuple #[.agg #[.int .i64 (atomF v a).pred, .int .i64 (atomF v a).a, .int .i64 (atomF v a).b, .int .i64 (atomF v a).val], .int .i64 er])) ∧ Below x.heap.size x w') := fun x hx => by
    have := ground_c x _ a.pred a.args v (HS.out _ hx)
    rw [e1] at this
    exact this.mono fun e w' ⟨h1, h2⟩ => ⟨⟨_, h1⟩, h2⟩
  have HFI : Hid (∀ x, Below w.heap.size w x → Calls Tryz.prog 194 #[.slice pa ps.length pc, .slice fa f.length fc, .agg #[.int .i64 (atomF v a).pred, .int .i64 (atomF v a).a, .int .i64 (atomF v a).b, .int .i64 (atomF v a).val]] x fun e w' => e = .returned (.tuple #[.int .i64 (findTo f (place (atomF v a))), .bool (get f (place (atomF v a))).isSome, .int .i64 0]) ∧ Below x.heap.size x w') := fun x hx => by
    have := Find_c x _ _ ps f (atomF v a).pred (atomF v a).a (atomF v a).b (atomF v a).val (HP.out _ hx) (HF.out _ hx)
    rw [show (⟨(atomF v a).pred, (atomF v a).a, (atomF v a).b, (atomF v a).val⟩ : Fct) = atomF v a from rfl, e2] at this
    exact this
  clear e1 e2
  generalize findTo f (place (atomF v a)) = fo at *
  generalize (get f (place (atomF v a))).isSome = fb at *
  generalize atomF v a = X at *
  go_enter Tryz.func171, Tryz.ntmps171
  go_wp2_with fail
  refine (HG.out _ (((Below.refl _ _).alloc (Nat.le_refl _) _).alloc (by simp) _)).mono ?_
  rintro e w1 ⟨⟨er, rfl⟩, hb1⟩
  have k1 : Below w.heap.size w w1 := (((Below.refl _ _).alloc (Nat.le_refl _) _).alloc (by simp) _).trans (hb1.mono (by simp; omega))
  clear hb1
  go_wp2_with fail
  refine (HFI.out _ (k1.alloc k1.size _)).mono ?_
  rintro e w2 ⟨rfl, hb2⟩
  go_wp2_with fail
  go_ret2
  exact ⟨rfl, (k1.alloc k1.size _).trans (hb2.mono (by have := k1.size; simp; omega))⟩

/-- literals in memory, each with the place of its arguments -/
theorem litMs_of {w : World} {v : Value} {ls : List Ltr} (h : litsAt w v ls) : ∃ xs : List LitM, litMsAt w v xs ∧ xs.map LitM.l = ls ∧ ∀ x ∈ xs, x.n = x.l.atom.args.length ∧ termsAt w (.slice x.a x.l.atom.args.length x.c) x.l.atom.args := by
  obtain ⟨a, cap, hv, hm, hx⟩ := h
  rcases hx with rfl | ⟨b, off, ha, hb, hx⟩
  · exact ⟨[], ⟨a, cap, hv, hm, .inl rfl⟩, rfl, fun x hx => by cases hx⟩
  · have hex : ∀ i : Fin ls.length, ∃ x : LitM, x.l = ls[i] ∧ litMAt w b (off + i.1 * 3) x ∧ x.n = x.l.atom.args.length ∧ termsAt w (.slice x.a x.l.atom.args.length x.c) x.l.atom.args := fun i => by
      obtain ⟨h0, h1, av, h2, h3⟩ := hx i.1 ls[i] (List.getElem?_eq_getElem i.2)
      have h3' := h3
      obtain ⟨aa, ac, rfl, _⟩ := h3'
      exact ⟨⟨ls[i], aa, ls[i].atom.args.length, ac⟩, rfl, ⟨h0, h1, h2⟩, rfl, h3⟩
    have hc := fun i => Classical.choose_spec (hex i)
    refine ⟨List.ofFn fun i => Classical.choose (hex i), ⟨a, cap, by rw [List.length_ofFn]; exact hv, by rw [List.length_ofFn]; exact hm, .inr ⟨b, off, ha, hb, fun i x hi => ?_⟩⟩, ?_, fun x hx => ?_⟩
    · have hlt : i < ls.length := by have := (List.getElem?_eq_some_iff.1 hi).1; rwa [List.length_ofFn] at this
      rw [List.getElem?_ofFn, dif_pos hlt] at hi
      rw [← Option.some.inj hi]
      exact (hc ⟨i, hlt⟩).2.1
    · apply List.ext_getElem
      · rw [List.length_map, List.length_ofFn]
      · intro i h1 h2
        rw [List.getElem_map, List.getElem_ofFn]
        exact (hc ⟨i, h2⟩).1
    · obtain ⟨i, rfl⟩ := (List.mem_ofFn).1 hx
      exact (hc i).2.2
end Go.Proofs.YtlfccloaoopadafGreatDoor.Fire

/-
  The developers' bodyHolds, headFact and Holds of package fire.
-/
namespace Go.Proofs.YtlfccloaoopadafGreatDoor.Fire
open Go.ChangeShapes Go.WideShapes Go.ChangeAt Go.RowKit
open Rule (Vars groundErr argAt groundTo groundOf kindOf isPred atomErr ruleErr ground_c)
open Base (place get findTo findOf factsErr Asks LitM litMAt litMsAt containsLit_c)
open Prog (progErr small slice_cells)

def fails (f : List Fct) (v : Vars) (l : Ltr) : Bool := there f v l == l.neg
theorem any_fails (f : List Fct) (v : Vars) (ls : List Ltr) : ls.any (fails f v) = !bodyOk f v ls := by
  induction ls with
  | nil => rfl
  | cons l ls ih =>
    rw [List.any_cons, ih]
    show (fails f v l || !(ls.all (litOk f v))) = !(litOk f v l && ls.all (litOk f v))
    rw [fails, litOk]
    cases there f v l <;> cases l.neg <;> simp

set_option maxRecDepth 100000 in
set_option maxHeartbeats 2000000 in
theorem bodyHolds1_c (w : World) (bl bf bv : Nat) (pv fv : Value) (ps : List Prd) (f : List Fct) (v : Vars) (x : LitM) (hp : predsAt w pv ps) (hf : factsAt w fv f) (hfe : factsErr ps f = 0) (hv : consts v = true) (ha : atomErr ps x.l.atom = 0) (hx : x.n = x.l.atom.args.length) (ht : termsAt w (.slice x.a x.l.atom.args.length x.c) x.l.atom.args)
    (h1 : w.cell? ⟨bl, 0, none⟩ = some pv) (h2 : w.cell? ⟨bf, 0, none⟩ = some fv) (h3 : w.cell? ⟨bv, 0, none⟩ = some (.int .i64 v.x)) (h4 : w.cell? ⟨bv, 1, none⟩ = some (.int .i64 v.y)) (h5 : w.cell? ⟨bv, 2, none⟩ = some (.int .i64 v.z)) (i1 : bl < w.heap.size) (i2 : bf < w.heap.size) (i3 : bv < w.heap.size) :
    Calls Tryz.prog 170 #[x.v, .pointer (some ⟨bl, 0, none⟩), .pointer (some ⟨bf, 0, none⟩), .pointer (some ⟨bv, 0, none⟩)] w fun e w' => e = .returned (.bool (fails f v x.l)) ∧ Below w.heap.size w w' := by
  obtain ⟨l, xa, xn, xc⟩ := x
  dsimp only at hx ha ht
  subst hx
  rw [LitM.v]
  dsimp only
  have HF : Hid (∀ y, Below w.heap.size w y → Calls Tryz.prog 171 #[pv, fv, .agg #[.int .i64 l.atom.pred, .slice xa l.atom.args.length xc], .agg #[.int .i64 v.x, .int .i64 v.y, .int .i64 v.z]] y fun e w' => e = .returned (.tuple #[.int .i64 (findTo f (place (atomF v l.atom))), .bool (there f v l)]) ∧ Below y.heap.size y w') := fun y hy => find_c y pv fv ps f l.atom xa xc v (predsAt.lasts hy hp) (factsAt.lasts hy hf) (termsAt.lasts hy ht) hfe ha hv
  obtain ⟨pa, pc, rfl, _⟩ := hp
  obtain ⟨fa, fc, rfl, _⟩ := hf
  clear ht hfe ha hv
  rw [fails]
  have g1 := fun o => (cell_lasts (o := 0) (below_alloc w o) i1).trans h1
  have g2 := fun o => (cell_lasts (o := 0) (below_alloc w o) i2).trans h2
  have g3 := fun o => (cell_lasts (o := 0) (below_alloc w o) i3).trans h3
  have g4 := fun o => (cell_lasts (o := 1) (below_alloc w o) i3).trans h4
  have g5 := fun o => (cell_lasts (o := 2) (below_alloc w o) i3).trans h5
  generalize findTo f (place (atomF v l.atom)) = fo at *
  generalize there f v l = th at *
  go_enter Tryz.func170, Tryz.ntmps170
  go_wp2_with fail
  refine (HF.out _ (below_alloc _ _)).mono ?_
  rintro e w1 ⟨rfl, hb1⟩
  have c0 : w1.cell? ⟨w.heap.size, 0, none⟩ = some (.bool l.neg) := by rw [hb1.cell (p := ⟨w.heap.size, 0, none⟩) (by simp)]; simp [go_sem]
  have k1 : Below w.heap.size w w1 := below_trans (below_alloc _ _) hb1
  clear hb1
  go_wp2_with fail
  go_ret
  exact ⟨rfl, k1⟩

set_option maxRecDepth 100000 in
set_option maxHeartbeats 2000000 in
theorem bodyHolds_c (w : World) (pv fv bv : Value) (ps : List Prd) (f : List Fct) (ls : List Ltr) (v : Vars) (hp : predsAt w pv ps) (hf : factsAt w fv f) (hb : litsAt w bv ls) (hfe : factsErr ps f = 0) (hv : consts v = true) (ha : ∀ l ∈ ls, atomErr ps l.atom = 0) :
    Calls Tryz.prog 146 #[pv, fv, bv, .agg #[.int .i64 v.x, .int .i64 v.y, .int .i64 v.z]] w fun e w' => e = .returned (.bool (bodyOk f v ls)) ∧ Below w.heap.size w w' := by
  obtain ⟨xs, hxs, hmap, hxt⟩ := litMs_of hb
  have HW : Hid (∀ o1 o2 o3, Below w.heap.size w (((w.alloc o1).alloc o2).alloc o3)) := fun _ _ _ => (((Below.refl _ _).alloc (Nat.le_refl _) _).alloc (by simp) _).alloc (by simp; omega) _
  obtain ⟨W1, hW1⟩ : ∃ W1, ((w.alloc (.cells #[pv] 22)).alloc (.cells #[fv] 38)).alloc (.cells #[.int .i64 v.x, .int .i64 v.y, .int .i64 v.z] 158) = W1 := ⟨_, rfl⟩
  have b1 : Below w.heap.size w W1 := by rw [← hW1]; exact HW.out _ _ _
  have s1 : W1.heap.size = w.heap.size + 3 := by rw [← hW1]; simp
  have q1 : W1.cell? ⟨w.heap.size, 0, none⟩ = some pv := by rw [← hW1]; simp [go_sem]
  have q2 : W1.cell? ⟨w.heap.size + 1, 0, none⟩ = some fv := by rw [← hW1]; simp [go_sem]
  have q3 : W1.cell? ⟨w.heap.size + 1 + 1, 0, none⟩ = some (.int .i64 v.x) := by rw [← hW1]; simp [go_sem]
  have q4 : W1.cell? ⟨w.heap.size + 1 + 1, 1, none⟩ = some (.int .i64 v.y) := by rw [← hW1]; simp [go_sem]
  have q5 : W1.cell? ⟨w.heap.size + 1 + 1, 2, none⟩ = some (.int .i64 v.z) := by rw [← hW1]; simp [go_sem]
  have hlast : sliceAt 3 litMAt W1 bv xs := by
    refine sliceAt.lasts (fun w w' b o x hb hlt h => ?_) b1 hxs
    exact ⟨(cell_lasts hb hlt).trans h.1, (cell_lasts hb hlt).trans h.2.1, (cell_lasts hb hlt).trans h.2.2⟩
  have HC : Hid (Calls Tryz.prog 172 #[bv, .func (.func 170) #[] #[.pointer (some ⟨w.heap.size, 0, none⟩), .pointer (some ⟨w.heap.size + 1, 0, none⟩), .pointer (some ⟨w.heap.size + 1 + 1, 0, none⟩)]] W1 fun e w' => e = .returned (.bool (!bodyOk f v ls)) ∧ Below W1.heap.size W1 w') := by
    have e : xs.any (fun x => fails f v x.l) = !bodyOk f v ls := by
      rw [← any_fails, ← hmap, List.any_map]
      rfl
    rw [← e]
    refine containsLit_c W1 bv xs _ _ (enters_of Tryz.func170 (by kernel_rfl) rfl) _ hlast (fun w1 x hx hm => ?_)
    have hb0 : Below w.heap.size w w1 := b1.trans (hx.mono b1.size)
    exact bodyHolds1_c w1 _ _ _ pv fv ps f v x (predsAt.lasts hb0 hp) (factsAt.lasts hb0 hf) hfe hv (ha _ (hmap ▸ List.mem_map_of_mem hm)) (hxt x hm).1 (termsAt.lasts hb0 (hxt x hm).2)
      ((cell_lasts hx (by omega)).trans q1) ((cell_lasts hx (by omega)).trans q2) ((cell_lasts hx (by omega)).trans q3) ((cell_lasts hx (by omega)).trans q4) ((cell_lasts hx (by omega)).trans q5) (by have := hx.size; omega) (by have := hx.size; omega) (by have := hx.size; omega)
  obtain ⟨pa, pc, rfl, _⟩ := hp
  obtain ⟨fa, fc, rfl, _⟩ := hf
  obtain ⟨ba, bc, rfl, _⟩ := hb
  clear hxs hxt hmap hlast q1 q2 q3 q4 q5 hfe hv ha
  go_enter Tryz.func146, Tryz.ntmps146
  go_wp2_with fail
  refine HC.out.mono ?_
  rintro e w2 ⟨rfl, hb2⟩
  go_wp2_with fail
  go_ret
  exact ⟨by simp, b1.trans (hb2.mono b1.size)⟩
end Go.Proofs.YtlfccloaoopadafGreatDoor.Fire

/-
  The developers' headFact of package fire.
-/
namespace Go.Proofs.YtlfccloaoopadafGreatDoor.Fire
open Go.ChangeShapes Go.WideShapes Go.ChangeAt Go.RowKit
open Lat (within lift liftOf err err2 Lift_c)
open Rule (Vars groundErr argAt groundTo groundOf kindOf isPred atomErr ruleErr ground_c)
open Base (place get findTo findOf factsErr factsErr_zero predsOk)
open Prog (progErr small slice_cells)

theorem rule_kind {ps : List Prd} {r : Rul} (h : ruleErr ps r = 0) (hs : 0 ≤ r.src) : kindOf ps r.head.pred ≠ 0 := by
  rw [ruleErr] at h
  split at h
  · contradiction
  · split at h
    · contradiction
    · split at h
      · contradiction
      · split at h
        · contradiction
        · unfold Rule.valueErr at h
          split at h
          · contradiction
          · split at h
            · contradiction
            · rename_i h4
              intro e
              exact h4 ⟨e, .inl (by omega)⟩
theorem err_in {k v : Int} (hk : k = 1 ∨ k = 2 ∨ k = 3) (h0 : 0 ≤ v) (h1 : v ≤ 15) : err k v = 0 := by
  unfold err Lat.most
  rw [if_neg (by omega), if_neg (by rw [if_neg (show ¬ k = 0 by omega)]; omega)]
theorem lift_eq {k a b : Int} (hk : k = 1 ∨ k = 2 ∨ k = 3) (ha : 0 ≤ a) (ha' : a ≤ 15) (hb : 0 ≤ b) (hb' : b ≤ 15) : liftOf k a b = lift k a b := by
  rw [liftOf, if_pos (by rw [err2, if_pos (err_in hk ha ha'), err_in hk hb hb'])]
theorem head_plain {ps : List Prd} {f : List Fct} {r : Rul} {v : Vars} (h : ¬ 0 ≤ r.src) : valTo ps f r v r.body.length = r.n := by unfold valTo; rw [if_neg (by omega)]
theorem head_from {ps : List Prd} {f : List Fct} {r : Rul} {v : Vars} {k : Nat} (hk : k < r.body.length) (h : r.src = (k : Int)) : valTo ps f r v r.body.length = lift (kindOf ps r.head.pred) (findTo f (place (atomF v r.body[k].atom))) r.n := by
  unfold valTo
  rw [if_pos (by omega), valueAt, h, Int.toNat_natCast, List.getElem?_eq_getElem hk]
  rfl

set_option maxRecDepth 100000 in
set_option maxHeartbeats 1500000 in
theorem headFact_c (w : World) (pv fv : Value) (ps : List Prd) (f : List Fct) (r : Rul) (ha : Option Addr) (hc : Nat) (bv : Value) (v : Vars) (hp : predsAt w pv ps) (hf : factsAt w fv f) (hh : termsAt w (.slice ha r.head.args.length hc) r.head.args) (hb : litsAt w bv r.body) (hr : ruleErr ps r = 0) (hfe : factsErr ps f = 0) (hv : consts v = true) :
    Calls Tryz.prog 147 #[pv, fv, .agg #[.int .i64 r.head.pred, .slice ha r.head.args.length hc, .int .i64 r.src, .int .i64 r.n, bv], .agg #[.int .i64 v.x, .int .i64 v.y, .int .i64 v.z]] w fun e w' => e = .returned (.agg #[.int .i64 (headF ps f r v).pred, .int .i64 (headF ps f r v).a, .int .i64 (headF ps f r v).b, .int .i64 (headF ps f r v).val]) ∧ Below w.heap.size w w' := by
  have HP : Hid (∀ x, Below w.heap.size w x → predsAt x pv ps) := fun x hx => predsAt.lasts hx hp
  have HF : Hid (∀ x, Below w.heap.size w x → factsAt x fv f) := fun x hx => factsAt.lasts hx hf
  have HLIT : Hid (litsAt w bv r.body) := hb
  have HHT : Hid (∀ x, Below w.heap.size w x → termsAt x (.slice ha r.head.args.length hc) r.head.args) := fun x hx => termsAt.lasts hx hh
  obtain ⟨z5, zp, _⟩ := factsErr_zero hfe
  obtain ⟨p1, p2, p3, p4, p5, p6, p7⟩ := rule_parts hr
  have HAT : Hid (∀ l ∈ r.body, atomErr ps l.atom = 0) := p2
  have HFE : Hid (factsErr ps f = 0) := hfe
  have HV : Hid (consts v = true) := hv
  have HKD : Hid (0 ≤ r.src → kindOf ps r.head.pred = 1 ∨ kindOf ps r.head.pred = 2 ∨ kindOf ps r.head.pred = 3) := fun h => by
    have h1 := rule_kind hr h
    have h2 := kind_small zp (Rule.atom_right p1).1
    omega
  have hpr := Prog.pred_there p1
  obtain ⟨eh, heh⟩ : ∃ eh : Nat, r.head.pred = (eh : Int) := ⟨_, hpr.2⟩
  have hehn : eh < ps.length := by have := hpr.1; rw [heh] at this; simpa using this
  have e1 := (find_eq (v := v) hfe p1 hv).1
  have HG : Hid (∀ x, Below w.heap.size w x → Calls Tryz.prog 173 #[.agg #[.int .i64 r.head.pred, .slice ha r.head.args.length hc], .agg #[.int .i64 v.x, .int .i64 v.y, .int .i64 v.z]] x fun e w' => (∃ er, e = .returned (.tuple #[.agg #[.int .i64 r.head.pred, .int .i64 (argAt v r.head.args 0), .int .i64 (argAt v r.head.args 1), .int .i64 0], .int .i64 er])) ∧ Below x.heap.size x w') := fun x hx => by
    have := ground_c x _ r.head.pred r.head.args v (HHT.out _ hx)
    rw [e1] at this
    exact this.mono fun e w' ⟨h1, h2⟩ => ⟨⟨_, h1⟩, h2⟩
  obtain ⟨pa, pc, rfl, _⟩ := hp
  obtain ⟨fa, fc, rfl, _⟩ := hf
  obtain ⟨ba, bc, rfl, _⟩ := hb
  have HH : Hid (headF ps f r v = ⟨r.head.pred, argAt v r.head.args 0, argAt v r.head.args 1, valTo ps f r v r.body.length⟩) := rfl
  have HEH : Hid (r.head.pred = (eh : Int)) := heh
  clear heh hpr e1 p1 p2 hfe hv hr hh zp HHT
  go_enter Tryz.func147, Tryz.ntmps147
  go_wp2_with fail
  obtain ⟨W1, hW1⟩ : ∃ W1, ((w.alloc (.cells #[.int .i64 r.head.pred, .slice ha r.head.args.length hc, .int .i64 r.src, .int .i64 r.n, .slice ba r.body.length bc] 54)).alloc (.cells #[.int .i64 v.x, .int .i64 v.y, .int .i64 v.z] 158)).alloc (.cells #[.int .i64 0, .int .i64 0, .int .i64 0, .int .i64 0] 82) = W1 := ⟨_, rfl⟩
  have b1 : Below w.heap.size w W1 := by rw [← hW1]; exact (((Below.refl _ _).alloc (Nat.le_refl _) _).alloc (by simp) _).alloc (by simp; omega) _
  have s1 : W1.heap.size = w.heap.size + 3 := by rw [← hW1]; simp
  have q2 : W1.cell? ⟨w.heap.size, 2, none⟩ = some (.int .i64 r.src) := by rw [← hW1]; simp [go_sem]
  have q3 : W1.cell? ⟨w.heap.size, 3, none⟩ = some (.int .i64 r.n) := by rw [← hW1]; simp [go_sem]
  have q4 : W1.cell? ⟨w.heap.size, 4, none⟩ = some (.slice ba r.body.length bc) := by rw [← hW1]; simp [go_sem]
  have v0 : W1.cell? ⟨w.heap.size + 1, 0, none⟩ = some (.int .i64 v.x) := by rw [← hW1]; simp [go_sem]
  have v1 : W1.cell? ⟨w.heap.size + 1, 1, none⟩ = some (.int .i64 v.y) := by rw [← hW1]; simp [go_sem]
  have v2 : W1.cell? ⟨w.heap.size + 1, 2, none⟩ = some (.int .i64 v.z) := by rw [← hW1]; simp [go_sem]
  have q7 : ∀ o, o < 4 → W1.cell? ⟨w.heap.size + 1 + 1, o, none⟩ = some (.int .i64 0) ∧ W1.frozen? ⟨w.heap.size + 1 + 1, o, none⟩ = false := by
    intro o ho
    rw [← hW1]
    obtain rfl | rfl | rfl | rfl : o = 0 ∨ o = 1 ∨ o = 2 ∨ o = 3 := by omega
    all_goals simp [go_sem]
  rw [hW1]
  clear hW1
  obtain ⟨BF, hBF⟩ : ∃ BF, w.heap.size + 1 + 1 = BF := ⟨_, rfl⟩
  obtain ⟨BV, hBV⟩ : ∃ BV, w.heap.size + 1 = BV := ⟨_, rfl⟩
  rw [hBF] at q7
  rw [hBV] at v0 v1 v2
  have jBF : w.heap.size ≤ BF := by omega
  have iBF : BF < W1.heap.size := by omega
  have iBV : BV < W1.heap.size := by omega
  have iBR : w.heap.size < W1.heap.size := by omega
  rw [hBF, hBV]
  clear hBF hBV s1
  refine (HG.out W1 b1).mono ?_
  rintro e w2 ⟨⟨er, rfl⟩, hb2⟩
  have k2 : Below w.heap.size w w2 := b1.trans (hb2.mono b1.size)
  have n2 := hb2.size
  have g3 := fun o => (cell_lasts (o := 3) (below_alloc w2 o) (show w.heap.size < w2.heap.size by omega)).trans ((cell_lasts hb2 iBR).trans q3)
  have g2 := fun o => (cell_lasts (o := 2) (below_alloc w2 o) (show w.heap.size < w2.heap.size by omega)).trans ((cell_lasts hb2 iBR).trans q2)
  by_cases hsr : 0 ≤ r.src
  · obtain ⟨k, hks⟩ : ∃ k : Nat, r.src = (k : Int) := ⟨r.src.toNat, by omega⟩
    have hkl : k < r.body.length := by omega
    have hsr' : (0 : Int) ≤ r.src := hsr
    have HSK : Hid (r.src = (k : Int)) := hks
    have H : Hid (valTo ps f r v r.body.length = lift (kindOf ps r.head.pred) (findTo f (place (atomF v r.body[k].atom))) r.n) := head_from hkl hks
    obtain ⟨lb, lo, lc', hlv, hlb, hcells⟩ := slice_cells HLIT.out hkl
    obtain ⟨rfl, rfl⟩ : ba = some ⟨lb, lo, none⟩ ∧ bc = lc' := by simpa using hlv
    obtain ⟨_, l1, av, l2, l3⟩ := hcells
    have l3' := l3
    obtain ⟨aa, ac, rfl, _⟩ := l3'
    have HFI : Hid (∀ x, Below w.heap.size w x → Calls Tryz.prog 171 #[.slice pa ps.length pc, .slice fa f.length fc, .agg #[.int .i64 r.body[k].atom.pred, .slice aa r.body[k].atom.args.length ac], .agg #[.int .i64 v.x, .int .i64 v.y, .int .i64 v.z]] x fun e w' => e = .returned (.tuple #[.int .i64 (findTo f (place (atomF v r.body[k].atom))), .bool (get f (place (atomF v r.body[k].atom))).isSome]) ∧ Below x.heap.size x w') := fun x hx => find_c x _ _ ps f r.body[k].atom aa ac v (HP.out _ hx) (HF.out _ hx) (termsAt.lasts hx l3) HFE.out (HAT.out _ (List.getElem_mem hkl)) HV.out
    have hf15 := find_range HFE.out (place (atomF v r.body[k].atom))
    have HLI : Hid (∀ x : World, Calls Tryz.prog 174 #[.int .i64 (kindOf ps r.head.pred), .int .i64 (findTo f (place (atomF v r.body[k].atom))), .int .i64 r.n] x fun e w' => (∃ er, e = .returned (.tuple #[.int .i64 (valTo ps f r v r.body.length), .int .i64 er])) ∧ Below x.heap.size x w') := fun x => by
      rw [H.out, ← lift_eq (HKD.out hsr) hf15.1 hf15.2 p5 p6]
      exact (Lift_c _ _ _ x).mono fun e w' ⟨h1, h2⟩ => ⟨⟨_, h1⟩, h2⟩
    clear hlv l3 hks H hf15
    generalize findTo f (place (atomF v r.body[k].atom)) = fo at *
    generalize (get f (place (atomF v r.body[k].atom))).isSome = fb at *
    generalize r.body[k].atom.args.length = an at *
    generalize r.body[k].atom.pred = ap at *
    go_wp2_with fail
    refine wp_put (fun W3 => Below w2.heap.size w2 W3 ∧ w2.heap.size < W3.heap.size ∧ W3.cell? ⟨w2.heap.size, 0, none⟩ = some (.int .i64 r.head.pred) ∧ W3.cell? ⟨w2.heap.size, 1, none⟩ = some (.int .i64 (argAt v r.head.args 0)) ∧ W3.cell? ⟨w2.heap.size, 2, none⟩ = some (.int .i64 (argAt v r.head.args 1)) ∧ W3.cell? ⟨w2.heap.size, 3, none⟩ = some (.int .i64 r.n) ∧ W3.frozen? ⟨w2.heap.size, 3, none⟩ = false) ⟨below_alloc _ _, by simp, by simp [go_sem], by simp [go_sem], by simp [go_sem], by simp [go_sem], by simp [go_sem]⟩ ?_
    rintro W3 ⟨hb3, s3, x0, x1, x2, x3, x3f⟩
    clear g2 g3
    have hb13 : Below W1.heap.size W1 W3 := below_trans hb2 hb3
    have k3 : Below w.heap.size w W3 := b1.trans (hb13.mono b1.size)
    have n3 := hb13.size
    have htn : r.src.toNat = k := by rw [HSK.out, Int.toNat_natCast]
    have m1 : W3.cell? ⟨lb, lo + r.src.toNat * 3 + 1, none⟩ = some (.int .i64 ap) := by rw [htn]; exact (cell_lasts k3 hlb).trans l1
    have m2 : W3.cell? ⟨lb, lo + r.src.toNat * 3 + 2, none⟩ = some (.slice aa an ac) := by rw [htn]; exact (cell_lasts k3 hlb).trans l2
    have hlb3 : lb < W3.heap.size := Nat.lt_of_lt_of_le hlb k3.size
    have hsl : r.src < (r.body.length : Int) := p4
    have L0 : ∀ x : Low W3.heap.size W3, x.wd.cell? ⟨w.heap.size, 4, none⟩ = some (.slice (some ⟨lb, lo, none⟩) r.body.length bc) := fun x => (cell_lasts (below_trans hb13 x.low) iBR).trans q4
    have L1 : ∀ x : Low W3.heap.size W3, x.wd.cell? ⟨w.heap.size, 2, none⟩ = some (.int .i64 r.src) := fun x => (cell_lasts (below_trans hb13 x.low) iBR).trans q2
    have L2 : ∀ x : Low W3.heap.size W3, x.wd.cell? ⟨lb, lo + r.src.toNat * 3 + 1, none⟩ = some (.int .i64 ap) := fun x => (cell_lasts x.low hlb3).trans m1
    have L3 : ∀ x : Low W3.heap.size W3, x.wd.cell? ⟨lb, lo + r.src.toNat * 3 + 2, none⟩ = some (.slice aa an ac) := fun x => (cell_lasts x.low hlb3).trans m2
    have L4 : ∀ x : Low W3.heap.size W3, x.wd.cell? ⟨BV, 0, none⟩ = some (.int .i64 v.x) := fun x => (cell_lasts (below_trans hb13 x.low) iBV).trans v0
    have L5 : ∀ x : Low W3.heap.size W3, x.wd.cell? ⟨BV, 1, none⟩ = some (.int .i64 v.y) := fun x => (cell_lasts (below_trans hb13 x.low) iBV).trans v1
    have L6 : ∀ x : Low W3.heap.size W3, x.wd.cell? ⟨BV, 2, none⟩ = some (.int .i64 v.z) := fun x => (cell_lasts (below_trans hb13 x.low) iBV).trans v2
    clear htn
    refine wp_region_low W3.heap.size (by kernel_rfl) (by kernel_rfl) ?_
    repeat (go_big_quiet_step (first | (go_at_call 171; exact low_of (HFI.out _ (k3.trans ((Low.low _).mono k3.size))))))
    refine wpQuiet_nil ?_
    rintro w4 ⟨⟨_, hb4⟩, rfl⟩
    clear L0 L1 L2 L3 L4 L5 L6 m1 m2 l1 l2
    have hb14 : Below W1.heap.size W1 w4 := below_trans hb13 hb4
    have k4 : Below w.heap.size w w4 := b1.trans (hb14.mono b1.size)
    have y0 := (cell_lasts hb4 s3).trans x0
    have y1 := (cell_lasts hb4 s3).trans x1
    have y2 := (cell_lasts hb4 s3).trans x2
    have y3 := (cell_lasts hb4 s3).trans x3
    have y3f := (hb4.frozen (p := ⟨w2.heap.size, 3, none⟩) s3).trans x3f
    have s4 : w2.heap.size < w4.heap.size := Nat.lt_of_lt_of_le s3 hb4.size
    have i3 := (cell_lasts hb14 iBR).trans q3
    obtain ⟨pb, po, pc', hpv, hpb, hpc⟩ := slice_cells (HP.out _ (Below.refl _ _)) hehn
    obtain ⟨rfl, rfl⟩ : pa = some ⟨pb, po, none⟩ ∧ pc = pc' := by simpa using hpv
    have hpt : r.head.pred.toNat = eh := by rw [HEH.out, Int.toNat_natCast]
    have pk : w4.cell? ⟨pb, po + r.head.pred.toNat * 3 + 2, none⟩ = some (.int .i64 (kindOf ps r.head.pred)) := by
      rw [hpt, cell_lasts k4 hpb, hpc.2.2, kindOf, hpt, List.getElem?_eq_getElem hehn]
      rfl
    have hp0 : (0 : Int) ≤ r.head.pred := by rw [HEH.out]; omega
    have hp1 : r.head.pred < (ps.length : Int) := by rw [HEH.out]; omega
    clear hpv hpc hpt x0 x1 x2 x3 x3f
    have KEEP : Hid (∀ x, Below w4.heap.size w4 x → (fun w' => w'.cell? ⟨w2.heap.size, 0, none⟩ = some (.int .i64 r.head.pred) ∧ w'.cell? ⟨pb, po + r.head.pred.toNat * 3 + 2, none⟩ = some (.int .i64 (kindOf ps r.head.pred)) ∧ w'.cell? ⟨w.heap.size, 3, none⟩ = some (.int .i64 r.n)) x) := fun x hx => ⟨(cell_lasts hx s4).trans y0, (cell_lasts hx (by have := k4.size; omega)).trans pk, (cell_lasts hx (by have := hb14.size; omega)).trans i3⟩
    have KEEP2 : Hid (∀ x, Below w4.heap.size w4 x → ∀ u, (fun w' => w'.cell? ⟨w2.heap.size, 0, none⟩ = some (.int .i64 r.head.pred) ∧ w'.cell? ⟨pb, po + r.head.pred.toNat * 3 + 2, none⟩ = some (.int .i64 (kindOf ps r.head.pred)) ∧ w'.cell? ⟨w.heap.size, 3, none⟩ = some (.int .i64 r.n)) (x.setCell ⟨w2.heap.size, 3, none⟩ u)) := fun x hx u => ⟨(cell_off (by omega)).trans (KEEP.out x hx).1, (cell_block (by omega)).trans (KEEP.out x hx).2.1, (cell_block (by omega)).trans (KEEP.out x hx).2.2⟩
    have KX3 : Hid (∀ x, Below w4.heap.size w4 x → x.cell? ⟨w2.heap.size, 3, none⟩ = some (.int .i64 r.n) ∧ x.frozen? ⟨w2.heap.size, 3, none⟩ = false) := fun x hx => ⟨(cell_lasts hx s4).trans y3, (hx.frozen (p := ⟨w2.heap.size, 3, none⟩) s4).trans y3f⟩
    go_wp2_with fail
    go_region_held3 (fun w' => w'.cell? ⟨w2.heap.size, 0, none⟩ = some (.int .i64 r.head.pred) ∧ w'.cell? ⟨pb, po + r.head.pred.toNat * 3 + 2, none⟩ = some (.int .i64 (kindOf ps r.head.pred)) ∧ w'.cell? ⟨w.heap.size, 3, none⟩ = some (.int .i64 r.n))
      (first | (refine KEEP.out _ ?_; (first | exact Below.refl _ _ | exact (Below.refl _ _).drew | exact hk)) | exact KEEP2.out _ hk _)
      (first | (go_at_call 174; refine (HLI.out _).mono ?_; rintro e w5 ⟨⟨er2, rfl⟩, hb5⟩; have hk : Below w4.heap.size w4 w5 := ((Below.refl _ _).drew).trans hb5; have z3 := (KX3.out _ hk).1; have z3f := (KX3.out _ hk).2))
    have hb15 : Below W1.heap.size W1 w5 := below_trans hb14 hk
    have k5 : Below w.heap.size w w5 := b1.trans (hb15.mono b1.size)
    have s5 : w2.heap.size < w5.heap.size := Nat.lt_of_lt_of_le s4 hk.size
    obtain ⟨W6, hW6⟩ : ∃ W6, w5.setCell ⟨w2.heap.size, 3, none⟩ (.int .i64 (valTo ps f r v r.body.length)) = W6 := ⟨_, rfl⟩
    have k6 : Below w.heap.size w W6 := by rw [← hW6]; exact k5.setCell (p := ⟨w2.heap.size, 3, none⟩) (show w.heap.size ≤ w2.heap.size by omega) _
    have u0 : W6.cell? ⟨w2.heap.size, 0, none⟩ = some (.int .i64 r.head.pred) := by rw [← hW6]; exact (cell_off (by omega)).trans ((cell_lasts hk s4).trans y0)
    have u1 : W6.cell? ⟨w2.heap.size, 1, none⟩ = some (.int .i64 (argAt v r.head.args 0)) := by rw [← hW6]; exact (cell_off (by omega)).trans ((cell_lasts hk s4).trans y1)
    have u2 : W6.cell? ⟨w2.heap.size, 2, none⟩ = some (.int .i64 (argAt v r.head.args 1)) := by rw [← hW6]; exact (cell_off (by omega)).trans ((cell_lasts hk s4).trans y2)
    have u3 : W6.cell? ⟨w2.heap.size, 3, none⟩ = some (.int .i64 (valTo ps f r v r.body.length)) := by rw [← hW6]; exact cell_set z3
    have R6 : ∀ j, j < 4 → W6.cell? ⟨BF, j, none⟩ = some (.int .i64 0) ∧ W6.frozen? ⟨BF, j, none⟩ = false := fun j hj => by
      rw [← hW6]
      exact ⟨(cell_block (by omega)).trans ((cell_lasts hb15 iBF).trans (q7 j hj).1), frozen_set.trans ((hb15.frozen (p := ⟨BF, j, none⟩) iBF).trans (q7 j hj).2)⟩
    obtain ⟨r0, f0⟩ := R6 0 (by omega)
    obtain ⟨r1, f1⟩ := R6 1 (by omega)
    obtain ⟨r2, f2⟩ := R6 2 (by omega)
    obtain ⟨r3, f3⟩ := R6 3 (by omega)
    rw [hW6]
    clear hW6 z3 z3f y0 y1 y2 y3 y3f R6 q7
    go_wp2_with fail
    refine bodyPost_ret (v := .agg #[.int .i64 r.head.pred, .int .i64 (argAt v r.head.args 0), .int .i64 (argAt v r.head.args 1), .int .i64 (valTo ps f r v r.body.length)]) (by simp [results, Tryz.results147, go_sem, r0, r1, r2, r3]) rfl ⟨by rw [HH.out], ?_⟩
    exact (((k6.setCell (p := ⟨BF, 0, none⟩) jBF _).setCell (p := ⟨BF, 1, none⟩) jBF _).setCell (p := ⟨BF, 2, none⟩) jBF _).setCell (p := ⟨BF, 3, none⟩) jBF _
  · have H : Hid (valTo ps f r v r.body.length = r.n) := head_plain hsr
    have R5 : ∀ j, j < 4 → ∀ o, (w2.alloc o).cell? ⟨BF, j, none⟩ = some (.int .i64 0) ∧ (w2.alloc o).frozen? ⟨BF, j, none⟩ = false := fun j hj o =>
      ⟨(cell_lasts (below_alloc w2 o) (show BF < w2.heap.size by omega)).trans ((cell_lasts hb2 iBF).trans (q7 j hj).1), ((below_alloc w2 o).frozen (p := ⟨BF, j, none⟩) (show BF < w2.heap.size by omega)).trans ((hb2.frozen (p := ⟨BF, j, none⟩) iBF).trans (q7 j hj).2)⟩
    have r0 := fun o => (R5 0 (by omega) o).1
    have r1 := fun o => (R5 1 (by omega) o).1
    have r2 := fun o => (R5 2 (by omega) o).1
    have r3 := fun o => (R5 3 (by omega) o).1
    have f0 := fun o => (R5 0 (by omega) o).2
    have f1 := fun o => (R5 1 (by omega) o).2
    have f2 := fun o => (R5 2 (by omega) o).2
    have f3 := fun o => (R5 3 (by omega) o).2
    clear R5 q7
    go_wp2_with fail
    refine bodyPost_ret (v := .agg #[.int .i64 r.head.pred, .int .i64 (argAt v r.head.args 0), .int .i64 (argAt v r.head.args 1), .int .i64 r.n]) (by simp [results, Tryz.results147, go_sem, r0, r1, r2, r3]) rfl ⟨by rw [HH.out, H.out], ?_⟩
    exact (((((k2.alloc k2.size _).setCell (p := ⟨BF, 0, none⟩) jBF _).setCell (p := ⟨BF, 1, none⟩) jBF _).setCell (p := ⟨BF, 2, none⟩) jBF _).setCell (p := ⟨BF, 3, none⟩) jBF _)
end Go.Proofs.YtlfccloaoopadafGreatDoor.Fire

/-
  The developers' Holds of package fire.
-/
namespace Go.Proofs.YtlfccloaoopadafGreatDoor.Fire
open Go.ChangeShapes Go.WideShapes Go.ChangeAt Go.RowKit
open Lat (within)
open Rule (Vars ruleErr)
open Base (factsErr numV numAt numsAt containsNum_c Asks)
open Prog (progErr small slice_cells)

def noConst (n : Int) : Bool := !within n 0 4
theorem any_noConst (v : Vars) : [v.x, v.y, v.z].any noConst = !consts v := by
  unfold consts
  simp only [List.any_cons, List.any_nil, noConst]
  cases within v.x 0 4 <;> cases within v.y 0 4 <;> cases within v.z 0 4 <;> rfl
set_option maxRecDepth 100000 in
set_option maxHeartbeats 1000000 in
theorem holds1_c (n : Int) (w : World) : Calls Tryz.prog 144 #[.int .i64 n] w fun e w' => e = .returned (.bool (noConst n)) ∧ Below w.heap.size w w' := by
  by_cases h : n < 0
  · have e : noConst n = true := by unfold noConst within; simp; omega
    rw [e]
    go_enter Tryz.func144, Tryz.ntmps144
    go_wp2_with fail
    go_ret
    exact ⟨rfl, Below.refl _ _⟩
  · by_cases h' : 4 < n
    · have e : noConst n = true := by unfold noConst within; simp; omega
      rw [e]
      go_enter Tryz.func144, Tryz.ntmps144
      go_wp2_with fail
      go_ret
      exact ⟨rfl, Below.refl _ _⟩
    · have e : noConst n = false := by unfold noConst within; simp; omega
      rw [e]
      go_enter Tryz.func144, Tryz.ntmps144
      go_wp2_with fail
      go_ret
      exact ⟨rfl, Below.refl _ _⟩

set_option maxRecDepth 100000 in
set_option maxHeartbeats 1500000 in
theorem devHolds_c (w : World) (pv rv fv : Value) (ps : List Prd) (rs : List Rul) (f : List Fct) (n : Int) (v : Vars) (hp : predsAt w pv ps) (hr : rulesAt w rv rs) (hf : factsAt w fv f) (hn : small ps) :
    Calls Tryz.prog 114 #[.agg #[pv, rv], fv, .int .i64 n, .agg #[.int .i64 v.x, .int .i64 v.y, .int .i64 v.z]] w fun e w' => e = .returned (.tuple #[.bool (holdsOk ps rs f n v), .agg #[.int .i64 (holdsFact ps rs f n v).pred, .int .i64 (holdsFact ps rs f n v).a, .int .i64 (holdsFact ps rs f n v).b, .int .i64 (holdsFact ps rs f n v).val], .int .i64 (holdsErr ps rs f n v)]) ∧ Below w.heap.size w w' := by
  have HP : Hid (∀ x, Below w.heap.size w x → predsAt x pv ps) := fun x hx => predsAt.lasts hx hp
  have HR : Hid (∀ x, Below w.heap.size w x → rulesAt x rv rs) := fun x hx => rulesAt.lasts hx hr
  have HF : Hid (∀ x, Below w.heap.size w x → factsAt x fv f) := fun x hx => factsAt.lasts hx hf
  obtain ⟨pa, pc, rfl, hpm, hpx⟩ := hp
  obtain ⟨ra, rc, rfl, hrm, hrx⟩ := hr
  obtain ⟨fa, fc, rfl, hfm, hfx⟩ := hf
  clear hpx hrx hfx
  go_enter Tryz.func114, Tryz.ntmps114
  go_wp2_with fail
  obtain ⟨W1, hW1⟩ : ∃ W1, (((w.alloc (.cells #[.slice pa ps.length pc, .slice ra rs.length rc] 25)).alloc (.cells #[.int .i64 v.x, .int .i64 v.y, .int .i64 v.z] 158)).alloc (.cells #[.int .i64 0, .int .i64 0, .int .i64 0, .int .i64 0] 82)) = W1 := ⟨_, rfl⟩
  have b1 : Below w.heap.size w W1 := by rw [← hW1]; exact (((Below.refl _ _).alloc (Nat.le_refl _) _).alloc (by simp) _).alloc (by simp; omega) _
  have s1 : W1.heap.size = w.heap.size + 3 := by rw [← hW1]; simp
  have q0 : W1.cell? ⟨w.heap.size, 0, none⟩ = some (.slice pa ps.length pc) := by rw [← hW1]; simp [go_sem]
  have q00 : W1.cell? ⟨w.heap.size, 1, none⟩ = some (.slice ra rs.length rc) := by rw [← hW1]; simp [go_sem]
  have q1 : W1.cell? ⟨w.heap.size + 1, 0, none⟩ = some (.int .i64 v.x) := by rw [← hW1]; simp [go_sem]
  have q2 : W1.cell? ⟨w.heap.size + 1, 1, none⟩ = some (.int .i64 v.y) := by rw [← hW1]; simp [go_sem]
  have q3 : W1.cell? ⟨w.heap.size + 1, 2, none⟩ = some (.int .i64 v.z) := by rw [← hW1]; simp [go_sem]
  have q7 : ∀ o, o < 4 → W1.cell? ⟨w.heap.size + 1 + 1, o, none⟩ = some (.int .i64 0) ∧ W1.frozen? ⟨w.heap.size + 1 + 1, o, none⟩ = false := by
    intro o ho
    rw [← hW1]
    obtain rfl | rfl | rfl | rfl : o = 0 ∨ o = 1 ∨ o = 2 ∨ o = 3 := by omega
    all_goals simp [go_sem]
  rw [hW1]
  clear hW1
  obtain ⟨BF, hBF⟩ : ∃ BF, w.heap.size + 1 + 1 = BF := ⟨_, rfl⟩
  obtain ⟨BV, hBV⟩ : ∃ BV, w.heap.size + 1 = BV := ⟨_, rfl⟩
  rw [hBF] at q7
  rw [hBV] at q1 q2 q3
  have jBF : w.heap.size ≤ BF := by omega
  have iBF : BF < W1.heap.size := by omega
  have iBV : BV < W1.heap.size := by omega
  have iBP : w.heap.size < W1.heap.size := by omega
  rw [hBF, hBV]
  clear hBF hBV s1
  have R2 : Hid (∀ x, Below W1.heap.size W1 x → ∀ o, o < 4 → x.cell? ⟨BF, o, none⟩ = some (.int .i64 0) ∧ x.frozen? ⟨BF, o, none⟩ = false) := fun x hx o ho => ⟨(cell_lasts hx iBF).trans (q7 o ho).1, (hx.frozen (p := ⟨BF, o, none⟩) iBF).trans (q7 o ho).2⟩
  have KC : Hid (∀ x, Below W1.heap.size W1 x → x.cell? ⟨w.heap.size, 0, none⟩ = some (.slice pa ps.length pc) ∧ x.cell? ⟨w.heap.size, 1, none⟩ = some (.slice ra rs.length rc) ∧ x.cell? ⟨BV, 0, none⟩ = some (.int .i64 v.x) ∧ x.cell? ⟨BV, 1, none⟩ = some (.int .i64 v.y) ∧ x.cell? ⟨BV, 2, none⟩ = some (.int .i64 v.z)) := fun x hx => ⟨(cell_lasts hx iBP).trans q0, (cell_lasts hx iBP).trans q00, (cell_lasts hx iBV).trans q1, (cell_lasts hx iBV).trans q2, (cell_lasts hx iBV).trans q3⟩
  have HVA : Hid (∀ x, Below W1.heap.size W1 x → Calls Tryz.prog 145 #[.slice (some ⟨BV, 0, none⟩) 3 3, .func (.func 144) #[] #[]] x fun e w' => e = .returned (.bool (!consts v)) ∧ Below x.heap.size x w') := fun x hx => by
    rw [← any_noConst]
    obtain ⟨_, _, c0, c1, c2⟩ := KC.out x hx
    refine containsNum_c x _ [v.x, v.y, v.z] _ #[] (enters_of Tryz.func144 (by kernel_rfl) rfl) _ ⟨_, 3, rfl, by simp, .inr ⟨BV, 0, rfl, by have := hx.size; omega, fun i y hi => ?_⟩⟩ (fun w1 q _ _ => holds1_c q w1)
    match i, hi with
    | 0, hi => cases hi; exact c0
    | 1, hi => cases hi; exact c1
    | 2, hi => cases hi; exact c2
    | i + 3, hi => simp at hi
  clear q0 q00 q1 q2 q3 q7
  refine (check_c W1 _ _ _ ps rs f n (HP.out _ b1) (HR.out _ b1) (HF.out _ b1) hn).mono ?_
  rintro e w2 ⟨rfl, hb2⟩
  have k2 : Below w.heap.size w w2 := b1.trans (hb2.mono b1.size)
  by_cases hfe : fireErr ps rs f n = 0
  · obtain ⟨z1, z2, z3, z4⟩ := fire_zero hfe
    rw [hfe]
    obtain ⟨m, rfl⟩ : ∃ m : Nat, n = (m : Int) := ⟨n.toNat, by omega⟩
    have hml : m < rs.length := by omega
    have HRU : Hid (∀ r ∈ rs, ruleErr ps r = 0) := rules_right z1
    have HFE : Hid (factsErr ps f = 0) := z2
    cases hcv : consts v
    · have H1 : Hid (holdsErr ps rs f m v = 3) := by show _ = _; rw [holdsErr, if_neg (by rw [hfe]; simp), hcv]; rfl
      have H2 : Hid (holdsOk ps rs f m v = false) := by show _ = _; rw [holdsOk, H1.out]; rfl
      have H3 : Hid (holdsFact ps rs f m v = ⟨0, 0, 0, 0⟩) := by show _ = _; rw [holdsFact, H1.out]; rfl
      clear hfe z1 z2 z3 z4
      go_wp2_with fail
      refine (HVA.out w2 hb2).mono ?_
      rw [hcv]
      rintro e w3 ⟨rfl, hb3⟩
      have k3 : Below w.heap.size w w3 := k2.trans (hb3.mono k2.size)
      have hb13 : Below W1.heap.size W1 w3 := below_trans hb2 hb3
      obtain ⟨r0, f0⟩ := R2.out _ hb13 0 (by omega)
      obtain ⟨r1, f1⟩ := R2.out _ hb13 1 (by omega)
      obtain ⟨r2, f2⟩ := R2.out _ hb13 2 (by omega)
      obtain ⟨r3, f3⟩ := R2.out _ hb13 3 (by omega)
      go_wp2_with fail
      refine bodyPost_ret (v := .tuple #[.bool false, .agg #[.int .i64 0, .int .i64 0, .int .i64 0, .int .i64 0], .int .i64 3]) (by simp [results, Tryz.results114, go_sem, r0, r1, r2, r3]) rfl ⟨by rw [H1.out, H2.out, H3.out], ?_⟩
      exact (((k3.setCell (p := ⟨BF, 0, none⟩) jBF _).setCell (p := ⟨BF, 1, none⟩) jBF _).setCell (p := ⟨BF, 2, none⟩) jBF _).setCell (p := ⟨BF, 3, none⟩) jBF _
    · have H1 : Hid (holdsErr ps rs f m v = 0) := by show _ = _; rw [holdsErr, if_neg (by rw [hfe]; simp), hcv]; rfl
      have H2 : Hid (holdsOk ps rs f m v = bodyOk f v rs[m].body) := by show _ = _; rw [holdsOk, if_neg (by rw [H1.out]; simp), Int.toNat_natCast, List.getElem?_eq_getElem hml]; rfl
      have H3 : Hid (holdsFact ps rs f m v = holdsF ps f rs[m] v) := by show _ = _; rw [holdsFact, if_neg (by rw [H1.out]; simp), Int.toNat_natCast, List.getElem?_eq_getElem hml]; rfl
      clear hfe z1 z2 z3 z4
      go_wp2_with fail
      refine (HVA.out w2 hb2).mono ?_
      rw [hcv]
      rintro e w3 ⟨rfl, hb3⟩
      have k3 : Below w.heap.size w w3 := k2.trans (hb3.mono k2.size)
      have hb13 : Below W1.heap.size W1 w3 := below_trans hb2 hb3
      obtain ⟨c0, c1, c2, c3, c4⟩ := KC.out _ hb13
      obtain ⟨rb, ro, rc', hrv, hrb, hcells⟩ := slice_cells (HR.out _ k3) hml
      obtain ⟨rfl, rfl⟩ : ra = some ⟨rb, ro, none⟩ ∧ rc = rc' := by simpa using hrv
      obtain ⟨t0, ⟨hv', t1, t1'⟩, t2, t3, bv, t4, t5⟩ := hcells
      have HHT : Hid (∀ x, Below w3.heap.size w3 x → termsAt x hv' rs[m].head.args) := fun x hx => termsAt.lasts hx t1'
      have HBT : Hid (∀ x, Below w3.heap.size w3 x → litsAt x bv rs[m].body) := fun x hx => litsAt.lasts hx t5
      have HRM : Hid (ruleErr ps rs[m] = 0) := HRU.out _ (List.getElem_mem hml)
      have HRP : Hid (∀ l ∈ rs[m].body, Rule.atomErr ps l.atom = 0) := (rule_parts HRM.out).2.1
      obtain ⟨ha, hc, rfl, _⟩ := t1'
      obtain ⟨ba, bc, rfl, _⟩ := t5
      have hm0 : (0 : Int) ≤ (m : Int) := by omega
      have hm1 : (m : Int) < (rs.length : Int) := by omega
      have HHF : Hid (holdsF ps f rs[m] v = if bodyOk f v rs[m].body then headF ps f rs[m] v else ⟨0, 0, 0, 0⟩) := rfl
      clear hrv
      generalize rs[m] = r at *
      have D0 := fun o => (KC.out _ (hb13.alloc hb13.size o)).1
      have D2 := fun o => (KC.out _ (hb13.alloc hb13.size o)).2.2.1
      have D3 := fun o => (KC.out _ (hb13.alloc hb13.size o)).2.2.2.1
      have D4 := fun o => (KC.out _ (hb13.alloc hb13.size o)).2.2.2.2
      go_wp2_with fail
      have hb3a : ∀ o, Below w.heap.size w (w3.alloc o) := fun o => k3.alloc k3.size o
      refine (bodyHolds_c _ _ _ _ ps f r.body v (HP.out _ (hb3a _)) (HF.out _ (hb3a _)) (HBT.out _ (below_alloc _ _)) HFE.out hcv HRP.out).mono ?_
      rintro e w4 ⟨rfl, hb4⟩
      have b34 : Below w3.heap.size w3 w4 := below_trans (below_alloc _ _) hb4
      have hb14 : Below W1.heap.size W1 w4 := below_trans hb13 b34
      have k4 : Below w.heap.size w w4 := b1.trans (hb14.mono b1.size)
      have m0 : w4.cell? ⟨w3.heap.size, 0, none⟩ = some (.int .i64 r.head.pred) := by rw [hb4.cell (p := ⟨w3.heap.size, 0, none⟩) (by simp)]; simp [go_sem]
      have m1 : w4.cell? ⟨w3.heap.size, 1, none⟩ = some (.slice ha r.head.args.length hc) := by rw [hb4.cell (p := ⟨w3.heap.size, 1, none⟩) (by simp)]; simp [go_sem]
      have m2 : w4.cell? ⟨w3.heap.size, 2, none⟩ = some (.int .i64 r.src) := by rw [hb4.cell (p := ⟨w3.heap.size, 2, none⟩) (by simp)]; simp [go_sem]
      have m3 : w4.cell? ⟨w3.heap.size, 3, none⟩ = some (.int .i64 r.n) := by rw [hb4.cell (p := ⟨w3.heap.size, 3, none⟩) (by simp)]; simp [go_sem]
      have m4 : w4.cell? ⟨w3.heap.size, 4, none⟩ = some (.slice ba r.body.length bc) := by rw [hb4.cell (p := ⟨w3.heap.size, 4, none⟩) (by simp)]; simp [go_sem]
      clear c0 c1 c2 c3 c4 t0 t1 t2 t3 t4 D0 D2 D3 D4 hb4
      obtain ⟨c0, c1, c2, c3, c4⟩ := KC.out _ hb14
      cases hbo : bodyOk f v r.body
      · have H4 : Hid (holdsF ps f r v = ⟨0, 0, 0, 0⟩) := by show _ = _; rw [HHF.out, hbo]; rfl
        have H2' : Hid (holdsOk ps rs f m v = false) := H2.out.trans hbo
        obtain ⟨r0, f0⟩ := R2.out _ hb14 0 (by omega)
        obtain ⟨r1, f1⟩ := R2.out _ hb14 1 (by omega)
        obtain ⟨r2, f2⟩ := R2.out _ hb14 2 (by omega)
        obtain ⟨r3, f3⟩ := R2.out _ hb14 3 (by omega)
        go_wp2_with fail
        refine bodyPost_ret (v := .tuple #[.bool false, .agg #[.int .i64 0, .int .i64 0, .int .i64 0, .int .i64 0], .int .i64 0]) (by simp [results, Tryz.results114, go_sem, r0, r1, r2, r3]) rfl ⟨by rw [H1.out, H2'.out, H3.out, H4.out], ?_⟩
        exact (((k4.setCell (p := ⟨BF, 0, none⟩) jBF _).setCell (p := ⟨BF, 1, none⟩) jBF _).setCell (p := ⟨BF, 2, none⟩) jBF _).setCell (p := ⟨BF, 3, none⟩) jBF _
      · have H4 : Hid (holdsF ps f r v = headF ps f r v) := by show _ = _; rw [HHF.out, hbo]; rfl
        have H2' : Hid (holdsOk ps rs f m v = true) := H2.out.trans hbo
        go_wp2_with fail
        refine (headFact_c _ _ _ ps f r ha hc _ v (HP.out _ k4) (HF.out _ k4) (HHT.out _ b34) (HBT.out _ b34) HRM.out HFE.out hcv).mono ?_
        rintro e w5 ⟨rfl, hb5⟩
        have hb15 : Below W1.heap.size W1 w5 := below_trans hb14 hb5
        have k5 : Below w.heap.size w w5 := b1.trans (hb15.mono b1.size)
        clear m0 m1 m2 m3 m4 c0 c1 c2 c3 c4
        obtain ⟨r0, f0⟩ := R2.out _ hb15 0 (by omega)
        obtain ⟨r1, f1⟩ := R2.out _ hb15 1 (by omega)
        obtain ⟨r2, f2⟩ := R2.out _ hb15 2 (by omega)
        obtain ⟨r3, f3⟩ := R2.out _ hb15 3 (by omega)
        generalize headF ps f r v = hx at *
        go_wp2_with fail
        refine bodyPost_ret (v := .tuple #[.bool true, .agg #[.int .i64 hx.pred, .int .i64 hx.a, .int .i64 hx.b, .int .i64 hx.val], .int .i64 0]) (by simp [results, Tryz.results114, go_sem, r0, r1, r2, r3]) rfl ⟨by rw [H1.out, H2'.out, H3.out, H4.out], ?_⟩
        exact (((k5.setCell (p := ⟨BF, 0, none⟩) jBF _).setCell (p := ⟨BF, 1, none⟩) jBF _).setCell (p := ⟨BF, 2, none⟩) jBF _).setCell (p := ⟨BF, 3, none⟩) jBF _
  · have H1 : Hid (holdsErr ps rs f n v = fireErr ps rs f n) := by show _ = _; rw [holdsErr, if_pos hfe]
    have H2 : Hid (holdsOk ps rs f n v = false) := by show _ = _; rw [holdsOk, if_pos (by rw [H1.out]; exact hfe)]
    have H3 : Hid (holdsFact ps rs f n v = ⟨0, 0, 0, 0⟩) := by show _ = _; rw [holdsFact, if_pos (by rw [H1.out]; exact hfe)]
    obtain ⟨r0, f0⟩ := R2.out _ hb2 0 (by omega)
    obtain ⟨r1, f1⟩ := R2.out _ hb2 1 (by omega)
    obtain ⟨r2, f2⟩ := R2.out _ hb2 2 (by omega)
    obtain ⟨r3, f3⟩ := R2.out _ hb2 3 (by omega)
    go_wp2_with fail
    refine bodyPost_ret (v := .tuple #[.bool false, .agg #[.int .i64 0, .int .i64 0, .int .i64 0, .int .i64 0], .int .i64 (fireErr ps rs f n)]) (by simp [results, Tryz.results114, go_sem, r0, r1, r2, r3]) rfl ⟨by rw [H1.out, H2.out, H3.out], ?_⟩
    exact (((k2.setCell (p := ⟨BF, 0, none⟩) jBF _).setCell (p := ⟨BF, 1, none⟩) jBF _).setCell (p := ⟨BF, 2, none⟩) jBF _).setCell (p := ⟨BF, 3, none⟩) jBF _
end Go.Proofs.YtlfccloaoopadafGreatDoor.Fire

/-
  The developers' 'steps' of package fire: the function literal 'lay' that calls itself through its own box.
-/
namespace Go.Proofs.YtlfccloaoopadafGreatDoor.Fire
open Go.ChangeShapes Go.WideShapes Go.ChangeAt Go.RowKit
open Rule (Vars atomErr)
open Base (factsErr own_lasts own_lt)
open Prog (slice_cells)

theorem heap_setCell_other {w : World} {b o k : Nat} {u : Value} (h : b ≠ k) : (w.setCell ⟨b, o, none⟩ u).heap[k]? = w.heap[k]? := by
  simp only [World.setCell]
  rw [Array.getElem?_modify, if_neg h]
/-- the block k is a row of steps -/
def IsRow (w : World) (k : Nat) : Prop := ∃ cur, w.heap[k]? = some (.cells cur 160 (0, 0))
/-- nothing that was there has been turned, but the box B and rows of steps at base or above it -/
structure Turned (base B : Nat) (w w' : World) : Prop where
  os : w'.os = w.os
  tape : w'.tape = w.tape
  output : w'.output = w.output
  size : w.heap.size ≤ w'.heap.size
  block : ∀ k, k < w.heap.size → k ≠ B → (k < base ∨ ¬ IsRow w k) → w'.heap[k]? = w.heap[k]?
theorem Turned.refl (base B : Nat) (w : World) : Turned base B w w := ⟨rfl, rfl, rfl, Nat.le_refl _, fun _ _ _ _ => rfl⟩
theorem Turned.of_below {base B : Nat} {w w' : World} (h : Below w.heap.size w w') : Turned base B w w' := ⟨h.os, h.tape, h.output, h.size, fun k hk _ _ => h.block k hk⟩
theorem Turned.trans {base B : Nat} {a b c : World} (h : Turned base B a b) (k : Turned base B b c) : Turned base B a c :=
  ⟨k.os.trans h.os, k.tape.trans h.tape, k.output.trans h.output, Nat.le_trans h.size k.size, fun i hi hB hv => by
    have e := h.block i hi hB hv
    refine (k.block i (Nat.lt_of_lt_of_le hi h.size) hB ?_).trans e
    rcases hv with hv | hv
    · exact .inl hv
    · refine .inr fun ⟨cur, hc⟩ => hv ⟨cur, ?_⟩
      rw [← e, hc]⟩
theorem Turned.grown {base B : Nat} {w w' : World} {v : Value} {n : Nat} {xs : List Value} (ho : w.ownsRow base 160 4 v n xs) (hg : w.grownBy w' v.ownBlock) : Turned base B w w' := by
  refine ⟨hg.os, hg.tape, hg.output, hg.size, fun k hk _ hv => hg.block k hk fun e => ?_⟩
  obtain ⟨_, ⟨rfl, _⟩ | ⟨g, cap, cur, rfl, hgb, hh, _⟩⟩ := ho
  · cases e
  · obtain rfl : k = g := by simpa [Value.ownBlock] using e
    rcases hv with hv | hv
    · omega
    · exact hv ⟨cur, hh⟩
theorem Turned.set {base B : Nat} {w : World} (o : Nat) (u : Value) : Turned base B w (w.setCell ⟨B, o, none⟩ u) := by
  have h := (Below.refl B w).setCell (p := ⟨B, o, none⟩) (Nat.le_refl _) u
  refine ⟨h.os, h.tape, h.output, h.size, fun k hk hne _ => ?_⟩
  rw [heap_setCell_other (Ne.symm hne)]
theorem Turned.cell {base B : Nat} {w w' : World} (h : Turned base B w w') {b o : Nat} (hb : b < w.heap.size) (h1 : b ≠ B) (h2 : b < base ∨ ¬ IsRow w b) : w'.cell? ⟨b, o, none⟩ = w.cell? ⟨b, o, none⟩ := World.cell?_of_block (a := ⟨b, o, none⟩) (h.block b hb h1 h2)
theorem Turned.frozen {base B : Nat} {w w' : World} (h : Turned base B w w') {b o : Nat} (hb : b < w.heap.size) (h1 : b ≠ B) (h2 : b < base ∨ ¬ IsRow w b) : w'.frozen? ⟨b, o, none⟩ = w.frozen? ⟨b, o, none⟩ := World.frozen?_of_block (a := ⟨b, o, none⟩) (h.block b hb h1 h2)
theorem Turned.below {base B n : Nat} {w w' : World} (h : Turned base B w w') (hn : n ≤ w.heap.size) (h1 : n ≤ B) (h2 : n ≤ base) : Below n w w' :=
  ⟨h.os, h.tape, h.output, h.size, fun k hk => h.block k (by omega) (by omega) (.inl (by omega))⟩
theorem own_step {w : World} {base B : Nat} {v : Value} {n : Nat} {xs : List Value} (h : w.ownsRow base 160 4 v n xs) (o : Nat) (u : Value) (hB : B < base) : (w.setCell ⟨B, o, none⟩ u).ownsRow base 160 4 v n xs := by
  obtain ⟨h0, h1⟩ := h
  refine ⟨h0, ?_⟩
  rcases h1 with h1 | ⟨g, cap, cur, h1, h2, h3, h4⟩
  · exact .inl h1
  · exact .inr ⟨g, cap, cur, h1, h2, by rw [heap_setCell_other (by omega)]; exact h3, h4⟩
/-- what 'lay' finds in memory: its boxes; w0: the world in which 'steps' was called -/
structure Boxes (w0 : World) (base BP BF BN BB BO BL : Nat) (pv rv fv bv : Value) (n : Int) (W : World) : Prop where
  below : Below w0.heap.size w0 W
  size : base ≤ W.heap.size
  p0 : W.cell? ⟨BP, 0, none⟩ = some pv
  p1 : W.cell? ⟨BP, 1, none⟩ = some rv
  f : W.cell? ⟨BF, 0, none⟩ = some fv
  n : W.cell? ⟨BN, 0, none⟩ = some (.int .i64 n)
  b : W.cell? ⟨BB, 0, none⟩ = some bv
  l : W.cell? ⟨BL, 0, none⟩ = some (.func (.func 165) #[] #[.pointer (some ⟨BB, 0, none⟩), .pointer (some ⟨BP, 0, none⟩), .pointer (some ⟨BF, 0, none⟩), .pointer (some ⟨BO, 0, none⟩), .pointer (some ⟨BN, 0, none⟩), .pointer (some ⟨BL, 0, none⟩)])
  o : W.frozen? ⟨BO, 0, none⟩ = false
/-- where the boxes lie -/
structure Spots (w0 : World) (base BP BF BN BB BO BL : Nat) : Prop where
  lp : BP < base
  lf : BF < base
  ln : BN < base
  lb : BB < base
  lo : BO < base
  ll : BL < base
  np : BP ≠ BO
  nf : BF ≠ BO
  nn : BN ≠ BO
  nb : BB ≠ BO
  nl : BL ≠ BO
  old : w0.heap.size ≤ BO
  base : w0.heap.size ≤ base
theorem Boxes.turned {w0 : World} {base BP BF BN BB BO BL : Nat} {pv rv fv bv : Value} {n : Int} {W W' : World} (h : Boxes w0 base BP BF BN BB BO BL pv rv fv bv n W) (sp : Spots w0 base BP BF BN BB BO BL) (ht : Turned base BO W W') (ho : W'.frozen? ⟨BO, 0, none⟩ = false) : Boxes w0 base BP BF BN BB BO BL pv rv fv bv n W' := by
  have e : ∀ b o, b < base → b ≠ BO → W'.cell? ⟨b, o, none⟩ = W.cell? ⟨b, o, none⟩ := fun b o hb hne => ht.cell (Nat.lt_of_lt_of_le hb h.size) hne (.inl hb)
  exact ⟨h.below.trans (ht.below h.below.size sp.old sp.base), Nat.le_trans h.size ht.size, by rw [e _ _ sp.lp sp.np, h.p0], by rw [e _ _ sp.lp sp.np, h.p1], by rw [e _ _ sp.lf sp.nf, h.f], by rw [e _ _ sp.ln sp.nn, h.n], by rw [e _ _ sp.lb sp.nb, h.b], by rw [e _ _ sp.ll sp.nl, h.l], ho⟩
theorem Boxes.lasts {w0 : World} {base BP BF BN BB BO BL : Nat} {pv rv fv bv : Value} {n : Int} {W W' : World} (h : Boxes w0 base BP BF BN BB BO BL pv rv fv bv n W) (sp : Spots w0 base BP BF BN BB BO BL) (hb : Below W.heap.size W W') : Boxes w0 base BP BF BN BB BO BL pv rv fv bv n W' :=
  h.turned sp (Turned.of_below hb) (by rw [(bcell hb).2 _ _ (by have := sp.lo; have := h.size; omega)]; exact h.o)
/-- what 'lay' promises -/
def Laid (base BO : Nat) (W : World) (l : List Stp) (W' : World) : Prop :=
  ∃ vo', W'.cell? ⟨BO, 0, none⟩ = some vo' ∧ W'.ownsRow base 160 4 vo' l.length (cellsS l) ∧ Turned base BO W W' ∧ W'.frozen? ⟨BO, 0, none⟩ = false
end Go.Proofs.YtlfccloaoopadafGreatDoor.Fire

/-
  The developers' 'lay' at its end: no literal is left; the step is gathered if the body holds.
-/
namespace Go.Proofs.YtlfccloaoopadafGreatDoor.Fire
open Go.ChangeShapes Go.WideShapes Go.ChangeAt Go.RowKit
open Rule (Vars atomErr)
open Base (factsErr own_lasts own_lt)
open Prog (slice_cells)

theorem own_slice {w : World} {base : Nat} {e : TypeId} {sz : Nat} {v : Value} {n : Nat} {xs : List Value} (h : w.ownsRow base e sz v n xs) : ∃ a m c, v = .slice a m c := by
  obtain ⟨_, ⟨rfl, _⟩ | ⟨g, cap, cur, rfl, _⟩⟩ := h
  · exact ⟨_, _, _, rfl⟩
  · exact ⟨_, _, _, rfl⟩
theorem own_not {w : World} {base : Nat} {e : TypeId} {sz : Nat} {v : Value} {n : Nat} {xs : List Value} (h : w.ownsRow base e sz v n xs) {k : Nat} (hk : k < base) : some k ≠ v.ownBlock := by
  obtain ⟨_, ⟨rfl, _⟩ | ⟨g, cap, cur, rfl, hg, _⟩⟩ := h
  · intro e; cases e
  · intro e
    obtain rfl : k = g := by simpa [Value.ownBlock] using e
    omega

set_option maxRecDepth 100000 in
set_option maxHeartbeats 4000000 in
theorem lay_end (w0 : World) (base BP BF BN BB BO BL : Nat) (pv rv fv bv : Value) (ps : List Prd) (f : List Fct) (body : List Ltr) (n : Int) (hp : predsAt w0 pv ps) (hf : factsAt w0 fv f) (hb : litsAt w0 bv body) (hfe : factsErr ps f = 0) (ha : ∀ l ∈ body, atomErr ps l.atom = 0) (sp : Spots w0 base BP BF BN BB BO BL)
    (s : Std) (pre : List Stp) (W : World) (vo : Value) (hB : Boxes w0 base BP BF BN BB BO BL pv rv fv bv n W) (hvo : W.cell? ⟨BO, 0, none⟩ = some vo) (hown : W.ownsRow base 160 4 vo pre.length (cellsS pre)) (hlen : pre.length ≤ 500) (hc : consts s.v = true) :
    Calls Tryz.prog 165 #[.int .i64 (body.length : Int), .agg #[.int .i64 s.v.x, .int .i64 s.v.y, .int .i64 s.v.z, .bool s.bx, .bool s.bq, .bool s.bz], .pointer (some ⟨BB, 0, none⟩), .pointer (some ⟨BP, 0, none⟩), .pointer (some ⟨BF, 0, none⟩), .pointer (some ⟨BO, 0, none⟩), .pointer (some ⟨BN, 0, none⟩), .pointer (some ⟨BL, 0, none⟩)] W fun e W' => e = .returned (.tuple #[]) ∧ Laid base BO W (pre ++ (layL f body [] s).map (toStp n)) W' := by
  have HBX : Hid (∀ x, Below W.heap.size W x → Boxes w0 base BP BF BN BB BO BL pv rv fv bv n x) := fun x hx => hB.lasts sp hx
  have HD : Hid (∀ x, Below w0.heap.size w0 x → predsAt x pv ps ∧ factsAt x fv f ∧ litsAt x bv body) := fun x hx => ⟨predsAt.lasts hx hp, factsAt.lasts hx hf, litsAt.lasts hx hb⟩
  obtain ⟨ba, bc, rfl, hbm, _⟩ := hb
  obtain ⟨pa, pc, rfl, hpm, _⟩ := hp
  obtain ⟨fa, fc, rfl, hfm, _⟩ := hf
  have HE : Hid (layL f body [] s = if bodyOk f s.v body then [s.v] else []) := by show _ = _; rw [layL]
  have HO : Hid (∀ x, Below W.heap.size W x → x.ownsRow base 160 4 vo pre.length (cellsS pre) ∧ x.cell? ⟨BO, 0, none⟩ = some vo) := fun x hx => ⟨own_lasts hown hx, (cell_lasts hx (by have := sp.lo; have := hB.size; omega)).trans hvo⟩
  have hBs : base ≤ W.heap.size := hB.size
  have hBO : BO < base := sp.lo
  obtain ⟨W1, hW1⟩ : ∃ W1, W.alloc (.cells #[.int .i64 s.v.x, .int .i64 s.v.y, .int .i64 s.v.z, .bool s.bx, .bool s.bq, .bool s.bz] 223) = W1 := ⟨_, rfl⟩
  have b1 : Below W.heap.size W W1 := by rw [← hW1]; exact below_alloc _ _
  have s1 : W1.heap.size = W.heap.size + 1 := by rw [← hW1]; simp
  have q0 : W1.cell? ⟨W.heap.size, 0, none⟩ = some (.int .i64 s.v.x) := by rw [← hW1]; simp [go_sem]
  have q1 : W1.cell? ⟨W.heap.size, 1, none⟩ = some (.int .i64 s.v.y) := by rw [← hW1]; simp [go_sem]
  have q2 : W1.cell? ⟨W.heap.size, 2, none⟩ = some (.int .i64 s.v.z) := by rw [← hW1]; simp [go_sem]
  have HQ : Hid (∀ x, Below W1.heap.size W1 x → x.cell? ⟨W.heap.size, 0, none⟩ = some (.int .i64 s.v.x) ∧ x.cell? ⟨W.heap.size, 1, none⟩ = some (.int .i64 s.v.y) ∧ x.cell? ⟨W.heap.size, 2, none⟩ = some (.int .i64 s.v.z)) := fun x hx => ⟨(cell_lasts hx (by omega)).trans q0, (cell_lasts hx (by omega)).trans q1, (cell_lasts hx (by omega)).trans q2⟩
  have HB0 : Hid (Boxes w0 base BP BF BN BB BO BL (.slice pa ps.length pc) rv (.slice fa f.length fc) (.slice ba body.length bc) n W1) := HBX.out _ b1
  obtain ⟨c1, c2, c3, c4, c5, c6, c7, c8, c9⟩ := HB0.out
  have HBH : Hid (Calls Tryz.prog 146 #[.slice pa ps.length pc, .slice fa f.length fc, .slice ba body.length bc, .agg #[.int .i64 s.v.x, .int .i64 s.v.y, .int .i64 s.v.z]] W1 fun e w' => e = .returned (.bool (bodyOk f s.v body)) ∧ Below W1.heap.size W1 w') := by
    obtain ⟨g1, g2, g3⟩ := HD.out _ c1
    exact bodyHolds_c W1 _ _ _ ps f body s.v g1 g2 g3 hfe hc ha
  clear hB sp hvo hown hfe ha hc c8
  go_enter Tryz.func165, Tryz.ntmps165
  go_wp2_with fail
  refine HBH.out.mono ?_
  rintro e W2 ⟨rfl, hb2⟩
  have k2 : Below W.heap.size W W2 := b1.trans (hb2.mono b1.size)
  clear c1 c2 c3 c4 c5 c6 c7 c9 q0 q1 q2 hW1 HB0 HBH
  obtain ⟨y0, y1, y2⟩ := HQ.out _ hb2
  obtain ⟨o1, o2⟩ := HO.out _ k2
  obtain ⟨c1, c2, c3, c4, c5, c6, c7, c8, c9⟩ := HBX.out _ k2
  have HO1 : Hid (W2.ownsRow base 160 4 vo pre.length (cellsS pre)) := o1
  clear o1 c8
  cases hbo : bodyOk f s.v body
  · have HE' : Hid (pre ++ (layL f body [] s).map (toStp n) = pre) := by show _ = _; rw [HE.out, hbo, if_neg (by simp), List.map_nil, List.append_nil]
    clear HE
    go_wp2_with fail
    refine bodyPost_ret (results_none rfl _ _ _) rfl ?_
    exact ⟨rfl, by rw [HE'.out]; exact ⟨vo, o2, HO1.out, Turned.of_below k2, c9⟩⟩
  · have HE' : Hid (pre ++ (layL f body [] s).map (toStp n) = pre ++ [toStp n s.v]) := by show _ = _; rw [HE.out, hbo, if_pos rfl]; rfl
    clear HE
    go_wp2_with (at_builtin; refine wpList_append_step _ rfl _ _ rfl base vo pre ⟨n, s.v.x, s.v.y, s.v.z⟩ (own_lasts HO1.out (below_alloc _ _)) rfl W2.heap.size rfl 160 (heap_alloc_new W2 _) hlen (by simp; omega) ?_; intro v5 w5 hown5 hgr5; obtain ⟨ga, gm, gc, hv5⟩ := own_slice hown5; subst hv5; have z0 : w5.cell? ⟨BO, 0, none⟩ = some vo := (World.cell?_of_block (a := ⟨BO, 0, none⟩) (hgr5.block BO (by simp; omega) (own_not HO1.out hBO))).trans ((cell_lasts (below_alloc _ _) (by omega)).trans o2); have z1 : w5.frozen? ⟨BO, 0, none⟩ = false := (World.frozen?_of_block (a := ⟨BO, 0, none⟩) (hgr5.block BO (by simp; omega) (own_not HO1.out hBO))).trans ((((bcell (below_alloc W2 _)).2 _ _ (by omega))).trans c9); have T5 : Turned base BO W w5 := (Turned.of_below (k2.alloc k2.size _)).trans (Turned.grown (own_lasts HO1.out (below_alloc _ _)) hgr5))
    refine bodyPost_ret (results_none rfl _ _ _) rfl ?_
    refine ⟨rfl, ?_⟩
    rw [HE'.out]
    exact ⟨_, cell_set z0, own_step hown5 0 _ hBO, T5.trans (Turned.set 0 _), by rw [frozen_set]; exact z1⟩
end Go.Proofs.YtlfccloaoopadafGreatDoor.Fire

/-
  The developers' 'lay' in the middle: a literal is Not, or each fact is laid to it.
-/
namespace Go.Proofs.YtlfccloaoopadafGreatDoor.Fire
open Go.ChangeShapes Go.WideShapes Go.ChangeAt Go.RowKit
open Rule (Vars atomErr factFine)
open Base (factsErr own_lasts own_lt facts_fine factsErr_zero)
open Prog (slice_cells)
open Lat (within)

theorem put_consts {s : Std} {n c : Int} (hs : consts s.v = true) (hc : within c 0 4 = true) : consts (s.put n c).v = true := by
  unfold consts at *
  rw [Bool.and_eq_true, Bool.and_eq_true] at *
  unfold Std.put
  split
  · exact ⟨hc, hs.2.1, hs.2.2⟩
  · split
    · exact ⟨hs.1, hc, hs.2.2⟩
    · exact ⟨hs.1, hs.2.1, hc⟩
theorem layTo_consts {x : Fct} (hx : within x.a 0 4 = true ∧ within x.b 0 4 = true) : ∀ (ts : List Tm) (s s' : Std) (i : Nat), layTo x s ts i = some s' → consts s.v = true → consts s'.v = true
  | [], s, s', i, h, hs => by cases h; exact hs
  | t :: ts, s, s', i, h, hs => by
    rw [layTo] at h
    split at h
    · refine layTo_consts hx ts _ _ _ h (put_consts hs ?_)
      unfold argOf
      split
      · exact hx.1
      · exact hx.2
    · split at h
      · exact layTo_consts hx ts _ _ _ h hs
      · cases h
theorem withF_consts {ps : List Prd} {s s' : Std} {a : Atm} {x : Fct} (hx : factFine ps x = true) (h : withF s a x = some s') (hs : consts s.v = true) : consts s'.v = true := by
  unfold withF at h
  split at h
  · exact layTo_consts ⟨(fine_args hx).1, (fine_args hx).2.1⟩ _ _ _ _ h hs
  · cases h
/-- what the facts ahead of the j-th give -/
def layOne (f : List Fct) (body ls : List Ltr) (a : Atm) (s : Std) (x : Fct) : List Vars := match withF s a x with
  | some s' => layL f body ls s'
  | none => []
def layPart (f : List Fct) (body ls : List Ltr) (a : Atm) (s : Std) (j : Nat) : List Vars := (f.take j).flatMap (layOne f body ls a s)
theorem lay_pos {f : List Fct} {body ls : List Ltr} {l : Ltr} {s : Std} (h : l.neg = false) : layL f body (l :: ls) s = layPart f body ls l.atom s f.length := by
  rw [layL, if_neg (by rw [h]; simp), layPart, List.take_length]
  rfl
theorem lay_neg {f : List Fct} {body ls : List Ltr} {l : Ltr} {s : Std} (h : l.neg = true) : layL f body (l :: ls) s = layL f body ls s := by rw [layL, if_pos h]
theorem layPart_succ {f : List Fct} {body ls : List Ltr} {a : Atm} {s : Std} {j : Nat} (h : j < f.length) : layPart f body ls a s (j + 1) = layPart f body ls a s j ++ layOne f body ls a s f[j] := by
  unfold layPart
  rw [List.take_add_one, List.getElem?_eq_getElem h, List.flatMap_append]
  simp
theorem layPart_len {f : List Fct} {body ls : List Ltr} {a : Atm} {s : Std} {j : Nat} (h : j < f.length) : (layPart f body ls a s j).length + (layOne f body ls a s f[j]).length ≤ (layPart f body ls a s f.length).length := by
  have e : f = f.take (j + 1) ++ f.drop (j + 1) := (List.take_append_drop _ _).symm
  have : layPart f body ls a s f.length = layPart f body ls a s (j + 1) ++ (f.drop (j + 1)).flatMap (layOne f body ls a s) := by
    unfold layPart
    rw [List.take_length, ← List.flatMap_append, List.take_append_drop]
  rw [this, List.length_append, layPart_succ h, List.length_append]
  omega

/-- the words of a call of 'lay' -/
def layArgs (BP BF BN BB BO BL : Nat) (i : Int) (s : Std) : Array Value := #[.int .i64 i, .agg #[.int .i64 s.v.x, .int .i64 s.v.y, .int .i64 s.v.z, .bool s.bx, .bool s.bq, .bool s.bz], .pointer (some ⟨BB, 0, none⟩), .pointer (some ⟨BP, 0, none⟩), .pointer (some ⟨BF, 0, none⟩), .pointer (some ⟨BO, 0, none⟩), .pointer (some ⟨BN, 0, none⟩), .pointer (some ⟨BL, 0, none⟩)]
/-- 'lay' with the literals from i on still to be laid -/
def Lays (w0 : World) (base BP BF BN BB BO BL : Nat) (pv rv fv bv : Value) (n : Int) (f : List Fct) (body : List Ltr) (i : Nat) : Prop :=
  ∀ (s : Std) (pre : List Stp) (W : World) (vo : Value), Boxes w0 base BP BF BN BB BO BL pv rv fv bv n W → W.cell? ⟨BO, 0, none⟩ = some vo → W.ownsRow base 160 4 vo pre.length (cellsS pre) → pre.length + (layL f body (body.drop i) s).length ≤ 500 → consts s.v = true →
    Calls Tryz.prog 165 (layArgs BP BF BN BB BO BL (i : Int) s) W fun e W' => e = .returned (.tuple #[]) ∧ Laid base BO W (pre ++ (layL f body (body.drop i) s).map (toStp n)) W'

set_option maxRecDepth 100000 in
set_option maxHeartbeats 4000000 in
theorem lay_step (w0 : World) (base BP BF BN BB BO BL : Nat) (pv rv fv bv : Value) (ps : List Prd) (f : List Fct) (body : List Ltr) (n : Int) (i : Nat) (hf : factsAt w0 fv f) (hb : litsAt w0 bv body) (hfe : factsErr ps f = 0) (ha : ∀ l ∈ body, atomErr ps l.atom = 0) (sp : Spots w0 base BP BF BN BB BO BL) (hi : i < body.length)
    (ih : Lays w0 base BP BF BN BB BO BL pv rv fv bv n f body (i + 1)) : Lays w0 base BP BF BN BB BO BL pv rv fv bv n f body i := by
  intro s pre W vo hB hvo hown hlen hc
  have IH : Hid (Lays w0 base BP BF BN BB BO BL pv rv fv bv n f body (i + 1)) := ih
  clear ih
  unfold layArgs
  have HBX : Hid (∀ x, Below W.heap.size W x → Boxes w0 base BP BF BN BB BO BL pv rv fv bv n x) := fun x hx => hB.lasts sp hx
  have HLT : Hid (∀ x, Below w0.heap.size w0 x → factsAt x fv f ∧ litsAt x bv body) := fun x hx => ⟨factsAt.lasts hx hf, litsAt.lasts hx hb⟩
  have HO : Hid (∀ x, Below W.heap.size W x → x.ownsRow base 160 4 vo pre.length (cellsS pre) ∧ x.cell? ⟨BO, 0, none⟩ = some vo) := fun x hx => ⟨own_lasts hown hx, (cell_lasts hx (by have := sp.lo; have := hB.size; omega)).trans hvo⟩
  have SP : Hid (Spots w0 base BP BF BN BB BO BL) := sp
  have hBs : base ≤ W.heap.size := hB.size
  have hBO : BO < base := sp.lo
  have HDR : Hid (body.drop i = body[i] :: body.drop (i + 1)) := List.drop_eq_getElem_cons hi
  have HAE : Hid (atomErr ps body[i].atom = 0) := ha _ (List.getElem_mem hi)
  have hi' : (i : Int) < (body.length : Int) := by omega
  have hne : ((i : Int) == (body.length : Int)) = false := by simp; omega
  have hne2 : ¬ (i : Int) = (body.length : Int) := by omega
  obtain ⟨ba, bc, rfl, hbm, _⟩ := id hb
  obtain ⟨fa, fc, rfl, hfm, _⟩ := id hf
  obtain ⟨W1, hW1⟩ : ∃ W1, W.alloc (.cells #[.int .i64 s.v.x, .int .i64 s.v.y, .int .i64 s.v.z, .bool s.bx, .bool s.bq, .bool s.bz] 223) = W1 := ⟨_, rfl⟩
  have b1 : Below W.heap.size W W1 := by rw [← hW1]; exact below_alloc _ _
  have s1 : W1.heap.size = W.heap.size + 1 := by rw [← hW1]; simp
  have HS : Hid (W1.heap[W.heap.size]? = some (.cells #[.int .i64 s.v.x, .int .i64 s.v.y, .int .i64 s.v.z, .bool s.bx, .bool s.bq, .bool s.bz] 223 (0, 0))) := by rw [← hW1]; exact heap_alloc_new W _
  have HSC : Hid (∀ x, Turned base BO W1 x → x.cell? ⟨W.heap.size, 0, none⟩ = some (.int .i64 s.v.x) ∧ x.cell? ⟨W.heap.size, 1, none⟩ = some (.int .i64 s.v.y) ∧ x.cell? ⟨W.heap.size, 2, none⟩ = some (.int .i64 s.v.z) ∧ x.cell? ⟨W.heap.size, 3, none⟩ = some (.bool s.bx) ∧ x.cell? ⟨W.heap.size, 4, none⟩ = some (.bool s.bq) ∧ x.cell? ⟨W.heap.size, 5, none⟩ = some (.bool s.bz)) := fun x hx => by
    have e : ∀ o, x.cell? ⟨W.heap.size, o, none⟩ = W1.cell? ⟨W.heap.size, o, none⟩ := fun o => hx.cell (by omega) (by omega) (.inr fun ⟨cur, hcur⟩ => by rw [HS.out] at hcur; simp at hcur)
    rw [e, e, e, e, e, e, ← hW1]
    simp [go_sem]
  have HB0 : Hid (Boxes w0 base BP BF BN BB BO BL pv rv (.slice fa f.length fc) (.slice ba body.length bc) n W1) := HBX.out _ b1
  obtain ⟨c1, c2, c3, c4, c5, c6, c7, c8, c9⟩ := HB0.out
  obtain ⟨bb, bo, bc', hbv, hbb, t0, t1, av, t2, t3⟩ := slice_cells hb hi
  obtain ⟨rfl, rfl⟩ : ba = some ⟨bb, bo, none⟩ ∧ bc = bc' := by simpa using hbv
  obtain ⟨aa, ac, rfl, _⟩ := id t3
  have HTA : Hid (∀ x, Below w0.heap.size w0 x → x.cell? ⟨bb, bo + i * 3, none⟩ = some (.bool body[i].neg) ∧ x.cell? ⟨bb, bo + i * 3 + 1, none⟩ = some (.int .i64 body[i].atom.pred) ∧ x.cell? ⟨bb, bo + i * 3 + 2, none⟩ = some (.slice aa body[i].atom.args.length ac) ∧ termsAt x (.slice aa body[i].atom.args.length ac) body[i].atom.args) := fun x hx => ⟨(cell_lasts hx hbb).trans t0, (cell_lasts hx hbb).trans t1, (cell_lasts hx hbb).trans t2, termsAt.lasts hx t3⟩
  clear t0 t1 t2 t3
  obtain ⟨t0, t1, t2, t3⟩ := HTA.out _ c1
  clear hB hvo hown sp hb hf hbv
  have eg : ∀ args w, (callFunc 165 args).run Tryz.prog w = .ok (.enter 165 args) w := enters_of Tryz.func165 (by kernel_rfl) rfl
  obtain ⟨d0, d1, d2, d3, d4, d5⟩ := HSC.out _ (Turned.refl _ _ _)
  have HI : Hid (∀ (s' : Std) (pre' : List Stp) (x : World) (vo' : Value), Boxes w0 base BP BF BN BB BO BL pv rv (.slice fa f.length fc) (.slice (some ⟨bb, bo, none⟩) body.length bc) n x → x.cell? ⟨BO, 0, none⟩ = some vo' → x.ownsRow base 160 4 vo' pre'.length (cellsS pre') → pre'.length + (layL f body (body.drop (i + 1)) s').length ≤ 500 → consts s'.v = true → Calls Tryz.prog 165 #[.int .i64 ((i : Int) + 1), .agg #[.int .i64 s'.v.x, .int .i64 s'.v.y, .int .i64 s'.v.z, .bool s'.bx, .bool s'.bq, .bool s'.bz], .pointer (some ⟨BB, 0, none⟩), .pointer (some ⟨BP, 0, none⟩), .pointer (some ⟨BF, 0, none⟩), .pointer (some ⟨BO, 0, none⟩), .pointer (some ⟨BN, 0, none⟩), .pointer (some ⟨BL, 0, none⟩)] x fun e W' => e = .returned (.tuple #[]) ∧ Laid base BO x (pre' ++ (layL f body (body.drop (i + 1)) s').map (toStp n)) W') := fun s' pre' x vo' h1 h2 h3 h4 h5 => by
    have := IH.out s' pre' x vo' h1 h2 h3 h4 h5
    unfold layArgs at this
    rwa [show ((i + 1 : Nat) : Int) = (i : Int) + 1 by omega] at this
  clear IH
  cases hng : body[i].neg
  · rw [hng] at t0
    have HL : Hid (layL f body (body.drop i) s = layPart f body (body.drop (i + 1)) body[i].atom s f.length) := by show _ = _; rw [HDR.out, lay_pos hng]
    clear HDR hng
    have HLEN : Hid (pre.length + (layPart f body (body.drop (i + 1)) body[i].atom s f.length).length ≤ 500) := by have := hlen; rwa [HL.out] at this
    have HWC : Hid (∀ x y, termsAt x (.slice aa body[i].atom.args.length ac) body[i].atom.args → Calls Tryz.prog 166 #[.agg #[.int .i64 s.v.x, .int .i64 s.v.y, .int .i64 s.v.z, .bool s.bx, .bool s.bq, .bool s.bz], .agg #[.int .i64 body[i].atom.pred, .slice aa body[i].atom.args.length ac], .agg #[.int .i64 y.pred, .int .i64 y.a, .int .i64 y.b, .int .i64 y.val]] x fun e w' => (∃ s' : Std, e = .returned (.tuple #[.agg #[.int .i64 s'.v.x, .int .i64 s'.v.y, .int .i64 s'.v.z, .bool s'.bx, .bool s'.bq, .bool s'.bz], .bool (withF s body[i].atom y).isSome]) ∧ ∀ t, withF s body[i].atom y = some t → s' = t) ∧ Below x.heap.size x w') := fun x y hx => with_c x s body[i].atom aa ac y hx (atom_len HAE.out (factsErr_zero hfe).2.1).2 (Rule.atom_right HAE.out).2
    clear hlen t3
    generalize hat : body[i].atom = at_ at *
    generalize hrest : body.drop (i + 1) = ls at *
    clear hat hrest HAE
    go_enter Tryz.func165, Tryz.ntmps165
    go_wp2_with fail
    go_loopw [44] (fun k wr => ∃ (j : Nat) (v : Value), j ≤ f.length ∧ k = .int .i64 j ∧ wr.cell? ⟨BO, 0, none⟩ = some v ∧ wr.ownsRow base 160 4 v (pre ++ (layPart f body ls at_ s j).map (toStp n)).length (cellsS (pre ++ (layPart f body ls at_ s j).map (toStp n))) ∧ Boxes w0 base BP BF BN BB BO BL pv rv (.slice fa f.length fc) (.slice (some ⟨bb, bo, none⟩) body.length bc) n wr ∧ Turned base BO W1 wr) (fun k _ => f.length - (intOf k).toNat)
    case atStart =>
      exact ⟨0, vo, Nat.zero_le _, rfl, (HO.out _ b1).2, by have h := (HO.out _ b1).1; simpa [layPart] using h, HB0.out, Turned.refl _ _ _⟩
    case round =>
      obtain ⟨j, v, hj, rfl, hv, hown, hBr, hTr⟩ := hrel
      by_cases hlt : j < f.length
      · have HV : Hid (wr.ownsRow base 160 4 v (pre ++ (layPart f body ls at_ s j).map (toStp n)).length (cellsS (pre ++ (layPart f body ls at_ s j).map (toStp n)))) := hown
        have HVO : Hid (wr.cell? ⟨BO, 0, none⟩ = some v) := hv
        have HTR : Hid (Turned base BO W1 wr) := hTr
        have HBR : Hid (Boxes w0 base BP BF BN BB BO BL pv rv (.slice fa f.length fc) (.slice (some ⟨bb, bo, none⟩) body.length bc) n wr) := hBr
        clear c1 c2 c3 c4 c5 c6 c7 c8 c9 d0 d1 d2 d3 d4 d5 t0 t1 t2 hv hown hW1 HB0
        obtain ⟨c1, c2, c3, c4, c5, c6, c7, c8, c9⟩ := hBr
        obtain ⟨d0, d1, d2, d3, d4, d5⟩ := HSC.out _ hTr
        obtain ⟨t0, t1, t2, t3⟩ := HTA.out _ c1
        obtain ⟨fb, fo, fc', hfv, hfb, x0, x1, x2, x3⟩ := slice_cells (HLT.out _ c1).1 hlt
        obtain ⟨rfl, rfl⟩ : fa = some ⟨fb, fo, none⟩ ∧ fc = fc' := by simpa using hfv
        have HPS : Hid (layPart f body ls at_ s (j + 1) = layPart f body ls at_ s j ++ layOne f body ls at_ s f[j]) := layPart_succ hlt
        have HPL : Hid ((layPart f body ls at_ s j).length + (layOne f body ls at_ s f[j]).length ≤ (layPart f body ls at_ s f.length).length) := layPart_len hlt
        have HFX : Hid (factFine ps f[j] = true) := facts_fine hfe _ (List.getElem_mem hlt)
        have hSw : W.heap.size < wr.heap.size := by have := hTr.size; omega
        clear hfv
        generalize f[j] = y at *
        go_wp2_with fail
        obtain ⟨W2, hW2⟩ : ∃ W2, wr.alloc (.cells #[.int .i64 y.pred, .int .i64 y.a, .int .i64 y.b, .int .i64 y.val] 82) = W2 := ⟨_, rfl⟩
        rw [hW2]
        have b2 : Below wr.heap.size wr W2 := by rw [← hW2]; exact below_alloc _ _
        have s2 : W2.heap.size = wr.heap.size + 1 := by rw [← hW2]; simp
        have r0 : W2.cell? ⟨wr.heap.size, 0, none⟩ = some (.int .i64 y.pred) := by rw [← hW2]; simp [go_sem]
        have r1 : W2.cell? ⟨wr.heap.size, 1, none⟩ = some (.int .i64 y.a) := by rw [← hW2]; simp [go_sem]
        have r2 : W2.cell? ⟨wr.heap.size, 2, none⟩ = some (.int .i64 y.b) := by rw [← hW2]; simp [go_sem]
        have r3 : W2.cell? ⟨wr.heap.size, 3, none⟩ = some (.int .i64 y.val) := by rw [← hW2]; simp [go_sem]
        have HB2 : Hid (Boxes w0 base BP BF BN BB BO BL pv rv (.slice (some ⟨fb, fo, none⟩) f.length fc) (.slice (some ⟨bb, bo, none⟩) body.length bc) n W2) := HBR.out.lasts SP.out b2
        have HT2 : Hid (Turned base BO W1 W2) := HTR.out.trans (Turned.of_below b2)
        clear hW2 c1 c2 c3 c4 c5 c6 c7 c8 c9 d0 d1 d2 d3 d4 d5 t0 t1 t2 t3 x0 x1 x2 x3
        obtain ⟨c1, c2, c3, c4, c5, c6, c7, c8, c9⟩ := HB2.out
        obtain ⟨d0, d1, d2, d3, d4, d5⟩ := HSC.out _ HT2.out
        obtain ⟨t0, t1, t2, t3⟩ := HTA.out _ c1
        have HT3 : Hid (∀ x, Below W2.heap.size W2 x → termsAt x (.slice aa at_.args.length ac) at_.args) := fun x hx => termsAt.lasts hx t3
        have hlb : BB < W2.heap.size := Nat.lt_of_lt_of_le SP.out.lb c2
        have hbb2 : bb < W2.heap.size := Nat.lt_of_lt_of_le hbb c1.size
        have KEEP : Hid (∀ w' : World, Below W2.heap.size W2 w' → w'.cell? ⟨W.heap.size, 0, none⟩ = some (.int .i64 s.v.x) ∧ w'.cell? ⟨W.heap.size, 1, none⟩ = some (.int .i64 s.v.y) ∧ w'.cell? ⟨W.heap.size, 2, none⟩ = some (.int .i64 s.v.z) ∧ w'.cell? ⟨W.heap.size, 3, none⟩ = some (.bool s.bx) ∧ w'.cell? ⟨W.heap.size, 4, none⟩ = some (.bool s.bq) ∧ w'.cell? ⟨W.heap.size, 5, none⟩ = some (.bool s.bz) ∧ w'.cell? ⟨BB, 0, none⟩ = some (.slice (some ⟨bb, bo, none⟩) body.length bc) ∧ w'.cell? ⟨bb, bo + i * 3 + 1, none⟩ = some (.int .i64 at_.pred) ∧ w'.cell? ⟨bb, bo + i * 3 + 2, none⟩ = some (.slice aa at_.args.length ac) ∧ w'.cell? ⟨wr.heap.size, 0, none⟩ = some (.int .i64 y.pred) ∧ w'.cell? ⟨wr.heap.size, 1, none⟩ = some (.int .i64 y.a) ∧ w'.cell? ⟨wr.heap.size, 2, none⟩ = some (.int .i64 y.b) ∧ w'.cell? ⟨wr.heap.size, 3, none⟩ = some (.int .i64 y.val)) := fun w' hx => ⟨(cell_lasts hx (by omega)).trans d0, (cell_lasts hx (by omega)).trans d1, (cell_lasts hx (by omega)).trans d2, (cell_lasts hx (by omega)).trans d3, (cell_lasts hx (by omega)).trans d4, (cell_lasts hx (by omega)).trans d5, (cell_lasts hx hlb).trans c7, (cell_lasts hx hbb2).trans t1, (cell_lasts hx hbb2).trans t2, (cell_lasts hx (by omega)).trans r0, (cell_lasts hx (by omega)).trans r1, (cell_lasts hx (by omega)).trans r2, (cell_lasts hx (by omega)).trans r3⟩
        clear c2 c3 c4 c5 c6 c7 c8 c9 t0 t1 t2 t3 d0 d1 d2 d3 d4 d5 r0 r1 r2 r3
        have KA : Hid (Below W2.heap.size W2 (W2.alloc (.cells #[.int .i64 0, .int .i64 0, .int .i64 0, .bool false, .bool false, .bool false] 223))) := below_alloc _ _
        have KS : Hid (∀ x, Below W2.heap.size W2 x → ∀ y0 y1 y2 y3 y4 y5, Below W2.heap.size W2 ((((((x.setCell ⟨wr.heap.size + 1, 0, none⟩ y0).setCell ⟨wr.heap.size + 1, 1, none⟩ y1).setCell ⟨wr.heap.size + 1, 2, none⟩ y2).setCell ⟨wr.heap.size + 1, 3, none⟩ y3).setCell ⟨wr.heap.size + 1, 4, none⟩ y4).setCell ⟨wr.heap.size + 1, 5, none⟩ y5)) := fun x hx y0 y1 y2 y3 y4 y5 => by
          have e : ∀ o, W2.heap.size ≤ (⟨wr.heap.size + 1, o, none⟩ : Addr).block := fun o => by show W2.heap.size ≤ wr.heap.size + 1; omega
          exact (((((hx.setCell (e _) _).setCell (e _) _).setCell (e _) _).setCell (e _) _).setCell (e _) _).setCell (e _) _
        have KZ : Hid (∀ x, Below (W2.alloc (.cells #[.int .i64 0, .int .i64 0, .int .i64 0, .bool false, .bool false, .bool false] 223)).drew.heap.size (W2.alloc (.cells #[.int .i64 0, .int .i64 0, .int .i64 0, .bool false, .bool false, .bool false] 223)).drew x → x.cell? ⟨wr.heap.size + 1, 0, none⟩ = some (.int .i64 0) ∧ x.cell? ⟨wr.heap.size + 1, 1, none⟩ = some (.int .i64 0) ∧ x.cell? ⟨wr.heap.size + 1, 2, none⟩ = some (.int .i64 0) ∧ x.cell? ⟨wr.heap.size + 1, 3, none⟩ = some (.bool false) ∧ x.cell? ⟨wr.heap.size + 1, 4, none⟩ = some (.bool false) ∧ x.cell? ⟨wr.heap.size + 1, 5, none⟩ = some (.bool false) ∧ ∀ o, x.frozen? ⟨wr.heap.size + 1, o, none⟩ = false) := fun x hx => by
          rw [← s2]
          have hlt' : W2.heap.size < (W2.alloc (.cells #[.int .i64 0, .int .i64 0, .int .i64 0, .bool false, .bool false, .bool false] 223)).drew.heap.size := by simp [World.drew]
          have e := fun o => cell_lasts hx (o := o) hlt'
          rw [e, e, e, e, e, e]
          refine ⟨?_, ?_, ?_, ?_, ?_, ?_, fun o => ?_⟩
          all_goals first | rw [(bcell hx).2 _ _ hlt'] | skip
          all_goals simp [go_sem]
        have HV6 : Hid (∀ x, Below W2.heap.size W2 x → x.ownsRow base 160 4 v (pre ++ (layPart f body ls at_ s j).map (toStp n)).length (cellsS (pre ++ (layPart f body ls at_ s j).map (toStp n))) ∧ x.cell? ⟨BO, 0, none⟩ = some v) := fun x hx => ⟨own_lasts (own_lasts HV.out b2) hx, (cell_lasts hx (by omega)).trans ((cell_lasts b2 (by omega)).trans HVO.out)⟩
        cases hw : withF s at_ y
        · have HWY : Hid (∀ x, termsAt x (.slice aa at_.args.length ac) at_.args → Calls Tryz.prog 166 #[.agg #[.int .i64 s.v.x, .int .i64 s.v.y, .int .i64 s.v.z, .bool s.bx, .bool s.bq, .bool s.bz], .agg #[.int .i64 at_.pred, .slice aa at_.args.length ac], .agg #[.int .i64 y.pred, .int .i64 y.a, .int .i64 y.b, .int .i64 y.val]] x fun e w' => (∃ s' : Std, e = .returned (.tuple #[.agg #[.int .i64 s'.v.x, .int .i64 s'.v.y, .int .i64 s'.v.z, .bool s'.bx, .bool s'.bq, .bool s'.bz], .bool false])) ∧ Below x.heap.size x w') := fun x hx => (HWC.out x y hx).mono fun e w' ⟨⟨s', h1, _⟩, h2⟩ => ⟨⟨s', by rw [h1, hw]; rfl⟩, h2⟩
          have HN : Hid (pre ++ (layPart f body ls at_ s (j + 1)).map (toStp n) = pre ++ (layPart f body ls at_ s j).map (toStp n)) := by show _ = _; rw [HPS.out, layOne, hw]; simp
          clear HWC HPS HPL hw
          go_region_held3 (fun w' => w'.cell? ⟨W.heap.size, 0, none⟩ = some (.int .i64 s.v.x) ∧ w'.cell? ⟨W.heap.size, 1, none⟩ = some (.int .i64 s.v.y) ∧ w'.cell? ⟨W.heap.size, 2, none⟩ = some (.int .i64 s.v.z) ∧ w'.cell? ⟨W.heap.size, 3, none⟩ = some (.bool s.bx) ∧ w'.cell? ⟨W.heap.size, 4, none⟩ = some (.bool s.bq) ∧ w'.cell? ⟨W.heap.size, 5, none⟩ = some (.bool s.bz) ∧ w'.cell? ⟨BB, 0, none⟩ = some (.slice (some ⟨bb, bo, none⟩) body.length bc) ∧ w'.cell? ⟨bb, bo + i * 3 + 1, none⟩ = some (.int .i64 at_.pred) ∧ w'.cell? ⟨bb, bo + i * 3 + 2, none⟩ = some (.slice aa at_.args.length ac) ∧ w'.cell? ⟨wr.heap.size, 0, none⟩ = some (.int .i64 y.pred) ∧ w'.cell? ⟨wr.heap.size, 1, none⟩ = some (.int .i64 y.a) ∧ w'.cell? ⟨wr.heap.size, 2, none⟩ = some (.int .i64 y.b) ∧ w'.cell? ⟨wr.heap.size, 3, none⟩ = some (.int .i64 y.val))
            (first | (refine KEEP.out _ ?_; (first | with_reducible exact Below.refl _ _ | with_reducible exact Below.drew (Below.refl _ _) | with_reducible exact hk | with_reducible exact KA.out | with_reducible exact Below.drew KA.out | with_reducible exact Below.alloc hk (Below.size hk) _ | with_reducible exact KS.out _ hk _ _ _ _ _ _)))
            (first | (go_at_call 166; refine (HWY.out _ (HT3.out _ KA.out.drew)).mono ?_; rintro e w5 ⟨⟨s5, rfl⟩, hb5⟩; have hk : Below W2.heap.size W2 w5 := KA.out.trans ((((Below.refl _ _).drew).trans hb5).mono KA.out.size); obtain ⟨z0, z1, z2, z3, z4, z5, zf⟩ := KZ.out _ hb5) | (go_at_call 166; refine (HWY.out _ (HT3.out _ (Below.refl _ _).drew)).mono ?_; rintro e w5 ⟨⟨s5, rfl⟩, hb5⟩; have hk : Below W2.heap.size W2 w5 := ((Below.refl _ _).drew).trans hb5))
          · obtain ⟨W6, hW6⟩ : ∃ W6, (w5.alloc (.cells #[.int .i64 s5.v.x, .int .i64 s5.v.y, .int .i64 s5.v.z, .bool s5.bx, .bool s5.bq, .bool s5.bz] 223)) = W6 := ⟨_, rfl⟩
            have k6 : Below W2.heap.size W2 W6 := by rw [← hW6]; exact Below.alloc hk (Below.size hk) _
            rw [hW6]
            go_wp2_with fail
            exact ⟨⟨j + 1, v, by omega, by go_num, (HV6.out _ k6).2, by rw [HN.out]; exact (HV6.out _ k6).1, HB2.out.lasts SP.out k6, HT2.out.trans (Turned.of_below k6)⟩, by simp [intOf]; omega⟩
          · obtain ⟨W6, hW6⟩ : ∃ W6, ((((((w5.setCell ⟨wr.heap.size + 1, 0, none⟩ (.int .i64 s5.v.x)).setCell ⟨wr.heap.size + 1, 1, none⟩ (.int .i64 s5.v.y)).setCell ⟨wr.heap.size + 1, 2, none⟩ (.int .i64 s5.v.z)).setCell ⟨wr.heap.size + 1, 3, none⟩ (.bool s5.bx)).setCell ⟨wr.heap.size + 1, 4, none⟩ (.bool s5.bq)).setCell ⟨wr.heap.size + 1, 5, none⟩ (.bool s5.bz)) = W6 := ⟨_, rfl⟩
            have k6 : Below W2.heap.size W2 W6 := by rw [← hW6]; exact KS.out _ hk _ _ _ _ _ _
            rw [hW6]
            go_wp2_with fail
            exact ⟨⟨j + 1, v, by omega, by go_num, (HV6.out _ k6).2, by rw [HN.out]; exact (HV6.out _ k6).1, HB2.out.lasts SP.out k6, HT2.out.trans (Turned.of_below k6)⟩, by simp [intOf]; omega⟩
        · rename_i t
          have HWY : Hid (∀ x, termsAt x (.slice aa at_.args.length ac) at_.args → Calls Tryz.prog 166 #[.agg #[.int .i64 s.v.x, .int .i64 s.v.y, .int .i64 s.v.z, .bool s.bx, .bool s.bq, .bool s.bz], .agg #[.int .i64 at_.pred, .slice aa at_.args.length ac], .agg #[.int .i64 y.pred, .int .i64 y.a, .int .i64 y.b, .int .i64 y.val]] x fun e w' => e = .returned (.tuple #[.agg #[.int .i64 t.v.x, .int .i64 t.v.y, .int .i64 t.v.z, .bool t.bx, .bool t.bq, .bool t.bz], .bool true]) ∧ Below x.heap.size x w') := fun x hx => (HWC.out x y hx).mono fun e w' ⟨⟨s', h1, h3⟩, h2⟩ => ⟨by rw [h1, hw, h3 t hw]; rfl, h2⟩
          have HN : Hid (pre ++ (layPart f body ls at_ s (j + 1)).map (toStp n) = (pre ++ (layPart f body ls at_ s j).map (toStp n)) ++ (layL f body ls t).map (toStp n)) := by show _ = _; rw [HPS.out, layOne, hw, List.map_append, List.append_assoc]
          have HLT6 : Hid ((pre ++ (layPart f body ls at_ s j).map (toStp n)).length + (layL f body ls t).length ≤ 500) := by
            have h1 := HPL.out
            have h2 := HLEN.out
            rw [layOne, hw] at h1
            show _ ≤ _
            rw [List.length_append, List.length_map]
            dsimp only at h1
            omega
          have HCT : Hid (consts t.v = true) := withF_consts HFX.out hw hc
          clear HWC HPS HPL hw
          go_region_held3 (fun w' => w'.cell? ⟨W.heap.size, 0, none⟩ = some (.int .i64 s.v.x) ∧ w'.cell? ⟨W.heap.size, 1, none⟩ = some (.int .i64 s.v.y) ∧ w'.cell? ⟨W.heap.size, 2, none⟩ = some (.int .i64 s.v.z) ∧ w'.cell? ⟨W.heap.size, 3, none⟩ = some (.bool s.bx) ∧ w'.cell? ⟨W.heap.size, 4, none⟩ = some (.bool s.bq) ∧ w'.cell? ⟨W.heap.size, 5, none⟩ = some (.bool s.bz) ∧ w'.cell? ⟨BB, 0, none⟩ = some (.slice (some ⟨bb, bo, none⟩) body.length bc) ∧ w'.cell? ⟨bb, bo + i * 3 + 1, none⟩ = some (.int .i64 at_.pred) ∧ w'.cell? ⟨bb, bo + i * 3 + 2, none⟩ = some (.slice aa at_.args.length ac) ∧ w'.cell? ⟨wr.heap.size, 0, none⟩ = some (.int .i64 y.pred) ∧ w'.cell? ⟨wr.heap.size, 1, none⟩ = some (.int .i64 y.a) ∧ w'.cell? ⟨wr.heap.size, 2, none⟩ = some (.int .i64 y.b) ∧ w'.cell? ⟨wr.heap.size, 3, none⟩ = some (.int .i64 y.val))
            (first | (refine KEEP.out _ ?_; (first | with_reducible exact Below.refl _ _ | with_reducible exact Below.drew (Below.refl _ _) | with_reducible exact hk | with_reducible exact KA.out | with_reducible exact Below.drew KA.out | with_reducible exact Below.alloc hk (Below.size hk) _ | with_reducible exact KS.out _ hk _ _ _ _ _ _)))
            (first | (go_at_call 166; refine (HWY.out _ (HT3.out _ KA.out.drew)).mono ?_; rintro e w5 ⟨rfl, hb5⟩; have hk : Below W2.heap.size W2 w5 := KA.out.trans ((((Below.refl _ _).drew).trans hb5).mono KA.out.size); obtain ⟨z0, z1, z2, z3, z4, z5, zf⟩ := KZ.out _ hb5) | (go_at_call 166; refine (HWY.out _ (HT3.out _ (Below.refl _ _).drew)).mono ?_; rintro e w5 ⟨rfl, hb5⟩; have hk : Below W2.heap.size W2 w5 := ((Below.refl _ _).drew).trans hb5))
          · obtain ⟨W6, hW6⟩ : ∃ W6, (w5.alloc (.cells #[.int .i64 t.v.x, .int .i64 t.v.y, .int .i64 t.v.z, .bool t.bx, .bool t.bq, .bool t.bz] 223)) = W6 := ⟨_, rfl⟩
            have k6 : Below W2.heap.size W2 W6 := by rw [← hW6]; exact Below.alloc hk (Below.size hk) _
            obtain ⟨n0, n1, n2, n3, n4, n5⟩ : W6.cell? ⟨w5.heap.size, 0, none⟩ = some (.int .i64 t.v.x) ∧ W6.cell? ⟨w5.heap.size, 1, none⟩ = some (.int .i64 t.v.y) ∧ W6.cell? ⟨w5.heap.size, 2, none⟩ = some (.int .i64 t.v.z) ∧ W6.cell? ⟨w5.heap.size, 3, none⟩ = some (.bool t.bx) ∧ W6.cell? ⟨w5.heap.size, 4, none⟩ = some (.bool t.bq) ∧ W6.cell? ⟨w5.heap.size, 5, none⟩ = some (.bool t.bz) := by rw [← hW6]; simp [go_sem]
            rw [hW6]
            have HB6 : Hid (Boxes w0 base BP BF BN BB BO BL pv rv (.slice (some ⟨fb, fo, none⟩) f.length fc) (.slice (some ⟨bb, bo, none⟩) body.length bc) n W6) := HB2.out.lasts SP.out k6
            have cl := HB6.out.l
            clear hW6
            go_wp2_with fail
            refine (HI.out t (pre ++ (layPart f body ls at_ s j).map (toStp n)) W6 v HB6.out (HV6.out _ k6).2 (HV6.out _ k6).1 HLT6.out HCT.out).mono ?_
            rintro e W7 ⟨rfl, vo2, z1, z2, z3, z4⟩
            go_wp2_with fail
            exact ⟨⟨j + 1, vo2, by omega, by go_num, z1, by rw [HN.out]; exact z2, HB6.out.turned SP.out z3 z4, (HT2.out.trans (Turned.of_below k6)).trans z3⟩, by simp [intOf]; omega⟩
          · obtain ⟨W6, hW6⟩ : ∃ W6, ((((((w5.setCell ⟨wr.heap.size + 1, 0, none⟩ (.int .i64 t.v.x)).setCell ⟨wr.heap.size + 1, 1, none⟩ (.int .i64 t.v.y)).setCell ⟨wr.heap.size + 1, 2, none⟩ (.int .i64 t.v.z)).setCell ⟨wr.heap.size + 1, 3, none⟩ (.bool t.bx)).setCell ⟨wr.heap.size + 1, 4, none⟩ (.bool t.bq)).setCell ⟨wr.heap.size + 1, 5, none⟩ (.bool t.bz)) = W6 := ⟨_, rfl⟩
            have k6 : Below W2.heap.size W2 W6 := by rw [← hW6]; exact KS.out _ hk _ _ _ _ _ _
            obtain ⟨n0, n1, n2, n3, n4, n5⟩ : W6.cell? ⟨wr.heap.size + 1, 0, none⟩ = some (.int .i64 t.v.x) ∧ W6.cell? ⟨wr.heap.size + 1, 1, none⟩ = some (.int .i64 t.v.y) ∧ W6.cell? ⟨wr.heap.size + 1, 2, none⟩ = some (.int .i64 t.v.z) ∧ W6.cell? ⟨wr.heap.size + 1, 3, none⟩ = some (.bool t.bx) ∧ W6.cell? ⟨wr.heap.size + 1, 4, none⟩ = some (.bool t.bq) ∧ W6.cell? ⟨wr.heap.size + 1, 5, none⟩ = some (.bool t.bz) := by rw [← hW6]; simp [go_sem, z0, z1, z2, z3, z4, z5]
            rw [hW6]
            have HB6 : Hid (Boxes w0 base BP BF BN BB BO BL pv rv (.slice (some ⟨fb, fo, none⟩) f.length fc) (.slice (some ⟨bb, bo, none⟩) body.length bc) n W6) := HB2.out.lasts SP.out k6
            have cl := HB6.out.l
            clear hW6
            go_wp2_with fail
            refine (HI.out t (pre ++ (layPart f body ls at_ s j).map (toStp n)) W6 v HB6.out (HV6.out _ k6).2 (HV6.out _ k6).1 HLT6.out HCT.out).mono ?_
            rintro e W7 ⟨rfl, vo2, z1, z2, z3, z4⟩
            go_wp2_with fail
            exact ⟨⟨j + 1, vo2, by omega, by go_num, z1, by rw [HN.out]; exact z2, HB6.out.turned SP.out z3 z4, (HT2.out.trans (Turned.of_below k6)).trans z3⟩, by simp [intOf]; omega⟩
      · obtain rfl : j = f.length := by omega
        clear c1 c2 c3 c4 c5 c6 c7 c8 c9 d0 d1 d2 d3 d4 d5 t0 t1 t2
        go_wp2_with fail
        go_end0
        refine ⟨rfl, ?_⟩
        rw [HL.out]
        exact ⟨v, hv, hown, (Turned.of_below b1).trans hTr, hBr.o⟩
  · rw [hng] at t0
    have HL : Hid (layL f body (body.drop i) s = layL f body (body.drop (i + 1)) s) := by show _ = _; rw [HDR.out, lay_neg hng]
    clear HDR
    go_enter Tryz.func165, Tryz.ntmps165
    go_wp2_with fail
    refine (HI.out s pre W1 vo HB0.out (HO.out _ b1).2 (HO.out _ b1).1 (by have := hlen; rwa [HL.out] at this) hc).mono ?_
    rintro e W2 ⟨rfl, vo2, z1, z2, z3, z4⟩
    go_wp2_with fail
    refine bodyPost_ret (results_none rfl _ _ _) rfl ⟨rfl, ?_⟩
    rw [HL.out]
    exact ⟨vo2, z1, z2, (Turned.of_below b1).trans z3, z4⟩
end Go.Proofs.YtlfccloaoopadafGreatDoor.Fire

/-
  The developers' 'steps' of package fire.
-/
namespace Go.Proofs.YtlfccloaoopadafGreatDoor.Fire
open Go.ChangeShapes Go.WideShapes Go.ChangeAt Go.RowKit
open Rule (Vars atomErr ruleErr)
open Base (factsErr own_lasts own_lt)
open Prog (slice_cells)

theorem lays_all (w0 : World) (base BP BF BN BB BO BL : Nat) (pv rv fv bv : Value) (ps : List Prd) (f : List Fct) (body : List Ltr) (n : Int) (hp : predsAt w0 pv ps) (hf : factsAt w0 fv f) (hb : litsAt w0 bv body) (hfe : factsErr ps f = 0) (ha : ∀ l ∈ body, atomErr ps l.atom = 0) (sp : Spots w0 base BP BF BN BB BO BL) : ∀ d i, i + d = body.length → Lays w0 base BP BF BN BB BO BL pv rv fv bv n f body i
  | 0, i, h => by
    obtain rfl : i = body.length := by omega
    intro s pre W vo hB hvo hown hlen hc
    rw [List.drop_length] at hlen ⊢
    exact lay_end w0 base BP BF BN BB BO BL pv rv fv bv ps f body n hp hf hb hfe ha sp s pre W vo hB hvo hown (by omega) hc
  | d + 1, i, h => lay_step w0 base BP BF BN BB BO BL pv rv fv bv ps f body n i hf hb hfe ha sp (by omega) (lays_all w0 base BP BF BN BB BO BL pv rv fv bv ps f body n hp hf hb hfe ha sp d (i + 1) (by omega))

set_option maxRecDepth 100000 in
set_option maxHeartbeats 4000000 in
theorem steps_c (w : World) (pv rv fv : Value) (ps : List Prd) (rs : List Rul) (f : List Fct) (n : Nat) (hp : predsAt w pv ps) (hr : rulesAt w rv rs) (hf : factsAt w fv f) (hre : ∀ r ∈ rs, ruleErr ps r = 0) (hfe : factsErr ps f = 0) (hn : n < rs.length) :
    Calls Tryz.prog 140 #[.agg #[pv, rv], fv, .int .i64 (n : Int)] w fun e w' => ∃ v, e = .returned v ∧ w'.ownsRow (w.heap.size + 1 + 1 + 1 + 1 + 1 + 1) 160 4 v ((layL f rs[n].body rs[n].body std0).map (toStp n)).length (cellsS ((layL f rs[n].body rs[n].body std0).map (toStp n))) ∧ Below w.heap.size w w' := by
  obtain ⟨rb, ro, rc, rfl, hrb, hcells⟩ := slice_cells hr hn
  obtain ⟨t0, ⟨av, t1, t1'⟩, t2, t3, bv, t4, t5⟩ := hcells
  have HRE : Hid (ruleErr ps rs[n] = 0) := hre _ (List.getElem_mem hn)
  have HLAYS : Hid (∀ base BP BF BN BB BO BL, Spots w base BP BF BN BB BO BL → Lays w base BP BF BN BB BO BL pv (.slice (some ⟨rb, ro, none⟩) rs.length rc) fv bv (n : Int) f rs[n].body 0) := fun base BP BF BN BB BO BL sp => lays_all w base BP BF BN BB BO BL pv _ fv bv ps f rs[n].body n hp hf t5 hfe (rule_parts HRE.out).2.1 sp rs[n].body.length 0 (by omega)
  have HLEN : Hid ((layL f rs[n].body rs[n].body std0).length ≤ 125) := lay_len HRE.out hfe
  obtain ⟨pa, pc, rfl, _⟩ := hp
  obtain ⟨fa, fc, rfl, _⟩ := hf
  obtain ⟨ba, bc, rfl, _⟩ := t5
  have hn0 : (0 : Int) ≤ (n : Int) := by omega
  have hn1 : (n : Int) < (rs.length : Int) := by omega
  clear hre HRE hr hfe t0 t1 t1' t2 t3
  generalize rs[n] = r at *
  have eg : ∀ args w, (callFunc 165 args).run Tryz.prog w = .ok (.enter 165 args) w := enters_of Tryz.func165 (by kernel_rfl) rfl
  obtain ⟨W1, hW1⟩ : ∃ W1, ((w.alloc (.cells #[.slice pa ps.length pc, .slice (some ⟨rb, ro, none⟩) rs.length rc] 25)).alloc (.cells #[.slice fa f.length fc] 38)).alloc (.cells #[.int .i64 (n : Int)] 3) = W1 := ⟨_, rfl⟩
  have b1 : Below w.heap.size w W1 := by rw [← hW1]; exact (((Below.refl _ _).alloc (Nat.le_refl _) _).alloc (by simp) _).alloc (by simp; omega) _
  have s1 : W1.heap.size = w.heap.size + 1 + 1 + 1 := by rw [← hW1]; simp
  have q0 : W1.cell? ⟨w.heap.size, 0, none⟩ = some (.slice pa ps.length pc) := by rw [← hW1]; simp [go_sem]
  have q1 : W1.cell? ⟨w.heap.size, 1, none⟩ = some (.slice (some ⟨rb, ro, none⟩) rs.length rc) := by rw [← hW1]; simp [go_sem]
  have q2 : W1.cell? ⟨w.heap.size + 1, 0, none⟩ = some (.slice fa f.length fc) := by rw [← hW1]; simp [go_sem]
  have q3 : W1.cell? ⟨w.heap.size + 1 + 1, 0, none⟩ = some (.int .i64 (n : Int)) := by rw [← hW1]; simp [go_sem]
  have q4 : W1.cell? ⟨rb, ro + n * 5 + 4, none⟩ = some (.slice ba r.body.length bc) := (cell_lasts b1 hrb).trans t4
  go_enter Tryz.func140, Tryz.ntmps140
  go_wp2_with fail
  obtain ⟨W2, hW2⟩ : ∃ W2, ((W1.alloc (.cells #[.slice ba r.body.length bc] 52)).alloc (.cells #[.slice none 0 0] 155)).alloc (.cells #[(.func (.func 165) #[] #[.pointer (some ⟨w.heap.size + 1 + 1 + 1, 0, none⟩), .pointer (some ⟨w.heap.size, 0, none⟩), .pointer (some ⟨w.heap.size + 1, 0, none⟩), .pointer (some ⟨w.heap.size + 1 + 1 + 1 + 1, 0, none⟩), .pointer (some ⟨w.heap.size + 1 + 1, 0, none⟩), .pointer (some ⟨w.heap.size + 1 + 1 + 1 + 1 + 1, 0, none⟩)])] 220) = W2 := ⟨_, rfl⟩
  have b2 : Below W1.heap.size W1 W2 := by rw [← hW2]; exact (((Below.refl _ _).alloc (Nat.le_refl _) _).alloc (by simp) _).alloc (by simp; omega) _
  have s2 : W2.heap.size = w.heap.size + 1 + 1 + 1 + 1 + 1 + 1 := by rw [← hW2]; simp [s1]
  have SP : Spots w (w.heap.size + 1 + 1 + 1 + 1 + 1 + 1) (w.heap.size) (w.heap.size + 1) (w.heap.size + 1 + 1) (w.heap.size + 1 + 1 + 1) (w.heap.size + 1 + 1 + 1 + 1) (w.heap.size + 1 + 1 + 1 + 1 + 1) := ⟨by omega, by omega, by omega, by omega, by omega, by omega, by omega, by omega, by omega, by omega, by omega, by omega, by omega⟩
  have e3 : W1.heap.size = w.heap.size + 1 + 1 + 1 := s1
  have m0 : W2.cell? ⟨w.heap.size + 1 + 1 + 1, 0, none⟩ = some (.slice ba r.body.length bc) := by rw [← hW2, ← e3]; simp [go_sem]
  have m1 : W2.cell? ⟨w.heap.size + 1 + 1 + 1 + 1, 0, none⟩ = some (.slice none 0 0) := by rw [← hW2, ← e3]; simp [go_sem]
  have m1f : W2.frozen? ⟨w.heap.size + 1 + 1 + 1 + 1, 0, none⟩ = false := by rw [← hW2, ← e3]; simp [go_sem]
  have m2 : W2.cell? ⟨w.heap.size + 1 + 1 + 1 + 1 + 1, 0, none⟩ = some (.func (.func 165) #[] #[.pointer (some ⟨w.heap.size + 1 + 1 + 1, 0, none⟩), .pointer (some ⟨w.heap.size, 0, none⟩), .pointer (some ⟨w.heap.size + 1, 0, none⟩), .pointer (some ⟨w.heap.size + 1 + 1 + 1 + 1, 0, none⟩), .pointer (some ⟨w.heap.size + 1 + 1, 0, none⟩), .pointer (some ⟨w.heap.size + 1 + 1 + 1 + 1 + 1, 0, none⟩)]) := by rw [← hW2, ← e3]; simp [go_sem]
  have BX : Boxes w (w.heap.size + 1 + 1 + 1 + 1 + 1 + 1) (w.heap.size) (w.heap.size + 1) (w.heap.size + 1 + 1) (w.heap.size + 1 + 1 + 1) (w.heap.size + 1 + 1 + 1 + 1) (w.heap.size + 1 + 1 + 1 + 1 + 1) (.slice pa ps.length pc) (.slice (some ⟨rb, ro, none⟩) rs.length rc) (.slice fa f.length fc) (.slice ba r.body.length bc) (n : Int) W2 :=
    ⟨b1.trans (b2.mono b1.size), by omega, (cell_lasts b2 (by omega)).trans q0, (cell_lasts b2 (by omega)).trans q1, (cell_lasts b2 (by omega)).trans q2, (cell_lasts b2 (by omega)).trans q3, m0, m2, m1f⟩
  have HC : Hid (Calls Tryz.prog 165 #[.int .i64 0, .agg #[.int .i64 0, .int .i64 0, .int .i64 0, .bool false, .bool false, .bool false], .pointer (some ⟨w.heap.size + 1 + 1 + 1, 0, none⟩), .pointer (some ⟨w.heap.size, 0, none⟩), .pointer (some ⟨w.heap.size + 1, 0, none⟩), .pointer (some ⟨w.heap.size + 1 + 1 + 1 + 1, 0, none⟩), .pointer (some ⟨w.heap.size + 1 + 1, 0, none⟩), .pointer (some ⟨w.heap.size + 1 + 1 + 1 + 1 + 1, 0, none⟩)] W2 fun e W' => e = .returned (.tuple #[]) ∧ Laid (w.heap.size + 1 + 1 + 1 + 1 + 1 + 1) (w.heap.size + 1 + 1 + 1 + 1) W2 ((layL f r.body r.body std0).map (toStp n)) W') := by
    have h := HLAYS.out _ _ _ _ _ _ _ SP std0 [] W2 (.slice none 0 0) BX m1 (World.ownsRow_nil _ _ _ _) (by have := HLEN.out; rw [List.drop_zero]; simp; omega) rfl
    rw [List.drop_zero, List.nil_append] at h
    exact h
  rw [hW2]
  have k2 : Below w.heap.size w W2 := b1.trans (b2.mono b1.size)
  clear hW2 hW1 q0 q1 q2 q3 q4 m0 m1 m1f m2 BX SP HLAYS HLEN b1 b2 e3
  refine HC.out.mono ?_
  rintro e W3 ⟨rfl, v, z1, z2, z3, z4⟩
  go_wp2_with fail
  go_ret
  exact ⟨v, rfl, z2, k2.trans (z3.below k2.size (by omega) (by omega))⟩
end Go.Proofs.YtlfccloaoopadafGreatDoor.Fire
