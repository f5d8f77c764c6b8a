/-
  The small parts of the developers' package semi: news in memory, what was there, what is new, which rules are wanted.
-/
import Derived.Test.YtlfccloaoopadaeGreatG10
import Derived.Test.YtlfccloaoopadaeGreatG23
import Derived.Test.YtlfccloaoopadaeGreatG22
import Derived.Deep.RegionHeld3
import Derived.Test.YtlfccloaoopadaeGreatG9
namespace Go.Proofs.YtlfccloaoopadaeGreat.Semi
open Go.ChangeShapes Go.WideShapes Go.ChangeAt Go.RowKit
open Rule (Vars kindOf factFine atomErr ground_c)
open Base (factV place get findTo findOf factsErr Find_c LitM litMAt litMsAt containsLit_c right_of fine_of mem_get get_mem)
open Fire (consts atomF find_eq litMs_of Stp stepsAt step_cells)
open Prog (slice_cells intsAt)
open Strata (at_)
open Round (ofS)

/-- news: a program, the facts by then, and those that are new -/
def newsAt (x : World) (B : Nat) (pv rv fv gv : Value) : Prop := x.heap[B]? = some (.cells #[pv, rv, fv, gv] 54 (0, 0))
theorem news_cells {x : World} {B : Nat} {pv rv fv gv : Value} (h : newsAt x B pv rv fv gv) : x.cell? ⟨B, 0, none⟩ = some pv ∧ x.cell? ⟨B, 1, none⟩ = some rv ∧ x.cell? ⟨B, 2, none⟩ = some fv ∧ x.cell? ⟨B, 3, none⟩ = some gv ∧ x.frozen? ⟨B, 2, none⟩ = false ∧ x.frozen? ⟨B, 3, none⟩ = false ∧ B < x.heap.size := by
  unfold newsAt at h
  exact ⟨by simp [World.cell?, h], by simp [World.cell?, h], by simp [World.cell?, h], by simp [World.cell?, h], frozen_of_row x B 2 _ _ h, frozen_of_row x B 3 _ _ h, (Array.getElem?_eq_some_iff.1 h).1⟩
theorem news_facts {x : World} {B : Nat} {pv rv fv gv : Value} (h : newsAt x B pv rv fv gv) (u : Value) : newsAt (x.setCell ⟨B, 2, none⟩ u) B pv rv u gv := heap_setCell_same x B 2 _ _ u h
theorem news_fresh {x : World} {B : Nat} {pv rv fv gv : Value} (h : newsAt x B pv rv fv gv) (u : Value) : newsAt (x.setCell ⟨B, 3, none⟩ u) B pv rv fv u := heap_setCell_same x B 3 _ _ u h
theorem news_below {x y : World} {B : Nat} {pv rv fv gv : Value} (hb : Below x.heap.size x y) (h : newsAt x B pv rv fv gv) : newsAt y B pv rv fv gv := (hb.block _ (news_cells h).2.2.2.2.2.2).trans h

/-- of right facts: what is there is what is there with that value -/
theorem was_iff {ps : List Prd} {f : List Fct} {y : Fct} (hf : factsErr ps f = 0) (hy : factFine ps y = true) : f.any (fun z => decide (y = z)) = decide (get f (place y) = some y.val) := by
  rw [Bool.eq_iff_iff, List.any_eq_true, decide_eq_true_iff]
  constructor
  · rintro ⟨z, hz, e⟩
    rw [decide_eq_true_iff] at e
    subst e
    exact mem_get (right_of hf).sorted hz
  · intro h
    obtain ⟨z, hz, hp, hv⟩ := get_mem h
    obtain ⟨e1, e2, e3⟩ := Base.place_inj ((right_of hf).fine z hz) (fine_of hy) hp
    refine ⟨z, hz, decide_eq_true ?_⟩
    obtain ⟨y1, y2, y3, y4⟩ := y
    obtain ⟨z1, z2, z3, z4⟩ := z
    simp_all
theorem fresh_was {ps : List Prd} {f g : List Fct} (hf : factsErr ps f = 0) (hg : ∀ y ∈ g, factFine ps y = true) : (g.filter fun y => !f.any (fun z => decide (y = z))) = fresh f g := by
  unfold fresh
  refine List.filter_congr fun y hy => ?_
  rw [was_iff hf (hg y hy)]
  by_cases h : get f (place y) = some y.val <;> simp [h]

set_option maxRecDepth 100000 in
set_option maxHeartbeats 2000000 in
theorem was_c (w : World) (Bn B : Nat) (pv rv fv gv : Value) (f : List Fct) (y : Fct) (hc : w.cell? ⟨Bn, 0, none⟩ = some (.pointer (some ⟨B, 0, none⟩))) (hB : Bn < w.heap.size) (hn : newsAt w B pv rv fv gv) (hf : factsAt w fv f) :
    Calls Tryz.prog 58 #[factV y, .pointer (some ⟨Bn, 0, none⟩)] w fun e w' => e = .returned (.bool (f.any (fun z => decide (y = z)))) ∧ Below w.heap.size w w' := by
  have HC : Hid (∀ x, Below w.heap.size w x → Calls Tryz.prog 59 #[fv, .agg #[.int .i64 y.pred, .int .i64 y.a, .int .i64 y.b, .int .i64 y.val]] x fun e w' => e = .returned (.bool (f.any (fun z => decide (y = z)))) ∧ Below x.heap.size x w') := fun x hx => contains_c x fv f y (factsAt.lasts hx hf)
  obtain ⟨W1, hW1⟩ : ∃ W1, w.alloc (.cells #[.int .i64 y.pred, .int .i64 y.a, .int .i64 y.b, .int .i64 y.val] 79) = W1 := ⟨_, rfl⟩
  have b1 : Below w.heap.size w W1 := by rw [← hW1]; exact below_alloc _ _
  have s1 : w.heap.size < W1.heap.size := by rw [← hW1]; simp
  obtain ⟨d0, d1, d2, d3⟩ : W1.cell? ⟨w.heap.size, 0, none⟩ = some (.int .i64 y.pred) ∧ W1.cell? ⟨w.heap.size, 1, none⟩ = some (.int .i64 y.a) ∧ W1.cell? ⟨w.heap.size, 2, none⟩ = some (.int .i64 y.b) ∧ W1.cell? ⟨w.heap.size, 3, none⟩ = some (.int .i64 y.val) := by rw [← hW1]; simp [go_sem]
  obtain ⟨_, _, n2, _, _, _, hBl⟩ := news_cells hn
  have L0 : ∀ x : Low W1.heap.size W1, x.wd.cell? ⟨w.heap.size, 0, none⟩ = some (.int .i64 y.pred) := fun x => (cell_lasts x.low s1).trans d0
  have L1 : ∀ x : Low W1.heap.size W1, x.wd.cell? ⟨w.heap.size, 1, none⟩ = some (.int .i64 y.a) := fun x => (cell_lasts x.low s1).trans d1
  have L2 : ∀ x : Low W1.heap.size W1, x.wd.cell? ⟨w.heap.size, 2, none⟩ = some (.int .i64 y.b) := fun x => (cell_lasts x.low s1).trans d2
  have L3 : ∀ x : Low W1.heap.size W1, x.wd.cell? ⟨w.heap.size, 3, none⟩ = some (.int .i64 y.val) := fun x => (cell_lasts x.low s1).trans d3
  have M0 : ∀ x : Low W1.heap.size W1, x.wd.cell? ⟨Bn, 0, none⟩ = some (.pointer (some ⟨B, 0, none⟩)) := fun x => (cell_lasts (b1.trans (x.low.mono b1.size)) hB).trans hc
  have M1 : ∀ x : Low W1.heap.size W1, x.wd.cell? ⟨B, 2, none⟩ = some fv := fun x => (cell_lasts (b1.trans (x.low.mono b1.size)) hBl).trans n2
  obtain ⟨fa, fc, rfl, _⟩ := hf
  clear hc n2 d0 d1 d2 d3
  unfold factV
  generalize f.any (fun z => decide (y = z)) = bb at *
  go_enter Tryz.func58, Tryz.ntmps58
  go_wp2_with fail
  refine wp_region_low W1.heap.size (by kernel_rfl) (by kernel_rfl) ?_
  repeat (go_big_quiet_step ((go_at_call 59; exact low_of (HC.out _ (b1.trans ((Low.low _).mono b1.size))))))
  refine wpQuiet_nil ?_
  rintro _ ⟨⟨w1, hk⟩, rfl⟩
  clear L0 L1 L2 L3 M0 M1
  go_wp2_with fail
  go_ret
  exact ⟨rfl, b1.trans (hk.mono b1.size)⟩

set_option maxRecDepth 100000 in
set_option maxHeartbeats 2000000 in
theorem isNew1_c (w : World) (Bs Bn B : Nat) (pv rv fv gv : Value) (ps : List Prd) (g : List Fct) (st : Stp) (x : LitM) (hp : predsAt w pv ps) (hg : factsAt w gv g) (hge : factsErr ps g = 0) (hv : consts st.vars = true) (ha : atomErr ps x.l.atom = 0) (hx : x.n = x.l.atom.args.length) (ht : termsAt w (.slice x.a x.l.atom.args.length x.c) x.l.atom.args)
    (h1 : w.cell? ⟨Bs, 1, none⟩ = some (.int .i64 st.x)) (h2 : w.cell? ⟨Bs, 2, none⟩ = some (.int .i64 st.y)) (h3 : w.cell? ⟨Bs, 3, none⟩ = some (.int .i64 st.z)) (hc : w.cell? ⟨Bn, 0, none⟩ = some (.pointer (some ⟨B, 0, none⟩))) (hn : newsAt w B pv rv fv gv) (i1 : Bs < w.heap.size) (i2 : Bn < w.heap.size) :
    Calls Tryz.prog 63 #[x.v, .pointer (some ⟨Bs, 0, none⟩), .pointer (some ⟨Bn, 0, none⟩)] w fun e w' => e = .returned (.bool (get g (place (atomF st.vars x.l.atom))).isSome) ∧ Below w.heap.size w w' := by
  obtain ⟨l, xa, xn, xc⟩ := x
  dsimp only at hx ha ht
  subst hx
  rw [LitM.v]
  dsimp only
  obtain ⟨e1, e2⟩ := find_eq (v := st.vars) hge ha hv
  have HG : Hid (∀ y, Below w.heap.size w y → Calls Tryz.prog 64 #[.agg #[.int .i64 l.atom.pred, .slice xa l.atom.args.length xc], .agg #[.int .i64 st.x, .int .i64 st.y, .int .i64 st.z]] y fun e w' => (∃ er, e = .returned (.tuple #[.agg #[.int .i64 (atomF st.vars l.atom).pred, .int .i64 (atomF st.vars l.atom).a, .int .i64 (atomF st.vars l.atom).b, .int .i64 (atomF st.vars l.atom).val], .int .i64 er])) ∧ Below y.heap.size y w') := fun y hy => by
    have := ground_c y _ l.atom.pred l.atom.args st.vars (termsAt.lasts hy ht)
    rw [e1] at this
    exact this.mono fun e w' ⟨h1, h2⟩ => ⟨⟨_, h1⟩, h2⟩
  have HFI : Hid (∀ y, Below w.heap.size w y → Calls Tryz.prog 65 #[pv, gv, .agg #[.int .i64 (atomF st.vars l.atom).pred, .int .i64 (atomF st.vars l.atom).a, .int .i64 (atomF st.vars l.atom).b, .int .i64 (atomF st.vars l.atom).val]] y fun e w' => e = .returned (.tuple #[.int .i64 (findTo g (place (atomF st.vars l.atom))), .bool (get g (place (atomF st.vars l.atom))).isSome, .int .i64 0]) ∧ Below y.heap.size y w') := fun y hy => by
    have := Find_c y _ _ ps g (atomF st.vars l.atom).pred (atomF st.vars l.atom).a (atomF st.vars l.atom).b (atomF st.vars l.atom).val (predsAt.lasts hy hp) (factsAt.lasts hy hg)
    rw [show (⟨(atomF st.vars l.atom).pred, (atomF st.vars l.atom).a, (atomF st.vars l.atom).b, (atomF st.vars l.atom).val⟩ : Fct) = atomF st.vars l.atom from rfl, e2] at this
    exact this
  obtain ⟨n0, _, _, n3, _, _, hBl⟩ := news_cells hn
  have HCE : Hid (∀ y, Below w.heap.size w y → y.cell? ⟨Bn, 0, none⟩ = some (.pointer (some ⟨B, 0, none⟩)) ∧ y.cell? ⟨B, 0, none⟩ = some pv ∧ y.cell? ⟨B, 3, none⟩ = some gv) := fun y hy => ⟨(cell_lasts hy i2).trans hc, (cell_lasts hy hBl).trans n0, (cell_lasts hy hBl).trans n3⟩
  have g1 := fun o => (cell_lasts (o := 1) (below_alloc w o) i1).trans h1
  have g2 := fun o => (cell_lasts (o := 2) (below_alloc w o) i1).trans h2
  have g3 := fun o => (cell_lasts (o := 3) (below_alloc w o) i1).trans h3
  obtain ⟨pa, pc, rfl, _⟩ := hp
  obtain ⟨ga, gc, rfl, _⟩ := hg
  clear ht hge ha hv e1 e2 hc hn n0 n3 h1 h2 h3
  generalize findTo g (place (atomF st.vars l.atom)) = fo at *
  generalize (get g (place (atomF st.vars l.atom))).isSome = th at *
  generalize atomF st.vars l.atom = Y at *
  go_enter Tryz.func63, Tryz.ntmps63
  go_wp2_with fail
  refine (HG.out _ (below_alloc _ _)).mono ?_
  rintro e w1 ⟨⟨er, rfl⟩, hb1⟩
  have k1 : Below w.heap.size w w1 := below_trans (below_alloc _ _) hb1
  clear hb1 g1 g2 g3
  obtain ⟨W2, hW2⟩ : ∃ W2, w1.alloc (.cells #[.int .i64 Y.pred, .int .i64 Y.a, .int .i64 Y.b, .int .i64 Y.val] 79) = W2 := ⟨_, rfl⟩
  have b2 : Below w1.heap.size w1 W2 := by rw [← hW2]; exact below_alloc _ _
  have s2 : w1.heap.size < W2.heap.size := by rw [← hW2]; simp
  have k2 : Below w.heap.size w W2 := k1.trans (b2.mono k1.size)
  obtain ⟨d0, d1, d2, d3⟩ : W2.cell? ⟨w1.heap.size, 0, none⟩ = some (.int .i64 Y.pred) ∧ W2.cell? ⟨w1.heap.size, 1, none⟩ = some (.int .i64 Y.a) ∧ W2.cell? ⟨w1.heap.size, 2, none⟩ = some (.int .i64 Y.b) ∧ W2.cell? ⟨w1.heap.size, 3, none⟩ = some (.int .i64 Y.val) := by rw [← hW2]; simp [go_sem]
  have L0 : ∀ x : Low W2.heap.size W2, x.wd.cell? ⟨w1.heap.size, 0, none⟩ = some (.int .i64 Y.pred) := fun x => (cell_lasts x.low s2).trans d0
  have L1 : ∀ x : Low W2.heap.size W2, x.wd.cell? ⟨w1.heap.size, 1, none⟩ = some (.int .i64 Y.a) := fun x => (cell_lasts x.low s2).trans d1
  have L2 : ∀ x : Low W2.heap.size W2, x.wd.cell? ⟨w1.heap.size, 2, none⟩ = some (.int .i64 Y.b) := fun x => (cell_lasts x.low s2).trans d2
  have L3 : ∀ x : Low W2.heap.size W2, x.wd.cell? ⟨w1.heap.size, 3, none⟩ = some (.int .i64 Y.val) := fun x => (cell_lasts x.low s2).trans d3
  have M0 : ∀ x : Low W2.heap.size W2, x.wd.cell? ⟨Bn, 0, none⟩ = some (.pointer (some ⟨B, 0, none⟩)) := fun x => (HCE.out _ (k2.trans (x.low.mono k2.size))).1
  have M1 : ∀ x : Low W2.heap.size W2, x.wd.cell? ⟨B, 0, none⟩ = some (.slice pa ps.length pc) := fun x => (HCE.out _ (k2.trans (x.low.mono k2.size))).2.1
  have M2 : ∀ x : Low W2.heap.size W2, x.wd.cell? ⟨B, 3, none⟩ = some (.slice ga g.length gc) := fun x => (HCE.out _ (k2.trans (x.low.mono k2.size))).2.2
  clear d0 d1 d2 d3
  go_wp2_with fail
  refine wp_region_low W2.heap.size (by kernel_rfl) (by kernel_rfl) ?_
  repeat (go_big_quiet_step ((go_at_call 65; exact low_of (HFI.out _ (k2.trans ((Low.low _).mono k2.size))))))
  refine wpQuiet_nil ?_
  rintro _ ⟨⟨w3, hk⟩, rfl⟩
  clear L0 L1 L2 L3 M0 M1 M2
  go_wp2_with fail
  go_ret
  exact ⟨rfl, k2.trans (hk.mono k2.size)⟩
set_option maxRecDepth 100000 in
set_option maxHeartbeats 2000000 in
theorem model1_c (x : World) (Bs Bt e : Nat) (vs : Value) (L : List Nat) (s : Int) (r : Rul) (ha : Option Addr) (hn hc : Nat) (ba : Option Addr) (bn bc : Nat) (he : r.head.pred = (e : Int)) (hel : e < L.length) (h1 : x.cell? ⟨Bs, 0, none⟩ = some vs) (h2 : x.cell? ⟨Bt, 0, none⟩ = some (.int .i64 s)) (h3 : intsAt x vs L) (h4 : Bs < x.heap.size) (h5 : Bt < x.heap.size) :
    Calls Tryz.prog 25 #[.agg #[.int .i64 r.head.pred, .slice ha hn hc, .int .i64 r.src, .int .i64 r.n, .slice ba bn bc], .pointer (some ⟨Bs, 0, none⟩), .pointer (some ⟨Bt, 0, none⟩)] x fun e w' => e = .returned (.bool (ofS L s r)) ∧ Below x.heap.size x w' := by
  obtain ⟨lb, lo, lc, rfl, hlb, l0⟩ := slice_cells h3 hel
  have l0' : x.cell? ⟨lb, lo + e, none⟩ = some (.int .i64 (L[e] : Int)) := by have := l0; rwa [Nat.mul_one] at this
  have HE : Hid (ofS L s r = ((L[e] : Int) == s)) := by
    show _ = _
    unfold ofS at_
    rw [he, Int.toNat_natCast]
    simp [hel]
    rfl
  rw [he]
  obtain ⟨W1, hW1⟩ : ∃ W1, x.alloc (.cells #[.int .i64 (e : Int), .slice ha hn hc, .int .i64 r.src, .int .i64 r.n, .slice ba bn bc] 60) = W1 := ⟨_, rfl⟩
  have b1 : Below x.heap.size x W1 := by rw [← hW1]; exact below_alloc _ _
  have d0 : W1.cell? ⟨x.heap.size, 0, none⟩ = some (.int .i64 (e : Int)) := by rw [← hW1]; simp [go_sem]
  have c1 := (cell_lasts (o := 0) b1 h4).trans h1
  have c2 := (cell_lasts (o := 0) b1 h5).trans h2
  have c3 := (cell_lasts (o := lo + e) b1 hlb).trans l0'
  have hel' : (e : Int) < (L.length : Int) := by omega
  generalize L[e] = le at *
  clear h1 h2 h3 l0 l0' h4 h5 hlb
  go_enter Tryz.func25, Tryz.ntmps25
  go_wp2_with fail
  clear hW1
  go_quiet (fail)
  go_wp2_with fail
  go_ret
  refine ⟨?_, b1.trans ⟨rfl, rfl, rfl, Nat.le_refl _, fun _ _ => rfl⟩⟩
  rw [HE.out]
  rfl

theorem model2_c (x : World) (r a b c : Int) :
    Calls Tryz.prog 26 #[.agg #[.int .i64 r, .int .i64 a, .int .i64 b, .int .i64 c]] x fun e w' => e = .returned (.bool true) ∧ Below x.heap.size x w' := by
  go_enter Tryz.func26, Tryz.ntmps26
  go_wp2_with fail
  go_ret
  exact ⟨rfl, below_alloc _ _⟩

set_option maxRecDepth 100000 in
set_option maxHeartbeats 2000000 in
theorem isNew_c (w : World) (B n : Nat) (pv rv fv gv : Value) (ps : List Prd) (rs : List Rul) (g : List Fct) (st : Stp) (hp : predsAt w pv ps) (hr : rulesAt w rv rs) (hg : factsAt w gv g) (hge : factsErr ps g = 0) (hv : consts st.vars = true) (hn : newsAt w B pv rv fv gv) (hk : st.rule = (n : Int)) (hl : n < rs.length) (ha : ∀ l ∈ rs[n].body, atomErr ps l.atom = 0) :
    Calls Tryz.prog 28 #[.pointer (some ⟨B, 0, none⟩), .agg #[.int .i64 st.rule, .int .i64 st.x, .int .i64 st.y, .int .i64 st.z]] w fun e w' => e = .returned (.bool (isNew g rs[n] st.vars)) ∧ Below w.heap.size w w' := by
  obtain ⟨rb, ro, rc, rfl, hrb, hcells⟩ := slice_cells hr hl
  obtain ⟨_, _, _, _, bv, t4, t5⟩ := hcells
  obtain ⟨xs, hxs, hmap, hxt⟩ := litMs_of t5
  obtain ⟨W1, hW1⟩ : ∃ W1, (w.alloc (.cells #[.pointer (some ⟨B, 0, none⟩)] 52)).alloc (.cells #[.int .i64 (n : Int), .int .i64 st.x, .int .i64 st.y, .int .i64 st.z] 64) = W1 := ⟨_, rfl⟩
  have b1 : Below w.heap.size w W1 := by rw [← hW1]; exact ((Below.refl _ _).alloc (Nat.le_refl _) _).alloc (by simp) _
  have s1 : W1.heap.size = w.heap.size + 1 + 1 := by rw [← hW1]; simp
  have q0 : W1.cell? ⟨w.heap.size, 0, none⟩ = some (.pointer (some ⟨B, 0, none⟩)) := by rw [← hW1]; simp [go_sem]
  obtain ⟨d0, d1, d2, d3⟩ : W1.cell? ⟨w.heap.size + 1, 0, none⟩ = some (.int .i64 (n : Int)) ∧ W1.cell? ⟨w.heap.size + 1, 1, none⟩ = some (.int .i64 st.x) ∧ W1.cell? ⟨w.heap.size + 1, 2, none⟩ = some (.int .i64 st.y) ∧ W1.cell? ⟨w.heap.size + 1, 3, none⟩ = some (.int .i64 st.z) := by rw [← hW1]; simp [go_sem]
  have HC : Hid (∀ y, Below W1.heap.size W1 y → Calls Tryz.prog 62 #[bv, .func (.func 63) #[] #[.pointer (some ⟨w.heap.size + 1, 0, none⟩), .pointer (some ⟨w.heap.size, 0, none⟩)]] y fun e w' => e = .returned (.bool (isNew g rs[n] st.vars)) ∧ Below y.heap.size y w') := fun y hy => by
    have hy0 : Below w.heap.size w y := b1.trans (hy.mono b1.size)
    have e : xs.any (fun x => (get g (place (atomF st.vars x.l.atom))).isSome) = isNew g rs[n] st.vars := by
      unfold isNew
      rw [← hmap, List.any_map]
      rfl
    rw [← e]
    have hlast : sliceAt 3 litMAt y bv xs := by
      refine sliceAt.lasts (fun w w' b o x hb hlt h => ?_) hy0 hxs
      exact ⟨(cell_lasts hb hlt).trans h.1, (cell_lasts hb hlt).trans h.2.1, (cell_lasts hb hlt).trans h.2.2⟩
    refine containsLit_c y bv xs _ _ (enters_of Tryz.func63 (by kernel_rfl) rfl) _ hlast (fun w1 x hx hm => ?_)
    have hb1 : Below W1.heap.size W1 w1 := hy.trans (hx.mono hy.size)
    have hb0 : Below w.heap.size w w1 := b1.trans (hb1.mono b1.size)
    exact isNew1_c w1 _ _ B _ _ fv gv ps g st x (predsAt.lasts hb0 hp) (factsAt.lasts hb0 hg) hge hv (ha _ (hmap ▸ List.mem_map_of_mem hm)) (hxt x hm).1 (termsAt.lasts hb0 (hxt x hm).2)
      ((cell_lasts hb1 (by omega)).trans d1) ((cell_lasts hb1 (by omega)).trans d2) ((cell_lasts hb1 (by omega)).trans d3) ((cell_lasts hb1 (by omega)).trans q0) (news_below hb0 hn) (by have := hb1.size; omega) (by have := hb1.size; omega)
  obtain ⟨_, n1, _, _, _, _, hBl⟩ := news_cells hn
  have HCE : Hid (∀ y, Below W1.heap.size W1 y → y.cell? ⟨w.heap.size, 0, none⟩ = some (.pointer (some ⟨B, 0, none⟩)) ∧ y.cell? ⟨B, 1, none⟩ = some (.slice (some ⟨rb, ro, none⟩) rs.length rc) ∧ y.cell? ⟨w.heap.size + 1, 0, none⟩ = some (.int .i64 (n : Int)) ∧ y.cell? ⟨rb, ro + n * 5 + 4, none⟩ = some bv) := fun y hy => by
    have hy0 : Below w.heap.size w y := b1.trans (hy.mono b1.size)
    exact ⟨(cell_lasts hy (by omega)).trans q0, (cell_lasts hy0 hBl).trans n1, (cell_lasts hy (by omega)).trans d0, (cell_lasts hy0 hrb).trans t4⟩
  rw [hk]
  generalize isNew g rs[n] st.vars = bb at *
  obtain ⟨ba, bc, rfl, _⟩ := t5
  have L0 : ∀ x : Low W1.heap.size W1, x.wd.cell? ⟨w.heap.size, 0, none⟩ = some (.pointer (some ⟨B, 0, none⟩)) := fun x => (HCE.out _ x.low).1
  have L1 : ∀ x : Low W1.heap.size W1, x.wd.cell? ⟨B, 1, none⟩ = some (.slice (some ⟨rb, ro, none⟩) rs.length rc) := fun x => (HCE.out _ x.low).2.1
  have L2 : ∀ x : Low W1.heap.size W1, x.wd.cell? ⟨w.heap.size + 1, 0, none⟩ = some (.int .i64 (n : Int)) := fun x => (HCE.out _ x.low).2.2.1
  have L3 : ∀ x : Low W1.heap.size W1, x.wd.cell? ⟨rb, ro + n * 5 + 4, none⟩ = some (.slice ba rs[n].body.length bc) := fun x => (HCE.out _ x.low).2.2.2
  have hl' : (n : Int) < (rs.length : Int) := by omega
  have hl0 : (0 : Int) ≤ (n : Int) := by omega
  clear hxs hxt hmap t4 hp hr hg hn n1 q0 d0 d1 d2 d3 hge ha hv
  go_enter Tryz.func28, Tryz.ntmps28
  go_wp2_with fail
  refine wp_region_low W1.heap.size (by kernel_rfl) (by kernel_rfl) ?_
  repeat (go_big_quiet_step ((go_at_call 62; exact low_of (HC.out _ (Low.low _)))))
  refine wpQuiet_nil ?_
  rintro _ ⟨⟨w3, hk⟩, rfl⟩
  clear L0 L1 L2 L3
  go_wp2_with fail
  go_ret
  exact ⟨rfl, b1.trans (hk.mono b1.size)⟩
end Go.Proofs.YtlfccloaoopadaeGreat.Semi

/-
  The developers' 'told' of package semi: a function value that goes through what the wanted steps tell, fact by fact.
-/
namespace Go.Proofs.YtlfccloaoopadaeGreat.Semi
open Go.RowKit Go.Shelf
open Rule (Vars ruleErr kindOf factFine)
open Base (factsErr)
open Fire (consts bodyOk headF holdsF allL Stp stepsAt stepAt step_cells mem_all rules_right fireErr holdsErr holdsOk holdsFact devAllN_c devHolds_c allOf)
open Prog (progErr slice_cells small KeepsBut keepsBut_of_below)
open Round (Kept toldV toldL toldL_snoc toldL_length below_grown steps_kept told_holds)
attribute [local go_sem] Oper.semAt_some

theorem all_any (f : List Fct) (r : Rul) (n : Int) : allL f r n = (allL f r 0).map fun s => ⟨n, s.x, s.y, s.z⟩ := by
  unfold allL Fire.stepsA Fire.stepsB Fire.stepsC
  rw [List.map_flatMap]
  congr 1
  funext a
  rw [List.map_flatMap]
  congr 1
  funext b
  rw [List.map_map]
  rfl
/-- what the wanted ones among the first q steps of a rule tell -/
def part (ps : List Prd) (first : Bool) (fr f : List Fct) (r : Rul) (n : Int) (q : Nat) : List Fct := (((allL f r n).take q).filter fun st => first || isNew fr r st.vars).map fun st => headF ps f r st.vars
theorem want_any (ps : List Prd) (first : Bool) (fr f : List Fct) (r : Rul) (n : Int) : wantT ps first fr f r = part ps first fr f r n (allL f r n).length := by
  unfold wantT wantR part
  rw [List.take_length, all_any f r n, List.filter_map, List.map_map]
  rfl
theorem part_zero (ps : List Prd) (first : Bool) (fr f : List Fct) (r : Rul) (n : Int) : part ps first fr f r n 0 = [] := by unfold part; rfl
theorem part_succ {ps : List Prd} {first : Bool} {fr f : List Fct} {r : Rul} {n : Int} {q : Nat} (h : q < (allL f r n).length) : part ps first fr f r n (q + 1) = part ps first fr f r n q ++ if first || isNew fr r (allL f r n)[q].vars then [headF ps f r (allL f r n)[q].vars] else [] := by
  unfold part
  rw [List.take_succ_eq_append_getElem h, List.filter_append, List.map_append]
  congr 1
  cases e : (first || isNew fr r (allL f r n)[q].vars) <;> simp [e]
theorem part_le (ps : List Prd) (first : Bool) (fr f : List Fct) (r : Rul) (n : Int) (q : Nat) : (part ps first fr f r n q).length ≤ (wantT ps first fr f r).length := by
  rw [want_any ps first fr f r n]
  unfold part
  rw [List.length_map, List.length_map, List.take_length]
  exact ((List.take_sublist q (allL f r n)).filter _).length_le
theorem want_succ {ps : List Prd} {S : Rul → Bool} {first : Bool} {fr f : List Fct} {rs : List Rul} {n : Nat} (h : n < rs.length) : wantS ps S first fr f (rs.take (n + 1)) = wantS ps S first fr f (rs.take n) ++ if S rs[n] then wantT ps first fr f rs[n] else [] := by
  unfold wantS
  rw [List.take_add_one, List.getElem?_eq_getElem h, List.flatMap_append]
  simp
theorem want_le (ps : List Prd) (S : Rul → Bool) (first : Bool) (fr f : List Fct) (rs : List Rul) (k : Nat) : (wantS ps S first fr f (rs.take k)).length ≤ (wantS ps S first fr f rs).length := by
  have : wantS ps S first fr f rs = wantS ps S first fr f (rs.take k) ++ wantS ps S first fr f (rs.drop k) := by
    unfold wantS
    rw [← List.flatMap_append, List.take_append_drop]
  rw [this, List.length_append]
  omega
theorem want_mem {ps : List Prd} {S : Rul → Bool} {first : Bool} {fr f : List Fct} {rs : List Rul} {n : Nat} (hn : n < rs.length) (hS : S rs[n] = true) : ∀ x ∈ wantT ps first fr f rs[n], x ∈ wantS ps S first fr f rs := fun x hx =>
  List.mem_flatMap.2 ⟨rs[n], List.getElem_mem hn, by rw [if_pos hS]; exact hx⟩

theorem told_c (w : World) (B : Nat) (g : Nat) (lb : Array Value) (g2 : Nat) (bd2 lb2 : Array Value) : Calls Tryz.prog 56 #[.pointer (some ⟨B, 0, none⟩), .func (.func g) #[] lb, .func (.func g2) bd2 lb2] w fun e w' => e = .returned (.func (.func 95) #[] #[.pointer (some ⟨w.heap.size, 0, none⟩), .pointer (some ⟨w.heap.size + 1, 0, none⟩), .pointer (some ⟨w.heap.size + 1 + 1, 0, none⟩)]) ∧
    w' = ((w.alloc (.cells #[.pointer (some ⟨B, 0, none⟩)] 52)).alloc (.cells #[.func (.func g) #[] lb] 61)).alloc (.cells #[.func (.func g2) bd2 lb2] 65) := by
  go_enter Tryz.func56, Tryz.ntmps56
  go_wp2_with fail
  go_ret
  exact ⟨rfl, rfl⟩

set_option maxRecDepth 100000 in
set_option maxHeartbeats 8000000 in
theorem told1_stops (n : Nat) (hn : 1 ≤ n) (Bn Bw Bq BC n₀ : Nat) (X : Nat → Prop) (pv rv fv gv : Value) (g : Nat) (lb : Array Value) (g2 : Nat) (bd2 lb2 : Array Value) (ps : List Prd) (rs : List Rul) (f : List Fct) (S : Rul → Bool) (first : Bool) (fr : List Fct) (w : World)
    (hXp : ¬ X Bn) (hXw : ¬ X Bw) (hXf : ¬ X Bq) (hXC : ¬ X BC) (hX : ∀ k, X k → n₀ ≤ k ∧ k < w.heap.size) (hn₀ : n₀ ≤ w.heap.size)
    (hc0 : w.cell? ⟨Bn, 0, none⟩ = some (.pointer (some ⟨BC, 0, none⟩))) (hc1 : newsAt w BC pv rv fv gv) (hc2 : w.cell? ⟨Bw, 0, none⟩ = some (.func (.func g) #[] lb)) (hc3 : w.cell? ⟨Bq, 0, none⟩ = some (.func (.func g2) bd2 lb2))
    (w₀ : World) (hw₀ : w₀.heap.size = n₀) (hb₀ : Below n₀ w₀ w) (hp : predsAt w₀ pv ps) (hr : rulesAt w₀ rv rs) (hf : factsAt w₀ fv f) (hsm : small ps) (hpe : progErr ps rs = 0) (hfe : factsErr ps f = 0)
    (eg : ∀ args w, (callFunc g args).run Tryz.prog w = .ok (.enter g args) w) (eg2 : ∀ args w, (callFunc g2 args).run Tryz.prog w = .ok (.enter g2 args) w)
    (hwa : ∀ (x : World) (n : Nat) (hn : n < rs.length) (ha : Option Addr) (hc : Nat) (ba : Option Addr) (bc : Nat), Kept n₀ X w x → Calls Tryz.prog g (#[.agg #[.int .i64 rs[n].head.pred, .slice ha rs[n].head.args.length hc, .int .i64 rs[n].src, .int .i64 rs[n].n, .slice ba rs[n].body.length bc]] ++ lb) x fun e w' => e = .returned (.bool (S rs[n])) ∧ Below x.heap.size x w')
    (hwb : ∀ (x : World) (n : Nat) (hn : n < rs.length) (st : Stp), st ∈ allL f rs[n] n → Kept n₀ X w x → Calls Tryz.prog g2 (bd2 ++ #[.agg #[.int .i64 st.rule, .int .i64 st.x, .int .i64 st.y, .int .i64 st.z]] ++ lb2) x fun e w' => e = .returned (.bool (first || isNew fr rs[n] st.vars)) ∧ Below x.heap.size x w') :
    SeqStopsK Fence.wide n Tryz.prog 95 #[.pointer (some ⟨Bn, 0, none⟩), .pointer (some ⟨Bw, 0, none⟩), .pointer (some ⟨Bq, 0, none⟩)] (toldV (T := wantS ps S first fr f rs)) (Kept n₀ X) (fun ys => toldL ys = wantS ps S first fr f rs) (fun _ => True) (wantS ps S first fr f rs).length w := fun l J Jx W hW hJ _ hY h0 => by
  have hre := rules_right hpe
  have HW : Hid (Kept n₀ X w W) := Kept.of hW hn₀
  have HW0 : Hid (∀ x, Kept n₀ X w x → Below w₀.heap.size w₀ x) := fun x hx => by rw [hw₀]; exact hb₀.trans hx.below
  have HD : Hid (∀ x, Kept n₀ X w x → predsAt x pv ps ∧ rulesAt x rv rs ∧ factsAt x fv f) := fun x hx => ⟨predsAt.lasts (HW0.out x hx) hp, rulesAt.lasts (HW0.out x hx) hr, factsAt.lasts (HW0.out x hx) hf⟩
  have HCE : Hid (∀ x, Kept n₀ X w x → x.cell? ⟨Bn, 0, none⟩ = some (.pointer (some ⟨BC, 0, none⟩)) ∧ x.cell? ⟨Bw, 0, none⟩ = some (.func (.func g) #[] lb) ∧ x.cell? ⟨Bq, 0, none⟩ = some (.func (.func g2) bd2 lb2) ∧ x.cell? ⟨BC, 0, none⟩ = some pv ∧ x.cell? ⟨BC, 1, none⟩ = some rv ∧ x.cell? ⟨BC, 2, none⟩ = some fv) := fun x hx => by
    obtain ⟨v0, v1, v2, _⟩ := news_cells (hx.but.same BC _ hXC hc1 rfl)
    exact ⟨hx.but.cell hXp hc0, hx.but.cell hXw hc2, hx.but.cell hXf hc3, v0, v1, v2⟩
  have HALL : Hid (∀ x n, (hn : n < rs.length) → Kept n₀ X w x → Calls Tryz.prog 82 #[.agg #[pv, rv], fv, .int .i64 (n : Int)] x fun e w' => (∃ v, e = .returned (.tuple #[v, .int .i64 0]) ∧ stepsAt w' v (allL f rs[n] n) ∧ ∀ b, v.ownBlock = some b → x.heap.size ≤ b) ∧ Below x.heap.size x w') := fun x n hn hx => by
    have h := devAllN_c x pv rv fv ps rs f n (HD.out x hx).1 (HD.out x hx).2.1 (HD.out x hx).2.2 hsm
    have e : fireErr ps rs f n = 0 := by rw [fireErr, if_neg (by rw [hpe]; simp), if_neg (by rw [hfe]; simp), if_pos (by omega)]
    have e2 : allOf ps rs f n = allL f rs[n] n := by rw [allOf, if_neg (by rw [e]; simp), Int.toNat_natCast, List.getElem?_eq_getElem hn]
    rw [e, e2] at h
    exact h
  have HHO : Hid (∀ x n, (hn : n < rs.length) → ∀ k, (hk : k < (allL f rs[n] n).length) → Kept n₀ X w x → Calls Tryz.prog 83 #[.agg #[pv, rv], fv, .int .i64 (n : Int), .agg #[.int .i64 (allL f rs[n] n)[k].x, .int .i64 (allL f rs[n] n)[k].y, .int .i64 (allL f rs[n] n)[k].z]] x fun e w' => e = .returned (.tuple #[.bool true, .agg #[.int .i64 (headF ps f rs[n] (allL f rs[n] n)[k].vars).pred, .int .i64 (headF ps f rs[n] (allL f rs[n] n)[k].vars).a, .int .i64 (headF ps f rs[n] (allL f rs[n] n)[k].vars).b, .int .i64 (headF ps f rs[n] (allL f rs[n] n)[k].vars).val], .int .i64 0]) ∧ Below x.heap.size x w') := fun x n hn k hk hx => by
    have h := devHolds_c x pv rv fv ps rs f n (allL f rs[n] n)[k].vars (HD.out x hx).1 (HD.out x hx).2.1 (HD.out x hx).2.2 hsm
    obtain ⟨g1, g2, g3⟩ := told_holds (ps := ps) hk
    have e : fireErr ps rs f n = 0 := by rw [fireErr, if_neg (by rw [hpe]; simp), if_neg (by rw [hfe]; simp), if_pos (by omega)]
    have e0 : holdsErr ps rs f n (allL f rs[n] n)[k].vars = 0 := by rw [holdsErr, if_neg (by rw [e]; simp), if_pos g2]
    have e1 : holdsOk ps rs f n (allL f rs[n] n)[k].vars = true := by rw [holdsOk, if_neg (by rw [e0]; simp), Int.toNat_natCast, List.getElem?_eq_getElem hn]; exact g1
    have e2 : holdsFact ps rs f n (allL f rs[n] n)[k].vars = headF ps f rs[n] (allL f rs[n] n)[k].vars := by rw [holdsFact, if_neg (by rw [e0]; simp), Int.toNat_natCast, List.getElem?_eq_getElem hn]; exact g3
    rw [e0, e1, e2] at h
    exact h
  have HWA : Hid (∀ (x : World) (n : Nat) (hn : n < rs.length) (ha : Option Addr) (hc : Nat) (ba : Option Addr) (bc : Nat), Kept n₀ X w x → Calls Tryz.prog g (#[.agg #[.int .i64 rs[n].head.pred, .slice ha rs[n].head.args.length hc, .int .i64 rs[n].src, .int .i64 rs[n].n, .slice ba rs[n].body.length bc]] ++ lb) x fun e w' => e = .returned (.bool (S rs[n])) ∧ Below x.heap.size x w') := hwa
  have HWB : Hid (∀ (x : World) (n : Nat) (hn : n < rs.length) (st : Stp), st ∈ allL f rs[n] n → Kept n₀ X w x → Calls Tryz.prog g2 (bd2 ++ #[.agg #[.int .i64 st.rule, .int .i64 st.x, .int .i64 st.y, .int .i64 st.z]] ++ lb2) x fun e w' => e = .returned (.bool (first || isNew fr rs[n] st.vars)) ∧ Below x.heap.size x w') := hwb
  have HX2 : Hid (∀ k, w.heap.size ≤ k → ¬ X k) := fun k hk h => by have := (hX k h).2; omega
  have HJB : Hid (∀ pre A B, J pre A → Below A.heap.size A B → J pre B) := fun pre A B h1 h2 => hJ _ _ _ none h1 (below_grown h2) (fun _ e => by cases e)
  have HN0 : Hid (∀ x, Kept n₀ X w x → n₀ ≤ x.heap.size) := fun x hx => Nat.le_trans hn₀ hx.but.size
  obtain ⟨pa, pc, rfl, _⟩ := hp
  obtain ⟨ra, rc, rfl, hrm, hrx⟩ := id hr
  obtain ⟨fa, fc, rfl, _⟩ := hf
  clear hrx hpe hfe hre hwa hwb hX hb₀ hc0 hc1 hc2 hc3 hW hsm hXp hXw hXf hXC hr
  refine callsIn_of_wp Tryz.func95 rfl trivial ?_ rfl
  simp only [Tryz.ntmps95, List.size_toArray, List.length_cons, List.length_nil, Nat.reduceAdd, Nat.reduceSub, Array.replicate_succ, Array.replicate_zero, List.push_toArray, List.append_toArray, List.nil_append, List.cons_append]
  obtain ⟨c0, c1, c2, c3, c4, c5⟩ := HCE.out W HW.out
  gi_wp2_with fail
  clear c0 c1 c2 c3 c4 c5
  gi_loopw [20] (fun i wr => ∃ (k : Nat) (pre : List (Round.Told (wantS ps S first fr f rs))), k ≤ rs.length ∧ i = .int .i64 k ∧ Hid (toldL pre = wantS ps S first fr f (rs.take k)) ∧ J pre wr ∧ Kept n₀ X w wr) (fun i _ => rs.length - (intOf i).toNat)
  case atStart => exact ⟨0, [], Nat.zero_le _, rfl, rfl, h0, HW.out⟩
  case round =>
    obtain ⟨k, pre, hk, rfl, hpre, hJk, hkb⟩ := hrel
    by_cases hkl : k < rs.length
    · obtain ⟨rb, ro, rc', hv, hrb, hcells⟩ := slice_cells (HD.out wr hkb).2.1 hkl
      obtain ⟨rfl, rfl⟩ : ra = some ⟨rb, ro, none⟩ ∧ rc = rc' := by simpa using hv
      obtain ⟨t0, ⟨hv', t1, t1'⟩, t2, t3, bv, t4, t5⟩ := hcells
      obtain ⟨ba, bc, rfl, _⟩ := t5
      obtain ⟨ha, hc, rfl, _⟩ := t1'
      have hkl1 : (k : Int) < (rs.length : Int) := by omega
      clear hv
      obtain ⟨W2, hW2⟩ : ∃ W2, wr.alloc (.cells #[.int .i64 rs[k].head.pred, .slice ha rs[k].head.args.length hc, .int .i64 rs[k].src, .int .i64 rs[k].n, .slice ba rs[k].body.length bc] 60) = W2 := ⟨_, rfl⟩
      have b2 : Below wr.heap.size wr W2 := by rw [← hW2]; exact below_alloc _ _
      have k2 : Kept n₀ X w W2 := hkb.trans (Kept.of b2 (HN0.out _ hkb))
      obtain ⟨d0, d1, d2, d3, d4⟩ : W2.cell? ⟨wr.heap.size, 0, none⟩ = some (.int .i64 rs[k].head.pred) ∧ W2.cell? ⟨wr.heap.size, 1, none⟩ = some (.slice ha rs[k].head.args.length hc) ∧ W2.cell? ⟨wr.heap.size, 2, none⟩ = some (.int .i64 rs[k].src) ∧ W2.cell? ⟨wr.heap.size, 3, none⟩ = some (.int .i64 rs[k].n) ∧ W2.cell? ⟨wr.heap.size, 4, none⟩ = some (.slice ba rs[k].body.length bc) := by rw [← hW2]; simp [go_sem]
      obtain ⟨_, e1, _⟩ := HCE.out W2 k2
      have hJ2 : J pre W2 := HJB.out _ _ _ hJk b2
      gi_wp2_with fail
      refine ⟨trivial, CallsIn.mono (callsIn_wide.2 (HWA.out W2 k hkl ha hc ba bc k2)) ?_⟩
      rintro ex W3 ⟨rfl, hb3⟩
      have k3 : Kept n₀ X w W3 := k2.trans (Kept.of hb3 (HN0.out _ k2))
      have hJ3 : J pre W3 := HJB.out _ _ _ hJ2 hb3
      clear hW2 d0 d1 d2 d3 d4 e1 t0 t1 t2 t3 t4 hJ2 hJk
      have HSU : Hid (wantS ps S first fr f (rs.take (k + 1)) = wantS ps S first fr f (rs.take k) ++ if S rs[k] then wantT ps first fr f rs[k] else []) := want_succ hkl
      have HLE : Hid ((wantS ps S first fr f (rs.take (k + 1))).length ≤ (wantS ps S first fr f rs).length) := want_le ps S first fr f rs (k + 1)
      cases hS : S rs[k]
      · have HSN : Hid (wantS ps S first fr f (rs.take (k + 1)) = wantS ps S first fr f (rs.take k)) := by show _ = _; rw [HSU.out, hS, if_neg (by simp), List.append_nil]
        clear HSU HLE
        gi_wp2_with fail
        go_roundw
        case rel => exact ⟨k + 1, pre, by omega, by go_num, by show _ = _; rw [HSN.out]; exact hpre.out, hJ3, k3⟩
        case measure => simp [intOf]; omega
      · have HSN : Hid (wantS ps S first fr f (rs.take (k + 1)) = wantS ps S first fr f (rs.take k) ++ wantT ps first fr f rs[k]) := by show _ = _; rw [HSU.out, hS, if_pos rfl]
        have HIN : Hid (∀ x ∈ wantT ps first fr f rs[k], x ∈ wantS ps S first fr f rs) := want_mem hkl hS
        have HA1 : Hid (∀ x, Kept n₀ X w x → Calls Tryz.prog 82 #[.agg #[.slice pa ps.length pc, .slice (some ⟨rb, ro, none⟩) rs.length rc], .slice fa f.length fc, .int .i64 (k : Int)] x fun e w' => (∃ v, e = .returned (.tuple #[v, .int .i64 0]) ∧ stepsAt w' v (allL f rs[k] k) ∧ ∀ b, v.ownBlock = some b → x.heap.size ≤ b) ∧ Below x.heap.size x w') := fun x hx => HALL.out x k hkl hx
        have HH1 : Hid (∀ x q, (hq : q < (allL f rs[k] k).length) → Kept n₀ X w x → Calls Tryz.prog 83 #[.agg #[.slice pa ps.length pc, .slice (some ⟨rb, ro, none⟩) rs.length rc], .slice fa f.length fc, .int .i64 (k : Int), .agg #[.int .i64 (allL f rs[k] k)[q].x, .int .i64 (allL f rs[k] k)[q].y, .int .i64 (allL f rs[k] k)[q].z]] x fun e w' => e = .returned (.tuple #[.bool true, .agg #[.int .i64 (headF ps f rs[k] (allL f rs[k] k)[q].vars).pred, .int .i64 (headF ps f rs[k] (allL f rs[k] k)[q].vars).a, .int .i64 (headF ps f rs[k] (allL f rs[k] k)[q].vars).b, .int .i64 (headF ps f rs[k] (allL f rs[k] k)[q].vars).val], .int .i64 0]) ∧ Below x.heap.size x w') := fun x q hq hx => HHO.out x k hkl q hq hx
        have HB1 : Hid (∀ x q, (hq : q < (allL f rs[k] k).length) → Kept n₀ X w x → Calls Tryz.prog g2 (bd2 ++ #[.agg #[.int .i64 (allL f rs[k] k)[q].rule, .int .i64 (allL f rs[k] k)[q].x, .int .i64 (allL f rs[k] k)[q].y, .int .i64 (allL f rs[k] k)[q].z]] ++ lb2) x fun e w' => e = .returned (.bool (first || isNew fr rs[k] (allL f rs[k] k)[q].vars)) ∧ Below x.heap.size x w') := fun x q hq hx => HWB.out x k hkl _ (List.getElem_mem hq) hx
        clear HSU HALL HHO HWA HWB hS
        generalize rs[k] = r at *
        have KEEP : Hid (∀ w' : World, Below W3.heap.size W3 w' → w'.cell? ⟨Bn, 0, none⟩ = some (.pointer (some ⟨BC, 0, none⟩)) ∧ w'.cell? ⟨BC, 0, none⟩ = some (.slice pa ps.length pc) ∧ w'.cell? ⟨BC, 1, none⟩ = some (.slice (some ⟨rb, ro, none⟩) rs.length rc) ∧ w'.cell? ⟨BC, 2, none⟩ = some (.slice fa f.length fc)) := fun w' hx => by
          obtain ⟨e0, _, _, e3, e4, e5⟩ := HCE.out w' (k3.trans (Kept.of hx (HN0.out _ k3)))
          exact ⟨e0, e3, e4, e5⟩
        have HA3 : Hid (∀ x, Below W3.heap.size W3 x → Calls Tryz.prog 82 #[.agg #[.slice pa ps.length pc, .slice (some ⟨rb, ro, none⟩) rs.length rc], .slice fa f.length fc, .int .i64 (k : Int)] x fun e w' => (∃ ta tc, e = .returned (.tuple #[.slice ta (allL f r k).length tc, .int .i64 0]) ∧ stepsAt w' (.slice ta (allL f r k).length tc) (allL f r k) ∧ ∀ b, (Value.slice ta (allL f r k).length tc).ownBlock = some b → W3.heap.size ≤ b) ∧ Below x.heap.size x w') := fun x hx => by
          refine (HA1.out x (k3.trans (Kept.of hx (HN0.out _ k3)))).mono ?_
          rintro e w' ⟨⟨v, rfl, h1, h2⟩, h3⟩
          obtain ⟨ta, tc, rfl, _⟩ := id h1
          exact ⟨⟨ta, tc, rfl, h1, fun b hb => Nat.le_trans hx.size (h2 b hb)⟩, h3⟩
        gi_wp2_with fail
        refine wpIn_wide.2 ?_
        go_region_held3 (fun w' => w'.cell? ⟨Bn, 0, none⟩ = some (.pointer (some ⟨BC, 0, none⟩)) ∧ w'.cell? ⟨BC, 0, none⟩ = some (.slice pa ps.length pc) ∧ w'.cell? ⟨BC, 1, none⟩ = some (.slice (some ⟨rb, ro, none⟩) rs.length rc) ∧ w'.cell? ⟨BC, 2, none⟩ = some (.slice fa f.length fc))
          (first | (refine KEEP.out _ ?_; (first | with_reducible exact Below.refl _ _ | with_reducible exact Below.drew (Below.refl _ _) | with_reducible exact hk4)))
          (first | (go_at_call 82; refine (HA3.out _ (Below.drew (Below.refl _ _))).mono ?_; rintro ex W4 ⟨⟨ta, tc, rfl, hst, hnew⟩, hb4⟩; have hk4 : Below W3.heap.size W3 W4 := ((Below.refl _ _).drew).trans hb4))
        have k4 : Kept n₀ X w W4 := k3.trans (Kept.of hk4 (HN0.out _ k3))
        have hJ4 : J pre W4 := HJB.out _ _ _ hJ3 hk4
        clear hJ3 HA1 HA3 KEEP
        have HSA : Hid (∀ x, Below W4.heap.size W4 x → stepsAt x (.slice ta (allL f r k).length tc) (allL f r k)) := fun x hx => Fire.stepsAt.lasts hx hst
        have HSX : Hid (∀ A B, Kept n₀ X A B → stepsAt A (.slice ta (allL f r k).length tc) (allL f r k) → stepsAt B (.slice ta (allL f r k).length tc) (allL f r k)) := fun A B hB h => by
          exact steps_kept hB.but (fun b hb => HX2.out b (Nat.le_trans k3.but.size (hnew b hb))) h
        have hal : (allL f r k).length ≤ 140737488355328 := by
          obtain ⟨_, _, _, h, _⟩ := hst
          exact h
        clear hst hnew
        gi_wp2_with fail
        gi_loopw [44] (fun i wr3 => ∃ (q : Nat) (pre' : List (Round.Told (wantS ps S first fr f rs))), q ≤ (allL f r k).length ∧ i = .int .i64 q ∧ Hid (toldL pre' = wantS ps S first fr f (rs.take k) ++ part ps first fr f r k q) ∧ J pre' wr3 ∧ Kept n₀ X w wr3 ∧ stepsAt wr3 (.slice ta (allL f r k).length tc) (allL f r k)) (fun i _ => (allL f r k).length - (intOf i).toNat)
        case atStart => exact ⟨0, pre, Nat.zero_le _, rfl, by show _ = _; rw [part_zero, List.append_nil]; exact hpre.out, hJ4, k4, HSA.out _ (Below.refl _ _)⟩
        case round =>
          obtain ⟨q, pre', hq, rfl, hpre', hJq, hkq, hstq⟩ := hrel
          by_cases hql : q < (allL f r k).length
          · obtain ⟨sb, so, sc, hsv, hsb, q0, q1, q2, q3⟩ := step_cells hstq hql
            obtain ⟨rfl, rfl⟩ : ta = some ⟨sb, so, none⟩ ∧ tc = sc := by simpa using hsv
            have hq1 : (q : Int) < ((allL f r k).length : Int) := by omega
            have HH2 : Hid (∀ x, Kept n₀ X w x → Calls Tryz.prog 83 #[.agg #[.slice pa ps.length pc, .slice (some ⟨rb, ro, none⟩) rs.length rc], .slice fa f.length fc, .int .i64 (k : Int), .agg #[.int .i64 (allL f r k)[q].x, .int .i64 (allL f r k)[q].y, .int .i64 (allL f r k)[q].z]] x fun e w' => e = .returned (.tuple #[.bool true, .agg #[.int .i64 (headF ps f r (allL f r k)[q].vars).pred, .int .i64 (headF ps f r (allL f r k)[q].vars).a, .int .i64 (headF ps f r (allL f r k)[q].vars).b, .int .i64 (headF ps f r (allL f r k)[q].vars).val], .int .i64 0]) ∧ Below x.heap.size x w') := fun x hx => HH1.out x q hql hx
            have HB2 : Hid (∀ x, Kept n₀ X w x → Calls Tryz.prog g2 (bd2 ++ #[.agg #[.int .i64 (allL f r k)[q].rule, .int .i64 (allL f r k)[q].x, .int .i64 (allL f r k)[q].y, .int .i64 (allL f r k)[q].z]] ++ lb2) x fun e w' => e = .returned (.bool (first || isNew fr r (allL f r k)[q].vars)) ∧ Below x.heap.size x w') := fun x hx => HB1.out x q hql hx
            have HT1 : Hid (part ps first fr f r k (q + 1) = part ps first fr f r k q ++ if first || isNew fr r (allL f r k)[q].vars then [headF ps f r (allL f r k)[q].vars] else []) := part_succ hql
            have HPL : Hid ((part ps first fr f r k (q + 1)).length ≤ (wantT ps first fr f r).length) := part_le ps first fr f r k (q + 1)
            have HMM : Hid ((first || isNew fr r (allL f r k)[q].vars) = true → headF ps f r (allL f r k)[q].vars ∈ wantS ps S first fr f rs) := fun h => HIN.out _ (by
              unfold wantT wantR
              rw [show (allL f r 0).filter (fun st => first || isNew fr r st.vars) = (allL f r 0).filter (fun st => first || isNew fr r st.vars) from rfl]
              have e := want_any ps first fr f r k
              unfold wantT wantR at e
              rw [e]
              unfold part
              rw [List.take_length]
              exact List.mem_map.2 ⟨_, List.mem_filter.2 ⟨List.getElem_mem hql, h⟩, rfl⟩)
            have HST : Hid (stepsAt wr (.slice (some ⟨sb, so, none⟩) (allL f r k).length tc) (allL f r k)) := hstq
            clear hsv hstq
            generalize (allL f r k)[q] = sk at *
            generalize headF ps f r sk.vars = y at *
            generalize (first || isNew fr r sk.vars) = wb at *
            obtain ⟨W5, hW5⟩ : ∃ W5, wr.alloc (.cells #[.int .i64 sk.rule, .int .i64 sk.x, .int .i64 sk.y, .int .i64 sk.z] 64) = W5 := ⟨_, rfl⟩
            have b5 : Below wr.heap.size wr W5 := by rw [← hW5]; exact below_alloc _ _
            have s5 : wr.heap.size < W5.heap.size := by rw [← hW5]; simp
            have k5 : Kept n₀ X w W5 := hkq.trans (Kept.of b5 (HN0.out _ hkq))
            obtain ⟨d0, d1, d2, d3⟩ : W5.cell? ⟨wr.heap.size, 0, none⟩ = some (.int .i64 sk.rule) ∧ W5.cell? ⟨wr.heap.size, 1, none⟩ = some (.int .i64 sk.x) ∧ W5.cell? ⟨wr.heap.size, 2, none⟩ = some (.int .i64 sk.y) ∧ W5.cell? ⟨wr.heap.size, 3, none⟩ = some (.int .i64 sk.z) := by rw [← hW5]; simp [go_sem]
            obtain ⟨_, _, e2, _⟩ := HCE.out W5 k5
            gi_wp2_with fail
            refine ⟨trivial, CallsIn.mono (callsIn_wide.2 (HB2.out W5 k5)) ?_⟩
            rintro ex W6 ⟨rfl, hb6⟩
            have k6 : Kept n₀ X w W6 := k5.trans (Kept.of hb6 (HN0.out _ k5))
            have b6 : Below wr.heap.size wr W6 := b5.trans (hb6.mono b5.size)
            have hJ6 : J pre' W6 := HJB.out _ _ _ hJq b6
            have HS6 : Hid (stepsAt W6 (.slice (some ⟨sb, so, none⟩) (allL f r k).length tc) (allL f r k)) := Fire.stepsAt.lasts b6 HST.out
            cases wb
            · have HT2 : Hid (part ps first fr f r k (q + 1) = part ps first fr f r k q) := by show _ = _; rw [HT1.out, if_neg (by simp), List.append_nil]
              clear HT1 HPL HMM hW5 d0 d1 d2 d3 e2 q0 q1 q2 q3
              gi_wp2_with fail
              go_roundw
              case rel => exact ⟨q + 1, pre', by omega, by go_num, by show _ = _; rw [HT2.out]; exact hpre'.out, hJ6, k6, HS6.out⟩
              case measure => simp [intOf]; omega
            · have HT2 : Hid (part ps first fr f r k (q + 1) = part ps first fr f r k q ++ [y]) := by show _ = _; rw [HT1.out, if_pos rfl]
              have hin : y ∈ wantS ps S first fr f rs := HMM.out rfl
              have hplen : pre'.length < (wantS ps S first fr f rs).length := by
                have h1 := HLE.out
                have h2 := congrArg List.length hpre'.out
                have h3 := HPL.out
                rw [HSN.out, List.length_append] at h1
                rw [HT2.out, List.length_append] at h3
                rw [toldL_length, List.length_append] at h2
                simp at h3
                omega
              have KEEP : Hid (∀ w' : World, Below W6.heap.size W6 w' → w'.cell? ⟨Bn, 0, none⟩ = some (.pointer (some ⟨BC, 0, none⟩)) ∧ w'.cell? ⟨BC, 0, none⟩ = some (.slice pa ps.length pc) ∧ w'.cell? ⟨BC, 1, none⟩ = some (.slice (some ⟨rb, ro, none⟩) rs.length rc) ∧ w'.cell? ⟨BC, 2, none⟩ = some (.slice fa f.length fc) ∧ w'.cell? ⟨wr.heap.size, 1, none⟩ = some (.int .i64 sk.x) ∧ w'.cell? ⟨wr.heap.size, 2, none⟩ = some (.int .i64 sk.y) ∧ w'.cell? ⟨wr.heap.size, 3, none⟩ = some (.int .i64 sk.z)) := fun w' hx => by
                obtain ⟨e0, _, _, e3, e4, e5⟩ := HCE.out w' (k6.trans (Kept.of hx (HN0.out _ k6)))
                have hx5 : Below W5.heap.size W5 w' := hb6.trans (hx.mono hb6.size)
                exact ⟨e0, e3, e4, e5, (cell_lasts hx5 s5).trans d1, (cell_lasts hx5 s5).trans d2, (cell_lasts hx5 s5).trans d3⟩
              have KA : Hid (Below W6.heap.size W6 (W6.alloc (.cells #[.int .i64 0, .int .i64 0, .int .i64 0, .int .i64 0] 79))) := below_alloc _ _
              have KS : Hid (∀ x, Below W6.heap.size W6 x → ∀ y0 y1 y2 y3, Below W6.heap.size W6 ((((x.setCell ⟨W6.heap.size, 0, none⟩ y0).setCell ⟨W6.heap.size, 1, none⟩ y1).setCell ⟨W6.heap.size, 2, none⟩ y2).setCell ⟨W6.heap.size, 3, none⟩ y3)) := fun x hx y0 y1 y2 y3 => Fire.below_four hx y0 y1 y2 y3
              have KZ : Hid (∀ x, Below (W6.alloc (.cells #[.int .i64 0, .int .i64 0, .int .i64 0, .int .i64 0] 79)).drew.heap.size (W6.alloc (.cells #[.int .i64 0, .int .i64 0, .int .i64 0, .int .i64 0] 79)).drew x → x.cell? ⟨W6.heap.size, 0, none⟩ = some (.int .i64 0) ∧ x.cell? ⟨W6.heap.size, 1, none⟩ = some (.int .i64 0) ∧ x.cell? ⟨W6.heap.size, 2, none⟩ = some (.int .i64 0) ∧ x.cell? ⟨W6.heap.size, 3, none⟩ = some (.int .i64 0) ∧ ∀ o, x.frozen? ⟨W6.heap.size, o, none⟩ = false) := fun x hx => Fire.zero_box hx
              have HH3 : Hid (∀ x, Below W6.heap.size W6 x → Calls Tryz.prog 83 #[.agg #[.slice pa ps.length pc, .slice (some ⟨rb, ro, none⟩) rs.length rc], .slice fa f.length fc, .int .i64 (k : Int), .agg #[.int .i64 sk.x, .int .i64 sk.y, .int .i64 sk.z]] x fun e w' => e = .returned (.tuple #[.bool true, .agg #[.int .i64 y.pred, .int .i64 y.a, .int .i64 y.b, .int .i64 y.val], .int .i64 0]) ∧ Below x.heap.size x w') := fun x hx => HH2.out x (k6.trans (Kept.of hx (HN0.out _ k6)))
              clear HT1 HPL HMM hW5 d0 d1 d2 d3 e2 q0 q1 q2 q3 hJq HB2 HH2 HST
              gi_wp2_with fail
              refine wpIn_wide.2 ?_
              go_region_held3 (fun w' => w'.cell? ⟨Bn, 0, none⟩ = some (.pointer (some ⟨BC, 0, none⟩)) ∧ w'.cell? ⟨BC, 0, none⟩ = some (.slice pa ps.length pc) ∧ w'.cell? ⟨BC, 1, none⟩ = some (.slice (some ⟨rb, ro, none⟩) rs.length rc) ∧ w'.cell? ⟨BC, 2, none⟩ = some (.slice fa f.length fc) ∧ w'.cell? ⟨wr.heap.size, 1, none⟩ = some (.int .i64 sk.x) ∧ w'.cell? ⟨wr.heap.size, 2, none⟩ = some (.int .i64 sk.y) ∧ w'.cell? ⟨wr.heap.size, 3, none⟩ = some (.int .i64 sk.z))
                (first | (refine KEEP.out _ ?_; (first | with_reducible exact Below.refl _ _ | with_reducible exact Below.drew (Below.refl _ _) | with_reducible exact hk | with_reducible exact KA.out | with_reducible exact Below.drew KA.out | with_reducible exact Below.alloc hk (Below.size hk) _ | with_reducible exact KS.out _ hk _ _ _ _)))
                (first | (go_at_call 83; refine (HH3.out _ (KA.out.drew)).mono ?_; rintro ex w5 ⟨rfl, hb5⟩; have hk : Below W6.heap.size W6 w5 := KA.out.trans ((((Below.refl _ _).drew).trans hb5).mono KA.out.size); obtain ⟨z0, z1, z2, z3, zf⟩ := KZ.out _ hb5) | (go_at_call 83; refine (HH3.out _ (Below.drew (Below.refl _ _))).mono ?_; rintro ex w5 ⟨rfl, hb5⟩; have hk : Below W6.heap.size W6 w5 := ((Below.refl _ _).drew).trans hb5))
              · obtain ⟨W7, hW7⟩ : ∃ W7, w5.alloc (.cells #[.int .i64 y.pred, .int .i64 y.a, .int .i64 y.b, .int .i64 y.val] 79) = W7 := ⟨_, rfl⟩
                have b67 : Below W6.heap.size W6 W7 := by rw [← hW7]; exact Below.alloc hk (Below.size hk) _
                obtain ⟨n0, n1, n2, n3⟩ : W7.cell? ⟨w5.heap.size, 0, none⟩ = some (.int .i64 y.pred) ∧ W7.cell? ⟨w5.heap.size, 1, none⟩ = some (.int .i64 y.a) ∧ W7.cell? ⟨w5.heap.size, 2, none⟩ = some (.int .i64 y.b) ∧ W7.cell? ⟨w5.heap.size, 3, none⟩ = some (.int .i64 y.val) := by rw [← hW7]; simp [go_sem]
                rw [hW7]
                clear hW7
                have k7 : Kept n₀ X w W7 := k6.trans (Kept.of b67 (HN0.out _ k6))
                have hJ7 : J pre' W7 := HJB.out _ _ _ hJ6 b67
                have hst7 : Hid (stepsAt W7 (.slice (some ⟨sb, so, none⟩) (allL f r k).length tc) (allL f r k)) := Fire.stepsAt.lasts b67 HS6.out
                clear hb5 hk KEEP KA KS KZ HH3 hJ6
                obtain ⟨fn, tmps, assign, body, hy, hR⟩ := hY pre' ⟨y, hin⟩ W7 hJ7 hplen
                dsimp only [toldV] at hy
                gi_wp2_with fail
                refine hR.mono ?_
                rintro ex W8 (⟨rfl, hJ8, hk8⟩ | ⟨rfl, hJx8⟩)
                · have hst8 : Hid (stepsAt W8 (.slice (some ⟨sb, so, none⟩) (allL f r k).length tc) (allL f r k)) := HSX.out _ _ hk8 hst7.out
                  clear n0 n1 n2 n3 hy
                  gi_wp2_with fail
                  go_roundw
                  case rel => exact ⟨q + 1, _, by omega, by go_num, by show _ = _; rw [toldL_snoc, hpre'.out, HT2.out, List.append_assoc], hJ8, k7.trans hk8, hst8.out⟩
                  case measure => simp [intOf]; omega
                · clear n0 n1 n2 n3 hy
                  gi_wp2_with fail
                  refine bodyPost_ret (results_none rfl _ _ _) rfl ?_
                  exact ⟨⟨_, rfl⟩, .inr ⟨_, trivial, hJx8⟩⟩
              · obtain ⟨W7, hW7⟩ : ∃ W7, (((w5.setCell ⟨W6.heap.size, 0, none⟩ (.int .i64 y.pred)).setCell ⟨W6.heap.size, 1, none⟩ (.int .i64 y.a)).setCell ⟨W6.heap.size, 2, none⟩ (.int .i64 y.b)).setCell ⟨W6.heap.size, 3, none⟩ (.int .i64 y.val) = W7 := ⟨_, rfl⟩
                have b67 : Below W6.heap.size W6 W7 := by rw [← hW7]; exact KS.out _ hk _ _ _ _
                obtain ⟨n0, n1, n2, n3⟩ : W7.cell? ⟨W6.heap.size, 0, none⟩ = some (.int .i64 y.pred) ∧ W7.cell? ⟨W6.heap.size, 1, none⟩ = some (.int .i64 y.a) ∧ W7.cell? ⟨W6.heap.size, 2, none⟩ = some (.int .i64 y.b) ∧ W7.cell? ⟨W6.heap.size, 3, none⟩ = some (.int .i64 y.val) := by
                  rw [← hW7]
                  exact ⟨by rw [cell_off (by omega), cell_off (by omega), cell_off (by omega)]; exact cell_set z0, by rw [cell_off (by omega), cell_off (by omega)]; exact cell_set (by rw [cell_off (by omega)]; exact z1), by rw [cell_off (by omega)]; exact cell_set (by rw [cell_off (by omega), cell_off (by omega)]; exact z2), cell_set (by rw [cell_off (by omega), cell_off (by omega), cell_off (by omega)]; exact z3)⟩
                rw [hW7]
                clear hW7 z0 z1 z2 z3 zf
                have k7 : Kept n₀ X w W7 := k6.trans (Kept.of b67 (HN0.out _ k6))
                have hJ7 : J pre' W7 := HJB.out _ _ _ hJ6 b67
                have hst7 : Hid (stepsAt W7 (.slice (some ⟨sb, so, none⟩) (allL f r k).length tc) (allL f r k)) := Fire.stepsAt.lasts b67 HS6.out
                clear hb5 hk KEEP KA KS KZ HH3 hJ6
                obtain ⟨fn, tmps, assign, body, hy, hR⟩ := hY pre' ⟨y, hin⟩ W7 hJ7 hplen
                dsimp only [toldV] at hy
                gi_wp2_with fail
                refine hR.mono ?_
                rintro ex W8 (⟨rfl, hJ8, hk8⟩ | ⟨rfl, hJx8⟩)
                · have hst8 : Hid (stepsAt W8 (.slice (some ⟨sb, so, none⟩) (allL f r k).length tc) (allL f r k)) := HSX.out _ _ hk8 hst7.out
                  clear n0 n1 n2 n3 hy
                  gi_wp2_with fail
                  go_roundw
                  case rel => exact ⟨q + 1, _, by omega, by go_num, by show _ = _; rw [toldL_snoc, hpre'.out, HT2.out, List.append_assoc], hJ8, k7.trans hk8, hst8.out⟩
                  case measure => simp [intOf]; omega
                · clear n0 n1 n2 n3 hy
                  gi_wp2_with fail
                  refine bodyPost_ret (results_none rfl _ _ _) rfl ?_
                  exact ⟨⟨_, rfl⟩, .inr ⟨_, trivial, hJx8⟩⟩
          · obtain rfl : q = (allL f r k).length := by omega
            have HRT : Hid (part ps first fr f r k (allL f r k).length = wantT ps first fr f r) := (want_any ps first fr f r k).symm
            gi_wp2_with fail
            go_roundw
            case rel => exact ⟨k + 1, pre', by omega, by go_num, by show _ = _; rw [hpre'.out, HSN.out, HRT.out], hJq, hkq⟩
            case measure => simp [intOf]; omega
    · obtain rfl : k = rs.length := by omega
      gi_wp2_with fail
      go_end0
      exact ⟨⟨_, rfl⟩, .inl ⟨pre, by have := hpre.out; rwa [List.take_length] at this, hJk⟩⟩
end Go.Proofs.YtlfccloaoopadaeGreat.Semi

/-
  What a turn of the developers' package semi needs: a copy that may be written, what is left of it, how many steps are wanted at most, and what a turn keeps.
-/
namespace Go.Proofs.YtlfccloaoopadaeGreat.Semi
open Go.ChangeShapes Go.WideShapes Go.ChangeAt Go.RowKit
open Rule (Vars ruleErr kindOf factFine)
open Base (factV factsErr capOk capNew cellsF piece facts_piece wpList_append_piece)
open Fire (roundErr allL rules_right headF)
open Prog (progErr)
open Round (toldS addAll)

/-- a copy of the call's own: nothing, or a row that may be written -/
def Copy (n : Nat) (w : World) (v : Value) (xs : List Fct) : Prop := (v = .slice none 0 0 ∧ xs = []) ∨ ∃ g cap, v = .slice (some ⟨g, 0, none⟩) xs.length cap ∧ n ≤ g ∧ RowF w g xs ∧ xs.length ≤ cap
theorem row_own {w : World} {n : Nat} {v : Value} {xs : List Fct} (h : w.ownsRow n 79 4 v xs.length (cellsF xs)) (hl : xs.length ≤ 500) : Copy n w v xs := by
  rcases h.2 with ⟨rfl, h0⟩ | ⟨g, cap, cur, rfl, hb, hg, hle, hm, hsz, htk⟩
  · exact .inl ⟨rfl, List.eq_nil_of_length_eq_zero h0⟩
  · refine .inr ⟨g, cap, rfl, hb, ⟨(Array.getElem?_eq_some_iff.1 hg).1, fun o => frozen_of_row w g o _ _ hg, fun k y hk => ?_⟩, hle⟩
    obtain ⟨a, c, hv, _, hx⟩ := Base.factsAt_of h (by omega)
    obtain ⟨rfl, rfl⟩ : some (⟨g, 0, none⟩ : Addr) = a ∧ cap = c := by simpa using hv
    rcases hx with hx | ⟨b, off, he, _, hx⟩
    · rw [hx] at hk
      simp at hk
    · obtain ⟨rfl, rfl⟩ : g = b ∧ 0 = off := by simpa using he
      have := hx k y hk
      rwa [Nat.zero_add] at this

set_option maxRecDepth 100000 in
set_option maxHeartbeats 4000000 in
theorem clone_own (w : World) (fv : Value) (f : List Fct) (hf : factsAt w fv f) (h1 : f.length ≤ 500) :
    Calls Tryz.prog 61 #[fv] w fun e w' => ∃ v, e = .returned v ∧ Copy w.heap.size w' v f ∧ Below w.heap.size w w' := by
  have HP : Hid (piece w fv f) := facts_piece hf
  obtain ⟨fa, fc, rfl, hfm, hfx⟩ := hf
  cases fa with
  | none =>
    have hf0 : f = [] := by
      rcases hfx with h | ⟨b, off, h, _⟩
      · exact h
      · cases h
    subst hf0
    have hnil : ∀ w', Sem.run Tryz.prog (binOp .eql 26 (.slice none 0 fc) (.slice none 0 0)) w' = .ok (.bool true) w' := fun w' => by
      have h : ∀ d : Nat, (Op.equalIn (d + 1) 26 (.slice none 0 fc) (.slice none 0 0)).run Tryz.prog w' = .ok true w' := fun d => by
        simp [Op.equalIn, run_underlying Tryz.underlying26]
      simp only [binOp]
      simp [Op.equal, Op.maxDepth, h 9999]
    clear h1 hfm HP hfx
    simp only [List.length_nil]
    go_enter Tryz.func61, Tryz.ntmps61
    go_wp2_with fail
    go_ret
    exact ⟨.slice none 0 0, rfl, .inl ⟨rfl, rfl⟩, Below.refl _ _⟩
  | some ad =>
    clear hfx
    have hnil : ∀ w', Sem.run Tryz.prog (binOp .eql 26 (.slice (some ad) f.length fc) (.slice none 0 0)) w' = .ok (.bool false) w' := fun w' => by
      have h : ∀ d : Nat, (Op.equalIn (d + 1) 26 (.slice (some ad) f.length fc) (.slice none 0 0)).run Tryz.prog w' = .ok false w' := fun d => by
        simp [Op.equalIn, run_underlying Tryz.underlying26]
      simp only [binOp]
      simp [Op.equal, Op.maxDepth, h 9999]
    go_enter Tryz.func61, Tryz.ntmps61
    have HN : Hid ((w.alloc (.cells #[] 79)).ownsRow w.heap.size 79 4 (.slice (some ⟨w.heap.size, 0, none⟩) 0 0) ([] : List Fct).length (cellsF [])) := ⟨rfl, .inr ⟨w.heap.size, 0, #[], rfl, Nat.le_refl _, heap_alloc_new w _, Nat.le_refl _, Nat.zero_le _, rfl, rfl⟩⟩
    go_wp2_with (at_builtin; refine wpList_append_piece _ rfl _ _ rfl w.heap.size (.slice (some ⟨w.heap.size, 0, none⟩) 0 0) [] f HN.out rfl _ rfl (HP.out.lasts (below_alloc _ _)) (by simp; omega) (by simp) ?_; intro v1 w1 hown1 hgr1; have hb1 : Below w.heap.size w w1 := (below_alloc _ _).grown hgr1 (by simp) (fun k hk => by cases hk; exact Nat.le_refl _); clear hgr1)
    go_ret
    exact ⟨v1, rfl, row_own hown1 h1, hb1⟩

set_option maxRecDepth 100000 in
theorem delete_nil (w : World) (fn : Nat) (lb : Array Value) (eg : ∀ args w, (callFunc fn args).run Tryz.prog w = .ok (.enter fn args) w) :
    Calls Tryz.prog 60 #[.slice none 0 0, .func (.func fn) #[] lb] w fun e w' => e = .returned (.slice none 0 0) ∧ Below w.heap.size w w' := by
  have HIX := indexFact_n w (.slice none 0 0) [] fn lb eg (fun _ => false) (Base.facts_nil _) (fun _ _ _ hq => by cases hq)
  go_enter Tryz.func60, Tryz.ntmps60
  go_wp2_with fail
  refine HIX.mono ?_
  rintro e W1 ⟨i0, rfl, hi0, hb1⟩
  have h1 : i0 = -1 := by
    rcases hi0 with ⟨h, _⟩ | ⟨k, hk, _⟩
    · exact h
    · simp at hk
  subst h1
  clear hi0 HIX
  go_wp2_with fail
  go_ret
  exact ⟨rfl, hb1⟩
theorem delete_any (w0 w : World) (v : Value) (xs : List Fct) (fn : Nat) (lb : Array Value) (eg : ∀ args w, (callFunc fn args).run Tryz.prog w = .ok (.enter fn args) w) (p : Fct → Bool) (hw : Below w0.heap.size w0 w) (hv : Copy w0.heap.size w v xs) (hl : xs.length ≤ 500)
    (hp : ∀ (w1 : World) (q : Fct), Below w0.heap.size w0 w1 → q ∈ xs → Calls Tryz.prog fn (#[factV q] ++ lb) w1 fun e w' => e = .returned (.bool (p q)) ∧ Below w1.heap.size w1 w') :
    Calls Tryz.prog 60 #[v, .func (.func fn) #[] lb] w fun e w' => ∃ a n c, e = .returned (.slice a n c) ∧ factsAt w' (.slice a n c) (xs.filter fun y => !p y) ∧ (∀ b, (Value.slice a n c).ownBlock = some b → w0.heap.size ≤ b) ∧ Below w0.heap.size w0 w' := by
  rcases hv with ⟨rfl, rfl⟩ | ⟨g, cap, rfl, hg, hr, hc⟩
  · refine (delete_nil w fn lb eg).mono ?_
    rintro e w' ⟨rfl, hb⟩
    exact ⟨none, 0, 0, rfl, Base.facts_nil _, fun b h => (by cases h), hw.trans (hb.mono hw.size)⟩
  · refine (delete_c w0 w g cap xs fn lb eg p hw hg hr hc hl hp).mono ?_
    rintro e w' ⟨rfl, h1, h2⟩
    exact ⟨_, _, _, rfl, h1.facts (Nat.le_trans (List.length_filter_le _ _) hl), fun b h => (by cases h; exact hg), h2⟩
theorem want_few {ps : List Prd} {rs : List Rul} (hpe : progErr ps rs = 0) (S : Rul → Bool) (first : Bool) (fr f : List Fct) : (wantS ps S first fr f rs).length ≤ 1000 := by
  have h8 : rs.length ≤ 8 := (Prog.parts_zero (Prog.prog_zero hpe).1).2.1
  have : ∀ l : List Rul, (wantS ps S first fr f l).length ≤ l.length * 125 := fun l => by
    induction l with
    | nil => exact Nat.le_refl _
    | cons r l ih =>
      have e : wantS ps S first fr f (r :: l) = (if S r then wantT ps first fr f r else []) ++ wantS ps S first fr f l := by unfold wantS; rw [List.flatMap_cons]
      have hr : (wantT ps first fr f r).length ≤ 125 := by
        unfold wantT wantR
        rw [List.length_map]
        exact Nat.le_trans (List.length_filter_le _ _) (Fire.stepsA_len f r 0 5)
      rw [e, List.length_append, List.length_cons]
      split
      · omega
      · simp; omega
  have := this rs
  omega
theorem want_fine {ps : List Prd} {rs : List Rul} (hpe : progErr ps rs = 0) {f : List Fct} (hfe : factsErr ps f = 0) (S : Rul → Bool) (first : Bool) (fr : List Fct) : ∀ x ∈ wantS ps S first fr f rs, factFine ps x = true := fun x hx => by
  refine Round.toldS_fine (S := S) (rules_right hpe) hfe x ?_
  obtain ⟨r, hr, hx⟩ := List.mem_flatMap.1 hx
  refine List.mem_flatMap.2 ⟨r, hr, ?_⟩
  split at hx
  · rename_i hS
    rw [if_pos hS]
    obtain ⟨st, hst, rfl⟩ := List.mem_map.1 hx
    exact List.mem_map.2 ⟨st, (List.mem_filter.1 hst).1, rfl⟩
  · cases hx
theorem facts_set {W : World} {u v : Value} {f : List Fct} {B o : Nat} (h : factsAt W u f) (hne : ∀ b, u.ownBlock = some b → b ≠ B) : factsAt (W.setCell ⟨B, o, none⟩ v) u f := by
  obtain ⟨a, cap, rfl, hl, hx⟩ := h
  refine ⟨a, cap, rfl, hl, ?_⟩
  rcases hx with hx | ⟨b, off, rfl, hb, hx⟩
  · exact .inl hx
  · have hne := hne b rfl
    refine .inr ⟨b, off, rfl, by rw [size_set]; exact hb, fun i x hi => ?_⟩
    obtain ⟨p0, p1, p2, p3⟩ := hx i x hi
    exact ⟨by rw [cell_block (Ne.symm hne)]; exact p0, by rw [cell_block (Ne.symm hne)]; exact p1, by rw [cell_block (Ne.symm hne)]; exact p2, by rw [cell_block (Ne.symm hne)]; exact p3⟩
/-- what a turn keeps: all but the news -/
structure TurnK (B : Nat) (w w' : World) : Prop where
  below : ∀ n, n ≤ B → n ≤ w.heap.size → Below n w w'
  size : w.heap.size ≤ w'.heap.size
  same : ∀ k, k < w.heap.size → k ≠ B → w'.heap[k]? = w.heap[k]?
theorem TurnK.of {B : Nat} {w w' : World} (h : Below w.heap.size w w') : TurnK B w w' := ⟨fun _ _ h2 => h.mono h2, h.size, fun k hk _ => h.block k hk⟩
theorem TurnK.trans {B : Nat} {w w' w'' : World} (h : TurnK B w w') (k : TurnK B w' w'') : TurnK B w w'' :=
  ⟨fun n h1 h2 => (h.below n h1 h2).trans (k.below n h1 (Nat.le_trans h2 h.size)), Nat.le_trans h.size k.size, fun i hi hn => (k.same i (Nat.lt_of_lt_of_le hi h.size) hn).trans (h.same i hi hn)⟩
theorem TurnK.set {B o : Nat} (w : World) (u : Value) : TurnK B w (w.setCell ⟨B, o, none⟩ u) :=
  ⟨fun n h1 _ => (Below.refl _ _).setCell (p := ⟨B, o, none⟩) h1 _, by rw [size_set]; exact Nat.le_refl _, fun k _ hn => Fire.heap_setCell_other (fun e => hn e.symm)⟩
end Go.Proofs.YtlfccloaoopadaeGreat.Semi
