/-
  A turn of the developers' package semi: what the wanted steps tell is added, and what is new by that is noted.
-/
import Derived.Test.YtlfccloaoopadaeGreatG24
import Derived.Test.YtlfccloaoopadaeGreatG26
import Derived.Test.YtlfccloaoopadaeGreatG19
import Derived.Test.YtlfccloaoopadaeGreatG11
import Derived.Test.YtlfccloaoopadaeGreatG23
import Derived.Test.YtlfccloaoopadaeGreatG9
namespace Go.Proofs.YtlfccloaoopadaeGreat.Semi
open Go.RowKit Go.Shelf
open Rule (Vars ruleErr kindOf factFine)
open Base (factV factsErr addF addC capOk capNew)
open Fire (allL Stp rules_right)
open Prog (progErr small KeepsBut keepsBut_of_below leaves_marks)
open Round (Kept toldV toldL toldL_snoc toldL_length addAll addAll_right addAll_one addOf_right facts_kept kept_grown facts_box facts_cells kept_two keepsOthers_below)
attribute [local go_sem] Oper.semAt_some

set_option maxRecDepth 100000 in
set_option maxHeartbeats 8000000 in
theorem turn_c (w : World) (B : Nat) (pv rv fv gv : Value) (g : Nat) (lb : Array Value) (g2 : Nat) (bd2 lb2 : Array Value) (ps : List Prd) (rs : List Rul) (f fr : List Fct) (S : Rul → Bool) (first : Bool)
    (hn : newsAt w B pv rv fv gv) (hp : predsAt w pv ps) (hr : rulesAt w rv rs) (hf : factsAt w fv f) (hcap : capOk fv) (hfB : ∀ b, fv.ownBlock = some b → b ≠ B) (hsm : small ps) (hpe : progErr ps rs = 0) (hfe : factsErr ps f = 0)
    (eg : ∀ args w, (callFunc g args).run Tryz.prog w = .ok (.enter g args) w) (eg2 : ∀ args w, (callFunc g2 args).run Tryz.prog w = .ok (.enter g2 args) w)
    (hwa : ∀ (x : World) (n : Nat) (hn : n < rs.length) (ha : Option Addr) (hc : Nat) (ba : Option Addr) (bc : Nat), Below w.heap.size w x → Calls Tryz.prog g (#[.agg #[.int .i64 rs[n].head.pred, .slice ha rs[n].head.args.length hc, .int .i64 rs[n].src, .int .i64 rs[n].n, .slice ba rs[n].body.length bc]] ++ lb) x fun e w' => e = .returned (.bool (S rs[n])) ∧ Below x.heap.size x w')
    (hwb : ∀ (x : World) (n : Nat) (hn : n < rs.length) (st : Stp), st ∈ allL f rs[n] n → Below w.heap.size w x → Calls Tryz.prog g2 (bd2 ++ #[.agg #[.int .i64 st.rule, .int .i64 st.x, .int .i64 st.y, .int .i64 st.z]] ++ lb2) x fun e w' => e = .returned (.bool (first || isNew fr rs[n] st.vars)) ∧ Below x.heap.size x w') :
    Calls Tryz.prog 27 #[.pointer (some ⟨B, 0, none⟩), .func (.func g) #[] lb, .func (.func g2) bd2 lb2] w fun e w' => ∃ u v, e = .returned (.int .i64 ((wantS ps S first fr f rs).length : Int)) ∧ newsAt w' B pv rv u v ∧ factsAt w' u (addAll (kindOf ps) f (wantS ps S first fr f rs)) ∧ capOk u ∧ (∀ b, u.ownBlock = some b → b ≠ B) ∧ factsAt w' v (fresh f (addAll (kindOf ps) f (wantS ps S first fr f rs))) ∧ TurnK B w w' := by
  have HD0 : Hid (predsAt w pv ps ∧ rulesAt w rv rs ∧ factsAt w fv f ∧ newsAt w B pv rv fv gv) := ⟨hp, hr, hf, hn⟩
  have HPE : Hid (progErr ps rs = 0 ∧ factsErr ps f = 0 ∧ small ps) := ⟨hpe, hfe, hsm⟩
  have HCB : Hid (capOk fv ∧ ∀ b, fv.ownBlock = some b → b ≠ B) := ⟨hcap, hfB⟩
  have HFEW : Hid ((wantS ps S first fr f rs).length ≤ 1000) := want_few hpe S first fr f
  have HT : Hid (∀ x ∈ wantS ps S first fr f rs, factFine ps x = true) := want_fine hpe hfe S first fr
  have hBl : B < w.heap.size := (news_cells hn).2.2.2.2.2.2
  obtain ⟨pa, pc, rfl, _⟩ := hp
  obtain ⟨fa, fc, rfl, _⟩ := hf
  obtain ⟨W1, hW1⟩ : ∃ W1, w.alloc (.cells #[.pointer (some ⟨B, 0, none⟩)] 52) = W1 := ⟨_, rfl⟩
  have b1 : Below w.heap.size w W1 := by rw [← hW1]; exact below_alloc _ _
  have s1 : W1.heap.size = w.heap.size + 1 := by rw [← hW1]; simp
  have q0 : W1.cell? ⟨w.heap.size, 0, none⟩ = some (.pointer (some ⟨B, 0, none⟩)) := by rw [← hW1]; simp [go_sem]
  obtain ⟨_, _, n2, _⟩ := news_cells (news_below b1 hn)
  have HK1 : Hid (∀ x, Below W1.heap.size W1 x → x.cell? ⟨w.heap.size, 0, none⟩ = some (.pointer (some ⟨B, 0, none⟩)) ∧ newsAt x B (.slice pa ps.length pc) rv (.slice fa f.length fc) gv ∧ Below w.heap.size w x) := fun x hx => ⟨(cell_lasts hx (by omega)).trans q0, news_below (b1.trans (hx.mono b1.size)) HD0.out.2.2.2, b1.trans (hx.mono b1.size)⟩
  clear hpe hfe hcap hfB hn hr
  refine (callsIn_wide (n := 6)).1 (callsIn_of_wp_marks Tryz.func27 rfl trivial (wpIn_wide.2 ?_) rfl)
  simp only [Tryz.ntmps27, List.size_toArray, List.length_cons, List.length_nil, Nat.reduceAdd, Nat.reduceSub, Array.replicate_succ, Array.replicate_zero, List.push_toArray, List.append_toArray, List.nil_append, List.cons_append]
  go_wp2_with fail
  obtain ⟨W6, hW6⟩ : ∃ W6, (W1.alloc (.cells #[.slice fa f.length fc] 26)).alloc (.cells #[.int .i64 0] 3) = W6 := ⟨_, rfl⟩
  have b16 : Below W1.heap.size W1 W6 := by rw [← hW6]; exact ((Below.refl _ _).alloc (Nat.le_refl _) _).alloc (by simp) _
  have s6 : W6.heap.size = w.heap.size + 1 + 1 + 1 := by rw [← hW6]; simp [s1]
  have X13 : Boxed W6 (w.heap.size + 1) 26 (.slice fa f.length fc) := by rw [← hW6, ← s1]; exact (Below.heap_alloc _ _ _ (by simp)).trans (World.alloc_heap_new W1 _)
  have X14 : Boxed W6 (w.heap.size + 1 + 1) 3 (.int .i64 0) := by
    rw [← hW6, ← s1]
    have := World.alloc_heap_new (W1.alloc (.cells #[.slice fa f.length fc] 26)) (.cells #[.int .i64 0] 3)
    rwa [World.size_alloc] at this
  rw [hW6]
  clear hW6
  refine (told_c W6 B g lb g2 bd2 lb2).mono ?_
  rintro e W7 ⟨rfl, hW7⟩
  have b67 : Below W6.heap.size W6 W7 := by rw [hW7]; exact (((Below.refl _ _).alloc (Nat.le_refl _) _).alloc (by simp) _).alloc (by simp; omega) _
  have s7 : W7.heap.size = W6.heap.size + 1 + 1 + 1 := by rw [hW7]; simp
  have t0 : W7.cell? ⟨W6.heap.size, 0, none⟩ = some (.pointer (some ⟨B, 0, none⟩)) := by rw [hW7]; simp [go_sem]
  have t1 : W7.cell? ⟨W6.heap.size + 1, 0, none⟩ = some (.func (.func g) #[] lb) := by rw [hW7]; simp [go_sem]
  have t2 : W7.cell? ⟨W6.heap.size + 1 + 1, 0, none⟩ = some (.func (.func g2) bd2 lb2) := by rw [hW7]; simp [go_sem]
  clear hW7
  go_wp2_with fail
  have b17 : Below W1.heap.size W1 W7 := b16.trans (b67.mono b16.size)
  have k7 : Below w.heap.size w W7 := b1.trans (b17.mono b1.size)
  have Y13 : Boxed W7 (w.heap.size + 1) 26 (.slice fa f.length fc) := (b67.block _ X13.lt).trans X13
  have Y14 : Boxed W7 (w.heap.size + 1 + 1) 3 (.int .i64 0) := (b67.block _ X14.lt).trans X14
  have HF7 : Hid (factsAt W7 (.slice fa f.length fc) f) := factsAt.lasts k7 HD0.out.2.2.1
  have n7 : newsAt W7 B (.slice pa ps.length pc) rv (.slice fa f.length fc) gv := (HK1.out _ b17).2.1
  have HFR : Hid (∀ x, Kept w.heap.size (fun k => k = w.heap.size + 1 ∨ k = w.heap.size + 1 + 1) W7 x → x.cell? ⟨w.heap.size, 0, none⟩ = some (.pointer (some ⟨B, 0, none⟩)) ∧ newsAt x B (.slice pa ps.length pc) rv (.slice fa f.length fc) gv ∧ Below w.heap.size w x) := fun x hx => ⟨hx.but.cell (by omega) (HK1.out _ b17).1, hx.but.same B _ (by omega) n7 rfl, k7.trans hx.below⟩
  have HWA : Hid (∀ (x : World) (n : Nat) (hn : n < rs.length) (ha : Option Addr) (hc : Nat) (ba : Option Addr) (bc : Nat), Kept w.heap.size (fun k => k = w.heap.size + 1 ∨ k = w.heap.size + 1 + 1) W7 x → Calls Tryz.prog g (#[.agg #[.int .i64 rs[n].head.pred, .slice ha rs[n].head.args.length hc, .int .i64 rs[n].src, .int .i64 rs[n].n, .slice ba rs[n].body.length bc]] ++ lb) x fun e w' => e = .returned (.bool (S rs[n])) ∧ Below x.heap.size x w') := fun x n hn ha hc ba bc hx => hwa x n hn ha hc ba bc (HFR.out x hx).2.2
  have HWB : Hid (∀ (x : World) (n : Nat) (hn : n < rs.length) (st : Stp), st ∈ allL f rs[n] n → Kept w.heap.size (fun k => k = w.heap.size + 1 ∨ k = w.heap.size + 1 + 1) W7 x → Calls Tryz.prog g2 (bd2 ++ #[.agg #[.int .i64 st.rule, .int .i64 st.x, .int .i64 st.y, .int .i64 st.z]] ++ lb2) x fun e w' => e = .returned (.bool (first || isNew fr rs[n] st.vars)) ∧ Below x.heap.size x w') := fun x n hn st hst hx => hwb x n hn st hst (HFR.out x hx).2.2
  have HADD : Hid (∀ x l a m c y, factsAt x (.slice a m c) l → capOk (.slice a m c) → factsErr ps l = 0 → factFine ps y = true → Below w.heap.size w x → Calls Tryz.prog 57 #[.slice pa ps.length pc, .slice a m c, .agg #[.int .i64 y.pred, .int .i64 y.a, .int .i64 y.b, .int .i64 y.val]] x fun e w' => ∃ a' m' c', e = .returned (.tuple #[.slice a' m' c', .bool (addC (kindOf ps) y l), .int .i64 0]) ∧ factsAt w' (.slice a' m' c') (addF (kindOf ps) y l) ∧ capNew x.heap.size (.slice a' m' c') ∧ Below x.heap.size x w') := fun x l a m c y h1 h2 h3 h4 hx => by
    have h := Base.Add_n x _ _ ps l y.pred y.a y.b y.val (predsAt.lasts hx HD0.out.1) h1 h2
    rw [addOf_right h3 h4] at h
    refine h.mono ?_
    rintro e w' ⟨u, he, hfu, hcu, hb⟩
    obtain ⟨⟨a', m', c', hu, _⟩, _⟩ := id hcu
    subst hu
    exact ⟨a', m', c', he, hfu, hcu, hb⟩
  clear hwa hwb X13 X14 n2
  refine (wpIn_wide (n := 6)).1 (wpIn_rangeFunc_ownH (α := Round.Told (wantS ps S first fr f rs)) rfl (by omega) (gf := 95) (lb := #[.pointer (some ⟨w.heap.size + 1 + 1 + 1, 0, none⟩), .pointer (some ⟨w.heap.size + 1 + 1 + 1 + 1, 0, none⟩), .pointer (some ⟨w.heap.size + 1 + 1 + 1 + 1 + 1, 0, none⟩)]) rfl trivial (enters_of Tryz.func95 (by kernel_rfl) rfl)
    (told1_stops (6 - 1) (by omega) (w.heap.size + 1 + 1 + 1) (w.heap.size + 1 + 1 + 1 + 1) (w.heap.size + 1 + 1 + 1 + 1 + 1) B w.heap.size (fun k => k = w.heap.size + 1 ∨ k = w.heap.size + 1 + 1) (.slice pa ps.length pc) rv (.slice fa f.length fc) gv g lb g2 bd2 lb2 ps rs f S first fr W7 (by omega) (by omega) (by omega) (by omega) (fun k hk => by omega) (by omega) (by rw [← s6]; exact t0) n7 (by rw [← s6]; exact t1) (by rw [← s6]; exact t2) w rfl k7 HD0.out.1 HD0.out.2.1 HD0.out.2.2.1 HPE.out.2.2 HPE.out.1 HPE.out.2.1 eg eg2 HWA.out HWB.out)
    Kept.trans (fun X k o o' hk h ho _ => ⟨(Below.refl _ X).grown (grownBy_putObj' X k o') (by have := (Array.getElem?_eq_some_iff.1 h).1; omega) (fun j e => by cases e; omega), KeepsBut.putObj _ o' h ho⟩) (Below.refl _ _) (fun _ => rfl)
    (fun pre X => ∃ a m c, Boxed X (w.heap.size + 1) 26 (.slice a m c) ∧ factsAt X (.slice a m c) (addAll (kindOf ps) f (toldL pre)) ∧ (capOk (.slice a m c) ∧ ∀ b, (Value.slice a m c).ownBlock = some b → b ≠ B) ∧ Boxed X (w.heap.size + 1 + 1) 3 (.int .i64 (pre.length : Int)) ∧ Kept w.heap.size (fun k => k = w.heap.size + 1 ∨ k = w.heap.size + 1 + 1) W7 X)
    (fun _ _ _ => False)
    (fun pre A B row hs hg hr => by
      obtain ⟨a, m, c, g1, g2, g3, g4, g5⟩ := hs
      exact ⟨a, m, c, boxed_own _ _ (fun (_ : Unit) => _) () A B row g1 hg (fun r e => (hr r e).2), facts_kept g2 hg (fun r e => (hr r e).2), g3, boxed_own _ _ (fun (_ : Unit) => _) () A B row g4 hg (fun r e => (hr r e).2), kept_grown g5 hg (by omega) hr⟩)
    (fun _ _ _ _ _ hs _ _ => hs)
    ⟨fa, f.length, fc, Y13, HF7.out, HCB.out, Y14, Kept.refl _ _ _⟩
    (fun x a' X => ∃ Bx, w.heap.size + 1 + 1 < Bx ∧ X.cell? ⟨Bx, 0, none⟩ = some (.int .i64 x.1.pred) ∧ X.cell? ⟨Bx, 1, none⟩ = some (.int .i64 x.1.a) ∧ X.cell? ⟨Bx, 2, none⟩ = some (.int .i64 x.1.b) ∧ X.cell? ⟨Bx, 3, none⟩ = some (.int .i64 x.1.val) ∧ a' = { tmps := #[.pointer (some ⟨B, 0, none⟩), .func (.func g) #[] lb, .func (.func g2) bd2 lb2, .pointer (some ⟨w.heap.size, 0, none⟩), undef, undef, .int .i64 0, .pointer (some ⟨w.heap.size + 1, 0, none⟩), .pointer (some ⟨w.heap.size + 1 + 1, 0, none⟩), .pointer (some ⟨Bx, 0, none⟩), undef, .pointer (some ⟨B, 0, none⟩), .pointer (some ⟨B, 0, none⟩), .pointer (some ⟨B, 2, none⟩), .slice fa f.length fc, .pointer (some ⟨B, 0, none⟩), .func (.func g) #[] lb, .func (.func g2) bd2 lb2, .func (.func 95) #[] #[.pointer (some ⟨w.heap.size + 1 + 1 + 1, 0, none⟩), .pointer (some ⟨w.heap.size + 1 + 1 + 1 + 1, 0, none⟩), .pointer (some ⟨w.heap.size + 1 + 1 + 1 + 1 + 1, 0, none⟩)], .agg #[.int .i64 x.1.pred, .int .i64 x.1.a, .int .i64 x.1.b, .int .i64 x.1.val], undef, undef, undef, undef, undef, undef, undef, undef, undef, undef, undef, undef, undef, undef, undef, undef, undef, undef, undef, undef, undef, undef, undef, undef, undef, undef, undef], defers := [] })
    (fun x a' _ A B row hs hg hr => by
      obtain ⟨Bx, gx, g0, g1, g2, g3, rfl⟩ := hs
      exact ⟨Bx, gx, cell_kept g0 hg (fun r e => (hr r e).2), cell_kept g1 hg (fun r e => (hr r e).2), cell_kept g2 hg (fun r e => (hr r e).2), cell_kept g3 hg (fun r e => (hr r e).2), rfl⟩) ?assign ?body ?done ?stop)
  case assign =>
    rintro l' pre x X K ⟨a, m, c, g1, g2, g3, g4, g5⟩ hK
    dsimp only [toldV] at hK ⊢
    gi_wp2
    refine hK _ _ ((KeepsOthers.alloc _ _).from _) (Kept.of (below_alloc _ _) (Nat.le_trans (by omega) g5.but.size)) ⟨a, m, c, g1.alloc _, factsAt.lasts (below_alloc _ _) g2, g3, g4.alloc _, g5.trans (Kept.of (below_alloc _ _) (Nat.le_trans (by omega) g5.but.size))⟩ ⟨X.heap.size, by have := g5.but.size; omega, ?_, ?_, ?_, ?_, rfl⟩
    all_goals simp [go_sem]
  case body =>
    rintro l' pre ⟨y, hy⟩ a' X hl' hpl ⟨a, m, c, i1, i2, i3, i4, i5⟩ ⟨Bx, hBx, e0, e1, e2, e3, rfl⟩ hpk
    dsimp only at e0 e1 e2 e3 ⊢
    have hfy : factFine ps y = true := HT.out y hy
    have HGE : Hid (factsErr ps (addAll (kindOf ps) f (toldL pre)) = 0) := addAll_right HPE.out.2.1 fun x hx => by
      obtain ⟨z, _, rfl⟩ := List.mem_map.1 hx
      exact HT.out _ z.2
    have HIN : Hid (toldL (pre ++ [(⟨y, hy⟩ : Round.Told (wantS ps S first fr f rs))]) = toldL pre ++ [y] ∧ ((pre ++ [(⟨y, hy⟩ : Round.Told (wantS ps S first fr f rs))]).length : Int) = (pre.length : Int) + 1) := ⟨toldL_snoc _ _, by rw [List.length_append]; rfl⟩
    have HFF : Hid (addAll (kindOf ps) f (toldL pre ++ [y]) = addF (kindOf ps) y (addAll (kindOf ps) f (toldL pre))) := addAll_one _ _ _ _
    obtain ⟨r0, rn, kx⟩ := HFR.out X i5
    obtain ⟨r1, _⟩ := news_cells rn
    have HAD : Hid (∀ x, Below X.heap.size X x → Calls Tryz.prog 57 #[.slice pa ps.length pc, .slice a m c, .agg #[.int .i64 y.pred, .int .i64 y.a, .int .i64 y.b, .int .i64 y.val]] x fun e w' => ∃ a' m' c', e = .returned (.tuple #[.slice a' m' c', .bool (addC (kindOf ps) y (addAll (kindOf ps) f (toldL pre))), .int .i64 0]) ∧ factsAt w' (.slice a' m' c') (addF (kindOf ps) y (addAll (kindOf ps) f (toldL pre))) ∧ capNew X.heap.size (.slice a' m' c') ∧ Below x.heap.size x w') := fun x hx => (HADD.out x _ a m c y (factsAt.lasts hx i2) i3.1 HGE.out hfy (kx.trans (hx.mono kx.size))).mono fun _ _ ⟨a', m', c', q1, q2, q3, q4⟩ => ⟨a', m', c', q1, q2, q3.mono hx.size, q4⟩
    have j1 := i1.cell
    have hlX : w.heap.size + 1 + 1 < X.heap.size := i4.lt
    have hBxl : Bx < X.heap.size := Fire.cell_bound e0
    have KS : Hid (∀ x, Below X.heap.size X x → (fun w' : World => w'.cell? ⟨w.heap.size, 0, none⟩ = some (.pointer (some ⟨B, 0, none⟩)) ∧ w'.cell? ⟨B, 0, none⟩ = some (.slice pa ps.length pc) ∧ w'.cell? ⟨Bx, 0, none⟩ = some (.int .i64 y.pred) ∧ w'.cell? ⟨Bx, 1, none⟩ = some (.int .i64 y.a) ∧ w'.cell? ⟨Bx, 2, none⟩ = some (.int .i64 y.b) ∧ w'.cell? ⟨Bx, 3, none⟩ = some (.int .i64 y.val)) x) := fun x hx => ⟨(cell_lasts hx (by omega)).trans r0, (cell_lasts hx (by omega)).trans r1, (cell_lasts hx hBxl).trans e0, (cell_lasts hx hBxl).trans e1, (cell_lasts hx hBxl).trans e2, (cell_lasts hx hBxl).trans e3⟩
    have KT : Hid (∀ x u, (fun w' : World => w'.cell? ⟨w.heap.size, 0, none⟩ = some (.pointer (some ⟨B, 0, none⟩)) ∧ w'.cell? ⟨B, 0, none⟩ = some (.slice pa ps.length pc) ∧ w'.cell? ⟨Bx, 0, none⟩ = some (.int .i64 y.pred) ∧ w'.cell? ⟨Bx, 1, none⟩ = some (.int .i64 y.a) ∧ w'.cell? ⟨Bx, 2, none⟩ = some (.int .i64 y.b) ∧ w'.cell? ⟨Bx, 3, none⟩ = some (.int .i64 y.val)) x → (fun w' : World => w'.cell? ⟨w.heap.size, 0, none⟩ = some (.pointer (some ⟨B, 0, none⟩)) ∧ w'.cell? ⟨B, 0, none⟩ = some (.slice pa ps.length pc) ∧ w'.cell? ⟨Bx, 0, none⟩ = some (.int .i64 y.pred) ∧ w'.cell? ⟨Bx, 1, none⟩ = some (.int .i64 y.a) ∧ w'.cell? ⟨Bx, 2, none⟩ = some (.int .i64 y.b) ∧ w'.cell? ⟨Bx, 3, none⟩ = some (.int .i64 y.val)) (x.setCell ⟨w.heap.size + 1, 0, none⟩ u)) := fun x u ⟨s0, s1, s2, s3, s4, s5⟩ => ⟨by rw [cell_block (by omega)]; exact s0, by rw [cell_block (by omega)]; exact s1, by rw [cell_block (by omega)]; exact s2, by rw [cell_block (by omega)]; exact s3, by rw [cell_block (by omega)]; exact s4, by rw [cell_block (by omega)]; exact s5⟩
    gi_wp2_with fail
    refine wpIn_mono (Q := fun e a' w' => e = .normal ∧ (∃ X1 a1 m1 c1, w' = X1.setCell ⟨w.heap.size + 1, 0, none⟩ (.slice a1 m1 c1) ∧ factsAt X1 (.slice a1 m1 c1) (addF (kindOf ps) y (addAll (kindOf ps) f (toldL pre))) ∧ capNew X.heap.size (.slice a1 m1 c1) ∧ Below X.heap.size X X1) ∧ ∃ u20 u21 u22 u23 u24 u25 u26 u27 u28 u29 u30 u31 : Value, a' = { tmps := #[.pointer (some ⟨B, 0, none⟩), .func (.func g) #[] lb, .func (.func g2) bd2 lb2, .pointer (some ⟨w.heap.size, 0, none⟩), undef, undef, .int .i64 0, .pointer (some ⟨w.heap.size + 1, 0, none⟩), .pointer (some ⟨w.heap.size + 1 + 1, 0, none⟩), .pointer (some ⟨Bx, 0, none⟩), undef, .pointer (some ⟨B, 0, none⟩), .pointer (some ⟨B, 0, none⟩), .pointer (some ⟨B, 2, none⟩), .slice fa f.length fc, .pointer (some ⟨B, 0, none⟩), .func (.func g) #[] lb, .func (.func g2) bd2 lb2, .func (.func 95) #[] #[.pointer (some ⟨w.heap.size + 1 + 1 + 1, 0, none⟩), .pointer (some ⟨w.heap.size + 1 + 1 + 1 + 1, 0, none⟩), .pointer (some ⟨w.heap.size + 1 + 1 + 1 + 1 + 1, 0, none⟩)], .agg #[.int .i64 y.pred, .int .i64 y.a, .int .i64 y.b, .int .i64 y.val], u20, u21, u22, u23, u24, u25, u26, u27, u28, u29, u30, u31, undef, undef, undef, undef, undef, undef, undef, undef, undef, undef, undef, undef, undef, undef, undef], defers := [] }) ?reg ?rest
    case reg =>
      refine RegionRound.region_round (S := (fun w' : World => w'.cell? ⟨w.heap.size, 0, none⟩ = some (.pointer (some ⟨B, 0, none⟩)) ∧ w'.cell? ⟨B, 0, none⟩ = some (.slice pa ps.length pc) ∧ w'.cell? ⟨Bx, 0, none⟩ = some (.int .i64 y.pred) ∧ w'.cell? ⟨Bx, 1, none⟩ = some (.int .i64 y.a) ∧ w'.cell? ⟨Bx, 2, none⟩ = some (.int .i64 y.b) ∧ w'.cell? ⟨Bx, 3, none⟩ = some (.int .i64 y.val))) (by kernel_rfl) (fun _ _ h => by cases h.1) (by kernel_rfl) (KS.out _ (Below.refl _ _).drew) (fun hHeld => ?_)
      have jd : X.drew.cell? ⟨w.heap.size + 1, 0, none⟩ = some (.slice a m c) := j1
      refine wpAnyH_take (i := 0) (v := ?_) rfl (by kernel_rfl) (by kernel_rfl) (by kernel_rfl) (fun _ _ _ h => by cases h.1) (Or.inl ⟨by rfl, ?_⟩) (by assumption) ?_
      rotate_left
      · (intro w hSw; (try dsimp only at hSw); obtain ⟨h0, h1, h2, h3, h4, h5⟩ := hSw; go_simp; try with_reducible rfl)
      try simp only [Act.put, List.setIfInBounds_toArray]
      refine wpAnyH_take (i := 1) (v := ?_) rfl (by kernel_rfl) (by kernel_rfl) (by kernel_rfl) (fun _ _ _ h => by cases h.1) (Or.inl ⟨by rfl, ?_⟩) (by assumption) ?_
      rotate_left
      · (intro w hSw; (try dsimp only at hSw); obtain ⟨h0, h1, h2, h3, h4, h5⟩ := hSw; go_simp; try with_reducible rfl)
      simp only [Act.put]
      refine wpAnyH_take (i := 2) (v := ?_) rfl (by kernel_rfl) (by kernel_rfl) (by kernel_rfl) (fun _ _ _ h => by cases h.1) (Or.inl ⟨by rfl, ?_⟩) (by assumption) ?_
      rotate_left
      · (intro w hSw; (try dsimp only at hSw); obtain ⟨h0, h1, h2, h3, h4, h5⟩ := hSw; go_simp; try with_reducible rfl)
      simp only [Act.put]
      refine wpAnyH_take (i := 3) (v := ?_) rfl (by kernel_rfl) (by kernel_rfl) (by kernel_rfl) (fun _ _ _ h => by cases h.1) (Or.inl ⟨by rfl, ?_⟩) (by assumption) ?_
      rotate_left
      · (intro w hSw; (try dsimp only at hSw); obtain ⟨h0, h1, h2, h3, h4, h5⟩ := hSw; go_simp; try with_reducible rfl)
      simp only [Act.put]
      refine wpAnyH_take (i := 4) (v := ?_) rfl (by kernel_rfl) (by kernel_rfl) (by kernel_rfl) (fun _ _ _ h => by cases h.1) (Or.inl ⟨by rfl, ?_⟩) (by assumption) ?_
      rotate_left
      · (intro w hSw; (try dsimp only at hSw); obtain ⟨h0, h1, h2, h3, h4, h5⟩ := hSw; go_simp; try with_reducible rfl)
      simp only [Act.put]
      refine wpAnyH_take (i := 6) (v := ?_) rfl (by kernel_rfl) (by kernel_rfl) (by kernel_rfl) (fun _ _ _ h => by cases h.1) (Or.inl ⟨by rfl, ?_⟩) (by assumption) ?_
      rotate_left
      · (intro w hSw; (try dsimp only at hSw); obtain ⟨h0, h1, h2, h3, h4, h5⟩ := hSw; go_simp; try with_reducible rfl)
      simp only [Act.put]
      refine wpAnyH_ready (rs := [5]) (by kernel_rfl) (by simp) ?_
      refine AllReadyH.cons rfl (fun K hK => ?_) AllReadyH.nil
      go_simp
      refine hK.out _ _ ?_ (fun hHeld => ?_)
      · exact KS.out _ (Below.refl _ _).drew
      clear hK K
      try simp only [Act.put, List.setIfInBounds_toArray, List.set_cons_zero, List.set_cons_succ]
      refine wpAnyH_ready (rs := [7]) (by kernel_rfl) (by simp) ?_
      refine AllReadyH.cons rfl (fun K hK => ?_) AllReadyH.nil
      go_simp
      refine (HAD.out _ (Below.refl _ _).drew).mono ?_
      rintro ex X1 ⟨a1, m1, c1, rfl, h1, h2, hb⟩
      have hbX : Below X.heap.size X X1 := (Below.refl _ _).drew.trans hb
      refine hK.out _ _ ?_ (fun hHeld => ?_)
      · exact KS.out _ hbX
      clear hK K
      have k1 : Boxed X1 (w.heap.size + 1) 26 (.slice a m c) := (hbX.block _ i1.lt).trans i1
      have l1 := k1.cell
      have l1f := k1.frozen
      try simp only [Act.put, List.setIfInBounds_toArray, List.set_cons_zero, List.set_cons_succ]
      refine wpAnyH_take (i := 8) (v := ?_) rfl (by kernel_rfl) (by kernel_rfl) (by kernel_rfl) (fun _ _ _ h => by cases h.1) (Or.inl ⟨by rfl, ?_⟩) (by assumption) ?_
      rotate_left
      · (intro w hSw; (try dsimp only at hSw); obtain ⟨h0, h1, h2, h3, h4, h5⟩ := hSw; go_simp; try with_reducible rfl)
      simp only [Act.put]
      refine wpAnyH_take (i := 9) (v := ?_) rfl (by kernel_rfl) (by kernel_rfl) (by kernel_rfl) (fun _ _ _ h => by cases h.1) (Or.inl ⟨by rfl, ?_⟩) (by assumption) ?_
      rotate_left
      · (intro w hSw; (try dsimp only at hSw); obtain ⟨h0, h1, h2, h3, h4, h5⟩ := hSw; go_simp; try with_reducible rfl)
      simp only [Act.put]
      refine wpAnyH_take (i := 10) (v := ?_) rfl (by kernel_rfl) (by kernel_rfl) (by kernel_rfl) (fun _ _ _ h => by cases h.1) (Or.inl ⟨by rfl, ?_⟩) (by assumption) ?_
      rotate_left
      · (intro w hSw; (try dsimp only at hSw); obtain ⟨h0, h1, h2, h3, h4, h5⟩ := hSw; go_simp; try with_reducible rfl)
      simp only [Act.put]
      refine wpAnyH_take (i := 11) (v := ?_) rfl (by kernel_rfl) (by kernel_rfl) (by kernel_rfl) (fun _ _ _ h => by cases h.1) (Or.inl ⟨by rfl, ?_⟩) (by assumption) ?_
      rotate_left
      · (intro w hSw; (try dsimp only at hSw); obtain ⟨h0, h1, h2, h3, h4, h5⟩ := hSw; go_simp; try with_reducible rfl)
      simp only [Act.put]
      refine wpAnyH_ready (rs := [12]) (by kernel_rfl) (by simp) ?_
      refine AllReadyH.cons rfl (fun K hK => ?_) AllReadyH.nil
      go_simp
      refine hK.out _ _ ?_ (fun hHeld => ?_)
      · exact KT.out _ _ (KS.out _ hbX)
      clear hK K
      try simp only [Act.put, List.setIfInBounds_toArray, List.set_cons_zero, List.set_cons_succ]
      refine wpAnyH_done (by kernel_rfl) ?_ _
      refine ⟨rfl, ⟨X1, a1, m1, c1, rfl, h1, h2, hbX⟩, ?_⟩
      (repeat apply Exists.intro)
      rfl
    case rest =>
      rintro e a' w' ⟨rfl, ⟨X1, a1, m1, c1, rfl, h1, h2, hbX⟩, u20, u21, u22, u23, u24, u25, u26, u27, u28, u29, u30, u31, rfl⟩
      clear e0 e1 e2 e3 r0 r1 j1 KS KT HAD
      have hpi : 0 ≤ (pre.length : Int) ∧ (pre.length : Int) ≤ 1000 := by
        have h3 := HFEW.out
        omega
      have k1 : Boxed X1 (w.heap.size + 1) 26 (.slice a m c) := (hbX.block _ i1.lt).trans i1
      have k4 : Boxed X1 (w.heap.size + 1 + 1) 3 (.int .i64 (pre.length : Int)) := (hbX.block _ i4.lt).trans i4
      have o4 := k4.other (B' := w.heap.size + 1) (by omega) (.slice a1 m1 c1)
      have l4 := o4.cell
      have l4f := o4.frozen
      gi_wp2_with fail
      refine ⟨((keepsOthers_below hbX).trans ((KeepsOthers.setCell _ _ _).trans (KeepsOthers.setCell _ _ _))).from _, kept_two hbX (by omega) (by omega) _ _, ?_⟩
      refine ⟨a1, m1, c1, (k1.set _).other (by omega) _, ?_, ⟨h2.1, fun b hb => ?_⟩, ?_, i5.trans (kept_two hbX (by omega) (by omega) _ _)⟩
      · rw [HIN.out.1, HFF.out]
        exact facts_set (facts_box h1 k1 (fun k e => by cases e)) (fun b hb => by have := h2.2 b hb; omega)
      · have := h2.2 b hb
        omega
      · rw [HIN.out.2]
        exact o4.set _
  case done =>
    rintro D xs X hD hS ⟨a, m, c, i1, i2, i3, i4, i5⟩ hK
    rw [hS] at i2
    obtain ⟨r0, rn, kx⟩ := HFR.out X i5
    obtain ⟨r1, r1', r2, r3, r2f, r3f, r1l⟩ := news_cells rn
    have hlen : (xs.length : Int) = ((wantS ps S first fr f rs).length : Int) := by have h3 := congrArg List.length hS; rw [toldL_length] at h3; rw [h3]
    rw [hlen] at i4
    have j1 := i1.cell
    have j4 := i4.cell
    have HX : Hid (factsAt X (.slice a m c) (addAll (kindOf ps) f (wantS ps S first fr f rs))) := i2
    have HXB : Hid (Below w.heap.size w X ∧ newsAt X B (.slice pa ps.length pc) rv (.slice fa f.length fc) gv) := ⟨kx, rn⟩
    have HGE : Hid (factsErr ps (addAll (kindOf ps) f (wantS ps S first fr f rs)) = 0) := addAll_right HPE.out.2.1 HT.out
    have HSH : Hid ((addAll (kindOf ps) f (wantS ps S first fr f rs)).length ≤ 500) := Nat.le_trans (Base.facts_short HGE.out) (by omega)
    have HFX : Hid (factsAt X (.slice fa f.length fc) f) := factsAt.lasts kx HD0.out.2.2.1
    have HCL : Hid (∀ x, Below X.heap.size X x → Calls Tryz.prog 61 #[.slice a m c] x fun e w' => ∃ v, e = .returned v ∧ Copy X.heap.size w' v (addAll (kindOf ps) f (wantS ps S first fr f rs)) ∧ Below X.heap.size X w') := fun x hx => (clone_own x _ _ (factsAt.lasts hx HX.out) HSH.out).mono fun _ _ ⟨v, q1, q2, q3⟩ => ⟨v, q1, q2.imp id (fun ⟨gg, cap, z1, z2, z3⟩ => ⟨gg, cap, z1, Nat.le_trans hx.size z2, z3⟩), hx.trans (q3.mono hx.size)⟩
    have HDE : Hid (∀ x v, Below X.heap.size X x → Copy X.heap.size x v (addAll (kindOf ps) f (wantS ps S first fr f rs)) → Calls Tryz.prog 60 #[v, .func (.func 58) #[] #[.pointer (some ⟨w.heap.size, 0, none⟩)]] x fun e w' => ∃ a n c, e = .returned (.slice a n c) ∧ factsAt w' (.slice a n c) (fresh f (addAll (kindOf ps) f (wantS ps S first fr f rs))) ∧ (∀ b, (Value.slice a n c).ownBlock = some b → X.heap.size ≤ b) ∧ Below X.heap.size X w') := fun x v hx hv => by
      have h := delete_any X x v _ 58 #[.pointer (some ⟨w.heap.size, 0, none⟩)] (enters_of Tryz.func58 (by kernel_rfl) rfl) (fun y => f.any fun z => decide (y = z)) hx hv HSH.out (fun w1 q hw1 _ => was_c w1 w.heap.size B _ _ _ _ f q ((cell_lasts hw1 (by have := i4.lt; omega)).trans r0) (by have := i4.lt; have := hw1.size; omega) (news_below hw1 rn) (factsAt.lasts hw1 HFX.out))
      rw [fresh_was HPE.out.2.1 (Base.facts_fine HGE.out)] at h
      exact h
    have KEEP : Hid (∀ x, Below X.heap.size X x → x.cell? ⟨w.heap.size, 0, none⟩ = some (.pointer (some ⟨B, 0, none⟩)) ∧ x.cell? ⟨w.heap.size + 1, 0, none⟩ = some (.slice a m c)) := fun x hx => ⟨(cell_lasts hx (by have := i4.lt; omega)).trans r0, (cell_lasts hx (by have := i4.lt; omega)).trans j1⟩
    have KSET : Hid (∀ x u, Below X.heap.size X x → (x.setCell ⟨B, 3, none⟩ u).cell? ⟨w.heap.size, 0, none⟩ = some (.pointer (some ⟨B, 0, none⟩)) ∧ (x.setCell ⟨B, 3, none⟩ u).cell? ⟨w.heap.size + 1, 0, none⟩ = some (.slice a m c)) := fun x u hx => ⟨by rw [cell_block (by omega)]; exact (KEEP.out x hx).1, by rw [cell_block (by omega)]; exact (KEEP.out x hx).2⟩
    have HBL : Hid (B < X.heap.size ∧ w.heap.size + 1 + 1 < X.heap.size) := ⟨r1l, i4.lt⟩
    clear hS rn
    go_wp2_with fail
    have HRN : Hid (∀ x, Below X.heap.size X x → x.cell? ⟨B, 3, none⟩ = some gv ∧ x.frozen? ⟨B, 3, none⟩ = false) := fun x hx => by
      obtain ⟨_, _, _, z3, _, z3f, _⟩ := news_cells (news_below hx HXB.out.2)
      exact ⟨z3, z3f⟩
    go_region_held3 (fun w' => w'.cell? ⟨w.heap.size, 0, none⟩ = some (.pointer (some ⟨B, 0, none⟩)) ∧ w'.cell? ⟨w.heap.size + 1, 0, none⟩ = some (.slice a m c))
      (first | (refine KEEP.out _ ?_; (first | with_reducible exact Below.refl _ _ | with_reducible exact Below.drew (Below.refl _ _) | with_reducible exact hkd | with_reducible exact hkc)) | (with_reducible exact KSET.out _ _ hkd))
      (first | (go_at_call 61; refine (HCL.out _ (Below.drew (Below.refl _ _))).mono ?_; rintro ex Wc ⟨vc, rfl, hcopy, hkc⟩) | (go_at_call 60; refine (HDE.out _ _ hkc hcopy).mono ?_; rintro ex Wd ⟨da, dn, dc, rfl, hfd, hnd, hkd⟩; obtain ⟨z3, z3f⟩ := HRN.out _ hkd))
    obtain ⟨W9, hW9⟩ : ∃ W9, Wd.setCell ⟨B, 3, none⟩ (.slice da dn dc) = W9 := ⟨_, rfl⟩
    have n9 : newsAt W9 B (.slice pa ps.length pc) rv (.slice fa f.length fc) (.slice da dn dc) := by rw [← hW9]; exact news_fresh (news_below hkd HXB.out.2) _
    have hc9 : ∀ b o, b < X.heap.size → b ≠ B → W9.cell? ⟨b, o, none⟩ = X.cell? ⟨b, o, none⟩ := fun b o h1 h2 => by rw [← hW9, cell_block (fun e => h2 e.symm)]; exact cell_lasts hkd h1
    have c0 : W9.cell? ⟨w.heap.size, 0, none⟩ = some (.pointer (some ⟨B, 0, none⟩)) := (hc9 _ _ (by have := HBL.out.2; omega) (by omega)).trans r0
    have c1 : W9.cell? ⟨w.heap.size + 1, 0, none⟩ = some (.slice a m c) := (hc9 _ _ (by have := HBL.out.2; omega) (by omega)).trans j1
    have c4 : W9.cell? ⟨w.heap.size + 1 + 1, 0, none⟩ = some (.int .i64 ((wantS ps S first fr f rs).length : Int)) := (hc9 _ _ (by have := HBL.out.2; omega) (by omega)).trans j4
    obtain ⟨_, _, z2, _, z2f, _, _⟩ := news_cells n9
    have HF9 : Hid (factsAt W9 (.slice a m c) (addAll (kindOf ps) f (wantS ps S first fr f rs)) ∧ factsAt W9 (.slice da dn dc) (fresh f (addAll (kindOf ps) f (wantS ps S first fr f rs))) ∧ TurnK B w W9) := by
      rw [← hW9]
      exact ⟨facts_set (factsAt.lasts hkd HX.out) i3.2, facts_set hfd (fun b hb => by have := hnd b hb; have := HBL.out.1; omega), (TurnK.of (HXB.out.1.trans (hkd.mono HXB.out.1.size))).trans (TurnK.set _ _)⟩
    have HD9 : Hid (W9.heap[D]? = some (.deferred (some []))) := by
      show _ = _
      rw [← hW9, Fire.heap_setCell_other (by omega)]
      exact (hkd.block D (Array.getElem?_eq_some_iff.1 hK).1).trans hK
    rw [hW9]
    clear hW9 hc9 r0 r1 r1' r2 r3 r2f r3f j1 j4 z3 z3f hcopy hkc hkd hfd
    go_wp2_with fail
    have HDK : Hid ((W9.setCell ⟨B, 2, none⟩ (.slice a m c)).heap[D]? = some (.deferred (some []))) := by
      show _ = _
      rw [Fire.heap_setCell_other (by omega)]
      exact HD9.out
    have HT2 : Hid (TurnK B w (W9.setCell ⟨B, 2, none⟩ (.slice a m c))) := HF9.out.2.2.trans (TurnK.set _ _)
    show LeavesInM _ _ _ _ _ _ ([D].map Prog.mark) _ _
    refine leaves_marks w.heap.size [D] _ (by simp) (fun D' hD' => ?_) fun W' hb hc => ?_
    · rw [List.mem_singleton.1 hD']
      exact ⟨by omega, HDK.out⟩
    · refine ⟨.int .i64 ((wantS ps S first fr f rs).length : Int), by simp [results, Tryz.f27, go_sem], ?_⟩
      have n10 := news_facts n9 (.slice a m c)
      exact ⟨.slice a m c, .slice da dn dc, rfl, (hb.block B hBl).trans n10, facts_cells (facts_set HF9.out.1 i3.2) hc hb.size, i3.1, i3.2, facts_cells (facts_set HF9.out.2.1 (fun b hb => by have := hnd b hb; have := HBL.out.1; omega)) hc hb.size, ⟨fun n h1 h2 => (HT2.out.below n h1 h2).trans (hb.mono h2), Nat.le_trans HT2.out.size hb.size, fun k h1 h2 => (hb.block k h1).trans (HT2.out.same k h1 h2)⟩⟩
  case stop =>
    intro D c pre X hD _ hix hK
    exact hix.elim
end Go.Proofs.YtlfccloaoopadaeGreat.Semi

/-
  The turns of the developers' semi.Model: the first one of a stratum, and a later one.
-/
namespace Go.Proofs.YtlfccloaoopadaeGreat.Semi
open Go.RowKit Go.Shelf
open Rule (Vars ruleErr kindOf factFine)
open Base (factsErr capOk)
open Fire (roundErr allL Stp rules_right mem_all)
open Prog (progErr small intsAt)
open Round (onceF onceC stratOf toldS ofS addAll strat_some)
open Naive (right_parts right_round Lev)

/-- the function value that asks for the stratum's rules -/
def ofV (Bs Bt : Nat) : Array Value := #[.pointer (some ⟨Bs, 0, none⟩), .pointer (some ⟨Bt, 0, none⟩)]
theorem first_held {ps : List Prd} {rs : List Rul} {F : List Fct} (h : roundErr ps rs F = 0) (fr : List Fct) (s : Int) : wantS ps (ofS (stratOf ps rs) s) true fr F rs = toldS ps (ofS (stratOf ps rs) s) F rs ∧ addAll (kindOf ps) F (wantS ps (ofS (stratOf ps rs) s) true fr F rs) = onceF ps rs F s := by
  rw [want_first]
  exact ⟨rfl, by rw [onceF, if_neg (by rw [h]; simp)]⟩
theorem of_stratum (x : World) (Bs Bt : Nat) (vs : Value) (ps : List Prd) (rs : List Rul) (s : Int) (hpe : progErr ps rs = 0) (h1 : x.cell? ⟨Bs, 0, none⟩ = some vs) (h2 : x.cell? ⟨Bt, 0, none⟩ = some (.int .i64 s)) (h3 : intsAt x vs (stratOf ps rs)) (h4 : Bs < x.heap.size) (h5 : Bt < x.heap.size)
    (n : Nat) (hn : n < rs.length) (ha : Option Addr) (hc : Nat) (ba : Option Addr) (bc : Nat) : Calls Tryz.prog 25 (#[.agg #[.int .i64 rs[n].head.pred, .slice ha rs[n].head.args.length hc, .int .i64 rs[n].src, .int .i64 rs[n].n, .slice ba rs[n].body.length bc]] ++ ofV Bs Bt) x fun e w' => e = .returned (.bool (ofS (stratOf ps rs) s rs[n])) ∧ Below x.heap.size x w' := by
  obtain ⟨k, hk, e⟩ := Rule.isPred_iff.1 (Rule.atom_right (Fire.rule_parts (rules_right hpe _ (List.getElem_mem hn))).1).1
  exact model1_c x Bs Bt k vs (stratOf ps rs) s rs[n] ha rs[n].head.args.length hc ba rs[n].body.length bc e (by rw [(strat_some hpe).2]; exact hk) h1 h2 h3 h4 h5
/-- what holds ahead of a turn and behind it -/
structure SemiAt (x : World) (B Bs Bt : Nat) (pv rv vs : Value) (ps : List Prd) (rs : List Rul) (s : Int) (u v : Value) (f fr : List Fct) : Prop where
  news : newsAt x B pv rv u v
  preds : predsAt x pv ps
  rules : rulesAt x rv rs
  facts : factsAt x u f
  cap : capOk u
  own : ∀ b, u.ownBlock = some b → b ≠ B
  new : factsAt x v fr
  right : roundErr ps rs f = 0
  sm : small ps
  cs : x.cell? ⟨Bs, 0, none⟩ = some vs
  ct : x.cell? ⟨Bt, 0, none⟩ = some (.int .i64 s)
  ints : intsAt x vs (stratOf ps rs)
  ls : Bs < x.heap.size
  lt : Bt < x.heap.size
theorem turn_first (x : World) (B Bs Bt : Nat) (pv rv vs : Value) (ps : List Prd) (rs : List Rul) (s : Int) (u v : Value) (f fr : List Fct) (h : SemiAt x B Bs Bt pv rv vs ps rs s u v f fr) :
    Calls Tryz.prog 27 #[.pointer (some ⟨B, 0, none⟩), .func (.func 25) #[] #[.pointer (some ⟨Bs, 0, none⟩), .pointer (some ⟨Bt, 0, none⟩)], .func (.func 26) #[] #[]] x fun e w' => ∃ u' v', e = .returned (.int .i64 ((toldS ps (ofS (stratOf ps rs) s) f rs).length : Int)) ∧ newsAt w' B pv rv u' v' ∧ factsAt w' u' (onceF ps rs f s) ∧ capOk u' ∧ (∀ b, u'.ownBlock = some b → b ≠ B) ∧ factsAt w' v' (fresh f (onceF ps rs f s)) ∧ TurnK B x w' := by
  obtain ⟨hpe, hfe⟩ := right_parts h.right
  have ht := turn_c x B pv rv u v 25 (ofV Bs Bt) 26 #[] #[] ps rs f fr (ofS (stratOf ps rs) s) true h.news h.preds h.rules h.facts h.cap h.own h.sm hpe hfe (enters_of Tryz.func25 (by kernel_rfl) rfl) (enters_of Tryz.func26 (by kernel_rfl) rfl)
    (fun y n hn ha hc ba bc hy => of_stratum y Bs Bt vs ps rs s hpe ((cell_lasts hy h.ls).trans h.cs) ((cell_lasts hy h.lt).trans h.ct) (Prog.intsAt.lasts hy h.ints) (Nat.lt_of_lt_of_le h.ls hy.size) (Nat.lt_of_lt_of_le h.lt hy.size) n hn ha hc ba bc)
    (fun y n hn st hst hy => by
      have e : (#[] ++ #[Value.agg #[.int .i64 st.rule, .int .i64 st.x, .int .i64 st.y, .int .i64 st.z]] ++ #[] : Array Value) = #[.agg #[.int .i64 st.rule, .int .i64 st.x, .int .i64 st.y, .int .i64 st.z]] := rfl
      rw [e]
      exact model2_c y st.rule st.x st.y st.z)
  obtain ⟨e1, e2⟩ := first_held h.right fr s
  rw [e2, e1] at ht
  exact ht
theorem turn_more (x : World) (B Bs Bt : Nat) (pv rv vs : Value) (ps : List Prd) (rs : List Rul) (s : Int) (u v : Value) (f0 f : List Fct) (h : SemiAt x B Bs Bt pv rv vs ps rs s u v f (fresh f0 f)) (h0 : roundErr ps rs f0 = 0) (hf : f = onceF ps rs f0 s) :
    Calls Tryz.prog 27 #[.pointer (some ⟨B, 0, none⟩), .func (.func 25) #[] #[.pointer (some ⟨Bs, 0, none⟩), .pointer (some ⟨Bt, 0, none⟩)], .func (.func 28) #[.pointer (some ⟨B, 0, none⟩)] #[]] x fun e w' => ∃ u' v', e = .returned (.int .i64 ((wanted ps rs s f0 f).length : Int)) ∧ newsAt w' B pv rv u' v' ∧ factsAt w' u' (onceF ps rs f s) ∧ capOk u' ∧ (∀ b, u'.ownBlock = some b → b ≠ B) ∧ factsAt w' v' (fresh f (onceF ps rs f s)) ∧ TurnK B x w' := by
  obtain ⟨hpe, hfe⟩ := right_parts h.right
  have hre := rules_right hpe
  have hge : factsErr ps (fresh f0 f) = 0 := Round.factsErr_of (Base.factsErr_zero hfe).1 (Base.factsErr_zero hfe).2.1 (List.Pairwise.filter _ (Base.right_of hfe).sorted) fun y hy => Base.facts_fine hfe y (List.mem_filter.1 hy).1
  have ht := turn_c x B pv rv u v 25 (ofV Bs Bt) 28 #[.pointer (some ⟨B, 0, none⟩)] #[] ps rs f (fresh f0 f) (ofS (stratOf ps rs) s) false h.news h.preds h.rules h.facts h.cap h.own h.sm hpe hfe (enters_of Tryz.func25 (by kernel_rfl) rfl) (enters_of Tryz.func28 (by kernel_rfl) rfl)
    (fun y n hn ha hc ba bc hy => of_stratum y Bs Bt vs ps rs s hpe ((cell_lasts hy h.ls).trans h.cs) ((cell_lasts hy h.lt).trans h.ct) (Prog.intsAt.lasts hy h.ints) (Nat.lt_of_lt_of_le h.ls hy.size) (Nat.lt_of_lt_of_le h.lt hy.size) n hn ha hc ba bc)
    (fun y n hn st hst hy => by
      have e : (#[Value.pointer (some ⟨B, 0, none⟩)] ++ #[Value.agg #[.int .i64 st.rule, .int .i64 st.x, .int .i64 st.y, .int .i64 st.z]] ++ #[] : Array Value) = #[.pointer (some ⟨B, 0, none⟩), .agg #[.int .i64 st.rule, .int .i64 st.x, .int .i64 st.y, .int .i64 st.z]] := rfl
      rw [e, Bool.false_or]
      obtain ⟨m1, m2⟩ := mem_all.1 hst
      exact isNew_c y B n pv rv u v ps rs (fresh f0 f) st (predsAt.lasts hy h.preds) (rulesAt.lasts hy h.rules) (factsAt.lasts hy h.new) hge m2.1 (news_below hy h.news) m1 hn (Fire.rule_parts (hre _ (List.getElem_mem hn))).2.1)
  have e2 : addAll (kindOf ps) f (wantS ps (ofS (stratOf ps rs) s) false (fresh f0 f) f rs) = onceF ps rs f s := by rw [hf]; exact semi_once h0
  rw [e2] at ht
  exact ht
end Go.Proofs.YtlfccloaoopadaeGreat.Semi

/-
  What the developers' semi.Model answers.
-/
namespace Go.Proofs.YtlfccloaoopadaeGreat.Semi
open Go.RowKit Go.Shelf
open Rule (Vars ruleErr kindOf factFine)
open Base (factsErr capOk)
open Fire (roundErr allL Stp rules_right mem_all)
open Prog (progErr small intsAt devStrata_c)
open Round (onceF onceC stratOf toldS ofS addAll strat_some)
open Naive (right_parts right_round Lev lim pot finF modelTo modelL strataN nil_right model_right)

def lenOf : Value → Int
  | .slice _ n _ => n
  | _ => 0
/-- H1, errors too -/
def semiN (ps : List Prd) (rs : List Rul) : Nat := if progErr ps rs ≠ 0 then 0 else heldTo ps rs (strataN (stratOf ps rs))
noncomputable def semiMu (ps : List Prd) (B : Nat) (w' : World) : Nat := 2 * Naive.left ps ((w'.cell? ⟨B, 2, none⟩).getD undef) w' + if lenOf ((w'.cell? ⟨B, 3, none⟩).getD undef) = 0 then 0 else 1

theorem cell_heap {A B : World} {b o : Nat} (h : A.heap[b]? = B.heap[b]?) : A.cell? ⟨b, o, none⟩ = B.cell? ⟨b, o, none⟩ := by
  unfold World.cell?
  rw [h]
theorem more_few {ps : List Prd} {rs : List Rul} (h : progErr ps rs = 0) (s : Int) : ∀ (n : Nat) (f0 f : List Fct), moreN ps rs s n f0 f ≤ n * 1000
  | 0, _, _ => Nat.le_refl _
  | n + 1, f0, f => by
    rw [moreN]
    split
    · exact Nat.zero_le _
    · have h1 := more_few h s n f (onceF ps rs f s)
      have h2 : (wanted ps rs s f0 f).length ≤ 1000 := want_few h _ _ _ _
      omega
theorem held_few {ps : List Prd} {rs : List Rul} (h : progErr ps rs = 0) : ∀ t, heldTo ps rs t ≤ t * 2002000
  | 0 => Nat.le_refl _
  | t + 1 => by
    have h1 := held_few h t
    have h2 := more_few h (t : Int) (lim + 1) (modelTo ps rs t) (onceF ps rs (modelTo ps rs t) (t : Int))
    have h3 : (toldS ps (ofS (stratOf ps rs) (t : Int)) (modelTo ps rs t) rs).length ≤ 1000 := by
      rw [← want_first ps _ []]
      exact want_few h _ _ _ _
    rw [Naive.lim_is] at h2
    rw [heldTo, heldN, Naive.lim_is]
    omega
theorem fin_once {ps : List Prd} {rs : List Rul} {s : Int} {f : List Fct} (h : roundErr ps rs f = 0) : finF ps rs s (onceF ps rs f s) = finF ps rs s f := by
  cases hc : onceC ps rs f s
  · have := (Naive.once_under s h).2
    rw [hc] at this
    have e : f = onceF ps rs f s := by simpa using this.symm
    rw [← e]
  · exact (Naive.fin_step h hc).1.symm
theorem same_once {ps : List Prd} {rs : List Rul} {s : Int} {f : List Fct} (h : roundErr ps rs f = 0) (hn : fresh f (onceF ps rs f s) = []) : onceF ps rs f s = f ∧ finF ps rs s (onceF ps rs f s) = onceF ps rs f s := by
  have hc := (fresh_nil h).1 hn
  have := (Naive.once_under s h).2
  rw [hc] at this
  have e : f = onceF ps rs f s := by simpa using this.symm
  exact ⟨e.symm, by rw [← e]; exact (Naive.fin_stop hc).1⟩
/-- how things lie in the rounds of a stratum -/
structure InAt (W4 : World) (B : Nat) (pv rv : Value) (ps : List Prd) (rs : List Rul) (s : Int) (F : List Fct) (H : Nat) (u v : Value) (f0 f : List Fct) (hv : Nat) (x : World) : Prop where
  news : newsAt x B pv rv u v
  facts : factsAt x u f
  cap : capOk u
  own : ∀ b, u.ownBlock = some b → b ≠ B
  new : factsAt x v (fresh f0 f)
  keep : TurnK B W4 x
  r0 : roundErr ps rs f0 = 0
  once : f = onceF ps rs f0 s
  fin : finF ps rs s f = finF ps rs s F
  sum : hv + moreN ps rs s (lim + 1) f0 f = H
theorem InAt.mu {W4 : World} {B : Nat} {pv rv : Value} {ps : List Prd} {rs : List Rul} {s : Int} {F : List Fct} {H : Nat} {u v : Value} {f0 f : List Fct} {hv : Nat} {x : World} (h : InAt W4 B pv rv ps rs s F H u v f0 f hv x) : semiMu ps B x = 2 * (lim - pot ps f) + if (fresh f0 f).length = 0 then 0 else 1 := by
  obtain ⟨_, _, c2, c3, _⟩ := news_cells h.news
  obtain ⟨na, nc, rfl, _⟩ := h.new
  unfold semiMu
  rw [c2, c3]
  show 2 * Naive.left ps u x + (if ((fresh f0 f).length : Int) = 0 then 0 else 1) = _
  rw [Naive.left_eq h.facts]
  split <;> split <;> omega
theorem mu_less {W4 : World} {B : Nat} {pv rv : Value} {ps : List Prd} {rs : List Rul} {s : Int} {F : List Fct} {H : Nat} {u v u' v' : Value} {f0 f : List Fct} {hv hv' : Nat} {x y : World} (h : InAt W4 B pv rv ps rs s F H u v f0 f hv x) (hn : fresh f0 f ≠ []) (h' : InAt W4 B pv rv ps rs s F H u' v' f (onceF ps rs f s) hv' y) : semiMu ps B y < semiMu ps B x := by
  rw [h.mu, h'.mu]
  have hr := h'.r0
  have hne : (fresh f0 f).length ≠ 0 := fun e => hn (List.eq_nil_of_length_eq_zero e)
  have hl := Naive.pot_le (right_parts hr).2
  have hl' := Naive.pot_le (right_parts (Naive.once_right s hr)).2
  rw [if_neg hne]
  cases hc : onceC ps rs f s
  · have e := same_once hr ((fresh_nil hr).2 hc)
    rw [(fresh_nil hr).2 hc, if_pos List.length_nil, e.1]
    omega
  · have := Naive.once_pot hr hc
    split <;> omega

set_option maxRecDepth 100000 in
set_option maxHeartbeats 8000000 in
theorem devSemi_c (w : World) (pv rv : Value) (ps : List Prd) (rs : List Rul) (hp : predsAt w pv ps) (hr : rulesAt w rv rs) (hn : small ps) :
    Calls Tryz.prog 9 #[.agg #[pv, rv]] w fun e w' => ∃ u, e = .returned (.tuple #[u, .int .i64 (semiN ps rs : Int), .int .i64 (progErr ps rs)]) ∧ factsAt w' u (Naive.modelF ps rs) ∧ capOk u ∧ Below w.heap.size w w' := by
  have HST : Hid (∀ x, Below w.heap.size w x → Calls Tryz.prog 24 #[.agg #[pv, rv]] x fun e w' => (∃ v, e = .returned (.tuple #[v, .int .i64 (progErr ps rs)]) ∧ (progErr ps rs ≠ 0 → v = .slice none 0 0) ∧ (progErr ps rs = 0 → intsAt w' v (stratOf ps rs))) ∧ Below x.heap.size x w') := fun x hx => (devStrata_c x pv rv ps rs (predsAt.lasts hx hp) (rulesAt.lasts hx hr) hn).mono fun _ _ ⟨⟨v, h1, h2, h3⟩, h4⟩ => ⟨⟨v, h1, h2, fun h => h3 _ (strat_some h).1 h⟩, h4⟩
  have HD0 : Hid (predsAt w pv ps ∧ rulesAt w rv rs ∧ small ps) := ⟨hp, hr, hn⟩
  obtain ⟨pa, pc, rfl, _⟩ := hp
  obtain ⟨ra, rc, rfl, _⟩ := hr
  obtain ⟨W1, hW1⟩ : ∃ W1, w.alloc (.cells #[.slice pa ps.length pc, .slice ra rs.length rc] 25) = W1 := ⟨_, rfl⟩
  have b1 : Below w.heap.size w W1 := by rw [← hW1]; exact below_alloc _ _
  have B1 : W1.cell? ⟨w.heap.size, 0, none⟩ = some (.slice pa ps.length pc) ∧ W1.cell? ⟨w.heap.size, 1, none⟩ = some (.slice ra rs.length rc) ∧ w.heap.size < W1.heap.size := by rw [← hW1]; exact ⟨by simp [go_sem], by simp [go_sem], by simp⟩
  by_cases hpe : progErr ps rs = 0
  · have HPE : Hid (progErr ps rs = 0) := hpe
    go_enter Tryz.func9, Tryz.ntmps9
    go_wp2_with fail
    clear hW1
    refine (HST.out _ b1).mono ?_
    rintro e W2 ⟨⟨sv, rfl, _, hsi⟩, hb2⟩
    have k2 : Below w.heap.size w W2 := b1.trans (hb2.mono b1.size)
    have hsi' := hsi hpe
    obtain ⟨sa, sc, rfl, _⟩ := id hsi'
    obtain ⟨c0, c1, hwl⟩ := Prog.boxO hb2 B1
    rw [hpe]
    obtain ⟨W3, hW3⟩ : ∃ W3, (W2.alloc (.cells #[.slice sa (stratOf ps rs).length sc] 49)).alloc (.cells #[.slice pa ps.length pc, .slice ra rs.length rc, .slice none 0 0, .slice none 0 0] 54) = W3 := ⟨_, rfl⟩
    have b23 : Below W2.heap.size W2 W3 := by rw [← hW3]; exact ((Below.refl _ _).alloc (Nat.le_refl _) _).alloc (by simp) _
    have d0 : W3.cell? ⟨w.heap.size, 0, none⟩ = some (.slice pa ps.length pc) := (cell_lasts b23 hwl).trans c0
    have X0 : W3.cell? ⟨W2.heap.size, 0, none⟩ = some (.slice sa (stratOf ps rs).length sc) := by rw [← hW3]; simp [go_sem]
    have X1 : newsAt W3 (W2.heap.size + 1) (.slice pa ps.length pc) (.slice ra rs.length rc) (.slice none 0 0) (.slice none 0 0) := by
      have h := World.alloc_heap_new (W2.alloc (.cells #[.slice sa (stratOf ps rs).length sc] 49)) (.cells #[.slice pa ps.length pc, .slice ra rs.length rc, .slice none 0 0, .slice none 0 0] 54)
      rw [World.size_alloc] at h
      show W3.heap[W2.heap.size + 1]? = _
      rw [← hW3]
      exact h
    have hps : ps.length ≤ 5 := (Prog.parts_zero (Prog.prog_zero hpe).1).1
    have s3 : W3.heap.size = W2.heap.size + 1 + 1 := by rw [← hW3]; simp
    have HP2 : Hid (∀ x, Below W2.heap.size W2 x → predsAt x (.slice pa ps.length pc) ps ∧ rulesAt x (.slice ra rs.length rc) rs ∧ intsAt x (.slice sa (stratOf ps rs).length sc) (stratOf ps rs)) := fun x hx => ⟨predsAt.lasts (k2.trans (hx.mono k2.size)) HD0.out.1, rulesAt.lasts (k2.trans (hx.mono k2.size)) HD0.out.2.1, Prog.intsAt.lasts hx hsi'⟩
    have HB2 : Hid (∀ x, TurnK (W2.heap.size + 1) W3 x → Below W2.heap.size W2 x) := fun x hx => b23.trans (hx.below _ (by omega) (by omega))
    have HEND : Hid (heldTo ps rs ps.length = semiN ps rs ∧ modelTo ps rs ps.length = Naive.modelF ps rs) := by
      obtain ⟨e1, e2⟩ := held_end hpe (Trace.strata_le hpe)
      refine ⟨?_, ?_⟩
      · rw [e1, semiN, if_neg (by rw [hpe]; simp)]
      · rw [e2, Naive.modelF, if_neg (by rw [hpe]; simp)]
        rfl
    have HFEW : Hid (∀ t, t ≤ 5 → heldTo ps rs t ≤ 10010000) := fun t ht => Nat.le_trans (held_few hpe t) (by omega)
    have HRI : Hid (∀ t, roundErr ps rs (modelTo ps rs t) = 0) := fun t => model_right hpe t
    go_wp2_with fail
    clear hW3 c0 c1 d0 hsi hsi' hpe
    go_loopw [8, 26] (fun hd i wr => ∃ (t : Nat) (u v : Value), t ≤ ps.length ∧ i = .int .i64 t ∧ hd = .int .i64 (heldTo ps rs t : Int) ∧ Hid (newsAt wr (W2.heap.size + 1) (.slice pa ps.length pc) (.slice ra rs.length rc) u v ∧ factsAt wr u (modelTo ps rs t) ∧ capOk u ∧ (∀ b, u.ownBlock = some b → b ≠ W2.heap.size + 1) ∧ (∃ fr, factsAt wr v fr) ∧ TurnK (W2.heap.size + 1) W3 wr)) (fun _ i _ => ps.length - (intOf i).toNat)
    case atStart => exact ⟨0, _, _, Nat.zero_le _, rfl, rfl, X1, Base.facts_nil _, Base.cap_nil, (fun b hb => by cases hb), ⟨[], Base.facts_nil _⟩, TurnK.of (Below.refl _ _)⟩
    case round =>
      obtain ⟨t, u, v, ht, rfl, rfl, hat⟩ := hrel
      by_cases hlt : t < ps.length
      · have ht1 : (t : Int) < (ps.length : Int) := by omega
        obtain ⟨W4, hW4⟩ : ∃ W4, wr.alloc (.cells #[.int .i64 (t : Int)] 3) = W4 := ⟨_, rfl⟩
        have b4 : Below wr.heap.size wr W4 := by rw [← hW4]; exact below_alloc _ _
        obtain ⟨Bt, hBt⟩ : ∃ Bt, wr.heap.size = Bt := ⟨_, rfl⟩
        have T4 : W4.cell? ⟨Bt, 0, none⟩ = some (.int .i64 (t : Int)) := by rw [← hW4, ← hBt]; simp [go_sem]
        have s4 : Bt < W4.heap.size := by rw [← hW4, ← hBt]; simp
        have hs3 : W2.heap.size + 1 + 1 ≤ Bt := by have := hat.out.2.2.2.2.2.size; omega
        have k4 : TurnK (W2.heap.size + 1) W3 W4 := hat.out.2.2.2.2.2.trans (TurnK.of b4)
        have HSA : Hid (∀ x u' v' f fr, TurnK (W2.heap.size + 1) W4 x → newsAt x (W2.heap.size + 1) (.slice pa ps.length pc) (.slice ra rs.length rc) u' v' → factsAt x u' f → capOk u' → (∀ b, u'.ownBlock = some b → b ≠ W2.heap.size + 1) → factsAt x v' fr → roundErr ps rs f = 0 → SemiAt x (W2.heap.size + 1) W2.heap.size Bt (.slice pa ps.length pc) (.slice ra rs.length rc) (.slice sa (stratOf ps rs).length sc) ps rs (t : Int) u' v' f fr) := fun x u' v' f fr hk hn hf hc ho hv hr => by
          have k3 := k4.trans hk
          obtain ⟨p1, p2, p3⟩ := HP2.out x (HB2.out x k3)
          have hc2 : ∀ b o, b < W3.heap.size → b ≠ W2.heap.size + 1 → x.cell? ⟨b, o, none⟩ = W3.cell? ⟨b, o, none⟩ := fun b o h1 h2 => cell_heap (k3.same b h1 h2)
          have hc4 : ∀ b o, b < W4.heap.size → b ≠ W2.heap.size + 1 → x.cell? ⟨b, o, none⟩ = W4.cell? ⟨b, o, none⟩ := fun b o h1 h2 => cell_heap (hk.same b h1 h2)
          exact ⟨hn, p1, p2, hf, hc, ho, hv, hr, HD0.out.2.2, (hc2 _ _ (by omega) (by omega)).trans X0, (hc4 _ _ s4 (by omega)).trans T4, p3, by have := k3.size; omega, by have := hk.size; omega⟩
        obtain ⟨a1, a2, a3, a4, ⟨fr0, a5⟩, a6⟩ := hat.out
        have HT1 := turn_first W4 (W2.heap.size + 1) W2.heap.size Bt _ _ _ ps rs (t : Int) u v _ fr0 (HSA.out W4 u v _ fr0 (TurnK.of (Below.refl _ _)) (news_below b4 a1) (factsAt.lasts b4 a2) a3 a4 (factsAt.lasts b4 a5) (HRI.out t))
        have hh0 : (0 : Int) ≤ (heldTo ps rs t : Int) ∧ (heldTo ps rs t : Int) ≤ 10010000 := ⟨by omega, by have := HFEW.out t (by omega); omega⟩
        have HH1 : Hid (heldTo ps rs (t + 1) = heldTo ps rs t + heldN ps rs (t : Int) (modelTo ps rs t) ∧ modelTo ps rs (t + 1) = finF ps rs (t : Int) (modelTo ps rs t)) := ⟨rfl, rfl⟩
        have HH2 : Hid (heldTo ps rs (t + 1) ≤ 10010000) := HFEW.out (t + 1) (by omega)
        have HR0 : Hid (roundErr ps rs (modelTo ps rs t) = 0) := HRI.out t
        clear hat a1 a2 a3 a4 a5
        generalize modelTo ps rs t = F at *
        go_wp2_with fail
        refine HT1.mono ?_
        rintro e W5 ⟨u', v', rfl, h1, h2, h3, h4, h5, h6⟩
        have HTL : Hid ((toldS ps (ofS (stratOf ps rs) (t : Int)) F rs).length + moreN ps rs (t : Int) (lim + 1) F (onceF ps rs F (t : Int)) = heldN ps rs (t : Int) F) := rfl
        generalize (toldS ps (ofS (stratOf ps rs) (t : Int)) F rs).length = tl at *
        have htl : (0 : Int) ≤ (tl : Int) ∧ (tl : Int) ≤ 10010000 := ⟨by omega, by have := HTL.out; have := HH1.out.1; have := HH2.out; omega⟩
        clear hW4 HT1
        go_wp2_with fail
        go_loopw [8] (fun hd wr2 => ∃ (hv : Nat) (u2 v2 : Value) (f0 f : List Fct), hd = .int .i64 (hv : Int) ∧ Hid (InAt W4 (W2.heap.size + 1) (.slice pa ps.length pc) (.slice ra rs.length rc) ps rs (t : Int) F (heldTo ps rs (t + 1)) u2 v2 f0 f hv wr2)) (fun _ w' => semiMu ps (W2.heap.size + 1) w')
        case atStart => exact ⟨heldTo ps rs t + tl, u', v', F, _, by go_num, ⟨h1, h2, h3, h4, h5, h6, HR0.out, rfl, fin_once HR0.out, by rw [HH1.out.1, ← HTL.out]; omega⟩⟩
        case round =>
          obtain ⟨hv, u2, v2, f0, f, rfl, hin⟩ := hrel
          obtain ⟨_, _, c2, c3, _⟩ := news_cells hin.out.news
          have hvb : (0 : Int) ≤ (hv : Int) ∧ (hv : Int) ≤ 10010000 := ⟨by omega, by have := hin.out.sum; have := HH2.out; omega⟩
          by_cases hne : fresh f0 f = []
          · obtain ⟨na, nc, hv2, _⟩ := hin.out.new
            rw [hne] at hv2
            obtain rfl : v2 = .slice na 0 nc := hv2
            have HQ : Hid (f = finF ps rs (t : Int) F ∧ hv = heldTo ps rs (t + 1)) := by
              have e1 := hin.out.once
              have e3 := hin.out.sum
              have e4 := hin.out.fin
              rw [more_stop hne] at e3
              rw [e1] at hne
              have e2 := same_once hin.out.r0 hne
              rw [e1] at e4 ⊢
              exact ⟨e2.2.symm.trans e4, by omega⟩
            clear hne
            go_wp2_with fail
            go_roundw
            case rel =>
              refine ⟨t + 1, u2, .slice na 0 nc, by omega, by go_num, by rw [HQ.out.2], ?_⟩
              have h := hin.out
              exact ⟨h.news, by rw [HH1.out.2, ← HQ.out.1]; exact h.facts, h.cap, h.own, ⟨_, h.new⟩, k4.trans h.keep⟩
            case measure => simp [intOf]; omega
          · have hpos : 0 < (fresh f0 f).length := List.length_pos_iff.2 hne
            have HNE : Hid (fresh f0 f ≠ []) := hne
            obtain ⟨na, nc, rfl, _⟩ := id hin.out.new
            have HTM := turn_more wr (W2.heap.size + 1) W2.heap.size Bt _ _ _ ps rs (t : Int) u2 _ f0 f (HSA.out wr u2 _ f _ hin.out.keep hin.out.news hin.out.facts hin.out.cap hin.out.own hin.out.new (by rw [hin.out.once]; exact Naive.once_right _ hin.out.r0)) hin.out.r0 hin.out.once
            have HMS : Hid (moreN ps rs (t : Int) (lim + 1) f0 f = (wanted ps rs (t : Int) f0 f).length + moreN ps rs (t : Int) (lim + 1) f (onceF ps rs f (t : Int))) := by
              have e1 := hin.out.once
              show _ = _
              rw [e1] at hne ⊢
              exact more_step hin.out.r0 hne
            clear hne
            go_wp2_with fail
            refine HTM.mono ?_
            rintro e W6 ⟨u3, v3, rfl, m1, m2, m3, m4, m5, m6⟩
            generalize (wanted ps rs (t : Int) f0 f).length = wl at *
            have hwl : (0 : Int) ≤ (wl : Int) ∧ (hv : Int) + (wl : Int) ≤ 10010000 := ⟨by omega, by have := hin.out.sum; have := HH2.out; have := HMS.out; omega⟩
            have HI6 : Hid (InAt W4 (W2.heap.size + 1) (.slice pa ps.length pc) (.slice ra rs.length rc) ps rs (t : Int) F (heldTo ps rs (t + 1)) u3 v3 f (onceF ps rs f (t : Int)) (hv + wl) W6) := by
              have h := hin.out
              have hr : roundErr ps rs f = 0 := by rw [h.once]; exact Naive.once_right _ h.r0
              exact ⟨m1, m2, m3, m4, m5, h.keep.trans m6, hr, rfl, (fin_once hr).trans h.fin, by have := h.sum; have := HMS.out; omega⟩
            clear m1 m2 m3 m4 m5 m6 c2 c3 HTM
            go_wp2_with fail
            go_roundw
            case rel => exact ⟨hv + wl, u3, v3, f, _, by go_num, HI6⟩
            case measure => exact mu_less hin.out HNE.out HI6.out
      · obtain rfl : t = ps.length := by omega
        obtain ⟨a1, a2, a3, a4, a5, a6⟩ := hat.out
        obtain ⟨_, _, c2, _⟩ := news_cells a1
        have HK : Hid (Below w.heap.size w wr) := k2.trans ((HB2.out wr a6).mono k2.size)
        go_wp2_with fail
        refine bodyPost_ret (v := .tuple #[u, .int .i64 (heldTo ps rs ps.length : Int), .int .i64 0]) (by simp [results, Tryz.results9, go_sem]) rfl ?_
        exact ⟨u, by rw [HEND.out.1, HPE.out], by rw [← HEND.out.2]; exact a2, a3, HK.out⟩
  · have hpe' : (progErr ps rs == 0) = false := by simpa using hpe
    have HE : Hid (semiN ps rs = 0 ∧ Naive.modelF ps rs = []) := ⟨by rw [semiN, if_pos hpe], by rw [Naive.modelF, if_pos hpe]⟩
    go_enter Tryz.func9, Tryz.ntmps9
    go_wp2_with fail
    refine (HST.out _ b1).mono ?_
    rintro e W2 ⟨⟨vs, rfl, hvs, _⟩, hb2⟩
    obtain rfl := hvs hpe
    have k2 : Below w.heap.size w W2 := b1.trans (hb2.mono b1.size)
    clear hW1 B1
    go_wp2_with fail
    refine bodyPost_ret (v := .tuple #[.slice none 0 0, .int .i64 0, .int .i64 (progErr ps rs)]) (by simp [results, Tryz.results9, go_sem]) rfl ?_
    exact ⟨.slice none 0 0, by rw [HE.out.1]; rfl, by rw [HE.out.2]; exact Base.facts_nil _, Base.cap_nil, k2.alloc k2.size _⟩
end Go.Proofs.YtlfccloaoopadaeGreat.Semi

/-
  Only what is new of the laws' own program 'roads', in plain words: how many steps held.
-/
namespace Go.Proofs.YtlfccloaoopadaeGreat.Semi
open Prog (g0)
open Round (onceF stratOf toldS ofS st1)
open Naive (m1 m2 m3 m4 m5 r0 r1 r2 r3 r4 r5 a0 a1 a2 a3 a5 strataN modelTo lim)

set_option maxRecDepth 100000
theorem once4 : onceF Roads.preds Roads.rules m4 0 = m4 := by
  have := (Naive.once_under 0 r4).2
  rw [Naive.a4] at this
  have e : m4 = onceF Roads.preds Roads.rules m4 0 := by simpa using this.symm
  exact e.symm
theorem once5 : onceF Roads.preds Roads.rules m5 1 = m5 := by
  have := (Naive.once_under 1 r5).2
  rw [Naive.a6] at this
  have e : m5 = onceF Roads.preds Roads.rules m5 1 := by simpa using this.symm
  exact e.symm
theorem n0 : (toldS Roads.preds (ofS (stratOf Roads.preds Roads.rules) 0) [] Roads.rules).length = 4 := by rw [st1]; kernel_rfl
theorem n1 : (wanted Roads.preds Roads.rules 0 [] m1).length = 4 := by rw [wanted, st1]; kernel_rfl
theorem n2 : (wanted Roads.preds Roads.rules 0 m1 m2).length = 4 := by rw [wanted, st1]; kernel_rfl
theorem n3 : (wanted Roads.preds Roads.rules 0 m2 m3).length = 4 := by rw [wanted, st1]; kernel_rfl
theorem n4 : (wanted Roads.preds Roads.rules 0 m3 m4).length = 4 := by rw [wanted, st1]; kernel_rfl
theorem n5 : (toldS Roads.preds (ofS (stratOf Roads.preds Roads.rules) 1) m4 Roads.rules).length = 1 := by rw [st1]; kernel_rfl
theorem n6 : (wanted Roads.preds Roads.rules 1 m4 m5).length = 0 := by rw [wanted, st1]; kernel_rfl
theorem h0 : heldN Roads.preds Roads.rules 0 [] = 20 := by
  have e0 := more_step (s := 0) r0 (by rw [a0.1]; exact List.cons_ne_nil _ _)
  have e1 := more_step (s := 0) r1 (by rw [a1.1]; exact List.cons_ne_nil _ _)
  have e2 := more_step (s := 0) r2 (by rw [a2.1]; exact List.cons_ne_nil _ _)
  have e3 := more_step (s := 0) r3 (by rw [a3.1]; exact List.cons_ne_nil _ _)
  have e4 : moreN Roads.preds Roads.rules 0 (lim + 1) m4 (onceF Roads.preds Roads.rules m4 0) = 0 := more_stop (by rw [once4]; rfl)
  rw [a0.1] at e0
  rw [a1.1] at e1
  rw [a2.1] at e2
  rw [a3.1] at e3
  rw [heldN, n0, a0.1, e0, n1, a1.1, e1, n2, a2.1, e2, n3, a3.1, e3, n4, e4]
theorem h1 : heldN Roads.preds Roads.rules 1 m4 = 1 := by
  have e0 := more_step (s := 1) r4 (by rw [a5.1]; exact List.cons_ne_nil _ _)
  have e1 : moreN Roads.preds Roads.rules 1 (lim + 1) m5 (onceF Roads.preds Roads.rules m5 1) = 0 := more_stop (by rw [once5]; rfl)
  rw [a5.1] at e0
  rw [heldN, n5, a5.1, e0, n6, e1]
theorem semi_roads : semiN Roads.preds Roads.rules = 21 := by
  rw [semiN, if_neg (by rw [g0]; simp), st1, show strataN [0, 0, 1] = 2 from rfl, heldTo, heldTo, heldTo, modelTo, modelTo]
  show 0 + heldN Roads.preds Roads.rules 0 [] + heldN Roads.preds Roads.rules 1 (Naive.finF Roads.preds Roads.rules 0 []) = 21
  rw [Naive.f0.1, h0, h1]
end Go.Proofs.YtlfccloaoopadaeGreat.Semi

/-
  What must be in any case of package semi.
-/
namespace Go.Proofs.YtlfccloaoopadaeGreat.Semi
open Go.ChangeShapes Go.WideShapes Go.ChangeAt Go.RowKit
open Prog (g0 smallP)
open Fire (roads2_c)
open Naive (m5)

set_option maxRecDepth 100000 in
set_option maxHeartbeats 8000000 in
theorem semiBegun_c (w : World) : Calls Tryz.prog 12 #[] w fun e w' => e = .returned (.bool true) ∧ Below w.heap.size w w' := by
  go_enter Tryz.func12, Tryz.ntmps12
  go_wp2_with fail
  refine (roads2_c _).mono ?_
  rintro e a1 ⟨pa, pn, pc, ra, rn, rc, rfl, hp, hr, hb1⟩
  have HC : Hid (Calls Tryz.prog 9 #[.agg #[.slice pa pn pc, .slice ra rn rc]] a1 fun e w' => ∃ u, e = .returned (.tuple #[u, .int .i64 21, .int .i64 0]) ∧ factsAt w' u m5 ∧ Below a1.heap.size a1 w') := by
    have h := devSemi_c a1 _ _ Roads.preds Roads.rules hp hr smallP
    rw [g0, semi_roads, Naive.model_roads.1] at h
    exact h.mono fun _ _ ⟨u, h1, h2, _, h3⟩ => ⟨u, h1, h2, h3⟩
  clear hp hr
  go_wp2_with fail
  refine HC.out.mono ?_
  rintro e c1 ⟨u1, rfl, hfu, hb2⟩
  have k1 : Below w.heap.size w c1 := hb1.trans (hb2.mono hb1.size)
  obtain ⟨ua, uc, rfl, _⟩ := hfu
  simp only [show m5.length = 17 from rfl]
  go_wp2_with fail
  go_ret
  exact ⟨rfl, k1⟩
end Go.Proofs.YtlfccloaoopadaeGreat.Semi

/-
  What the document's own SemiOf answers.
-/
namespace Go.Proofs.YtlfccloaoopadaeGreat.Semi
open Go.ChangeShapes Go.WideShapes Go.ChangeAt Go.RowKit
open Rule (Vars kindOf factFine ruleErr)
open Base (factsErr capNew addF addC cellsF cellsF_length cellsF_one cellsF_append piece_one own_lasts)
open Fire (roundErr Stp stepsAt step_cells consts bodyOk headF holdsF rules_right allL allOf_n)
open Prog (progErr small intsAt slice_cells)
open Strata (at_)
open Round (onceF onceC stratOf ofS strat_some addAll addAll_one addAll_right)
open Naive (right_parts right_round nil_right strataN most_c modelTo modelL finF lim pot model_right)

theorem wp_called {P : Program} {c : Code} {Q : Exit → Act → World → Prop} {a : Act} {W : World} (F : World → Prop) (hF : F W) (h : ∀ W0, F W0 → Code.wp P c Q a W0) : Code.wp P c Q a W := h W hF
def isOne : Value → Nat
  | .bool true => 1
  | _ => 0
noncomputable def soMu (ps : List Prd) (u fr a : Value) (x : World) : Nat := 2 * Naive.left ps u x + max (isOne a) (if lenOf fr = 0 then 0 else 1)

/-- how things lie between two rounds of the document's own -/
structure SoAt (W2 : World) (ps : List Prd) (rs : List Rul) (s : Int) (F : List Fct) (H0 H : Nat) (b : Bool) (u vf : Value) (f0 f fr : List Fct) (hv : Nat) (x : World) : Prop where
  bel : Below W2.heap.size W2 x
  fac : factsAt x u f
  new : factsAt x vf fr
  rig : roundErr ps rs f = 0
  one : b = true → f = F ∧ fr = [] ∧ hv = H0
  two : b = false → roundErr ps rs f0 = 0 ∧ f = onceF ps rs f0 s ∧ fr = fresh f0 f ∧ finF ps rs s f = finF ps rs s F ∧ hv + moreN ps rs s (lim + 1) f0 f = H
theorem SoAt.held {W2 : World} {ps : List Prd} {rs : List Rul} {s : Int} {F : List Fct} {H0 H : Nat} {b : Bool} {u vf : Value} {f0 f fr : List Fct} {hv : Nat} {x : World} (h : SoAt W2 ps rs s F H0 H b u vf f0 f fr hv x) (hH : H = H0 + heldN ps rs s F) (hc : b = true ∨ fr ≠ []) :
    addAll (kindOf ps) f (wantS ps (ofS (stratOf ps rs) s) b fr f rs) = onceF ps rs f s ∧ hv + (wantS ps (ofS (stratOf ps rs) s) b fr f rs).length + moreN ps rs s (lim + 1) f (onceF ps rs f s) = H ∧ finF ps rs s (onceF ps rs f s) = finF ps rs s F := by
  cases b
  · obtain ⟨h1, h2, h3, h4, h5⟩ := h.two rfl
    rcases hc with hc | hc
    · cases hc
    · rw [h3] at hc ⊢
      rw [h2] at hc
      have e := more_step h1 hc
      rw [← h2] at e
      refine ⟨by rw [h2]; exact semi_once h1, ?_, (fin_once h.rig).trans h4⟩
      have : (wanted ps rs s f0 f).length = (wantS ps (ofS (stratOf ps rs) s) false (fresh f0 f) f rs).length := rfl
      omega
  · obtain ⟨h1, h2, h3⟩ := h.one rfl
    obtain ⟨e1, e2⟩ := first_held h.rig fr s
    refine ⟨e2, ?_, by rw [fin_once h.rig, h1]⟩
    rw [e1, h1, h3, hH, heldN]
    omega
theorem SoAt.mu {W2 : World} {ps : List Prd} {rs : List Rul} {s : Int} {F : List Fct} {H0 H : Nat} {b : Bool} {u vf : Value} {f0 f fr : List Fct} {hv : Nat} {x : World} (h : SoAt W2 ps rs s F H0 H b u vf f0 f fr hv x) : soMu ps u vf (.bool b) x = 2 * (lim - pot ps f) + max (if b then 1 else 0) (if fr.length = 0 then 0 else 1) := by
  obtain ⟨na, nc, rfl, _⟩ := h.new
  unfold soMu
  rw [Naive.left_eq h.fac]
  show 2 * _ + max (isOne (.bool b)) (if (fr.length : Int) = 0 then 0 else 1) = _
  have e1 : isOne (.bool b) = if b then 1 else 0 := by cases b <;> rfl
  have e2 : (if (fr.length : Int) = 0 then 0 else 1) = (if fr.length = 0 then 0 else 1) := by split <;> split <;> omega
  rw [e1, e2]
theorem so_less {W2 : World} {ps : List Prd} {rs : List Rul} {s : Int} {F : List Fct} {H0 H : Nat} {b : Bool} {u vf u' vf' : Value} {f0 f fr : List Fct} {hv hv' : Nat} {x y : World} (h : SoAt W2 ps rs s F H0 H b u vf f0 f fr hv x) (hc : b = true ∨ fr ≠ []) (h' : SoAt W2 ps rs s F H0 H false u' vf' f (onceF ps rs f s) (fresh f (onceF ps rs f s)) hv' y) : soMu ps u' vf' (.bool false) y < soMu ps u vf (.bool b) x := by
  rw [h.mu, h'.mu]
  have hr := h.rig
  have hm : max (if b = true then 1 else 0) (if fr.length = 0 then 0 else 1) = 1 := by
    rcases hc with rfl | hc
    · rw [if_pos rfl]; split <;> rfl
    · rw [if_neg (fun e => hc (List.eq_nil_of_length_eq_zero e))]; split <;> rfl
  have hl := Naive.pot_le (right_parts hr).2
  have hl' := Naive.pot_le (right_parts (Naive.once_right s hr)).2
  rw [hm, if_neg (by simp)]
  cases hc' : onceC ps rs f s
  · have e := same_once hr ((fresh_nil hr).2 hc')
    rw [(fresh_nil hr).2 hc', if_pos List.length_nil, e.1]
    omega
  · have := Naive.once_pot hr hc'
    have : (max 0 (if (fresh f (onceF ps rs f s)).length = 0 then 0 else 1)) ≤ 1 := by split <;> omega
    omega
/-- the facts of g, so far, that are not in f -/
theorem fresh_take {f g : List Fct} {k : Nat} (h : k < g.length) : fresh f (g.take (k + 1)) = fresh f (g.take k) ++ if Base.get f (Base.place g[k]) = some g[k].val then [] else [g[k]] := by
  unfold fresh
  rw [List.take_add_one, List.getElem?_eq_getElem h, Option.toList_some, List.filter_append]
  congr 1
  by_cases e : Base.get f (Base.place g[k]) = some g[k].val
  · rw [if_pos e]
    simp [e]
  · rw [if_neg e]
    simp [e]

set_option maxRecDepth 100000 in
set_option maxHeartbeats 16000000 in
theorem semiOf_c (w : World) (pv rv : Value) (ps : List Prd) (rs : List Rul) (hp : predsAt w pv ps) (hr : rulesAt w rv rs) (hpe : progErr ps rs = 0) :
    Calls Tryz.prog 11 #[.agg #[pv, rv]] w fun e w' => ∃ u, e = .returned (.tuple #[u, .int .i64 (heldTo ps rs (strataN (stratOf ps rs)) : Int)]) ∧ factsAt w' u (modelL ps rs) ∧ Below w.heap.size w w' := by
  obtain ⟨z1, z2, z3⟩ := Prog.parts_zero (Prog.prog_zero hpe).1
  obtain ⟨l1, l2⟩ := strat_some hpe
  have hre := rules_right hpe
  have HST : Hid (∀ x, Below w.heap.size w x → Calls Tryz.prog 33 #[.agg #[pv, rv]] x fun e w' => (∃ v, e = .returned v ∧ intsAt w' v (stratOf ps rs)) ∧ Below x.heap.size x w') := fun x hx => (Prog.strataOf_c x pv rv ps rs (predsAt.lasts hx hp) (rulesAt.lasts hx hr) z1 z2 z3).mono fun _ _ ⟨⟨v, h1, h2⟩, h3⟩ => ⟨⟨v, h1, h2 _ l1⟩, h3⟩
  have HD : Hid (∀ x, Below w.heap.size w x → predsAt x pv ps ∧ rulesAt x rv rs) := fun x hx => ⟨predsAt.lasts hx hp, rulesAt.lasts hx hr⟩
  have HAL : Hid (∀ x u f n, (hn : n < rs.length) → roundErr ps rs f = 0 → factsAt x u f → Below w.heap.size w x → Calls Tryz.prog 35 #[.agg #[pv, rv], u, .int .i64 (n : Int)] x fun e w' => ∃ v, e = .returned v ∧ stepsAt w' v (allL f rs[n] n) ∧ (∀ b, v.ownBlock = some b → x.heap.size ≤ b) ∧ Below x.heap.size x w') := fun x u f n hn he hf hx => allOf_n x pv rv u ps rs f n (HD.out x hx).1 (HD.out x hx).2 hf hre (right_parts he).2 hn
  have HHO : Hid (∀ x u f n, (hn : n < rs.length) → ∀ v, consts v = true → roundErr ps rs f = 0 → factsAt x u f → Below w.heap.size w x → Calls Tryz.prog 37 #[.agg #[pv, rv], u, .int .i64 (n : Int), .agg #[.int .i64 v.x, .int .i64 v.y, .int .i64 v.z]] x fun e w' => e = .returned (.tuple #[.bool (bodyOk f v rs[n].body), .agg #[.int .i64 (holdsF ps f rs[n] v).pred, .int .i64 (holdsF ps f rs[n] v).a, .int .i64 (holdsF ps f rs[n] v).b, .int .i64 (holdsF ps f rs[n] v).val]]) ∧ Below x.heap.size x w') := fun x u f n hn v hv he hf hx => Fire.holds_c x pv rv u ps rs f n v (HD.out x hx).1 (HD.out x hx).2 hf hre (right_parts he).2 hn hv
  have HIN : Hid (∀ x u fr n, (hn : n < rs.length) → ∀ v s, consts v = true → factsErr ps fr = 0 → factsAt x u fr → Below w.heap.size w x → Calls Tryz.prog 36 #[.agg #[pv, rv], .agg #[.int .i64 (n : Int), .int .i64 v.x, .int .i64 v.y, .int .i64 v.z], .int .i64 s, u] x fun e w' => e = .returned (.bool (isNewS (stratOf ps rs) s fr rs[n] v)) ∧ Below x.heap.size x w') := fun x u fr n hn v s hv he hf hx => isNewR_c x pv rv u ps rs fr n v s (HD.out x hx).1 (HD.out x hx).2 hf hpe he hn hv
  have HAD : Hid (∀ x u f (y : Fct), roundErr ps rs f = 0 → factFine ps y = true → factsAt x u f → Below w.heap.size w x → Calls Tryz.prog 38 #[pv, u, .agg #[.int .i64 y.pred, .int .i64 y.a, .int .i64 y.b, .int .i64 y.val]] x fun e w' => ∃ u', e = .returned (.tuple #[u', .bool (addC (kindOf ps) y f)]) ∧ factsAt w' u' (addF (kindOf ps) y f) ∧ capNew x.heap.size u' ∧ Below x.heap.size x w') := fun x u f y he hy hf hx => Base.add_n x pv u ps f y.pred y.a y.b y.val (HD.out x hx).1 hf (right_parts he).2 hy
  have HRE : Hid (∀ r ∈ rs, ruleErr ps r = 0) := hre
  have HPR : Hid (∀ r ∈ rs, ∃ e : Nat, r.head.pred = (e : Int) ∧ e < (stratOf ps rs).length) := fun r hr' => by
    obtain ⟨k, hk, e⟩ := Rule.isPred_iff.1 (Rule.atom_right (Fire.rule_parts (hre r hr')).1).1
    exact ⟨k, e, by omega⟩
  have HRC : Hid (∀ x n, (hn : n < rs.length) → Below w.heap.size w x → ∃ rb ro rc, rv = .slice (some ⟨rb, ro, none⟩) rs.length rc ∧ rb < w.heap.size ∧ x.cell? ⟨rb, ro + n * 5, none⟩ = some (.int .i64 rs[n].head.pred)) := fun x n hn hx => by
    obtain ⟨rb, ro, rc, e, hb, hc⟩ := slice_cells hr hn
    exact ⟨rb, ro, rc, e, hb, (cell_lasts hx hb).trans hc.1⟩
  have HN5 : Hid (strataN (stratOf ps rs) ≤ 5) := Nat.le_trans (Trace.strata_le hpe) z1
  have HFEW : Hid (∀ t, t ≤ 5 → heldTo ps rs t ≤ 10010000) := fun t ht => Nat.le_trans (held_few hpe t) (by omega)
  have HPE : Hid (progErr ps rs = 0) := hpe
  obtain ⟨pa, pc, rfl, _⟩ := hp
  obtain ⟨ra, rc, rfl, _⟩ := hr
  rw [modelL]
  clear l1 l2 z1 z2 z3 hpe hre
  obtain ⟨W1, hW1⟩ : ∃ W1, w.alloc (.cells #[.slice pa ps.length pc, .slice ra rs.length rc] 25) = W1 := ⟨_, rfl⟩
  have b1 : Below w.heap.size w W1 := by rw [← hW1]; exact below_alloc _ _
  have B1 : W1.cell? ⟨w.heap.size, 0, none⟩ = some (.slice pa ps.length pc) ∧ W1.cell? ⟨w.heap.size, 1, none⟩ = some (.slice ra rs.length rc) ∧ w.heap.size < W1.heap.size := by rw [← hW1]; exact ⟨by simp [go_sem], by simp [go_sem], by simp⟩
  go_enter Tryz.func11, Tryz.ntmps11
  go_wp2_with fail
  clear hW1
  refine (HST.out _ b1).mono ?_
  rintro e W2 ⟨⟨sv, rfl, hsi⟩, hb2⟩
  have k2 : Below w.heap.size w W2 := b1.trans (hb2.mono b1.size)
  have B2 := Prog.boxO hb2 B1
  have HSI : Hid (∀ x, Below W2.heap.size W2 x → intsAt x sv (stratOf ps rs)) := fun x hx => Prog.intsAt.lasts hx hsi
  obtain ⟨sa, sc, rfl, _⟩ := hsi
  go_wp2_with fail
  go_loopw [5, 6, 7] (fun fv c i wr => ∃ (t : Nat) (u : Value), u = fv ∧ c = .int .i64 (heldTo ps rs t : Int) ∧ t ≤ strataN (stratOf ps rs) ∧ i = .int .i64 t ∧ Below W2.heap.size W2 wr ∧ Hid (factsAt wr u (modelTo ps rs t))) (fun _ _ i _ => strataN (stratOf ps rs) - (intOf i).toNat)
  case atStart => exact ⟨0, _, rfl, rfl, Nat.zero_le _, rfl, Below.refl _ _, Base.facts_nil _⟩
  case round =>
    obtain ⟨t, u, rfl, rfl, ht, rfl, hbr, hfu⟩ := hrel
    go_wp2_with fail
    refine (most_c _ _ _ (HSI.out _ hbr)).mono ?_
    rintro e W3 ⟨rfl, rfl⟩
    by_cases hlt : t < strataN (stratOf ps rs)
    · have hlt' : (t : Int) ≤ (strataN (stratOf ps rs) : Int) - 1 := by omega
      have HSU : Hid (heldTo ps rs (t + 1) = heldTo ps rs t + heldN ps rs (t : Int) (modelTo ps rs t) ∧ modelTo ps rs (t + 1) = finF ps rs (t : Int) (modelTo ps rs t)) := ⟨rfl, rfl⟩
      have HHB : Hid (heldTo ps rs (t + 1) ≤ 10010000) := HFEW.out (t + 1) (by have := HN5.out; omega)
      have HRF : Hid (roundErr ps rs (modelTo ps rs t) = 0) := model_right HPE.out t
      generalize hF : modelTo ps rs t = F at *
      clear hF
      have HSO : Hid (SoAt W2 ps rs (t : Int) F (heldTo ps rs t) (heldTo ps rs (t + 1)) true u (.slice none 0 0) [] F [] (heldTo ps rs t) W3) := ⟨hbr, hfu.out, Base.facts_nil _, HRF.out, fun _ => ⟨rfl, rfl, rfl⟩, fun h => by cases h⟩
      go_wp2_with fail
      go_loopw [5, 6, 8, 9] (fun fv c vf a wr => ∃ (b : Bool) (u v : Value) (f0 f fr : List Fct) (hv : Nat), u = fv ∧ v = vf ∧ c = .int .i64 (hv : Int) ∧ a = .bool b ∧ Hid (SoAt W2 ps rs (t : Int) F (heldTo ps rs t) (heldTo ps rs (t + 1)) b u v f0 f fr hv wr)) (fun fv _ vf a wr => soMu ps fv vf a wr)
      case atStart => exact ⟨true, u, _, [], F, [], heldTo ps rs t, rfl, rfl, rfl, rfl, HSO⟩
      case round =>
        clear HSO hfu hbr
        obtain ⟨b, u, v, f0, f, fr, hv, rfl, rfl, rfl, rfl, hso⟩ := hrel
        obtain ⟨na, nc, hvf, _⟩ := id hso.out.new
        subst hvf
        by_cases hgo : b = true ∨ fr ≠ []
        · obtain ⟨e1, e2, e3⟩ := hso.out.held HSU.out.1 hgo
          have HE1 : Hid (addAll (kindOf ps) f (wantS ps (ofS (stratOf ps rs) (t : Int)) b fr f rs) = onceF ps rs f (t : Int)) := e1
          have HE2 : Hid (hv + (wantS ps (ofS (stratOf ps rs) (t : Int)) b fr f rs).length + moreN ps rs (t : Int) (lim + 1) f (onceF ps rs f (t : Int)) = heldTo ps rs (t + 1)) := e2
          have HE3 : Hid (finF ps rs (t : Int) (onceF ps rs f (t : Int)) = finF ps rs (t : Int) F) := e3
          have HGO : Hid (b = true ∨ fr ≠ []) := hgo
          have HB2 : Hid (∀ x, Below wr.heap.size wr x → Below W2.heap.size W2 x) := fun x hx => hso.out.bel.trans (hx.mono hso.out.bel.size)
          have HFU : Hid (∀ x, Below wr.heap.size wr x → factsAt x u f) := fun x hx => factsAt.lasts hx hso.out.fac
          have HFN : Hid (∀ x, Below wr.heap.size wr x → factsAt x (.slice na fr.length nc) fr) := fun x hx => factsAt.lasts hx hso.out.new
          have HRI : Hid (roundErr ps rs f = 0) := hso.out.rig
          have HNE : Hid (b = false → factsErr ps fr = 0 ∧ ∀ r ∈ rs, ofS (stratOf ps rs) (t : Int) r = true → ∀ v, consts v = true → isNewS (stratOf ps rs) (t : Int) fr r v = isNew fr r v) := fun hb => by
            obtain ⟨g1, g2, g3, _⟩ := hso.out.two hb
            have hfe := (right_parts hso.out.rig).2
            have hlev : Naive.Lev ps rs (t : Int) f0 f := by rw [g2]; exact Naive.Lev.once _ g1
            refine ⟨?_, fun r hr hS v hv => ?_⟩
            · rw [g3]
              exact Round.factsErr_of (Base.factsErr_zero hfe).1 (Base.factsErr_zero hfe).2.1 (List.Pairwise.filter _ (Base.right_of hfe).sorted) fun y hy => Base.facts_fine hfe y (List.mem_filter.1 hy).1
            · rw [g3]
              exact isNew_same hlev hr (Trace.ofS_iff.1 hS) hv
          have HFEW2 : Hid (∀ n, (wantS ps (ofS (stratOf ps rs) (t : Int)) b fr f (rs.take n)).length ≤ (wantS ps (ofS (stratOf ps rs) (t : Int)) b fr f rs).length) := fun n => want_le _ _ _ _ _ _ _
          have HWF : Hid (∀ x ∈ wantS ps (ofS (stratOf ps rs) (t : Int)) b fr f rs, factFine ps x = true) := want_fine HPE.out (right_parts hso.out.rig).2 _ _ _
          have hlen : b = false → 0 < fr.length := fun hb => by
            rcases hgo with h | h
            · rw [hb] at h; cases h
            · exact List.length_pos_iff.2 h
          have HG0 : Hid (factsAt wr u (addAll (kindOf ps) f (wantS ps (ofS (stratOf ps rs) (t : Int)) b fr f (rs.take 0)))) := hso.out.fac
          clear e1 e2 e3
          have HMU : Hid (∀ u' vf' hv' y, SoAt W2 ps rs (t : Int) F (heldTo ps rs t) (heldTo ps rs (t + 1)) false u' vf' f (onceF ps rs f (t : Int)) (fresh f (onceF ps rs f (t : Int))) hv' y → soMu ps u' vf' (.bool false) y < soMu ps u (.slice na fr.length nc) (.bool b) wr) := fun u' vf' hv' y h => so_less hso.out HGO.out h
          obtain ⟨WS, hWS⟩ : ∃ WS : List Rul → List Fct, WS = fun l => wantS ps (ofS (stratOf ps rs) (t : Int)) b fr f l := ⟨_, rfl⟩
          obtain ⟨PT, hPT⟩ : ∃ PT : Rul → Int → Nat → List Fct, PT = fun r n q => part ps b fr f r n q := ⟨_, rfl⟩
          obtain ⟨NW, hNW⟩ : ∃ NW : Rul → Vars → Bool, NW = fun r v => (b || isNew fr r v) := ⟨_, rfl⟩
          have HWS0 : Hid (WS (rs.take 0) = [] ∧ WS (rs.take rs.length) = WS rs ∧ addAll (kindOf ps) f (WS rs) = onceF ps rs f (t : Int) ∧ hv + (WS rs).length + moreN ps rs (t : Int) (lim + 1) f (onceF ps rs f (t : Int)) = heldTo ps rs (t + 1)) := by
            rw [hWS]
            exact ⟨rfl, by rw [List.take_length], HE1.out, HE2.out⟩
          have HWS1 : Hid (∀ n, (hn : n < rs.length) → WS (rs.take (n + 1)) = WS (rs.take n) ++ if ofS (stratOf ps rs) (t : Int) rs[n] then PT rs[n] n (allL f rs[n] n).length else []) := fun n hn => by
            rw [hWS, hPT]
            show wantS _ _ _ _ _ _ = wantS _ _ _ _ _ _ ++ if _ then part _ _ _ _ _ _ _ else []
            rw [want_succ hn, ← want_any]
          have HPT0 : Hid (∀ r n, PT r n 0 = []) := fun r n => by rw [hPT]; exact part_zero _ _ _ _ _ _
          have HPT1 : Hid (∀ r n q, (hq : q < (allL f r n).length) → PT r n (q + 1) = PT r n q ++ if NW r (allL f r n)[q].vars then [headF ps f r (allL f r n)[q].vars] else []) := fun r n q hq => by rw [hPT, hNW]; exact part_succ hq
          have HLQ : Hid (∀ n, (hn : n < rs.length) → ofS (stratOf ps rs) (t : Int) rs[n] = true → ∀ q, (WS (rs.take n)).length + (PT rs[n] n q).length ≤ (WS rs).length) := fun n hn hS q => by
            rw [hWS, hPT]
            have h1 := want_le ps (ofS (stratOf ps rs) (t : Int)) b fr f rs (n + 1)
            rw [want_succ hn, if_pos hS, List.length_append] at h1
            have h2 := part_le ps b fr f rs[n] n q
            show (wantS _ _ _ _ _ _).length + (part _ _ _ _ _ _ _).length ≤ (wantS _ _ _ _ _ _).length
            omega
          have HLW : Hid (∀ n, (WS (rs.take n)).length ≤ (WS rs).length) := fun n => by rw [hWS]; exact want_le _ _ _ _ _ _ _
          have HRQ : Hid (∀ n, (hn : n < rs.length) → ∀ q, roundErr ps rs (addAll (kindOf ps) f (WS (rs.take n) ++ PT rs[n] n q)) = 0) := fun n hn q => by
            have hfe := (right_parts HRI.out).2
            refine right_round HPE.out (addAll_right hfe fun x hx => ?_)
            rw [hWS, hPT] at hx
            rcases List.mem_append.1 hx with hx | hx
            · refine HWF.out x ?_
              obtain ⟨r, hr, hx⟩ := List.mem_flatMap.1 hx
              exact List.mem_flatMap.2 ⟨r, List.mem_of_mem_take hr, hx⟩
            · obtain ⟨st, hst, rfl⟩ := List.mem_map.1 hx
              exact Round.head_fine (HRE.out _ (List.getElem_mem hn)) hfe (Fire.mem_all.1 (List.mem_of_mem_take (List.mem_filter.1 hst).1)).2.1
          obtain ⟨PA, hPA⟩ : ∃ PA : Prop, Hid (PA = (b = true)) := ⟨_, rfl⟩
          obtain ⟨PB, hPB⟩ : ∃ PB : Prop, Hid (PB = (b = false)) := ⟨_, rfl⟩
          have HNW1 : Hid (PA → ∀ r v, NW r v = true) := fun h r v => by rw [hPA.out] at h; rw [hNW, h]; rfl
          have HINW : Hid (PB → ∀ n, (hn : n < rs.length) → ofS (stratOf ps rs) (t : Int) rs[n] = true → ∀ x v, consts v = true → Below wr.heap.size wr x → Calls Tryz.prog 36 #[.agg #[.slice pa ps.length pc, .slice ra rs.length rc], .agg #[.int .i64 (n : Int), .int .i64 v.x, .int .i64 v.y, .int .i64 v.z], .int .i64 (t : Int), .slice na fr.length nc] x fun e w' => e = .returned (.bool (NW rs[n] v)) ∧ Below x.heap.size x w') := fun h n hn hS x v hv hx => by
            rw [hPB.out] at h
            have h1 := HIN.out x (.slice na fr.length nc) fr n hn v (t : Int) hv (HNE.out h).1 (HFN.out x hx) (k2.trans ((HB2.out x hx).mono k2.size))
            rw [(HNE.out h).2 rs[n] (List.getElem_mem hn) hS v hv] at h1
            rw [hNW, h]
            exact h1
          clear hWS hPT hNW HE1 HE2 HFEW2 HWF HG0 HNE HGO hgo
          obtain ⟨WR, hWR⟩ : ∃ WR, WR = wr := ⟨_, rfl⟩
          rw [← hWR] at HB2 HFU HFN HMU HINW ⊢
          have HWR0 : Hid (Below WR.heap.size WR wr) := by rw [hWR]; exact Below.refl _ _
          have HKW : Hid (∀ x, Below WR.heap.size WR x → Below w.heap.size w x) := fun x hx => k2.trans ((HB2.out x hx).mono k2.size)
          clear hso hWR HWR0
          cases b
          case' false => have hpos : (0 : Int) < (fr.length : Int) := by have := hlen rfl; omega
          all_goals
            clear hlen
            go_wp2_with fail
            go_loopw [6, 10, 11] (fun c gv i wr => ∃ (n : Nat) (ug : Value), ug = gv ∧ n ≤ rs.length ∧ i = .int .i64 n ∧ c = .int .i64 ((hv + (WS (rs.take n)).length : Nat) : Int) ∧ Hid (factsAt wr ug (addAll (kindOf ps) f (WS (rs.take n))) ∧ Below WR.heap.size WR wr)) (fun _ _ i _ => rs.length - (intOf i).toNat)
            case atStart => exact ⟨0, u, rfl, Nat.zero_le _, rfl, by rw [HWS0.out.1]; rfl, by rw [HWS0.out.1]; exact ⟨HFU.out _ (Below.refl _ _), Below.refl _ _⟩⟩
            case round =>
              obtain ⟨n, ug, rfl, hn, rfl, rfl, hgr⟩ := hrel
              have krW := hgr.out.2
              have kr : Below w.heap.size w wr := HKW.out _ krW
              obtain ⟨c0, c1, hNr⟩ := Prog.boxO (HB2.out _ krW) B2
              by_cases hnl : n < rs.length
              · obtain ⟨rb, ro, rc', hrv, hrb, t0⟩ := HRC.out wr n hnl kr
                obtain ⟨rfl, rfl⟩ : ra = some ⟨rb, ro, none⟩ ∧ rc = rc' := by simpa using hrv
                clear hrv
                obtain ⟨e, hpr, hel⟩ := HPR.out rs[n] (List.getElem_mem hnl)
                rw [hpr] at t0
                obtain ⟨lb, lo, lc, hlv, hlb, l0⟩ := slice_cells (HSI.out wr (HB2.out _ krW)) hel
                obtain ⟨rfl, rfl⟩ : sa = some ⟨lb, lo, none⟩ ∧ sc = lc := by simpa using hlv
                have l0' : wr.cell? ⟨lb, lo + e, none⟩ = some (.int .i64 ((stratOf ps rs)[e] : Int)) := by have := l0; rwa [Nat.mul_one] at this
                clear hlv l0
                have hea : (at_ (stratOf ps rs) rs[n].head.pred.toNat : Int) = ((stratOf ps rs)[e] : Int) := by
                  rw [hpr, Int.toNat_natCast]
                  unfold at_
                  simp [hel]
                have hel' : (e : Int) < ((stratOf ps rs).length : Int) := by omega
                have hn0 : (n : Int) < (rs.length : Int) := by omega
                have HWN := HWS1.out n hnl
                cases hS : ofS (stratOf ps rs) (t : Int) rs[n]
                · have hsx : (((stratOf ps rs)[e] : Int) == (t : Int)) = false := by
                    unfold ofS at hS
                    rw [hea] at hS
                    simpa using hS
                  rw [hS, if_neg (by simp), List.append_nil] at HWN
                  have HSN : Hid (WS (rs.take (n + 1)) = WS (rs.take n)) := HWN
                  clear hea hpr hS HWN
                  go_wp2_with fail
                  refine ⟨⟨n + 1, ug, rfl, by omega, by go_num, by rw [HSN.out], by rw [HSN.out]; exact hgr⟩, by simp [intOf]; omega⟩
                · have hsx : (((stratOf ps rs)[e] : Int) == (t : Int)) = true := by
                    unfold ofS at hS
                    rw [hea] at hS
                    simpa using hS
                  have hst : ((stratOf ps rs)[e] : Int) = (t : Int) := by simpa using hsx
                  rw [hst] at l0'
                  rw [hS, if_pos rfl] at HWN
                  have HSN : Hid (WS (rs.take (n + 1)) = WS (rs.take n) ++ PT rs[n] n (allL f rs[n] n).length) := HWN
                  have HA1 := HAL.out wr u f n hnl HRI.out (HFU.out _ krW) kr
                  have HRN := HRQ.out n hnl
                  have HLN := HLQ.out n hnl hS
                  have HH1 : Hid (∀ x, ∀ v, consts v = true → bodyOk f v rs[n].body = true → Below WR.heap.size WR x → Calls Tryz.prog 37 #[.agg #[.slice pa ps.length pc, .slice (some ⟨rb, ro, none⟩) rs.length rc], u, .int .i64 (n : Int), .agg #[.int .i64 v.x, .int .i64 v.y, .int .i64 v.z]] x fun e w' => e = .returned (.tuple #[.bool true, .agg #[.int .i64 (headF ps f rs[n] v).pred, .int .i64 (headF ps f rs[n] v).a, .int .i64 (headF ps f rs[n] v).b, .int .i64 (headF ps f rs[n] v).val]]) ∧ Below x.heap.size x w') := fun x v hv hbo hx => by
                    have h := HHO.out x u f n hnl v hv HRI.out (HFU.out x hx) (HKW.out x hx)
                    rw [hbo, show holdsF ps f rs[n] v = headF ps f rs[n] v by rw [holdsF, if_pos hbo]] at h
                    exact h
                  have HI1 : Hid (PB → ∀ x v, consts v = true → Below WR.heap.size WR x → Calls Tryz.prog 36 #[.agg #[.slice pa ps.length pc, .slice (some ⟨rb, ro, none⟩) rs.length rc], .agg #[.int .i64 (n : Int), .int .i64 v.x, .int .i64 v.y, .int .i64 v.z], .int .i64 (t : Int), .slice na fr.length nc] x fun e w' => e = .returned (.bool (NW rs[n] v)) ∧ Below x.heap.size x w') := fun hb => HINW.out hb n hnl hS
                  have HFN2 : Hid (∀ v, consts v = true → factFine ps (headF ps f rs[n] v) = true) := fun v hv => Round.head_fine (HRE.out _ (List.getElem_mem hnl)) (right_parts HRI.out).2 hv
                  have HP0 := HPT0.out rs[n] n
                  have HP1 : Hid (∀ q, (hq : q < (allL f rs[n] n).length) → PT rs[n] n (q + 1) = PT rs[n] n q ++ if NW rs[n] (allL f rs[n] n)[q].vars then [headF ps f rs[n] (allL f rs[n] n)[q].vars] else []) := HPT1.out rs[n] n
                  have HLN' : Hid (∀ q, (WS (rs.take n)).length + (PT rs[n] n q).length ≤ (WS rs).length) := HLN
                  have HRN' : Hid (∀ q, roundErr ps rs (addAll (kindOf ps) f (WS (rs.take n) ++ PT rs[n] n q)) = 0) := HRN
                  have HZ1 : Hid (PA → ∀ v, NW rs[n] v = true) := fun h => HNW1.out h rs[n]
                  have HP0' : Hid (PT rs[n] n 0 = []) := HP0
                  clear hea hpr hS hsx hst HWN HLN HRN HP0
                  generalize rs[n] = r at *
                  go_wp2_with fail
                  refine HA1.mono ?_
                  rintro ex w3 ⟨vt, rfl, hst3, hnew, hb3⟩
                  have HS3 : Hid (stepsAt w3 vt (allL f r n)) := hst3
                  obtain ⟨ta, tc, rfl, hal, _⟩ := hst3
                  have HG3 : Hid (factsAt w3 ug (addAll (kindOf ps) f (WS (rs.take n)))) := factsAt.lasts hb3 hgr.out.1
                  have k3W : Below WR.heap.size WR w3 := krW.trans (hb3.mono krW.size)
                  clear hnew c0 c1 HA1 t0 l0' hgr krW kr hNr hb3
                  go_wp2_with fail
                  go_loopw [6, 10, 13] (fun c gv i wr3 => ∃ (q : Nat) (ug3 : Value), ug3 = gv ∧ q ≤ (allL f r n).length ∧ i = .int .i64 q ∧ c = .int .i64 ((hv + (WS (rs.take n)).length + (PT r n q).length : Nat) : Int) ∧ Hid (factsAt wr3 ug3 (addAll (kindOf ps) f (WS (rs.take n) ++ PT r n q)) ∧ stepsAt wr3 (.slice ta (allL f r n).length tc) (allL f r n) ∧ Below WR.heap.size WR wr3)) (fun _ _ i _ => (allL f r n).length - (intOf i).toNat)
                  case atStart => exact ⟨0, ug, rfl, Nat.zero_le _, rfl, by rw [HP0'.out]; rfl, by rw [HP0'.out, List.append_nil]; exact ⟨HG3.out, HS3.out, k3W⟩⟩
                  case round =>
                    clear HG3 HS3 k3W
                    obtain ⟨q, ug3, rfl, hq, rfl, rfl, htq⟩ := hrel
                    have krq := htq.out.2.2
                    obtain ⟨c0, c1, hNw⟩ := Prog.boxO (HB2.out _ krq) B2
                    by_cases hlt3 : q < (allL f r n).length
                    · have hk0 : (q : Int) < ((allL f r n).length : Int) := by omega
                      obtain ⟨tb, to_, tc', htv, htb, q0, q1, q2, q3⟩ := step_cells htq.out.2.1 hlt3
                      obtain ⟨rfl, rfl⟩ : ta = some ⟨tb, to_, none⟩ ∧ tc = tc' := by simpa using htv
                      obtain ⟨hm1, hm2, hm3, _⟩ := Fire.mem_all.1 (List.getElem_mem hlt3)
                      rw [hm1] at q0
                      have HPQ0 : Hid (PT r n (q + 1) = PT r n q ++ if NW r (allL f r n)[q].vars then [headF ps f r (allL f r n)[q].vars] else []) := HP1.out q hlt3
                      have HZ : Hid (PA → NW r (allL f r n)[q].vars = true) := fun h => HZ1.out h _
                      have HIK : Hid (PB → ∀ x, Below WR.heap.size WR x → Calls Tryz.prog 36 #[.agg #[.slice pa ps.length pc, .slice (some ⟨rb, ro, none⟩) rs.length rc], .agg #[.int .i64 (n : Int), .int .i64 (allL f r n)[q].x, .int .i64 (allL f r n)[q].y, .int .i64 (allL f r n)[q].z], .int .i64 (t : Int), .slice na fr.length nc] x fun e w' => e = .returned (.bool (NW r (allL f r n)[q].vars)) ∧ Below x.heap.size x w') := fun h x hx => HI1.out h x _ hm2 hx
                      have HHK0 : Hid (∀ x, Below WR.heap.size WR x → Calls Tryz.prog 37 #[.agg #[.slice pa ps.length pc, .slice (some ⟨rb, ro, none⟩) rs.length rc], u, .int .i64 (n : Int), .agg #[.int .i64 (allL f r n)[q].x, .int .i64 (allL f r n)[q].y, .int .i64 (allL f r n)[q].z]] x fun e w' => e = .returned (.tuple #[.bool true, .agg #[.int .i64 (headF ps f r (allL f r n)[q].vars).pred, .int .i64 (headF ps f r (allL f r n)[q].vars).a, .int .i64 (headF ps f r (allL f r n)[q].vars).b, .int .i64 (headF ps f r (allL f r n)[q].vars).val]]) ∧ Below x.heap.size x w') := fun x hx => HH1.out x _ hm2 hm3 hx
                      have HFK : Hid (factFine ps (headF ps f r (allL f r n)[q].vars) = true) := HFN2.out _ hm2
                      have hbd : ((hv + (WS (rs.take n)).length + (PT r n q).length : Nat) : Int) ≤ 10010000 ∧ 0 ≤ ((hv + (WS (rs.take n)).length + (PT r n q).length : Nat) : Int) := ⟨by have h1 := HLN'.out q; have h2 := HWS0.out.2.2.2; have h3 := HHB.out; omega, by omega⟩
                      have HSK : Hid (∀ x, Below wr.heap.size wr x → x.cell? ⟨tb, to_ + q * 4, none⟩ = some (.int .i64 (n : Int)) ∧ x.cell? ⟨tb, to_ + q * 4 + 1, none⟩ = some (.int .i64 (allL f r n)[q].x) ∧ x.cell? ⟨tb, to_ + q * 4 + 2, none⟩ = some (.int .i64 (allL f r n)[q].y) ∧ x.cell? ⟨tb, to_ + q * 4 + 3, none⟩ = some (.int .i64 (allL f r n)[q].z)) := fun x hx => ⟨(cell_lasts hx htb).trans q0, (cell_lasts hx htb).trans q1, (cell_lasts hx htb).trans q2, (cell_lasts hx htb).trans q3⟩
                      clear htv hm1 hm2 hm3
                      generalize (allL f r n)[q] = sk at *
                      generalize NW r sk.vars = z at *
                      generalize headF ps f r sk.vars = y at *
                      first
                      | (have hA : PA := by (have h := hPA.out; simpa using h)
                         obtain rfl := HZ.out hA
                         go_wp2_with fail
                         have L0 : ∀ x : Low wr.heap.size wr, x.wd.cell? ⟨w.heap.size, 0, none⟩ = some (.slice pa ps.length pc) := fun x => (cell_lasts x.low hNw).trans c0
                         have L1 : ∀ x : Low wr.heap.size wr, x.wd.cell? ⟨w.heap.size, 1, none⟩ = some (.slice (some ⟨rb, ro, none⟩) rs.length rc) := fun x => (cell_lasts x.low hNw).trans c1
                         have L2 : ∀ x : Low wr.heap.size wr, x.wd.cell? ⟨tb, to_ + q * 4, none⟩ = some (.int .i64 (n : Int)) := fun x => (HSK.out _ x.low).1
                         have L3 : ∀ x : Low wr.heap.size wr, x.wd.cell? ⟨tb, to_ + q * 4 + 1, none⟩ = some (.int .i64 sk.x) := fun x => (HSK.out _ x.low).2.1
                         have L4 : ∀ x : Low wr.heap.size wr, x.wd.cell? ⟨tb, to_ + q * 4 + 2, none⟩ = some (.int .i64 sk.y) := fun x => (HSK.out _ x.low).2.2.1
                         have L5 : ∀ x : Low wr.heap.size wr, x.wd.cell? ⟨tb, to_ + q * 4 + 3, none⟩ = some (.int .i64 sk.z) := fun x => (HSK.out _ x.low).2.2.2
                         refine wp_region_low wr.heap.size (by kernel_rfl) (by kernel_rfl) ?_
                         repeat (go_big_quiet_step (fail))
                         refine wpQuiet_nil ?_
                         rintro W0 ⟨⟨_, hb0⟩, rfl⟩
                         clear L0 L1 L2 L3 L4 L5 q0 q1 q2 q3
                         go_wp2_with fail
                         refine wp_called (fun W0 => Below wr.heap.size wr W0) hb0 ?_)
                      | (have hB : PB := by (have h := hPB.out; simpa using h)
                         go_wp2_with fail
                         have L0 : ∀ x : Low wr.heap.size wr, x.wd.cell? ⟨w.heap.size, 0, none⟩ = some (.slice pa ps.length pc) := fun x => (cell_lasts x.low hNw).trans c0
                         have L1 : ∀ x : Low wr.heap.size wr, x.wd.cell? ⟨w.heap.size, 1, none⟩ = some (.slice (some ⟨rb, ro, none⟩) rs.length rc) := fun x => (cell_lasts x.low hNw).trans c1
                         have L2 : ∀ x : Low wr.heap.size wr, x.wd.cell? ⟨tb, to_ + q * 4, none⟩ = some (.int .i64 (n : Int)) := fun x => (HSK.out _ x.low).1
                         have L3 : ∀ x : Low wr.heap.size wr, x.wd.cell? ⟨tb, to_ + q * 4 + 1, none⟩ = some (.int .i64 sk.x) := fun x => (HSK.out _ x.low).2.1
                         have L4 : ∀ x : Low wr.heap.size wr, x.wd.cell? ⟨tb, to_ + q * 4 + 2, none⟩ = some (.int .i64 sk.y) := fun x => (HSK.out _ x.low).2.2.1
                         have L5 : ∀ x : Low wr.heap.size wr, x.wd.cell? ⟨tb, to_ + q * 4 + 3, none⟩ = some (.int .i64 sk.z) := fun x => (HSK.out _ x.low).2.2.2
                         refine wp_region_low wr.heap.size (by kernel_rfl) (by kernel_rfl) ?_
                         repeat (go_big_quiet_step (first | (go_at_call 36; exact low_of (HIK.out hB _ (krq.trans ((Low.low _).mono krq.size))))))
                         refine wpQuiet_nil ?_
                         rintro W0 ⟨⟨_, hb0⟩, rfl⟩
                         clear L0 L1 L2 L3 L4 L5 q0 q1 q2 q3
                         cases z
                         · have HPQ : Hid (PT r n (q + 1) = PT r n q) := by show _ = _; rw [HPQ0.out]; simp
                           have HQ0 : Hid (factsAt W0 ug3 (addAll (kindOf ps) f (WS (rs.take n) ++ PT r n q)) ∧ stepsAt W0 (.slice (some ⟨tb, to_, none⟩) (allL f r n).length tc) (allL f r n) ∧ Below WR.heap.size WR W0) := ⟨factsAt.lasts hb0 htq.out.1, Fire.stepsAt.lasts hb0 htq.out.2.1, krq.trans (hb0.mono krq.size)⟩
                           go_wp2_with fail
                           exact ⟨⟨q + 1, ug3, rfl, by omega, by go_num, by rw [HPQ.out], by rw [HPQ.out]; exact HQ0⟩, by simp [intOf]; omega⟩
                         go_wp2_with fail
                         refine wp_called (fun W0 => Below wr.heap.size wr W0) hb0 ?_)
                      intro W4 hb4
                      have HPQ : Hid (PT r n (q + 1) = PT r n q ++ [y]) := by show _ = _; rw [HPQ0.out]; simp
                      have HAA : Hid (addAll (kindOf ps) f (WS (rs.take n) ++ PT r n (q + 1)) = addF (kindOf ps) y (addAll (kindOf ps) f (WS (rs.take n) ++ PT r n q))) := by show _ = _; rw [HPQ.out, ← List.append_assoc, addAll_one]
                      have kr4 : Below WR.heap.size WR W4 := krq.trans (hb4.mono krq.size)
                      have HHK : Hid (∀ x, Below W4.heap.size W4 x → Calls Tryz.prog 37 #[.agg #[.slice pa ps.length pc, .slice (some ⟨rb, ro, none⟩) rs.length rc], u, .int .i64 (n : Int), .agg #[.int .i64 sk.x, .int .i64 sk.y, .int .i64 sk.z]] x fun e w' => e = .returned (.tuple #[.bool true, .agg #[.int .i64 y.pred, .int .i64 y.a, .int .i64 y.b, .int .i64 y.val]]) ∧ Below x.heap.size x w') := fun x hx => HHK0.out x (kr4.trans (hx.mono kr4.size))
                      have HS4 : Hid (stepsAt W4 (.slice (some ⟨tb, to_, none⟩) (allL f r n).length tc) (allL f r n)) := Fire.stepsAt.lasts hb4 htq.out.2.1
                      have HG4 : Hid (factsAt W4 ug3 (addAll (kindOf ps) f (WS (rs.take n) ++ PT r n q))) := factsAt.lasts hb4 htq.out.1
                      have HAQ : Hid (∀ x, Below W4.heap.size W4 x → Calls Tryz.prog 38 #[.slice pa ps.length pc, ug3, .agg #[.int .i64 y.pred, .int .i64 y.a, .int .i64 y.b, .int .i64 y.val]] x fun e w' => ∃ u', e = .returned (.tuple #[u', .bool (addC (kindOf ps) y (addAll (kindOf ps) f (WS (rs.take n) ++ PT r n q)))]) ∧ factsAt w' u' (addF (kindOf ps) y (addAll (kindOf ps) f (WS (rs.take n) ++ PT r n q))) ∧ capNew x.heap.size u' ∧ Below x.heap.size x w') := fun x hx => HAD.out x ug3 _ y (HRN'.out q) HFK.out (factsAt.lasts hx HG4.out) (HKW.out x (kr4.trans (hx.mono kr4.size)))
                      have KEEP : Hid (∀ w' : World, Below W4.heap.size W4 w' → w'.cell? ⟨w.heap.size, 0, none⟩ = some (.slice pa ps.length pc) ∧ w'.cell? ⟨w.heap.size, 1, none⟩ = some (.slice (some ⟨rb, ro, none⟩) rs.length rc) ∧ w'.cell? ⟨tb, to_ + q * 4 + 1, none⟩ = some (.int .i64 sk.x) ∧ w'.cell? ⟨tb, to_ + q * 4 + 2, none⟩ = some (.int .i64 sk.y) ∧ w'.cell? ⟨tb, to_ + q * 4 + 3, none⟩ = some (.int .i64 sk.z)) := fun w' hx' => by have hx := hb4.trans (hx'.mono hb4.size); exact ⟨(cell_lasts hx hNw).trans c0, (cell_lasts hx hNw).trans c1, (HSK.out w' hx).2.1, (HSK.out w' hx).2.2.1, (HSK.out w' hx).2.2.2⟩
                      have KA : Hid (Below W4.heap.size W4 (W4.alloc (.cells #[.int .i64 0, .int .i64 0, .int .i64 0, .int .i64 0] 79))) := below_alloc _ _
                      have KS : Hid (∀ x, Below W4.heap.size W4 x → ∀ y0 y1 y2 y3, Below W4.heap.size W4 ((((x.setCell ⟨W4.heap.size, 0, none⟩ y0).setCell ⟨W4.heap.size, 1, none⟩ y1).setCell ⟨W4.heap.size, 2, none⟩ y2).setCell ⟨W4.heap.size, 3, none⟩ y3)) := fun x hx y0 y1 y2 y3 => Fire.below_four hx y0 y1 y2 y3
                      have KZ : Hid (∀ x, Below (W4.alloc (.cells #[.int .i64 0, .int .i64 0, .int .i64 0, .int .i64 0] 79)).drew.heap.size (W4.alloc (.cells #[.int .i64 0, .int .i64 0, .int .i64 0, .int .i64 0] 79)).drew x → x.cell? ⟨W4.heap.size, 0, none⟩ = some (.int .i64 0) ∧ x.cell? ⟨W4.heap.size, 1, none⟩ = some (.int .i64 0) ∧ x.cell? ⟨W4.heap.size, 2, none⟩ = some (.int .i64 0) ∧ x.cell? ⟨W4.heap.size, 3, none⟩ = some (.int .i64 0) ∧ ∀ o, x.frozen? ⟨W4.heap.size, o, none⟩ = false) := fun x hx => Fire.zero_box hx
                      clear HIK HHK0 HZ HPQ0
                      go_region_held3 (fun w' => w'.cell? ⟨w.heap.size, 0, none⟩ = some (.slice pa ps.length pc) ∧ w'.cell? ⟨w.heap.size, 1, none⟩ = some (.slice (some ⟨rb, ro, none⟩) rs.length rc) ∧ w'.cell? ⟨tb, to_ + q * 4 + 1, none⟩ = some (.int .i64 sk.x) ∧ w'.cell? ⟨tb, to_ + q * 4 + 2, none⟩ = some (.int .i64 sk.y) ∧ w'.cell? ⟨tb, to_ + q * 4 + 3, none⟩ = some (.int .i64 sk.z))
                        (first | (refine KEEP.out _ ?_; (first | with_reducible exact Below.refl _ _ | with_reducible exact Below.drew (Below.refl _ _) | with_reducible exact hk | with_reducible exact KA.out | with_reducible exact Below.drew KA.out | with_reducible exact Below.alloc hk (Below.size hk) _ | with_reducible exact KS.out _ hk _ _ _ _)))
                        (first | (go_at_call 37; refine (HHK.out _ (KA.out.drew)).mono ?_; rintro ex w5 ⟨rfl, hb5⟩; have hk : Below W4.heap.size W4 w5 := KA.out.trans ((((Below.refl _ _).drew).trans hb5).mono KA.out.size); obtain ⟨z0, z1, z2, z3, zf⟩ := KZ.out _ hb5) | (go_at_call 37; refine (HHK.out _ (Below.drew (Below.refl _ _))).mono ?_; rintro ex w5 ⟨rfl, hb5⟩; have hk : Below W4.heap.size W4 w5 := ((Below.refl _ _).drew).trans hb5))
                      · obtain ⟨W6, hW6⟩ : ∃ W6, w5.alloc (.cells #[.int .i64 y.pred, .int .i64 y.a, .int .i64 y.b, .int .i64 y.val] 79) = W6 := ⟨_, rfl⟩
                        have k6 : Below W4.heap.size W4 W6 := by rw [← hW6]; exact Below.alloc hk (Below.size hk) _
                        obtain ⟨y0, y1, y2, y3⟩ : W6.cell? ⟨w5.heap.size, 0, none⟩ = some (.int .i64 y.pred) ∧ W6.cell? ⟨w5.heap.size, 1, none⟩ = some (.int .i64 y.a) ∧ W6.cell? ⟨w5.heap.size, 2, none⟩ = some (.int .i64 y.b) ∧ W6.cell? ⟨w5.heap.size, 3, none⟩ = some (.int .i64 y.val) := by rw [← hW6]; simp [go_sem]
                        rw [hW6]
                        clear hW6
                        have kw6 : Below WR.heap.size WR W6 := kr4.trans (k6.mono kr4.size)
                        obtain ⟨d0, d1, p1, p2, p3⟩ := KEEP.out _ k6
                        have HA6 := HAQ.out W6 k6
                        have HS6 : Hid (stepsAt W6 (.slice (some ⟨tb, to_, none⟩) (allL f r n).length tc) (allL f r n)) := Fire.stepsAt.lasts k6 HS4.out
                        go_wp2_with fail
                        refine HA6.mono ?_
                        rintro ex W7 ⟨u7, rfl, hf7, hc7, hb7⟩
                        have HF7 : Hid (factsAt W7 u7 (addF (kindOf ps) y (addAll (kindOf ps) f (WS (rs.take n) ++ PT r n q)))) := hf7
                        have HS7 : Hid (stepsAt W7 (.slice (some ⟨tb, to_, none⟩) (allL f r n).length tc) (allL f r n)) := Fire.stepsAt.lasts hb7 HS6.out
                        have kw7 : Below WR.heap.size WR W7 := kw6.trans (hb7.mono kw6.size)
                        clear hf7 hc7
                        go_wp2_with fail
                        refine ⟨⟨q + 1, u7, rfl, by omega, by go_num, ?_, ?_⟩, by simp [intOf]; omega⟩
                        · rw [HPQ.out, List.length_append, List.length_singleton]; exact congrArg (Value.int .i64) (by omega)
                        · exact ⟨by rw [HAA.out]; exact HF7.out, HS7.out, kw7⟩
                      · obtain ⟨W6, hW6⟩ : ∃ W6, (((w5.setCell ⟨W4.heap.size, 0, none⟩ (.int .i64 y.pred)).setCell ⟨W4.heap.size, 1, none⟩ (.int .i64 y.a)).setCell ⟨W4.heap.size, 2, none⟩ (.int .i64 y.b)).setCell ⟨W4.heap.size, 3, none⟩ (.int .i64 y.val) = W6 := ⟨_, rfl⟩
                        have k6 : Below W4.heap.size W4 W6 := by rw [← hW6]; exact KS.out _ hk _ _ _ _
                        obtain ⟨y0, y1, y2, y3⟩ : W6.cell? ⟨W4.heap.size, 0, none⟩ = some (.int .i64 y.pred) ∧ W6.cell? ⟨W4.heap.size, 1, none⟩ = some (.int .i64 y.a) ∧ W6.cell? ⟨W4.heap.size, 2, none⟩ = some (.int .i64 y.b) ∧ W6.cell? ⟨W4.heap.size, 3, none⟩ = some (.int .i64 y.val) := by rw [← hW6]; simp [go_sem, z0, z1, z2, z3]
                        rw [hW6]
                        clear hW6
                        have kw6 : Below WR.heap.size WR W6 := kr4.trans (k6.mono kr4.size)
                        obtain ⟨d0, d1, p1, p2, p3⟩ := KEEP.out _ k6
                        have HA6 := HAQ.out W6 k6
                        have HS6 : Hid (stepsAt W6 (.slice (some ⟨tb, to_, none⟩) (allL f r n).length tc) (allL f r n)) := Fire.stepsAt.lasts k6 HS4.out
                        go_wp2_with fail
                        refine HA6.mono ?_
                        rintro ex W7 ⟨u7, rfl, hf7, hc7, hb7⟩
                        have HF7 : Hid (factsAt W7 u7 (addF (kindOf ps) y (addAll (kindOf ps) f (WS (rs.take n) ++ PT r n q)))) := hf7
                        have HS7 : Hid (stepsAt W7 (.slice (some ⟨tb, to_, none⟩) (allL f r n).length tc) (allL f r n)) := Fire.stepsAt.lasts hb7 HS6.out
                        have kw7 : Below WR.heap.size WR W7 := kw6.trans (hb7.mono kw6.size)
                        clear hf7 hc7
                        go_wp2_with fail
                        refine ⟨⟨q + 1, u7, rfl, by omega, by go_num, ?_, ?_⟩, by simp [intOf]; omega⟩
                        · rw [HPQ.out, List.length_append, List.length_singleton]; exact congrArg (Value.int .i64) (by omega)
                        · exact ⟨by rw [HAA.out]; exact HF7.out, HS7.out, kw7⟩
                    · obtain rfl : q = (allL f r n).length := by omega
                      go_wp2_with fail
                      refine ⟨⟨n + 1, ug3, rfl, by omega, by go_num, ?_, ?_⟩, by simp [intOf]; omega⟩
                      · rw [HSN.out, List.length_append]; go_num
                      · rw [HSN.out]; exact ⟨htq.out.1, htq.out.2.2⟩
              · obtain rfl : n = rs.length := by omega
                have HGF : Hid (factsAt wr ug (onceF ps rs f (t : Int))) := by
                  have h := hgr.out.1
                  rw [HWS0.out.2.1, HWS0.out.2.2.1] at h
                  exact h
                have HCN : Hid ((WS (rs.take rs.length)).length = (WS rs).length) := by show _ = _; rw [HWS0.out.2.1]
                obtain ⟨cn, hcn⟩ : ∃ cn : Nat, Hid (cn = hv + (WS rs).length) := ⟨_, rfl⟩
                rw [HCN.out, ← hcn.out]
                have HRG : Hid (roundErr ps rs (onceF ps rs f (t : Int)) = 0) := Naive.once_right _ HRI.out
                have HGS : Hid ((onceF ps rs f (t : Int)).length ≤ 125) := Base.facts_short (right_parts HRG.out).2
                have HSMF : Hid (∀ y ∈ f, Base.Small y) := Base.facts_small (right_parts HRI.out).2
                have HSMG : Hid (∀ y ∈ onceF ps rs f (t : Int), Base.Small y) := Base.facts_small (right_parts HRG.out).2
                have HSOF : Hid (∀ vf' x, Below WR.heap.size WR x → factsAt x ug (onceF ps rs f (t : Int)) → factsAt x vf' (fresh f (onceF ps rs f (t : Int))) → SoAt W2 ps rs (t : Int) F (heldTo ps rs t) (heldTo ps rs (t + 1)) false ug vf' f (onceF ps rs f (t : Int)) (fresh f (onceF ps rs f (t : Int))) cn x) := fun vf' x hx h1 h2 => ⟨HB2.out x hx, h1, h2, HRG.out, fun h => (by cases h), fun _ => ⟨HRI.out, rfl, rfl, HE3.out, by rw [hcn.out]; exact HWS0.out.2.2.2⟩⟩
                generalize hG : onceF ps rs f (t : Int) = G at *
                obtain ⟨W5, hW5⟩ : ∃ W5, W5 = wr := ⟨_, rfl⟩
                subst hW5
                obtain ⟨ga, gc, hgv, hglen, _⟩ := id HGF.out
                subst hgv
                have HGX : Hid (∀ x, Below W5.heap.size W5 x → factsAt x (.slice ga G.length gc) G) := fun x hx => factsAt.lasts hx HGF.out
                have HFX : Hid (∀ x, Below W5.heap.size W5 x → factsAt x u f) := fun x hx => HFU.out x (krW.trans (hx.mono krW.size))
                clear hgr
                go_wp2_with fail
                clear c0 c1
                go_loopw [8, 16] (fun vf i wr5 => ∃ (k : Nat) (v5 : Value), v5 = vf ∧ k ≤ G.length ∧ i = .int .i64 k ∧ wr5.ownsRow W5.heap.size 79 4 v5 (fresh f (G.take k)).length (cellsF (fresh f (G.take k))) ∧ Below W5.heap.size W5 wr5) (fun _ i _ => G.length - (intOf i).toNat)
                case atStart => exact ⟨0, _, rfl, Nat.zero_le _, rfl, ⟨rfl, .inl ⟨rfl, rfl⟩⟩, Below.refl _ _⟩
                case round =>
                  obtain ⟨k, v5, rfl, hk, rfl, hown, hb5⟩ := hrel
                  by_cases hlt5 : k < G.length
                  · obtain ⟨fb, fo, fc', hfv, hfb, x0, x1, x2, x3⟩ := slice_cells (HGX.out wr hb5) hlt5
                    obtain ⟨rfl, rfl⟩ : ga = some ⟨fb, fo, none⟩ ∧ gc = fc' := by simpa using hfv
                    have hk0 : (k : Int) < (G.length : Int) := by omega
                    have HFT : Hid (fresh f (G.take (k + 1)) = fresh f (G.take k) ++ if Base.get f (Base.place G[k]) = some G[k].val then [] else [G[k]]) := fresh_take hlt5
                    have HSL := HSMG.out G[k] (List.getElem_mem hlt5)
                    have HFL : Hid ((fresh f (G.take k)).length ≤ 125) := by
                      have h1 : (fresh f (G.take k)).length ≤ (G.take k).length := List.length_filter_le _ _
                      rw [List.length_take] at h1
                      have h2 := HGS.out
                      show _ ≤ _
                      omega
                    clear hfv
                    generalize G[k] = y at *
                    obtain ⟨yp, ya, yb, yv⟩ := y
                    have HFC := Base.find_c wr u f yp ya yb yv (HFX.out wr hb5) HSMF.out HSL
                    have y0 : wr.cell? ⟨fb, fo + k * 4, none⟩ = some (.int .i64 yp) := x0
                    have y1 : wr.cell? ⟨fb, fo + k * 4 + 1, none⟩ = some (.int .i64 ya) := x1
                    have y2 : wr.cell? ⟨fb, fo + k * 4 + 2, none⟩ = some (.int .i64 yb) := x2
                    have y3 : wr.cell? ⟨fb, fo + k * 4 + 3, none⟩ = some (.int .i64 yv) := x3
                    have HYC : Hid (∀ x, Below wr.heap.size wr x → x.cell? ⟨fb, fo + k * 4, none⟩ = some (.int .i64 yp) ∧ x.cell? ⟨fb, fo + k * 4 + 1, none⟩ = some (.int .i64 ya) ∧ x.cell? ⟨fb, fo + k * 4 + 2, none⟩ = some (.int .i64 yb) ∧ x.cell? ⟨fb, fo + k * 4 + 3, none⟩ = some (.int .i64 yv)) := fun x hx => ⟨(cell_lasts hx hfb).trans y0, (cell_lasts hx hfb).trans y1, (cell_lasts hx hfb).trans y2, (cell_lasts hx hfb).trans y3⟩
                    clear x0 x1 x2 x3 HSL
                    change Hid (fresh f (G.take (k + 1)) = fresh f (G.take k) ++ if Base.get f (Base.place ⟨yp, ya, yb, yv⟩) = some yv then [] else [⟨yp, ya, yb, yv⟩]) at HFT
                    unfold Base.findTo at HFC
                    generalize Base.get f (Base.place ⟨yp, ya, yb, yv⟩) = og at *
                    go_wp2_with fail
                    refine HFC.mono ?_
                    rintro ex W6 ⟨rfl, hb6⟩
                    have HOW : Hid (W6.ownsRow W5.heap.size 79 4 v5 (fresh f (G.take k)).length (cellsF (fresh f (G.take k)))) := own_lasts hown hb6
                    have hb56 : Below W5.heap.size W5 W6 := hb5.trans (hb6.mono hb5.size)
                    have hsz : W5.heap.size ≤ W6.heap.size := hb56.size
                    clear y0 y1 y2 y3 hown HFC
                    obtain ⟨y0, y1, y2, y3⟩ := HYC.out W6 hb6
                    cases og with
                    | none =>
                      rw [if_neg (by simp)] at HFT
                      go_wp2_with (at_builtin; refine Base.wpList_append_piece _ rfl _ _ rfl W5.heap.size v5 (fresh f (G.take k)) [⟨yp, ya, yb, yv⟩] (own_lasts HOW.out (below_alloc _ _)) rfl _ rfl (piece_one (heap_alloc_new _ _)) (by have := HFL.out; simp; omega) (by simp; omega) ?_; intro v6 w6 hown6 hgr6; have hx6 : Below W5.heap.size W5 w6 := Base.grown_below (hb56.alloc hsz _) (own_lasts HOW.out (below_alloc _ _)) hgr6 (by simp; omega))
                      go_roundw
                      case rel => exact ⟨k + 1, v6, rfl, by omega, by go_num, by rw [HFT.out]; exact hown6, hx6⟩
                      case measure => simp [intOf]; omega
                    | some v0 =>
                      by_cases hvv : v0 = yv
                      · subst hvv
                        rw [if_pos rfl, List.append_nil] at HFT
                        go_wp2_with fail
                        go_roundw
                        case rel => exact ⟨k + 1, v5, rfl, by omega, by go_num, by rw [HFT.out]; exact HOW.out, hb56⟩
                        case measure => simp [intOf]; omega
                      · have hvv' : (v0 == yv) = false := by simpa using hvv
                        rw [if_neg (by simpa using hvv)] at HFT
                        clear hvv
                        go_wp2_with (at_builtin; refine Base.wpList_append_piece _ rfl _ _ rfl W5.heap.size v5 (fresh f (G.take k)) [⟨yp, ya, yb, yv⟩] (own_lasts HOW.out (below_alloc _ _)) rfl _ rfl (piece_one (heap_alloc_new _ _)) (by have := HFL.out; simp; omega) (by simp; omega) ?_; intro v6 w6 hown6 hgr6; have hx6 : Below W5.heap.size W5 w6 := Base.grown_below (hb56.alloc hsz _) (own_lasts HOW.out (below_alloc _ _)) hgr6 (by simp; omega))
                        go_roundw
                        case rel => exact ⟨k + 1, v6, rfl, by omega, by go_num, by rw [HFT.out]; exact hown6, hx6⟩
                        case measure => simp [intOf]; omega
                  · obtain rfl : k = G.length := by omega
                    rw [List.take_length] at hown
                    have HN5F : Hid (factsAt wr v5 (fresh f G)) := Base.factsAt_of hown (by have h1 : (fresh f G).length ≤ G.length := List.length_filter_le _ _; omega)
                    have HSX := HSOF.out v5 wr (krW.trans (hb5.mono krW.size)) (HGX.out wr hb5) HN5F.out
                    have HSX' : Hid (SoAt W2 ps rs (t : Int) F (heldTo ps rs t) (heldTo ps rs (t + 1)) false (.slice ga G.length gc) v5 f G (fresh f G) cn wr) := HSX
                    clear HSX hown
                    go_wp2_with fail
                    refine ⟨⟨false, _, v5, f, G, fresh f G, cn, rfl, rfl, rfl, rfl, HSX'⟩, ?_⟩
                    subst hG
                    exact HMU.out _ _ _ _ HSX'.out
        · obtain ⟨rfl, rfl⟩ : b = false ∧ fr = [] := by
            cases b
            · exact ⟨rfl, Classical.byContradiction fun h => hgo (.inr h)⟩
            · exact absurd (.inl rfl) hgo
          have HEN : Hid (f = modelTo ps rs (t + 1) ∧ hv = heldTo ps rs (t + 1)) := by
            obtain ⟨g1, g2, g3, g4, g5⟩ := hso.out.two rfl
            have g3' := g3.symm
            rw [more_stop g3'] at g5
            rw [g2] at g3' g4
            obtain ⟨_, e2⟩ := same_once g1 g3'
            rw [e2] at g4
            exact ⟨by rw [HSU.out.2, ← g4, g2], by omega⟩
          have HFE : Hid (factsAt wr u (modelTo ps rs (t + 1)) ∧ Below W2.heap.size W2 wr) := ⟨by rw [← HEN.out.1]; exact hso.out.fac, hso.out.bel⟩
          have ht5 : t < 5 := by have := HN5.out; omega
          clear hgo
          simp only [List.length_nil]
          go_wp2_with fail
          exact ⟨⟨t + 1, u, rfl, by rw [HEN.out.2], by omega, by go_num, HFE.out.2, HFE.out.1⟩, by simp [intOf]; omega⟩
    · obtain rfl : t = strataN (stratOf ps rs) := by omega
      have HK : Hid (Below w.heap.size w W3) := k2.trans (hbr.mono k2.size)
      go_wp2_with fail
      refine bodyPost_ret (v := .tuple #[u, .int .i64 (heldTo ps rs (strataN (stratOf ps rs)) : Int)]) (by simp [results, Tryz.results11, go_sem]) rfl ?_
      exact ⟨u, rfl, hfu.out, HK.out⟩
end Go.Proofs.YtlfccloaoopadaeGreat.Semi
