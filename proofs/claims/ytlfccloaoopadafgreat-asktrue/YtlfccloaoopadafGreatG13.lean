/-
  What the developers' ask.fits answers.
-/
import Derived.Deep.RegionHeld3
import Derived.Test.YtlfccloaoopadafGreatG9
import Derived.Test.YtlfccloaoopadafGreatG12
import Derived.Test.YtlfccloaoopadafGreatG6
namespace Go.Proofs.YtlfccloaoopadafGreat.Ask
open Go.ChangeShapes Go.WideShapes Go.ChangeAt Go.RowKit Go.Maps
open Prog (slice_cells)
open Rule (Places law3 zero3 ownsMap_lasts)

/-- what variables stand for, as it lies in a map -/
def BndM (D : DataW Unit) (f : Int → Option Int) : Prop := IsMap D ∧ ∀ v : Int, 0 ≤ v → v ≤ 2 → D.atKey (.int .i64 v) (.lit (.int .i64 0)) = .lit (.int .i64 ((f v).getD 0)) ∧ has D (.int .i64 v) = (f v).isSome
theorem bndM_none : BndM (.map []) (fun _ => none) := ⟨isMap_empty, fun _ _ _ => ⟨rfl, rfl⟩⟩
theorem BndM.congr {D : DataW Unit} {f g : Int → Option Int} (h : BndM D f) (e : ∀ v, g v = f v) : BndM D g := ⟨h.1, fun v h0 h2 => by rw [e]; exact h.2 v h0 h2⟩
theorem BndM.put {D : DataW Unit} {f g : Int → Option Int} {n c : Int} (h : BndM D f) (he : ∀ v, g v = if v = n then some c else f v) : BndM (D.put (.int .i64 n) (.lit (.int .i64 c))) g := by
  obtain ⟨es, hes⟩ := h.1
  refine ⟨⟨_, by rw [hes]; rfl⟩, fun v v0 v2 => ?_⟩
  by_cases e : v = n
  · subst e
    rw [atKey_put_same h.1 (by simp [WideAt.IsKeyLit]), has_put_same h.1 (by simp [WideAt.IsKeyLit]), he, if_pos rfl]
    exact ⟨rfl, rfl⟩
  · rw [atKey_put_other (by simp; omega), has_put_other (by simp; omega), he, if_neg e]
    exact h.2 v v0 v2

theorem wf_four {n : Int} (h0 : 0 ≤ n) (h2 : n ≤ 4) : (Lit.int .i64 n).wf = true := by
  rcases (show n = 0 ∨ n = 1 ∨ n = 2 ∨ n = 3 ∨ n = 4 by omega) with rfl | rfl | rfl | rfl | rfl <;> rfl
theorem look_ok {w : World} {b n : Nat} {D : DataW Unit} {f : Int → Option Int} (h : Places w b n D) (hc : BndM D f) {e : Int} (h0 : 0 ≤ e) (h2 : e ≤ 2) : (Instr.lookup 91 (.map (some b)) (.int .i64 e) true).run Tryz.prog w = .ok (.tuple #[.int .i64 ((f e).getD 0), .bool (f e).isSome]) w := by
  obtain ⟨v, ps, hrun, hv⟩ := h.look_ok law3 Tryz.underlying91 (zero3 w) (plainElem_int Tryz.underlying3 (by decide)) (keyOf_int_mk Tryz.underlying3 (Rule.wf_small h0 h2))
  obtain ⟨c, rfl, hcc, _⟩ := plainElem_int_inv Tryz.underlying3 hv
  rw [(hc.2 e h0 h2).1] at hcc
  rw [(hc.2 e h0 h2).2] at hrun
  have : c = (f e).getD 0 := by have h := hcc.symm; simp at h; exact h.1
  rw [← this]
  exact hrun
theorem look_one {w : World} {b n : Nat} {D : DataW Unit} {f : Int → Option Int} (h : Places w b n D) (hc : BndM D f) {e : Int} (h0 : 0 ≤ e) (h2 : e ≤ 2) : (Instr.lookup 91 (.map (some b)) (.int .i64 e) false).run Tryz.prog w = .ok (.int .i64 ((f e).getD 0)) w := by
  obtain ⟨c, hrun, hat, _⟩ := h.lookup_int law3 Tryz.underlying91 Tryz.underlying3 (zero3 _) (keyOf_int_mk Tryz.underlying3 (Rule.wf_small h0 h2))
  rw [(hc.2 e h0 h2).1] at hat
  have : c = (f e).getD 0 := by simpa using hat.symm
  rw [← this]
  exact hrun

set_option maxRecDepth 100000 in
set_option maxHeartbeats 8000000 in
theorem fits_c (w : World) (av : Value) (ts : List Tm) (x : Fct) (ht : termsAt w av ts) (h2 : ts.length ≤ 2) (hv : ∀ t ∈ ts, t.var = true → 0 ≤ t.n ∧ t.n ≤ 2) (ha : 0 ≤ x.a ∧ x.a ≤ 4) (hb : 0 ≤ x.b ∧ x.b ≤ 4) :
    Calls Tryz.prog 21 #[av, .agg #[.int .i64 x.pred, .int .i64 x.a, .int .i64 x.b, .int .i64 x.val]] w fun e w' => e = .returned (.bool (fitsL x ts)) ∧ Below w.heap.size w w' := by
  have hmm := @run_makeMap Tryz.prog
  have HT : Hid (∀ y, Below w.heap.size w y → termsAt y av ts) := fun y hy => termsAt.lasts hy ht
  obtain ⟨aa, ac, rfl, _⟩ := ht
  obtain ⟨W1, hW1⟩ : ∃ W1, ((w.alloc (.cells #[.int .i64 x.pred, .int .i64 x.a, .int .i64 x.b, .int .i64 x.val] 41)).alloc (.cells #[.int .i64 x.a, .int .i64 x.b] 90)).alloc (.map #[] 0) = W1 := ⟨_, rfl⟩
  have b1 : Below w.heap.size w W1 := by rw [← hW1]; exact (((Below.refl _ _).alloc (Nat.le_refl _) _).alloc (by simp) _).alloc (by simp; omega) _
  have s1 : W1.heap.size = w.heap.size + 1 + 1 + 1 := by rw [← hW1]; simp
  have q0 : W1.cell? ⟨w.heap.size + 1, 0, none⟩ = some (.int .i64 x.a) := by rw [← hW1]; simp [go_sem]
  have q1 : W1.cell? ⟨w.heap.size + 1, 1, none⟩ = some (.int .i64 x.b) := by rw [← hW1]; simp [go_sem]
  have qm : Places W1 (w.heap.size + 1 + 1) 0 (.map []) := by
    have h := World.ownsMap_made (P := Tryz.prog) (k := 3) (R := plainElem (H := Unit) Tryz.prog 3) ((w.alloc (.cells #[.int .i64 x.pred, .int .i64 x.a, .int .i64 x.b, .int .i64 x.val] 41)).alloc (.cells #[.int .i64 x.a, .int .i64 x.b] 90))
    rw [World.size_alloc, World.size_alloc] at h
    rw [← hW1]
    exact h
  go_enter Tryz.func21, Tryz.ntmps21
  go_wp2_with fail
  clear hW1 hmm
  go_loopw [20] (fun i wr => ∃ (k n : Nat) (D : DataW Unit), k ≤ ts.length ∧ i = .int .i64 k ∧ Hid (fitTo x ts k = true) ∧ Below w.heap.size w wr ∧ W1.heap.size ≤ wr.heap.size ∧ wr.cell? ⟨w.heap.size + 1, 0, none⟩ = some (.int .i64 x.a) ∧ wr.cell? ⟨w.heap.size + 1, 1, none⟩ = some (.int .i64 x.b) ∧ Hid (Places wr (w.heap.size + 1 + 1) n D ∧ n ≤ k ∧ BndM D (bndTo x ts k))) (fun i _ => ts.length - (intOf i).toNat)
  case atStart => exact ⟨0, 0, _, Nat.zero_le _, rfl, rfl, b1, Nat.le_refl _, q0, q1, qm, Nat.le_refl _, bndM_none⟩
  case round =>
    obtain ⟨k, n, D, hk, rfl, hfit, hbr, hsz, c0, c1, hmap⟩ := hrel
    by_cases hkl : k < ts.length
    · obtain ⟨tb, to_, tc, htv, htb, t0, t1⟩ := slice_cells (HT.out wr hbr) hkl
      obtain ⟨rfl, rfl⟩ : aa = some ⟨tb, to_, none⟩ ∧ ac = tc := by simpa using htv
      have hk1 : (k : Int) < (ts.length : Int) := by omega
      have hk2 : (k : Int) < 2 := by omega
      have htn := hv _ (List.getElem_mem hkl)
      have HFS : Hid (fitTo x ts (k + 1) = (fitTo x ts k && fitAt x ts k ts[k])) := fit_succ hkl
      have HNO : Hid (fitAt x ts k ts[k] = false → fitsL x ts = false) := fun h => fit_no hkl h
      have HBS : Hid (∀ m, bndTo x ts (k + 1) m = match bndTo x ts k m with | some v => some v | none => if ts[k].var && ts[k].n == m then some (argOf x k) else none) := bnd_succ hkl
      have r0 : wr.cell? ⟨tb, to_ + k * 2, none⟩ = some (.bool ts[k].var) := t0
      have r1 : wr.cell? ⟨tb, to_ + k * 2 + 1, none⟩ = some (.int .i64 ts[k].n) := t1
      have HAA : Hid (0 ≤ argOf x k ∧ argOf x k ≤ 4 ∧ wr.cell? ⟨w.heap.size + 1, k, none⟩ = some (.int .i64 (argOf x k))) := by
        obtain rfl | rfl : k = 0 ∨ k = 1 := by omega
        · exact ⟨ha.1, ha.2, c0⟩
        · exact ⟨hb.1, hb.2, c1⟩
      clear htv t0 t1
      unfold fitAt at HFS HNO
      rw [hfit.out, Bool.true_and] at HFS
      generalize ts[k] = t at *
      obtain ⟨tv, tn⟩ := t
      dsimp only at HFS HNO HBS htn r0 r1
      generalize argOf x k = A at *
      obtain ⟨W2, hW2⟩ : ∃ W2, wr.alloc (.cells #[.bool tv, .int .i64 tn] 48) = W2 := ⟨_, rfl⟩
      have b2 : Below wr.heap.size wr W2 := by rw [← hW2]; exact below_alloc _ _
      have s2 : W2.heap.size = wr.heap.size + 1 := by rw [← hW2]; simp
      have v0 : W2.cell? ⟨wr.heap.size, 0, none⟩ = some (.bool tv) := by rw [← hW2]; simp [go_sem]
      have v1 : W2.cell? ⟨wr.heap.size, 1, none⟩ = some (.int .i64 tn) := by rw [← hW2]; simp [go_sem]
      have va : W2.cell? ⟨w.heap.size + 1, k, none⟩ = some (.int .i64 A) := (cell_lasts b2 (by omega)).trans HAA.out.2.2
      have HB2 : Hid (Below w.heap.size w W2 ∧ W1.heap.size ≤ W2.heap.size ∧ W2.cell? ⟨w.heap.size + 1, 0, none⟩ = some (.int .i64 x.a) ∧ W2.cell? ⟨w.heap.size + 1, 1, none⟩ = some (.int .i64 x.b)) := ⟨hbr.trans (b2.mono hbr.size), Nat.le_trans hsz b2.size, (cell_lasts b2 (by omega)).trans c0, (cell_lasts b2 (by omega)).trans c1⟩
      have HM2 : Hid (Places W2 (w.heap.size + 1 + 1) n D) := ownsMap_lasts hmap.out.1 b2
      cases tv
      · have HBB : Hid (∀ m, bndTo x ts (k + 1) m = bndTo x ts k m) := fun m => by rw [HBS.out m]; cases bndTo x ts k m <;> simp
        simp only [Bool.false_eq_true, if_false] at HFS HNO
        by_cases hn : tn = A
        · have hn' : (tn == A) = true := by simpa using hn
          have hn2 : (tn != A) = false := by simpa using hn
          have HF2 : Hid (fitTo x ts (k + 1) = true) := by show _ = _; rw [HFS.out, hn']
          clear HFS HNO HBS hn c0 c1
          go_wp2_with fail
          go_roundw
          case rel => exact ⟨k + 1, n, D, by omega, by go_num, HF2, HB2.out.1, HB2.out.2.1, HB2.out.2.2.1, HB2.out.2.2.2, HM2.out, by have := hmap.out.2.1; omega, hmap.out.2.2.congr HBB.out⟩
          case measure => simp [intOf]; omega
        · have hn' : (tn == A) = false := by simpa using hn
          have hn2 : (tn != A) = true := by simpa using hn
          have HN2 : Hid (fitsL x ts = false) := HNO.out hn'
          clear HFS HNO HBS hn c0 c1
          go_wp2_with fail
          go_ret
          exact ⟨by rw [HN2.out]; rfl, HB2.out.1⟩
      · have he := htn rfl
        simp only [if_true] at HFS HNO
        have hl1 := look_ok HM2.out hmap.out.2.2 he.1 he.2
        cases hbn : bndTo x ts k tn with
        | none =>
          rw [hbn] at HFS HNO hl1
          have HF2 : Hid (fitTo x ts (k + 1) = true) := HFS.out
          have HBB : Hid (∀ m, bndTo x ts (k + 1) m = if m = tn then some A else bndTo x ts k m) := fun m => by
            rw [HBS.out m]
            by_cases hm : m = tn
            · rw [hm, hbn, if_pos rfl]; simp
            · rw [if_neg hm]
              have : (tn == m) = false := by simpa using fun h => hm h.symm
              cases bndTo x ts k m <;> simp [this]
          obtain ⟨Wm, hrun, hownm, hgrm⟩ := (ownsMap_lasts HM2.out ((Below.refl _ _).drew)).update (e := 3) law3 Tryz.underlying91 (by have := hmap.out.2.1; unfold maxLen; omega) (keyOf_int_mk Tryz.underlying3 (Rule.wf_small he.1 he.2)) (plainElem_int (a := A) Tryz.underlying3 (wf_four HAA.out.1 HAA.out.2.1))
          clear HFS HNO HBS hbn c0 c1
          go_wp2_with fail
          have HSm : Hid ((fun w' : World => w'.cell? ⟨wr.heap.size, 1, none⟩ = some (.int .i64 tn) ∧ w'.cell? ⟨w.heap.size + 1, k, none⟩ = some (.int .i64 A)) Wm ∧ Below w.heap.size w Wm ∧ W1.heap.size ≤ Wm.heap.size ∧ Wm.cell? ⟨w.heap.size + 1, 0, none⟩ = some (.int .i64 x.a) ∧ Wm.cell? ⟨w.heap.size + 1, 1, none⟩ = some (.int .i64 x.b)) := by
            have e : ∀ b o, b < W2.heap.size → b ≠ w.heap.size + 1 + 1 → Wm.cell? ⟨b, o, none⟩ = W2.cell? ⟨b, o, none⟩ := fun b o h1 h2 => World.cell?_of_block (hgrm.block b h1 (fun e => h2 (by cases e; rfl)))
            have hBl : Below w.heap.size w Wm := ((HB2.out.1.drew).grown hgrm (Nat.le_trans (by omega) HB2.out.2.1) (fun j e => by cases e; omega))
            have h21 := HB2.out.2.1
            exact ⟨⟨(e _ _ (by omega) (by omega)).trans v1, (e _ _ (by omega) (by omega)).trans va⟩, hBl, Nat.le_trans h21 hgrm.size, (e _ _ (by omega) (by omega)).trans HB2.out.2.2.1, (e _ _ (by omega) (by omega)).trans HB2.out.2.2.2⟩
          have HMm : Hid (Places Wm (w.heap.size + 1 + 1) (n + 1) (D.put (.int .i64 tn) (.lit (.int .i64 A))) ∧ BndM (D.put (.int .i64 tn) (.lit (.int .i64 A))) (bndTo x ts (k + 1))) := ⟨hownm, hmap.out.2.2.put HBB.out⟩
          have hl2 : (Instr.lookup 91 (.map (some (w.heap.size + 1 + 1))) (.int .i64 tn) false).run Tryz.prog Wm = .ok (.int .i64 A) Wm := by
            have h := look_one HMm.out.1 HMm.out.2 he.1 he.2
            rw [HBB.out tn, if_pos rfl] at h
            exact h
          refine wp_mono (Q := fun e a' w' => e = .normal ∧ w' = Wm ∧ ∃ y38 y39 y40 y41 y42 y43 : Value, a' = { tmps := #[.slice (some ⟨tb, to_, none⟩) ts.length ac, .agg #[.int .i64 x.pred, .int .i64 x.a, .int .i64 x.b, .int .i64 x.val], undef, .pointer (some ⟨w.heap.size, 0, none⟩), u4, .pointer (some ⟨w.heap.size + 1, 0, none⟩), .map (some (w.heap.size + 1 + 1)), .int .i64 (k : Int), .pointer (some ⟨wr.heap.size, 0, none⟩), .int .i64 tn, .int .i64 0, .bool false, .pointer (some ⟨w.heap.size, 1, none⟩), .int .i64 x.a, .pointer (some ⟨w.heap.size, 2, none⟩), .int .i64 x.b, .agg #[.int .i64 x.a, .int .i64 x.b], .map (some (w.heap.size + 1 + 1)), .slice (some ⟨tb, to_, none⟩) ts.length ac, .int .i64 (ts.length : Int), .int .i64 (k : Int), .bool true, .int .i64 (k : Int), .pointer (some ⟨tb, to_ + k * 2, none⟩), .agg #[.bool true, .int .i64 tn], .pointer (some ⟨wr.heap.size, 1, none⟩), .int .i64 tn, .pointer (some ⟨wr.heap.size, 0, none⟩), .bool true, .tuple #[.int .i64 0, .bool false], .map (some (w.heap.size + 1 + 1)), .pointer (some ⟨wr.heap.size, 1, none⟩), .int .i64 tn, .tuple #[.int .i64 0, .bool false], .int .i64 0, .bool false, .bool false, .bool true, y38, y39, y40, y41, y42, y43, u44, u45, u46, u47, u48, u49, u50, u51, u52, u53], defers := [] }) ?reg ?rest
          case reg =>
            refine wp_region_held_drew (S := (fun w' : World => w'.cell? ⟨wr.heap.size, 1, none⟩ = some (.int .i64 tn) ∧ w'.cell? ⟨w.heap.size + 1, k, none⟩ = some (.int .i64 A))) (by kernel_rfl) ⟨v1, va⟩ (fun hHeld => ?_)
            refine wpAnyH_take (i := 0) (v := ?_) rfl (by kernel_rfl) (by kernel_rfl) (by kernel_rfl) (fun _ _ _ h => by cases h.1) (Or.inl ⟨by rfl, ?_⟩) (by assumption) ?_
            rotate_left
            · (intro w hSw; (try dsimp only at hSw); obtain ⟨h0, h1⟩ := hSw; go_simp; try with_reducible rfl)
            try simp only [Act.put, List.setIfInBounds_toArray]
            refine wpAnyH_take (i := 1) (v := ?_) rfl (by kernel_rfl) (by kernel_rfl) (by kernel_rfl) (fun _ _ _ h => by cases h.1) (Or.inl ⟨by rfl, ?_⟩) (by assumption) ?_
            rotate_left
            · (intro w hSw; (try dsimp only at hSw); obtain ⟨h0, h1⟩ := hSw; go_simp; try with_reducible rfl)
            simp only [Act.put]
            refine wpAnyH_take (i := 2) (v := ?_) rfl (by kernel_rfl) (by kernel_rfl) (by kernel_rfl) (fun _ _ _ h => by cases h.1) (Or.inl ⟨by rfl, ?_⟩) (by assumption) ?_
            rotate_left
            · (intro w hSw; (try dsimp only at hSw); obtain ⟨h0, h1⟩ := hSw; go_simp; try with_reducible rfl)
            simp only [Act.put]
            refine wpAnyH_take (i := 3) (v := ?_) rfl (by kernel_rfl) (by kernel_rfl) (by kernel_rfl) (fun _ _ _ h => by cases h.1) (Or.inl ⟨by rfl, ?_⟩) (by assumption) ?_
            rotate_left
            · (intro w hSw; (try dsimp only at hSw); obtain ⟨h0, h1⟩ := hSw; go_simp; try with_reducible rfl)
            simp only [Act.put]
            refine wpAnyH_take (i := 4) (v := ?_) rfl (by kernel_rfl) (by kernel_rfl) (by kernel_rfl) (fun _ _ _ h => by cases h.1) (Or.inl ⟨by rfl, ?_⟩) (by assumption) ?_
            rotate_left
            · (intro w hSw; (try dsimp only at hSw); obtain ⟨h0, h1⟩ := hSw; go_simp; try with_reducible rfl)
            simp only [Act.put]
            refine wpAnyH_take (i := 5) (v := ?_) rfl (by kernel_rfl) (by kernel_rfl) (by kernel_rfl) (fun _ _ _ h => by cases h.1) (Or.inl ⟨by rfl, ?_⟩) (by assumption) ?_
            rotate_left
            · (intro w hSw; (try dsimp only at hSw); obtain ⟨h0, h1⟩ := hSw; go_simp; try with_reducible rfl)
            simp only [Act.put]
            refine wpAnyH_ready (rs := [6]) (by kernel_rfl) (by simp) ?_
            refine AllReadyH.cons rfl (fun K hK => ?_) AllReadyH.nil
            go_simp
            refine hK.out _ _ ?_ (fun hHeld => ?_)
            · exact HSm.out.1
            clear hK K
            try simp only [Act.put, List.setIfInBounds_toArray, List.set_cons_zero, List.set_cons_succ]
            refine wpAnyH_done (by kernel_rfl) ?_ _
            refine ⟨rfl, rfl, ?_⟩
            (repeat apply Exists.intro)
            rfl
          case rest =>
            rintro e a' w' ⟨rfl, rfl, y38, y39, y40, y41, y42, y43, rfl⟩
            obtain ⟨⟨m1, ma⟩, _⟩ := HSm.out
            clear v0 v1 va hl1 hrun
            go_wp2_with fail
            go_roundw
            case rel => exact ⟨k + 1, n + 1, _, by omega, by go_num, HF2, HSm.out.2.1, HSm.out.2.2.1, HSm.out.2.2.2.1, HSm.out.2.2.2.2, HMm.out.1, by have := hmap.out.2.1; omega, HMm.out.2⟩
            case measure => simp [intOf]; omega
        | some u0 =>
          rw [hbn] at HFS HNO hl1
          have hl2 := look_one HM2.out hmap.out.2.2 he.1 he.2
          rw [hbn] at hl2
          have HBB : Hid (∀ m, bndTo x ts (k + 1) m = bndTo x ts k m) := fun m => by
            rw [HBS.out m]
            by_cases hm : m = tn
            · rw [hm, hbn]
            · have : (tn == m) = false := by simpa using fun h => hm h.symm
              cases bndTo x ts k m <;> simp [this]
          by_cases hn : u0 = A
          · have hn2 : (u0 != A) = false := by simpa using hn
            have HF2 : Hid (fitTo x ts (k + 1) = true) := by show _ = _; rw [HFS.out]; simpa using hn
            clear HFS HNO HBS hn hbn c0 c1
            go_wp2_with fail
            go_roundw
            case rel => exact ⟨k + 1, n, D, by omega, by go_num, HF2, HB2.out.1, HB2.out.2.1, HB2.out.2.2.1, HB2.out.2.2.2, HM2.out, by have := hmap.out.2.1; omega, hmap.out.2.2.congr HBB.out⟩
            case measure => simp [intOf]; omega
          · have hn2 : (u0 != A) = true := by simpa using hn
            have HN2 : Hid (fitsL x ts = false) := HNO.out (by simpa using hn)
            clear HFS HNO HBS hn hbn c0 c1
            go_wp2_with fail
            go_ret
            exact ⟨by rw [HN2.out]; rfl, HB2.out.1⟩
    · obtain rfl : k = ts.length := by omega
      have HY : Hid (fitsL x ts = true) := hfit.out
      go_wp2_with fail
      go_ret
      exact ⟨by rw [HY.out]; rfl, hbr⟩
end Go.Proofs.YtlfccloaoopadafGreat.Ask
