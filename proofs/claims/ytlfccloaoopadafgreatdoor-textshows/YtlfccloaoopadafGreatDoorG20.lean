/-
  The developers' 'checkPreds': names are counted in a map, then four questions are put to all predicates, one behind the other.
-/
import Derived.Test.YtlfccloaoopadafGreatDoorG17
import Derived.Test.YtlfccloaoopadafGreatDoorG19
namespace Go.Proofs.YtlfccloaoopadafGreatDoor.Prog
open Go.ChangeShapes Go.WideShapes Go.ChangeAt Go.RowKit Go.Maps
open Lat (within within_c)
open Base (byteAt bytesAt byteV predV Asks containsByte_c containsPred_c)
open Rule (zero3 ownsMap_lasts)

theorem law9 : Keyed Tryz.prog 9 := string_keyed Tryz.underlying9
abbrev Names (w : World) (b n : Nat) (D : DataW Unit) : Prop := w.ownsMap Tryz.prog 9 (plainElem Tryz.prog 3) b n D
def CntS (D : DataW Unit) (f : ByteArray → Nat) : Prop := IsMap D ∧ ∀ s : ByteArray, D.atKey (.string s.data.toList) (.lit (.int .i64 0)) = .lit (.int .i64 (f s : Nat))
theorem cntS_none : CntS (.map []) (fun s => cntN (([] : List Prd)) s) := ⟨isMap_empty, fun _ => rfl⟩
theorem cntS_put {D : DataW Unit} {f g : ByteArray → Nat} {s : ByteArray} {c : Int} (h : CntS D f) (hc : D.atKey (.string s.data.toList) (.lit (.int .i64 0)) = .lit (.int .i64 c)) (hb : f s ≤ 1000000000000000)
    (he : ∀ v, g v = f v + if s.data.toList = v.data.toList then 1 else 0) (hf : ∀ v, s.data.toList = v.data.toList → f v = f s) : CntS (D.put (.string s.data.toList) (.lit (.int .i64 (wrap64 (c + 1))))) g := by
  have hcn : c = (f s : Int) := by
    rw [h.2 s] at hc
    simp at hc
    exact hc.symm
  have hw : wrap64 (c + 1) = ((f s + 1 : Nat) : Int) := by rw [hcn]; unfold wrap64; omega
  obtain ⟨es, hes⟩ := h.1
  refine ⟨⟨_, by rw [hes]; rfl⟩, fun v => ?_⟩
  by_cases e : s.data.toList = v.data.toList
  · rw [← e, atKey_put_same h.1 (by simp [WideAt.IsKeyLit]), hw, he, if_pos e, hf v e]
  · rw [atKey_put_other (by simpa using fun q : v.data = s.data => e (by rw [q])), h.2 v, he, if_neg e, Nat.add_zero]
theorem lookS {w : World} {b n : Nat} {D : DataW Unit} {f : ByteArray → Nat} (h : Names w b n D) (hc : CntS D f) (s : ByteArray) (hs : s.size ≤ 9223372036854775807) : (Instr.lookup 168 (.map (some b)) (.string s) false).run Tryz.prog w = .ok (.int .i64 (f s : Nat)) w := by
  obtain ⟨c, hrun, hat, _⟩ := h.lookup_int law9 Tryz.underlying168 Tryz.underlying3 (zero3 _) (WideMaps.keyOf_string_mk (s := s) Tryz.underlying9 (by unfold maxLen; omega))
  rw [hc.2 s] at hat
  simp at hat
  rw [hat]
  exact hrun

set_option maxRecDepth 100000 in
set_option maxHeartbeats 4000000 in
theorem ask2_c (ps : List Prd) (q : Prd) (w : World) (bx b n : Nat) (D : DataW Unit) (h : q.name.size ≤ 9223372036854775807) (hx : w.cell? ⟨bx, 0, none⟩ = some (.map (some b))) (hbx : bx < w.heap.size) (hm : Names w b n D) (hc : CntS D (cntN ps)) :
    Calls Tryz.prog 121 #[predV q, .pointer (some ⟨bx, 0, none⟩)] w fun e w' => e = .returned (.bool (often ps q)) ∧ Below w.heap.size w w' := by
  rw [often, predV]
  have hbl : Below w.heap.size w (w.alloc (.cells #[.string q.name, .int .i64 q.arity, .int .i64 q.kind] 47)) := below_alloc _ _
  have hl := lookS (ownsMap_lasts hm hbl) hc q.name h
  have hx' := (cell_lasts (o := 0) hbl hbx).trans hx
  generalize cntN ps q.name = cc at *
  clear hm hc hx
  go_enter Tryz.func121, Tryz.ntmps121
  go_wp2_with fail
  go_ret
  refine ⟨?_, hbl⟩
  simp
  omega

def predsErr (ps : List Prd) : Int := if ps.any badName then 5 else if twice ps then 6 else if ps.any badArity then 3 else if ps.any badKind then 4 else 0

def faultAt (ps : List Prd) : Nat → Bool
  | 0 => ps.any badName
  | 1 => twice ps
  | 2 => ps.any badArity
  | _ => ps.any badKind
def codeAt : Nat → Int
  | 0 => 5
  | 1 => 6
  | 2 => 3
  | _ => 4
theorem predsErr_at {ps : List Prd} (k : Fin 4) (h : ∀ j, j < k.1 → faultAt ps j = false) (hk : faultAt ps k.1 = true) : predsErr ps = codeAt k.1 := by
  match k with
  | ⟨0, _⟩ => rw [predsErr, if_pos (show ps.any badName = true from hk)]; rfl
  | ⟨1, _⟩ => rw [predsErr, if_neg (by rw [show ps.any badName = false from h 0 (show 0 < 1 by decide)]; simp), if_pos (show twice ps = true from hk)]; rfl
  | ⟨2, _⟩ => rw [predsErr, if_neg (by rw [show ps.any badName = false from h 0 (show 0 < 2 by decide)]; simp), if_neg (by rw [show twice ps = false from h 1 (show 1 < 2 by decide)]; simp), if_pos (show ps.any badArity = true from hk)]; rfl
  | ⟨3, _⟩ => rw [predsErr, if_neg (by rw [show ps.any badName = false from h 0 (show 0 < 3 by decide)]; simp), if_neg (by rw [show twice ps = false from h 1 (show 1 < 3 by decide)]; simp), if_neg (by rw [show ps.any badArity = false from h 2 (show 2 < 3 by decide)]; simp), if_pos (show ps.any badKind = true from hk)]; rfl
theorem predsErr_none {ps : List Prd} (h : ∀ j, j < 4 → faultAt ps j = false) : predsErr ps = 0 := by
  rw [predsErr, if_neg (by rw [show ps.any badName = false from h 0 (by decide)]; simp), if_neg (by rw [show twice ps = false from h 1 (by decide)]; simp), if_neg (by rw [show ps.any badArity = false from h 2 (by decide)]; simp), if_neg (by rw [show ps.any badKind = false from h 3 (by decide)]; simp)]

set_option maxRecDepth 100000 in
set_option maxHeartbeats 4000000 in
theorem checkPreds_c (w : World) (pv : Value) (ps : List Prd) (hp : predsAt w pv ps) (h5 : ps.length ≤ 5) (hn : small ps) :
    Calls Tryz.prog 101 #[pv] w fun e w' => e = .returned (.int .i64 (predsErr ps)) ∧ Below w.heap.size w w' := by
  have hmm := @run_makeMap Tryz.prog
  have HP : Hid (predsAt w pv ps) := hp
  have HN : Hid (small ps) := hn
  obtain ⟨pa, pc, rfl, hpm, hpx⟩ := hp
  clear hpx hn
  go_enter Tryz.func101, Tryz.ntmps101
  go_wp2_with fail
  go_loopw [11] (fun i wr => ∃ j : Nat, j ≤ ps.length ∧ i = .int .i64 j ∧ Below w.heap.size w wr ∧ wr.cell? ⟨w.heap.size + 1, 0, none⟩ = some (.map (some w.heap.size)) ∧ w.heap.size + 1 < wr.heap.size ∧ ∃ n D, n ≤ j ∧ Names wr w.heap.size n D ∧ CntS D (cntN (ps.take j))) (fun i _ => ps.length - (intOf i).toNat)
  case atStart =>
    refine ⟨0, Nat.zero_le _, rfl, ((Below.refl _ _).alloc (Nat.le_refl _) _).alloc (by simp) _, by simp [go_sem], by simp, 0, _, Nat.le_refl _, (World.ownsMap_made _ _ _ _).alloc _, cntS_none⟩
  case round =>
    obtain ⟨j, hj, rfl, hbw, hbox, hsz, n, D, hn, hown, hcnt⟩ := hrel
    by_cases hlt : j < ps.length
    · obtain ⟨b, off, cap, hv, hb, hcell⟩ := slice_cells HP.out hlt
      obtain ⟨rfl, rfl⟩ : pa = some ⟨b, off, none⟩ ∧ pc = cap := by simpa using hv
      obtain ⟨t0, t1, t2⟩ := predAt.lasts w wr b _ _ hbw hb hcell
      have hnm : ps[j].name.size ≤ 9223372036854775807 := HN.out _ (List.getElem_mem hlt)
      have HC := cntN_take hlt
      have hj0 : (0 : Int) ≤ (j : Int) := by omega
      have hj1 : (j : Int) < (ps.length : Int) := by omega
      clear hv hcell
      generalize ps[j] = q at *
      have hkey : keyOf Tryz.prog 9 (.string q.name) = some (.string q.name.data.toList) := WideMaps.keyOf_string_mk Tryz.underlying9 (by unfold maxLen; omega)
      have hmx : n < maxLen := by unfold maxLen; omega
      have HCNT : Hid (CntS D (cntN (ps.take j))) := hcnt
      have HC' : Hid (∀ s, cntN (ps.take (j + 1)) s = cntN (ps.take j) s + if sameAs s q then 1 else 0) := HC
      clear hcnt HC
      go_wp2_with (first
        | (at_lookup; refine wpList_lookup_own_int _ rfl _ _ 168 rfl 9 3 .i64 law9 Tryz.underlying168 Tryz.underlying3 (zero3 _) w.heap.size n _ rfl (hown.alloc _) _ _ rfl hkey ?_; intro c hat hwc)
        | (at_mapUpdate; refine wpList_mapUpdate_own _ rfl _ _ _ 168 rfl 9 3 law9 Tryz.underlying168 _ w.heap.size n _ rfl (hown.alloc _) hmx _ _ _ rfl rfl hkey _ [] (plainElem_int Tryz.underlying3 (wrap64_wf _)) ?_; intro w1 hown1 hgrow1))
      have hg1 : w1.heap[w.heap.size + 1]? = wr.heap[w.heap.size + 1]? := by
        have h1 := hgrow1.block (w.heap.size + 1) (by simp; omega) (fun e => by simp at e)
        rw [h1]
        exact Below.heap_alloc _ _ _ (by omega)
      have hsz1 := hgrow1.size
      simp only [World.size_alloc] at hsz1
      refine ⟨⟨j + 1, by omega, by go_num, (hbw.alloc hbw.size _).grown hgrow1 (by have := hbw.size; simp; omega) (fun q hq => by cases hq; exact Nat.le_refl _), ?_, by omega, n + 1, _, by omega, hown1, ?_⟩, by simp [intOf]; omega⟩
      · unfold World.cell? at hbox ⊢
        rw [show w1.heap[(⟨w.heap.size + 1, 0, none⟩ : Addr).block]? = wr.heap[(⟨w.heap.size + 1, 0, none⟩ : Addr).block]? from hg1]
        exact hbox
      · refine cntS_put HCNT.out hat (by have := cntN_le (ps.take j) q.name; rw [List.length_take] at this; omega) (fun v => ?_) (fun v hv => ?_)
        · rw [HC'.out v]
          congr 1
          by_cases e : q.name.data.toList = v.data.toList
          · rw [if_pos e, if_pos (sameAs_eq.2 e)]
          · rw [if_neg e, if_neg (fun h => e (sameAs_eq.1 h))]
        · unfold cntN
          congr 1
          funext x
          rw [Bool.eq_iff_iff, sameAs_eq, sameAs_eq, hv]
    · obtain rfl : j = ps.length := by omega
      rw [List.take_length] at hcnt
      have HOWN : Hid (Names wr w.heap.size n D) := hown
      have HCNT : Hid (CntS D (cntN ps)) := hcnt
      clear hown hcnt hmm
      go_wp2_with fail
      obtain ⟨T, hTe⟩ : ∃ T, wr.heap.size = T := ⟨_, rfl⟩
      obtain ⟨W0, hW0⟩ : ∃ W0, wr.alloc (.cells #[.int .i64 5, .func (.func 119) #[] #[], .int .i64 6, .func (.func 121) #[] #[.pointer (some ⟨w.heap.size + 1, 0, none⟩)], .int .i64 3, .func (.func 122) #[] #[], .int .i64 4, .func (.func 123) #[] #[]] 169) = W0 := ⟨_, rfl⟩
      have hbT : Below wr.heap.size wr W0 := by rw [← hW0]; exact below_alloc _ _
      have hs0 : W0.heap.size = T + 1 := by rw [← hW0, ← hTe]; simp
      have c0 : W0.cell? ⟨T, 0, none⟩ = some (.int .i64 5) := by rw [← hW0, ← hTe, cell_fresh]; rfl
      have c1 : W0.cell? ⟨T, 1, none⟩ = some (.func (.func 119) #[] #[]) := by rw [← hW0, ← hTe, cell_fresh]; rfl
      have c2 : W0.cell? ⟨T, 2, none⟩ = some (.int .i64 6) := by rw [← hW0, ← hTe, cell_fresh]; rfl
      have c3 : W0.cell? ⟨T, 3, none⟩ = some (.func (.func 121) #[] #[.pointer (some ⟨w.heap.size + 1, 0, none⟩)]) := by rw [← hW0, ← hTe, cell_fresh]; rfl
      have c4 : W0.cell? ⟨T, 4, none⟩ = some (.int .i64 3) := by rw [← hW0, ← hTe, cell_fresh]; rfl
      have c5 : W0.cell? ⟨T, 5, none⟩ = some (.func (.func 122) #[] #[]) := by rw [← hW0, ← hTe, cell_fresh]; rfl
      have c6 : W0.cell? ⟨T, 6, none⟩ = some (.int .i64 4) := by rw [← hW0, ← hTe, cell_fresh]; rfl
      have c7 : W0.cell? ⟨T, 7, none⟩ = some (.func (.func 123) #[] #[]) := by rw [← hW0, ← hTe, cell_fresh]; rfl
      have hbW : Below w.heap.size w W0 := hbw.trans (hbT.mono hbw.size)
      have hT : T < W0.heap.size := by omega
      have HA0 : Hid (∀ x, Below W0.heap.size W0 x → ∀ y, Below x.heap.size x y → Calls Tryz.prog 70 #[.slice pa ps.length pc, .func (.func 119) #[] #[]] y fun e w' => e = .returned (.bool (faultAt ps 0)) ∧ Below y.heap.size y w') := fun x hx y hy => by
        have e : faultAt ps 0 = ps.any (badName) := rfl
        rw [e]
        exact containsPred_c y _ ps _ #[] (enters_of Tryz.func119 (by kernel_rfl) rfl) _ (predsAt.lasts (hbW.trans ((hx.trans (hy.mono hx.size)).mono hbW.size)) HP.out) (fun w1 q hz hq => ask1_c q _ (HN.out q hq))
      have HA1 : Hid (∀ x, Below W0.heap.size W0 x → ∀ y, Below x.heap.size x y → Calls Tryz.prog 70 #[.slice pa ps.length pc, .func (.func 121) #[] #[.pointer (some ⟨w.heap.size + 1, 0, none⟩)]] y fun e w' => e = .returned (.bool (faultAt ps 1)) ∧ Below y.heap.size y w') := fun x hx y hy => by
        have e : faultAt ps 1 = ps.any (often ps) := (twice_often ps).symm
        rw [e]
        exact containsPred_c y _ ps _ #[.pointer (some ⟨w.heap.size + 1, 0, none⟩)] (enters_of Tryz.func121 (by kernel_rfl) rfl) _ (predsAt.lasts (hbW.trans ((hx.trans (hy.mono hx.size)).mono hbW.size)) HP.out) (fun w1 q hz hq => ask2_c ps q w1 (w.heap.size + 1) w.heap.size n D (HN.out q hq) ((((hbT.mono (Nat.le_refl _)).trans ((hx.trans ((hy.trans (hz.mono hy.size)).mono hx.size)).mono hbT.size)).cell (p := ⟨w.heap.size + 1, 0, none⟩) hsz).trans hbox) (by have := hbT.size; have := hx.size; have := hy.size; have := hz.size; omega) (ownsMap_lasts (ownsMap_lasts HOWN.out hbT) (hx.trans ((hy.trans (hz.mono hy.size)).mono hx.size))) HCNT.out)
      have HA2 : Hid (∀ x, Below W0.heap.size W0 x → ∀ y, Below x.heap.size x y → Calls Tryz.prog 70 #[.slice pa ps.length pc, .func (.func 122) #[] #[]] y fun e w' => e = .returned (.bool (faultAt ps 2)) ∧ Below y.heap.size y w') := fun x hx y hy => by
        have e : faultAt ps 2 = ps.any (badArity) := rfl
        rw [e]
        exact containsPred_c y _ ps _ #[] (enters_of Tryz.func122 (by kernel_rfl) rfl) _ (predsAt.lasts (hbW.trans ((hx.trans (hy.mono hx.size)).mono hbW.size)) HP.out) (fun w1 q hz hq => ask3_c q _)
      have HA3 : Hid (∀ x, Below W0.heap.size W0 x → ∀ y, Below x.heap.size x y → Calls Tryz.prog 70 #[.slice pa ps.length pc, .func (.func 123) #[] #[]] y fun e w' => e = .returned (.bool (faultAt ps 3)) ∧ Below y.heap.size y w') := fun x hx y hy => by
        have e : faultAt ps 3 = ps.any (badKind) := rfl
        rw [e]
        exact containsPred_c y _ ps _ #[] (enters_of Tryz.func123 (by kernel_rfl) rfl) _ (predsAt.lasts (hbW.trans ((hx.trans (hy.mono hx.size)).mono hbW.size)) HP.out) (fun w1 q hz hq => ask4_c q _)
      rw [hW0, hTe]
      clear hW0
      go_loopw [28] (fun i wr => ∃ j : Nat, j ≤ 4 ∧ i = .int .i64 j ∧ (∀ k, k < j → faultAt ps k = false) ∧ Below W0.heap.size W0 wr) (fun i _ => 4 - (intOf i).toNat)
      case atStart => exact ⟨0, Nat.zero_le _, rfl, fun k hk => absurd hk (by omega), Below.refl _ _⟩
      case round =>
        clear hbw hbox hsz hTe hbT
        obtain ⟨j, hj, rfl, hno, hb2⟩ := hrel
        obtain rfl | rfl | rfl | rfl | rfl : j = 0 ∨ j = 1 ∨ j = 2 ∨ j = 3 ∨ j = 4 := by omega
        · have hj4 : True := trivial
          have hA := HA0.out wr hb2
          have k0 := (hb2.cell (p := ⟨T, 0, none⟩) hT).trans c0
          have k1 := (hb2.cell (p := ⟨T, 1, none⟩) hT).trans c1
          cases hf : faultAt ps 0
          · rw [hf] at hA
            go_wp2_with (first | (go_at_call 70; refine (hA _ (by exact below_alloc _ _)).mono ?_; rintro e w1 ⟨rfl, hb3⟩))
            exact ⟨⟨1, by omega, by go_num, fun k hk => by rcases (show k < 0 ∨ k = 0 by omega) with h | rfl; exact hno k h; exact hf, hb2.trans ((below_trans (below_alloc _ _) hb3).mono hb2.size)⟩, by simp [intOf]⟩
          · rw [hf] at hA
            have HR : Hid (predsErr ps = 5) := show predsErr ps = codeAt 0 from predsErr_at ⟨0, by decide⟩ hno hf
            go_wp2_with (first | (go_at_call 70; refine (hA _ (by exact below_alloc _ _)).mono ?_; rintro e w1 ⟨rfl, hb3⟩; have q0 : w1.cell? ⟨wr.heap.size, 0, none⟩ = some (.int .i64 5) := by rw [hb3.cell (p := ⟨wr.heap.size, 0, none⟩) (by simp)]; simp [go_sem]))
            go_ret
            exact ⟨by rw [HR.out]; rfl, hbW.trans ((hb2.trans ((below_trans (below_alloc _ _) hb3).mono hb2.size)).mono hbW.size)⟩
        · have hj4 : True := trivial
          have hA := HA1.out wr hb2
          have k0 := (hb2.cell (p := ⟨T, 2, none⟩) hT).trans c2
          have k1 := (hb2.cell (p := ⟨T, 3, none⟩) hT).trans c3
          cases hf : faultAt ps 1
          · rw [hf] at hA
            go_wp2_with (first | (go_at_call 70; refine (hA _ (by exact below_alloc _ _)).mono ?_; rintro e w1 ⟨rfl, hb3⟩))
            exact ⟨⟨2, by omega, by go_num, fun k hk => by rcases (show k < 1 ∨ k = 1 by omega) with h | rfl; exact hno k h; exact hf, hb2.trans ((below_trans (below_alloc _ _) hb3).mono hb2.size)⟩, by simp [intOf]⟩
          · rw [hf] at hA
            have HR : Hid (predsErr ps = 6) := show predsErr ps = codeAt 1 from predsErr_at ⟨1, by decide⟩ hno hf
            go_wp2_with (first | (go_at_call 70; refine (hA _ (by exact below_alloc _ _)).mono ?_; rintro e w1 ⟨rfl, hb3⟩; have q0 : w1.cell? ⟨wr.heap.size, 0, none⟩ = some (.int .i64 6) := by rw [hb3.cell (p := ⟨wr.heap.size, 0, none⟩) (by simp)]; simp [go_sem]))
            go_ret
            exact ⟨by rw [HR.out]; rfl, hbW.trans ((hb2.trans ((below_trans (below_alloc _ _) hb3).mono hb2.size)).mono hbW.size)⟩
        · have hj4 : True := trivial
          have hA := HA2.out wr hb2
          have k0 := (hb2.cell (p := ⟨T, 4, none⟩) hT).trans c4
          have k1 := (hb2.cell (p := ⟨T, 5, none⟩) hT).trans c5
          cases hf : faultAt ps 2
          · rw [hf] at hA
            go_wp2_with (first | (go_at_call 70; refine (hA _ (by exact below_alloc _ _)).mono ?_; rintro e w1 ⟨rfl, hb3⟩))
            exact ⟨⟨3, by omega, by go_num, fun k hk => by rcases (show k < 2 ∨ k = 2 by omega) with h | rfl; exact hno k h; exact hf, hb2.trans ((below_trans (below_alloc _ _) hb3).mono hb2.size)⟩, by simp [intOf]⟩
          · rw [hf] at hA
            have HR : Hid (predsErr ps = 3) := show predsErr ps = codeAt 2 from predsErr_at ⟨2, by decide⟩ hno hf
            go_wp2_with (first | (go_at_call 70; refine (hA _ (by exact below_alloc _ _)).mono ?_; rintro e w1 ⟨rfl, hb3⟩; have q0 : w1.cell? ⟨wr.heap.size, 0, none⟩ = some (.int .i64 3) := by rw [hb3.cell (p := ⟨wr.heap.size, 0, none⟩) (by simp)]; simp [go_sem]))
            go_ret
            exact ⟨by rw [HR.out]; rfl, hbW.trans ((hb2.trans ((below_trans (below_alloc _ _) hb3).mono hb2.size)).mono hbW.size)⟩
        · have hj4 : True := trivial
          have hA := HA3.out wr hb2
          have k0 := (hb2.cell (p := ⟨T, 6, none⟩) hT).trans c6
          have k1 := (hb2.cell (p := ⟨T, 7, none⟩) hT).trans c7
          cases hf : faultAt ps 3
          · rw [hf] at hA
            go_wp2_with (first | (go_at_call 70; refine (hA _ (by exact below_alloc _ _)).mono ?_; rintro e w1 ⟨rfl, hb3⟩))
            exact ⟨⟨4, by omega, by go_num, fun k hk => by rcases (show k < 3 ∨ k = 3 by omega) with h | rfl; exact hno k h; exact hf, hb2.trans ((below_trans (below_alloc _ _) hb3).mono hb2.size)⟩, by simp [intOf]⟩
          · rw [hf] at hA
            have HR : Hid (predsErr ps = 4) := show predsErr ps = codeAt 3 from predsErr_at ⟨3, by decide⟩ hno hf
            go_wp2_with (first | (go_at_call 70; refine (hA _ (by exact below_alloc _ _)).mono ?_; rintro e w1 ⟨rfl, hb3⟩; have q0 : w1.cell? ⟨wr.heap.size, 0, none⟩ = some (.int .i64 4) := by rw [hb3.cell (p := ⟨wr.heap.size, 0, none⟩) (by simp)]; simp [go_sem]))
            go_ret
            exact ⟨by rw [HR.out]; rfl, hbW.trans ((hb2.trans ((below_trans (below_alloc _ _) hb3).mono hb2.size)).mono hbW.size)⟩
        · have HR : Hid (predsErr ps = 0) := predsErr_none hno
          go_wp2_with fail
          go_ret
          exact ⟨by rw [HR.out]; rfl, hbW.trans (hb2.mono hbW.size)⟩
end Go.Proofs.YtlfccloaoopadafGreatDoor.Prog
