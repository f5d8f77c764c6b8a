/-
  In how many places each variable stands: variables of package rule.
-/
import Derived.Maps.OwnSet
import Derived.Test.YtlfccloaoopadafGreatDoorG18
namespace Go.Proofs.YtlfccloaoopadafGreatDoor.Rule
open Go.ChangeShapes Go.WideShapes Go.ChangeAt Go.RowKit Go.Maps
open Lat (within within_c)

def cnt (ts : List Tm) (v : Int) : Nat := ts.countP (standsIn v)
def countA (ats : List Atm) (v : Int) : Nat := (ats.map fun a => cnt a.args v).sum
def lenSum (ats : List Atm) : Nat := (ats.map fun a => a.args.length).sum
/-- the map D tells how often each variable stands: f -/
def Cnt (D : DataW Unit) (f : Int → Nat) : Prop := IsMap D ∧ ∀ v : Int, 0 ≤ v → v ≤ 2 → D.atKey (.int .i64 v) (.lit (.int .i64 0)) = .lit (.int .i64 (f v : Nat))

theorem cnt_le (ts : List Tm) (v : Int) : cnt ts v ≤ ts.length := List.countP_le_length
theorem cnt_take {ts : List Tm} {j : Nat} (h : j < ts.length) (v : Int) : cnt (ts.take (j + 1)) v = cnt (ts.take j) v + if standsIn v ts[j] then 1 else 0 := by
  rw [List.take_succ_eq_append_getElem h]
  simp only [cnt, List.countP_append, List.countP_cons, List.countP_nil, Nat.zero_add]
theorem countA_take {ats : List Atm} {i : Nat} (h : i < ats.length) (v : Int) : countA (ats.take (i + 1)) v = countA (ats.take i) v + cnt ats[i].args v := by
  rw [List.take_succ_eq_append_getElem h]
  simp only [countA, List.map_append, List.map_cons, List.map_nil, List.sum_append, List.sum_cons, List.sum_nil, Nat.add_zero]
theorem lenSum_take {ats : List Atm} {i : Nat} (h : i < ats.length) : lenSum (ats.take (i + 1)) = lenSum (ats.take i) + ats[i].args.length := by
  rw [List.take_succ_eq_append_getElem h]
  simp only [lenSum, List.map_append, List.map_cons, List.map_nil, List.sum_append, List.sum_cons, List.sum_nil, Nat.add_zero]
theorem countA_le : ∀ (ats : List Atm) (v : Int), countA ats v ≤ lenSum ats
  | [], v => Nat.le_refl _
  | a :: l, v => by
    have h1 := countA_le l v
    have h2 := cnt_le a.args v
    simp only [countA, lenSum, List.map_cons, List.sum_cons] at *
    omega
theorem lenSum_bound : ∀ (ats : List Atm), (∀ a ∈ ats, a.args.length ≤ 140737488355328) → lenSum ats ≤ ats.length * 140737488355328
  | [], _ => by simp [lenSum]
  | a :: l, h => by
    have h1 := lenSum_bound l (fun x hx => h x (by simp [hx]))
    have h2 := h a (by simp)
    simp only [lenSum, List.map_cons, List.sum_cons, List.length_cons] at *
    omega
theorem lenSum_take_le (ats : List Atm) : ∀ i, lenSum (ats.take i) ≤ lenSum ats := by
  intro i
  have := congrArg lenSum (List.take_append_drop i ats)
  simp only [lenSum, List.map_append, List.sum_append] at *
  omega

theorem cnt_none : Cnt (.map []) (fun v => countA (([] : List Atm)) v) := ⟨isMap_empty, fun _ _ _ => rfl⟩
theorem cnt_same {D : DataW Unit} {f g : Int → Nat} (h : Cnt D f) (e : ∀ v, f v = g v) : Cnt D g := ⟨h.1, fun v h0 h2 => by rw [h.2 v h0 h2, e v]⟩
/-- one place more -/
theorem cnt_put {D : DataW Unit} {f g : Int → Nat} {n c : Int} (h : Cnt D f) (hc : D.atKey (.int .i64 n) (.lit (.int .i64 0)) = .lit (.int .i64 c)) (h0 : 0 ≤ n) (h2 : n ≤ 2) (hb : f n ≤ 1000000000000000)
    (he : ∀ v, g v = f v + if n = v then 1 else 0) : Cnt (D.put (.int .i64 n) (.lit (.int .i64 (wrap64 (c + 1))))) g := by
  have hcn : c = (f n : Int) := by
    rw [h.2 n h0 h2] at hc
    simp at hc
    exact hc.symm
  have hw : wrap64 (c + 1) = ((f n + 1 : Nat) : Int) := by rw [hcn]; unfold wrap64; omega
  obtain ⟨es, hes⟩ := h.1
  refine ⟨⟨_, by rw [hes]; rfl⟩, fun v v0 v2 => ?_⟩
  by_cases e : n = v
  · subst e
    rw [atKey_put_same h.1 (by simp [WideAt.IsKeyLit]), hw, he, if_pos rfl]
  · rw [atKey_put_other (by simp; omega), h.2 v v0 v2, he, if_neg e, Nat.add_zero]

theorem law3 : Keyed Tryz.prog 3 := int_keyed Tryz.underlying3
theorem zero3 (w : World) : (zeroValue 3).run Tryz.prog w = .ok (.int .i64 0) w := by kernel_rfl
theorem ownsMap_lasts {P : Program} {k : TypeId} {R : Value → Option (DataW Unit × List MemPlace)} {w w1 : World} {b n : Nat} {D : DataW Unit} (h : w.ownsMap P k R b n D) (hb : Below w.heap.size w w1) : w1.ownsMap P k R b n D := by
  have hlt := h.lt
  obtain ⟨es, clock, h1, h2⟩ := h
  exact ⟨es, clock, by rw [hb.block b hlt]; exact h1, h2⟩

abbrev Places (w : World) (b n : Nat) (D : DataW Unit) : Prop := w.ownsMap Tryz.prog 3 (plainElem Tryz.prog 3) b n D

theorem wf_small {n : Int} (h0 : 0 ≤ n) (h2 : n ≤ 2) : (Lit.int .i64 n).wf = true := by
  rcases (show n = 0 ∨ n = 1 ∨ n = 2 by omega) with rfl | rfl | rfl <;> rfl

set_option maxRecDepth 100000 in
set_option maxHeartbeats 4000000 in
theorem variables_c (w : World) (v : Value) (ats : List Atm) (h : atomsAt w v ats) (h4 : ats.length ≤ 4) (hl : ∀ a ∈ ats, a.args.length ≤ 140737488355328 ∧ a.args.all termOk = true) :
    Calls Tryz.prog 154 #[v] w fun e w' => e = .returned (.map (some w.heap.size)) ∧ Below w.heap.size w w' ∧ ∃ n D, Places w' w.heap.size n D ∧ Cnt D (countA ats) := by
  have hmm := @run_makeMap Tryz.prog
  obtain ⟨a, cap, rfl, hm, hx⟩ := h
  have HX : Hid (ats = [] ∨ ∃ b off, a = some ⟨b, off, none⟩ ∧ b < w.heap.size ∧ ∀ i x, ats[i]? = some x → atomAt w b (off + i * 2) x) := hx
  have HL : Hid (∀ a ∈ ats, a.args.length ≤ 140737488355328 ∧ a.args.all termOk = true) := hl
  have hls : lenSum ats ≤ 562949953421312 := by have := lenSum_bound ats (fun a ha => (hl a ha).1); omega
  clear hx hl
  go_enter Tryz.func154, Tryz.ntmps154
  go_wp2_with fail
  go_loopw [11] (fun i wr => ∃ j : Nat, j ≤ ats.length ∧ i = .int .i64 j ∧ Below w.heap.size w wr ∧ ∃ n D, n ≤ lenSum (ats.take j) ∧ Places wr w.heap.size n D ∧ Cnt D (countA (ats.take j))) (fun i _ => ats.length - (intOf i).toNat)
  case atStart => exact ⟨0, Nat.zero_le _, rfl, (Below.refl _ _).alloc (Nat.le_refl _) _, 0, _, Nat.zero_le _, World.ownsMap_made _ _ _ _, cnt_none⟩
  case round =>
    obtain ⟨j, hj, rfl, hbr, n, D, hn, hown, hcnt⟩ := hrel
    by_cases hlt : j < ats.length
    · obtain ⟨b', off', rfl, hbl', hx⟩ := HX.out.resolve_left (by intro e; rw [e] at hlt; simp at hlt)
      obtain ⟨ht1', tv, ht2', ht3⟩ := hx j ats[j] (by simp [hlt])
      have ht1 := (cell_lasts hbr hbl').trans ht1'
      have ht2 := (cell_lasts hbr hbl').trans ht2'
      obtain ⟨ta, tc, rfl, htl, htx⟩ := ht3
      have HO := HL.out ats[j] (List.getElem_mem hlt)
      have HC : Hid (∀ v, countA (ats.take (j + 1)) v = countA (ats.take j) v + cnt ats[j].args v) := countA_take hlt
      have HS : Hid (lenSum (ats.take (j + 1)) = lenSum (ats.take j) + ats[j].args.length) := lenSum_take hlt
      have hle := lenSum_take_le ats (j + 1)
      rw [HS.out] at hle
      clear hx
      have hok : Hid (ats[j].args.all termOk = true) := HO.2
      clear HO
      generalize ats[j] = at_ at *
      obtain ⟨p, ts⟩ := at_
      have HTX : Hid (ts = [] ∨ ∃ b off, ta = some ⟨b, off, none⟩ ∧ b < w.heap.size ∧ ∀ i x, ts[i]? = some x → termAt w b (off + i * 2) x) := htx
      have HOWN : Hid (Places wr w.heap.size n D) := hown
      have HCNT : Hid (Cnt D (countA (ats.take j))) := hcnt
      clear htx hown hcnt ht1' ht2'
      go_wp2_with fail
      clear ht1 ht2
      go_loopw [18] (fun i wq => ∃ k : Nat, k ≤ ts.length ∧ i = .int .i64 k ∧ Below w.heap.size w wq ∧ ∃ m E, m ≤ lenSum (ats.take j) + k ∧ Places wq w.heap.size m E ∧ Cnt E (fun v => countA (ats.take j) v + cnt (ts.take k) v)) (fun i _ => ts.length - (intOf i).toNat)
      case atStart => exact ⟨0, Nat.zero_le _, rfl, hbr.alloc hbr.size _, n, D, hn, HOWN.out.alloc _, cnt_same HCNT.out (fun v => by simp [cnt])⟩
      case round =>
        obtain ⟨k, hk, rfl, hbq, m, E, hm', howq, hcq⟩ := hrel
        by_cases hkt : k < ts.length
        · obtain ⟨b2, off2, rfl, hbl2, hx2⟩ := HTX.out.resolve_left (by intro e; rw [e] at hkt; simp at hkt)
          obtain ⟨hr1', hr2'⟩ := hx2 k ts[k] (by simp [hkt])
          have hr1 := (cell_lasts hbq hbl2).trans hr1'
          have hr2 := (cell_lasts hbq hbl2).trans hr2'
          have hok2 : termOk ts[k] = true := List.all_eq_true.1 hok.out _ (List.getElem_mem hkt)
          have HK : Hid (∀ v, cnt (ts.take (k + 1)) v = cnt (ts.take k) v + if standsIn v ts[k] then 1 else 0) := cnt_take hkt
          clear hx2 hr1' hr2' HTX
          generalize ts[k] = t at *
          obtain ⟨tv, tn⟩ := t
          cases tv
          · have HCQ : Hid (Cnt E (fun v => countA (ats.take j) v + cnt (ts.take k) v)) := hcq
            have HOQ : Hid (Places wr w.heap.size m E) := howq
            clear hcq howq
            go_wp2_with fail
            go_roundw
            case rel => exact ⟨k + 1, by omega, by go_num, hbq.alloc hbq.size _, m, E, by omega, HOQ.out.alloc _, cnt_same HCQ.out (fun v => by rw [HK.out v]; simp [standsIn])⟩
            case measure => simp [intOf]; omega
          · have hwi : 0 ≤ tn ∧ tn ≤ 2 := by
              have : within tn 0 2 = true := hok2
              simpa [within] using this
            obtain ⟨h0, h2⟩ := hwi
            have hkey : keyOf Tryz.prog 3 (.int .i64 tn) = some (.int .i64 tn) := keyOf_int_mk Tryz.underlying3 (wf_small h0 h2)
            have HCQ : Hid (Cnt E (fun v => countA (ats.take j) v + cnt (ts.take k) v)) := hcq
            have hmx : m < maxLen := by unfold maxLen; omega
            have hbound : Hid (countA (ats.take j) tn + cnt (ts.take k) tn ≤ 1000000000000000) := by
              show _ ≤ _
              have h1 := countA_le (ats.take j) tn
              have h2 := cnt_le (ts.take k) tn
              have h3 : (ts.take k).length ≤ k := List.length_take_le _ _
              have h4 := lenSum_take_le ats j
              omega
            clear hcq hok2
            go_wp2_with (first
              | (at_lookup; refine wpList_lookup_own_int _ rfl _ _ 204 rfl 3 3 .i64 law3 Tryz.underlying204 Tryz.underlying3 (zero3 _) w.heap.size m _ rfl (howq.alloc _) _ _ rfl hkey ?_; intro c hat hwc)
              | (at_mapUpdate; refine wpList_mapUpdate_own _ rfl _ _ _ 204 rfl 3 3 law3 Tryz.underlying204 _ w.heap.size m _ rfl (howq.alloc _) hmx _ _ _ rfl rfl hkey _ [] (plainElem_int Tryz.underlying3 (wrap64_wf _)) ?_; intro w1 hown1 hgrow1))
            go_roundw
            case rel => exact ⟨k + 1, by omega, by go_num, (hbq.alloc hbq.size _).grown hgrow1 (by have := hbq.size; simp; omega) (fun q hq => by cases hq; exact Nat.le_refl _), m + 1, _, by omega, hown1, cnt_put HCQ.out hat h0 h2 hbound.out (fun v => by rw [HK.out v]; simp [standsIn, Nat.add_assoc])⟩
            case measure => simp [intOf]; omega
        · have hkl : k = ts.length := by omega
          have HCQ : Hid (Cnt E (fun v => countA (ats.take j) v + cnt (ts.take k) v)) := hcq
          have HOQ : Hid (Places wr w.heap.size m E) := howq
          clear hcq howq HTX
          go_wp2_with fail
          go_roundw
          case rel => exact ⟨j + 1, by omega, by go_num, hbq, m, E, by rw [HS.out]; omega, HOQ.out, cnt_same HCQ.out (fun v => by rw [HC.out v, show ts.take k = ts from List.take_of_length_le (by omega)])⟩
          case measure => simp [intOf]; omega
    · have HOWN : Hid (Places wr w.heap.size n D) := hown
      have HCNT : Hid (Cnt D (countA (ats.take j))) := hcnt
      have HT : Hid (ats.take j = ats) := List.take_of_length_le (by omega)
      clear hown hcnt HX
      go_wp2_with fail
      go_ret
      exact ⟨rfl, hbr, n, D, HOWN.out, by rw [HT.out] at HCNT; exact HCNT.out⟩
end Go.Proofs.YtlfccloaoopadafGreatDoor.Rule
