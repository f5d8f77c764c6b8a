/-
  What the document's own 'StrataOf' and 'NeedsOf' answer.
-/
import Derived.Test.YtgbacodellfacabProgRef2
namespace Go.Proofs.Ytgbacodellfacab.Prog
open Go.ChangeShapes Go.WideShapes Go.ChangeAt Go.RowKit
open Lat (within within_c)
open Strata

set_option maxRecDepth 100000 in
set_option maxHeartbeats 4000000 in
theorem strataOf_c (w : World) (pv rv : Value) (ps : List Prd) (rs : List Rul) (hp : predsAt w pv ps) (hr : rulesAt w rv rs) (h5 : ps.length ≤ 5) (h8 : rs.length ≤ 8) (hok : ∀ r ∈ rs, Right ps r) :
    Calls Try.prog 16 #[.agg #[pv, rv]] w fun e w' => (∃ v, e = .returned v ∧ ∀ l, strataL (edges rs) ps.length = some l → intsAt w' v l) ∧ Below w.heap.size w w' := by
  have HP : Hid (predsAt w pv ps) := hp
  have HR : Hid (rulesAt w rv rs) := hr
  obtain ⟨pa, pc, rfl, hpm, hpx⟩ := hp
  obtain ⟨ra, rc, rfl, hrm, hrx⟩ := hr
  clear hpx hrx
  go_enter Try.func16, Try.ntmps16
  go_wp2_with (first | (go_at_call 37; refine (strata_c _ _ _ ps rs (predsAt.lasts (by first | exact Below.refl _ _ | exact below_alloc _ _) HP.out) (rulesAt.lasts (by first | exact Below.refl _ _ | exact below_alloc _ _) HR.out) h5 h8 hok).mono ?_; rintro e w1 ⟨⟨v, rfl, hv⟩, hb1⟩))
  go_ret
  exact ⟨⟨v, rfl, hv⟩, below_trans (below_alloc _ _) hb1⟩

def boolV (x : Bool) : Value := .bool x
theorem bools_at {w : World} {B : Nat} {l : List Bool} (h : rowAt w B (l.map boolV)) {k : Nat} (hk : k < l.length) : w.cell? ⟨B, k, none⟩ = some (.bool (bat l k)) ∧ w.frozen? ⟨B, k, none⟩ = false := by
  refine h k _ ?_
  rw [List.getElem?_map, List.getElem?_eq_getElem hk, bat, List.getD_eq_getElem?_getD, List.getElem?_eq_getElem hk]
  rfl
theorem bools_set {w : World} {B : Nat} {l : List Bool} (h : rowAt w B (l.map boolV)) {k : Nat} (hk : k < l.length) (x : Bool) : rowAt (w.setCell ⟨B, k, none⟩ (.bool x)) B ((l.set k x).map boolV) := by
  have := h.set (k := k) (by simpa using hk) (boolV x)
  rwa [← List.map_set] at this
theorem boolsAt_of {w : World} {B cap : Nat} {l : List Bool} (h : rowAt w B (l.map boolV)) (hl : l.length ≤ 140737488355328) (hB : B < w.heap.size) : boolsAt w (.slice (some ⟨B, 0, none⟩) l.length cap) l :=
  ⟨_, cap, rfl, hl, .inr ⟨B, 0, rfl, hB, fun i x hi => by
    have := (h i (boolV x) (by rw [List.getElem?_map, hi]; rfl)).1
    rw [Nat.mul_one, Nat.zero_add]
    exact this⟩⟩
theorem falses_row {w : World} {n : Nat} {t : TypeId} : rowAt (w.alloc (.cells (List.replicate n (.bool false)).toArray t)) w.heap.size ((List.replicate n false).map boolV) := by
  rw [List.map_replicate]
  exact rowAt_new
theorem one_row {w : World} {n p : Nat} {t : TypeId} : rowAt (w.alloc (.cells ((Array.replicate n (.bool false)).setIfInBounds p (.bool true)) t)) w.heap.size ((one n p).map boolV) := by
  have e : (Array.replicate n (Value.bool false)).setIfInBounds p (.bool true) = ((one n p).map boolV).toArray := by
    rw [one, List.map_set, List.map_replicate]
    apply Array.ext'
    simp [boolV]
  rw [e]
  exact rowAt_new
/-- who is not needed asks for nothing -/
theorem idle {E : List Strata.Edge} {m : List Bool} {h : Nat} (hb : bat m h = false) (hE : ∀ e ∈ E, e.h = h) : roundB E m = m := by
  induction E with
  | nil => rfl
  | cons e E ih =>
    have h1 : stepB m e = m := by rw [stepB, hE e (by simp), hb]; rfl
    show roundB E (stepB m e) = m
    rw [h1]
    exact ih fun x hx => hE x (by simp [hx])
theorem roundB_append (E D : List Strata.Edge) (l : List Bool) : roundB (E ++ D) l = roundB D (roundB E l) := by
  unfold roundB
  rw [List.foldl_append]
theorem rest_idle {r : Rul} {E : List Strata.Edge} {q : Nat} {l m : List Bool} (hm : m = roundB (E ++ (r.body.take q).map (edgeOf r)) l) (hb : bat m r.head.pred.toNat = false) : m = roundB (E ++ r.body.map (edgeOf r)) l := by
  have h1 : r.body.map (edgeOf r) = (r.body.take q).map (edgeOf r) ++ (r.body.drop q).map (edgeOf r) := by rw [← List.map_append, List.take_append_drop]
  rw [h1, ← List.append_assoc, roundB_append, ← hm, idle hb]
  intro e he
  obtain ⟨l, _, rfl⟩ := List.mem_map.1 he
  rfl

set_option maxRecDepth 100000 in
set_option maxHeartbeats 4000000 in
theorem needsOf_c (w : World) (pv rv : Value) (ps : List Prd) (rs : List Rul) (p : Nat) (hp : predsAt w pv ps) (hr : rulesAt w rv rs) (h5 : ps.length ≤ 5) (h8 : rs.length ≤ 8) (hok : ∀ r ∈ rs, Right ps r) (hpl : p < ps.length) :
    Calls Try.prog 17 #[.agg #[pv, rv], .int .i64 (p : Int)] w fun e w' => (∃ v, e = .returned v ∧ boolsAt w' v (needsL (edges rs) ps.length p)) ∧ Below w.heap.size w w' := by
  have HP : Hid (predsAt w pv ps) := hp
  have HR : Hid (rulesAt w rv rs) := hr
  obtain ⟨pa, pc, rfl, hpm, hpx⟩ := hp
  obtain ⟨ra, rc, rfl, hrm, hrx⟩ := hr
  clear hpx hrx
  have hmk := @make_bools _ h5
  have HK : Hid (∀ r ∈ rs, Right ps r) := hok
  clear hok
  have hB : Hid (∀ x, Below (w.heap.size + 1) (w.alloc (.cells #[.slice pa ps.length pc, .slice ra rs.length rc] 25)) x → Below w.heap.size w x) := fun x h => (below_alloc _ _).trans (h.mono (by omega))
  have HBOX : Hid (∀ x, Below (w.heap.size + 1) (w.alloc (.cells #[.slice pa ps.length pc, .slice ra rs.length rc] 25)) x → x.cell? ⟨w.heap.size, 0, none⟩ = some (.slice pa ps.length pc) ∧ x.cell? ⟨w.heap.size, 1, none⟩ = some (.slice ra rs.length rc)) := fun x h =>
    ⟨by rw [h.cell (p := ⟨w.heap.size, 0, none⟩) (by simp)]; simp [go_sem], by rw [h.cell (p := ⟨w.heap.size, 1, none⟩) (by simp)]; simp [go_sem]⟩
  have hp0 : (0 : Int) ≤ (p : Int) := by omega
  have hp1 : (p : Int) < (ps.length : Int) := by omega
  go_enter Try.func17, Try.ntmps17
  go_wp2_with fail
  clear hmk
  have HE : Hid (Within (edges rs) ps.length) := within_edges HK.out
  go_loopw [6] (fun i wr => ∃ (t : Nat) (l : List Bool), t ≤ ps.length ∧ i = .int .i64 t ∧ l.length = ps.length ∧ Hid (l = roundsB (edges rs) t (one ps.length p)) ∧
    rowAt wr (w.heap.size + 1) (l.map boolV) ∧ w.heap.size + 1 < wr.heap.size ∧ Below (w.heap.size + 1) (w.alloc (.cells #[.slice pa ps.length pc, .slice ra rs.length rc] 25)) wr) (fun i _ => ps.length - (intOf i).toNat)
  case atStart =>
    refine ⟨0, one ps.length p, Nat.zero_le _, rfl, by simp [one], rfl, ?_, by simp, below_alloc' _ _ (by simp)⟩
    have h1 := one_row (w := w.alloc (.cells #[.slice pa ps.length pc, .slice ra rs.length rc] 25)) (n := ps.length) (p := p) (t := 4)
    rwa [World.size_alloc] at h1
  case round =>
    obtain ⟨t, l, ht, rfl, hl, hlt0, hrow, hsz, hbr⟩ := hrel
    obtain ⟨c0, c1⟩ := HBOX.out _ hbr
    by_cases hlt : t < ps.length
    · go_wp2_with fail
      have HSE : Hid (l.length = ps.length) := hl
      go_loopw [7] (fun i wr2 => ∃ (k : Nat) (m : List Bool), k ≤ rs.length ∧ i = .int .i64 k ∧ Hid (m = roundB (edges (rs.take k)) l) ∧ m.length = ps.length ∧
        rowAt wr2 (w.heap.size + 1) (m.map boolV) ∧ w.heap.size + 1 < wr2.heap.size ∧ Below (w.heap.size + 1) (w.alloc (.cells #[.slice pa ps.length pc, .slice ra rs.length rc] 25)) wr2) (fun i _ => rs.length - (intOf i).toNat)
      case atStart => exact ⟨0, l, Nat.zero_le _, rfl, rfl, hl, hrow, hsz, hbr⟩
      case round =>
        clear hrow hsz hbr c0 c1
        obtain ⟨k, m, hk, rfl, hm, hml, hrow, hsz, hbr⟩ := hrel
        obtain ⟨c0, c1⟩ := HBOX.out _ hbr
        by_cases hkl : k < rs.length
        · obtain ⟨rb, ro, rc', hv, hrb, hcells⟩ := slice_cells HR.out hkl
          obtain ⟨rfl, rfl⟩ : ra = some ⟨rb, ro, none⟩ ∧ rc = rc' := by simpa using hv
          obtain ⟨t0, _, _, _, bv, t4, t5⟩ := hcells
          have HLIT : Hid (litsAt w bv rs[k].body) := t5
          obtain ⟨ba, bc, rfl, hblen, _⟩ := t5
          have HRT : Hid (Right ps rs[k]) := HK.out _ (List.getElem_mem hkl)
          have HET : Hid (edges (rs.take (k + 1)) = edges (rs.take k) ++ rs[k].body.map (edgeOf rs[k])) := edges_take hkl
          have hkl0 : (0 : Int) ≤ (k : Int) := by omega
          have hkl1 : (k : Int) < (rs.length : Int) := by omega
          clear hv
          generalize hre : rs[k] = r at *
          have hRh := HRT.out.head
          obtain ⟨eh, heh⟩ : ∃ eh : Nat, r.head.pred = (eh : Int) := ⟨_, hRh.2⟩
          have hehn : eh < ps.length := by have := hRh.1; rw [heh] at this; simpa using this
          have HEO : Hid (∀ x, edgeOf r x = ⟨eh, x.atom.pred.toNat, x.neg⟩) := fun x => by rw [edgeOf, heh]; rfl
          have HEH : Hid (r.head.pred.toNat = eh) := by rw [heh]; exact Int.toNat_natCast eh
          rw [heh] at t0
          have g2 : (eh : Int) < (ps.length : Int) := by omega
          go_wp2_with fail
          go_loopw [8] (fun i wr3 => ∃ (q : Nat) (m' : List Bool), q ≤ r.body.length ∧ i = .int .i64 q ∧ Hid (m' = roundB (edges (rs.take k) ++ (r.body.take q).map (edgeOf r)) l) ∧ m'.length = ps.length ∧
            rowAt wr3 (w.heap.size + 1) (m'.map boolV) ∧ w.heap.size + 1 < wr3.heap.size ∧ Below (w.heap.size + 1) (w.alloc (.cells #[.slice pa ps.length pc, .slice (some ⟨rb, ro, none⟩) rs.length rc] 25)) wr3) (fun i _ => r.body.length - (intOf i).toNat)
          case atStart => exact ⟨0, m, Nat.zero_le _, rfl, by rw [List.take_zero, List.map_nil, List.append_nil]; exact hm, hml, hrow, hsz, hbr⟩
          case round =>
            clear hml hrow hbr hm hsz c0 c1
            obtain ⟨q, m, hq, rfl, hm, hml, hrow, hsz, hbr⟩ := hrel
            obtain ⟨c0, c1⟩ := HBOX.out _ hbr
            have hbw := hB.out _ hbr
            have r0 := (cell_lasts hbw hrb).trans t0
            have r4 := (cell_lasts hbw hrb).trans t4
            have f1 := (bools_at hrow (k := eh) (by omega)).1
            cases hbh : bat m eh
            · rw [hbh] at f1
              have HID : Hid (m = roundB (edges (rs.take (k + 1))) l) := by
                show _ = _
                rw [HET.out]
                exact rest_idle hm.out (by rw [HEH.out]; exact hbh)
              clear hm
              by_cases hql : q < r.body.length
              · have hq1 : (q : Int) < (r.body.length : Int) := by omega
                go_wp2_with fail
                exact ⟨⟨k + 1, m, by omega, by go_num, HID.out, hml, hrow, hsz, hbr⟩, by simp [intOf]; omega⟩
              · have hq1 : ¬ (q : Int) < (r.body.length : Int) := by omega
                go_wp2_with fail
                exact ⟨⟨k + 1, m, by omega, by go_num, HID.out, hml, hrow, hsz, hbr⟩, by simp [intOf]; omega⟩
            · rw [hbh] at f1
              by_cases hql : q < r.body.length
              · obtain ⟨lb, lo, lc', hv, hlb, hcells⟩ := slice_cells HLIT.out hql
                obtain ⟨rfl, rfl⟩ : ba = some ⟨lb, lo, none⟩ ∧ bc = lc' := by simpa using hv
                obtain ⟨_, l1, _⟩ := hcells
                replace l1 := (cell_lasts hbw hlb).trans l1
                have hRb := HRT.out.body _ (List.getElem_mem hql)
                have HS := map_take_succ hql
                rw [HEO.out] at HS
                obtain ⟨eb, heb⟩ : ∃ eb : Nat, r.body[q].atom.pred = (eb : Int) := ⟨_, hRb.2⟩
                have hebn : eb < ps.length := by have := hRb.1; rw [heb] at this; simpa using this
                rw [heb] at l1
                rw [heb, Int.toNat_natCast] at HS
                have HS' : Hid (m.set eb true = roundB (edges (rs.take k) ++ (r.body.take (q + 1)).map (edgeOf r)) l) := by
                  show _ = _
                  rw [HS, ← List.append_assoc, roundB_snoc, ← hm.out, stepB, if_pos hbh]
                clear HS hv hRb heb hm
                have hq0 : (0 : Int) ≤ (q : Int) := by omega
                have hq1 : (q : Int) < (r.body.length : Int) := by omega
                obtain ⟨f2, f3⟩ := bools_at hrow (k := eb) (by omega)
                have g1 : (eb : Int) < (ps.length : Int) := by omega
                go_wp2_with fail
                exact ⟨⟨q + 1, m.set eb true, by omega, by go_num, HS'.out, by rw [List.length_set]; exact hml, bools_set hrow (by omega) true, by rw [size_set]; exact hsz, hbr.setCell (p := ⟨w.heap.size + 1, eb, none⟩) (by simp) _⟩, by simp [intOf]; omega⟩
              · have hq1 : ¬ (q : Int) < (r.body.length : Int) := by omega
                have HID : Hid (m = roundB (edges (rs.take (k + 1))) l) := by
                  show _ = _
                  have := hm.out
                  rw [List.take_of_length_le (l := r.body) (i := q) (by omega)] at this
                  rw [HET.out]
                  exact this
                clear hm
                go_wp2_with fail
                exact ⟨⟨k + 1, m, by omega, by go_num, HID.out, hml, hrow, hsz, hbr⟩, by simp [intOf]; omega⟩
        · obtain rfl : k = rs.length := by omega
          have HID : Hid (m = roundsB (edges rs) (t + 1) (one ps.length p)) := by
            show _ = _
            rw [roundsB_succ, ← hlt0.out]
            have := hm.out
            rwa [List.take_length] at this
          clear hm
          go_wp2_with fail
          exact ⟨⟨t + 1, m, by omega, by go_num, hml, HID.out, hrow, hsz, hbr⟩, by simp [intOf]; omega⟩
    · obtain rfl : t = ps.length := by omega
      have HID : Hid (l = needsL (edges rs) ps.length p) := hlt0.out
      clear hlt0
      go_wp2_with fail
      go_ret
      refine ⟨⟨_, rfl, ?_⟩, hB.out _ hbr⟩
      have := boolsAt_of (cap := ps.length) hrow (by omega) hsz
      rw [hl] at this
      rw [← HID.out]
      exact this
end Go.Proofs.Ytgbacodellfacab.Prog
