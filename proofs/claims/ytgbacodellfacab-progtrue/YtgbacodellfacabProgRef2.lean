/-
  What the document's own 'strata' answers: the least numbers, round by round.
-/
import Derived.Test.YtgbacodellfacabProgRef
namespace Go.Proofs.Ytgbacodellfacab.Prog
open Go.ChangeShapes Go.WideShapes Go.ChangeAt Go.RowKit
open Lat (within within_c)
open Strata

/-- a row of cells, unfrozen -/
def rowAt (w : World) (B : Nat) (vs : List Value) : Prop := ∀ k v, vs[k]? = some v → w.cell? ⟨B, k, none⟩ = some v ∧ w.frozen? ⟨B, k, none⟩ = false
theorem rowAt.set {w : World} {B k : Nat} {vs : List Value} (h : rowAt w B vs) (hk : k < vs.length) (v : Value) : rowAt (w.setCell ⟨B, k, none⟩ v) B (vs.set k v) := by
  intro j u hj
  rw [frozen_set]
  by_cases e : j = k
  · subst e
    rw [List.getElem?_set_self hk] at hj
    cases hj
    have := h j vs[j] (by simp [hk])
    exact ⟨cell_set this.1, this.2⟩
  · rw [List.getElem?_set_ne (fun q => e q.symm)] at hj
    rw [cell_off (fun q => e q.symm)]
    exact h j u hj
theorem rowAt.other {w : World} {B B' o : Nat} {vs : List Value} (h : rowAt w B vs) (hne : B' ≠ B) (u : Value) : rowAt (w.setCell ⟨B', o, none⟩ u) B vs := fun k v hk => by
  rw [frozen_set, cell_block hne]
  exact h k v hk
theorem rowAt.below {w w' : World} {B n : Nat} {vs : List Value} (h : rowAt w B vs) (hb : Below n w w') (hB : B < n) : rowAt w' B vs := fun k v hk => by
  rw [hb.cell (p := ⟨B, k, none⟩) hB, hb.frozen (p := ⟨B, k, none⟩) hB]
  exact h k v hk
def intV (x : Nat) : Value := .int .i64 (x : Int)
theorem ints_at {w : World} {B : Nat} {l : List Nat} (h : rowAt w B (l.map intV)) {k : Nat} (hk : k < l.length) : w.cell? ⟨B, k, none⟩ = some (.int .i64 (at_ l k : Int)) ∧ w.frozen? ⟨B, k, none⟩ = false := by
  refine h k _ ?_
  rw [List.getElem?_map, List.getElem?_eq_getElem hk, at_, List.getD_eq_getElem?_getD, List.getElem?_eq_getElem hk]
  rfl
theorem ints_set {w : World} {B : Nat} {l : List Nat} (h : rowAt w B (l.map intV)) {k : Nat} (hk : k < l.length) (x : Nat) : rowAt (w.setCell ⟨B, k, none⟩ (.int .i64 (x : Int))) B ((l.set k x).map intV) := by
  have := h.set (k := k) (by simpa using hk) (intV x)
  rwa [← List.map_set] at this
theorem intsAt_of {w : World} {B cap : Nat} {l : List Nat} (h : rowAt w B (l.map intV)) (hl : l.length ≤ 140737488355328) (hB : B < w.heap.size) : intsAt w (.slice (some ⟨B, 0, none⟩) l.length cap) l :=
  ⟨_, cap, rfl, hl, .inr ⟨B, 0, rfl, hB, fun i x hi => by
    have := (h i (intV x) (by rw [List.getElem?_map, hi]; rfl)).1
    rw [Nat.mul_one, Nat.zero_add]
    exact this⟩⟩
theorem make_ints {n : Nat} (h : n ≤ 5) (w : World) : (Instr.makeSlice 31 (.int .i64 (n : Int)) (.int .i64 (n : Int))).run Try.prog w = .ok (.slice (some ⟨w.heap.size, 0, none⟩) n n) (w.alloc (.cells (List.replicate n (.int .i64 0)).toArray 3)) := by
  obtain rfl | rfl | rfl | rfl | rfl | rfl : n = 0 ∨ n = 1 ∨ n = 2 ∨ n = 3 ∨ n = 4 ∨ n = 5 := by omega
  all_goals kernel_rfl
theorem make_bools {n : Nat} (h : n ≤ 5) (w : World) : (Instr.makeSlice 34 (.int .i64 (n : Int)) (.int .i64 (n : Int))).run Try.prog w = .ok (.slice (some ⟨w.heap.size, 0, none⟩) n n) (w.alloc (.cells (List.replicate n (.bool false)).toArray 4)) := by
  obtain rfl | rfl | rfl | rfl | rfl | rfl : n = 0 ∨ n = 1 ∨ n = 2 ∨ n = 3 ∨ n = 4 ∨ n = 5 := by omega
  all_goals kernel_rfl
theorem rowAt_new {w : World} {vs : List Value} {t : TypeId} : rowAt (w.alloc (.cells vs.toArray t)) w.heap.size vs := by
  intro k v hk
  have hlt : k < vs.length := (List.getElem?_eq_some_iff.1 hk).1
  have hv : vs[k] = v := by rw [List.getElem?_eq_getElem hlt] at hk; exact Option.some.inj hk
  constructor
  · simp [go_sem, hlt, hv]
  · simp [go_sem]
theorem zeros_row {w : World} {n : Nat} {t : TypeId} : rowAt (w.alloc (.cells (List.replicate n (.int .i64 0)).toArray t)) w.heap.size ((List.replicate n 0).map intV) := by
  rw [List.map_replicate]
  exact rowAt_new
theorem edges_take {rs : List Rul} {i : Nat} (h : i < rs.length) : edges (rs.take (i + 1)) = edges (rs.take i) ++ rs[i].body.map (edgeOf rs[i]) := by
  unfold edges
  rw [List.take_succ_eq_append_getElem h, List.flatMap_append, List.flatMap_cons, List.flatMap_nil, List.append_nil]
theorem map_take_succ {r : Rul} {k : Nat} (h : k < r.body.length) : (r.body.take (k + 1)).map (edgeOf r) = (r.body.take k).map (edgeOf r) ++ [edgeOf r r.body[k]] := by
  rw [List.take_succ_eq_append_getElem h, List.map_append]
  rfl

theorem edges_few {rs : List Rul} (h8 : rs.length ≤ 8) (h3 : ∀ r ∈ rs, r.body.length ≤ 3) : (edges rs).length ≤ 24 := by
  have : ∀ rs : List Rul, (∀ r ∈ rs, r.body.length ≤ 3) → (edges rs).length ≤ rs.length * 3 := by
    intro rs
    induction rs with
    | nil => intro _; simp [edges]
    | cons r rs ih =>
      intro h
      have h1 := ih fun x hx => h x (by simp [hx])
      have h2 := h r (by simp)
      have e : edges (r :: rs) = r.body.map (edgeOf r) ++ edges rs := rfl
      rw [e, List.length_append, List.length_map, List.length_cons]
      omega
  have := this rs h3
  omega
theorem within_part {ps : List Prd} {rs : List Rul} {r : Rul} {q : Nat} (h : ∀ x ∈ rs, Right ps x) (hr : Right ps r) : Within (edges rs ++ (r.body.take q).map (edgeOf r)) ps.length := by
  intro e he
  rcases List.mem_append.1 he with he | he
  · exact within_edges h e he
  · obtain ⟨l, hl, rfl⟩ := List.mem_map.1 he
    exact ⟨hr.head.1, (hr.body l (List.mem_of_mem_take hl)).1⟩
theorem part_raised {E : List Strata.Edge} {l m : List Nat} {n : Nat} (hW : Within E n) (hl : l.length = n) (hm : m = roundL E l) {e : Strata.Edge} (he : e.h < n) (hr : at_ m e.h < at_ m e.b + e.up) : Hid (m.set e.h (at_ m e.b + e.up) = roundL (E ++ [e]) l) ∧ decide (m.set e.h (at_ m e.b + e.up) = l) = false := by
  have h1 : Strata.step m e = m.set e.h (at_ m e.b + e.up) := by rw [Strata.step, if_pos hr]
  rw [← h1]
  refine ⟨?_, decide_eq_false (round_ne hW he hl hm hr)⟩
  show _ = _
  rw [round_snoc, hm]
theorem part_same {E : List Strata.Edge} {l m : List Nat} (hm : m = roundL E l) {e : Strata.Edge} (hr : ¬ at_ m e.h < at_ m e.b + e.up) : Hid (m = roundL (E ++ [e]) l) := by
  show _ = _
  rw [round_snoc, ← hm, Strata.step, if_neg hr]
theorem set_bound {m : List Nat} {c h v : Nat} (hb : ∀ j, at_ m j ≤ c) (hh : h < m.length) (hv : v ≤ c + 1) (j : Nat) : at_ (m.set h v) j ≤ c + 1 := by
  rw [at_set hh]
  split
  · exact hv
  · have := hb j; omega
theorem found {E : List Strata.Edge} {n t : Nat} {l m : List Nat} {o : Option (List Nat)} (ht : t ≤ n * n + 1) (hse : search E (n * n + 2 - t) l = o) (hm : m = roundL E l) : (decide (m = l) = true → o = some m) ∧ (decide (m = l) = false → search E (n * n + 2 - (t + 1)) m = o) := by
  rw [show n * n + 2 - t = (n * n + 2 - (t + 1)) + 1 by omega, search] at hse
  constructor
  · intro h
    have h := of_decide_eq_true h
    rw [if_pos (by rw [← hm, h])] at hse
    rw [← hse, h]
  · intro h
    have h := of_decide_eq_false h
    rw [if_neg (by rw [← hm]; exact h), ← hm] at hse
    exact hse
theorem below_alloc' {n : Nat} (w : World) (o : Obj) (h : n ≤ w.heap.size) : Below n w (w.alloc o) := (Below.refl _ _).alloc h o

set_option maxRecDepth 100000 in
set_option maxHeartbeats 4000000 in
theorem strata_c (w : World) (pv rv : Value) (ps : List Prd) (rs : List Rul) (hp : predsAt w pv ps) (hr : rulesAt w rv rs) (h5 : ps.length ≤ 5) (h8 : rs.length ≤ 8) (hok : ∀ r ∈ rs, Right ps r) :
    Calls Try.prog 37 #[.agg #[pv, rv]] w fun e w' => (∃ v, e = .returned (.tuple #[v, .bool (strataL (edges rs) ps.length).isSome]) ∧ ∀ l, strataL (edges rs) ps.length = some l → intsAt w' v l) ∧ Below w.heap.size w w' := by
  have HP : Hid (predsAt w pv ps) := hp
  have HR : Hid (rulesAt w rv rs) := hr
  obtain ⟨pa, pc, rfl, hpm, hpx⟩ := hp
  obtain ⟨ra, rc, rfl, hrm, hrx⟩ := hr
  clear hpx hrx
  have hmk := @make_ints _ h5
  have HK : Hid (∀ r ∈ rs, Right ps r) := hok
  clear hok
  go_enter Try.func37, Try.ntmps37
  go_wp2_with fail
  clear hmk
  have hsq : ps.length * ps.length ≤ 25 := Nat.mul_le_mul h5 h5
  have hsq' : (ps.length : Int) * (ps.length : Int) ≤ 25 := by exact_mod_cast hsq
  have hsq0 : (0 : Int) ≤ (ps.length : Int) * (ps.length : Int) := by exact_mod_cast Nat.zero_le (ps.length * ps.length)
  have HE : Hid (Within (edges rs) ps.length) := within_edges HK.out
  have hE24 : (edges rs).length ≤ 24 := edges_few h8 fun r hr => (HK.out r hr).few
  have S0 : Hid (search (edges rs) (ps.length * ps.length + 2) (List.replicate ps.length 0) = strataL (edges rs) ps.length) := rfl
  have hB : Hid (∀ x, Below (w.heap.size + 1) (w.alloc (.cells #[.slice pa ps.length pc, .slice ra rs.length rc] 25)) x → Below w.heap.size w x) := fun x h => (below_alloc _ _).trans (h.mono (by omega))
  go_loopw [5] (fun i wr => ∃ (t : Nat) (l : List Nat), t ≤ ps.length * ps.length + 2 ∧ i = .int .i64 t ∧ l.length = ps.length ∧ Hid (search (edges rs) (ps.length * ps.length + 2 - t) l = strataL (edges rs) ps.length) ∧ (∀ k, at_ l k ≤ t * 24) ∧
    rowAt wr (w.heap.size + 1) (l.map intV) ∧ w.heap.size + 1 < wr.heap.size ∧ Below (w.heap.size + 1) (w.alloc (.cells #[.slice pa ps.length pc, .slice ra rs.length rc] 25)) wr) (fun i _ => ps.length * ps.length + 2 - (intOf i).toNat)
  case atStart =>
    refine ⟨0, List.replicate ps.length 0, by omega, rfl, by simp, S0.out, fun k => by rw [zeros]; omega, ?_, by simp, below_alloc' _ _ (by simp)⟩
    have := zeros_row (w := w.alloc (.cells #[.slice pa ps.length pc, .slice ra rs.length rc] 25)) (n := ps.length) (t := 3)
    rwa [World.size_alloc] at this
  case round =>
    obtain ⟨t, l, ht, rfl, hl, hse, hbd, hrow, hsz, hbr⟩ := hrel
    have c0 : wr.cell? ⟨w.heap.size, 0, none⟩ = some (.slice pa ps.length pc) := by rw [hbr.cell (p := ⟨w.heap.size, 0, none⟩) (by simp)]; simp [go_sem]
    have c1 : wr.cell? ⟨w.heap.size, 1, none⟩ = some (.slice ra rs.length rc) := by rw [hbr.cell (p := ⟨w.heap.size, 1, none⟩) (by simp)]; simp [go_sem]
    by_cases hlt : t ≤ ps.length * ps.length + 1
    · have hlt' : (t : Int) ≤ (ps.length : Int) * (ps.length : Int) + 1 := by exact_mod_cast hlt
      go_wp2_with fail
      have HSE : Hid (l.length = ps.length) := hl
      go_loopw [6, 7] (fun sm i wr2 => ∃ (k : Nat) (m : List Nat), k ≤ rs.length ∧ i = .int .i64 k ∧ Hid (m = roundL (edges (rs.take k)) l) ∧ m.length = ps.length ∧ sm = .bool (decide (m = l)) ∧ (∀ j, at_ m j ≤ t * 24 + (edges (rs.take k)).length) ∧
        rowAt wr2 (w.heap.size + 1) (m.map intV) ∧ w.heap.size + 1 < wr2.heap.size ∧ Below (w.heap.size + 1) (w.alloc (.cells #[.slice pa ps.length pc, .slice ra rs.length rc] 25)) wr2) (fun _ i _ => rs.length - (intOf i).toNat)
      case atStart => exact ⟨0, l, Nat.zero_le _, rfl, rfl, hl, by simp, fun j => by have := hbd j; simp [edges]; omega, hrow, hsz, hbr⟩
      case round =>
        clear hrow hsz hbr c0 c1
        obtain ⟨k, m, hk, rfl, hm, hml, rfl, hbm, hrow, hsz, hbr⟩ := hrel
        have c1 : wr.cell? ⟨w.heap.size, 1, none⟩ = some (.slice ra rs.length rc) := by rw [hbr.cell (p := ⟨w.heap.size, 1, none⟩) (by simp)]; simp [go_sem]
        by_cases hkl : k < rs.length
        · obtain ⟨rb, ro, rc', hv, hrb, hcells⟩ := slice_cells HR.out hkl
          obtain ⟨rfl, rfl⟩ : ra = some ⟨rb, ro, none⟩ ∧ rc = rc' := by simpa using hv
          have hbw := hB.out _ hbr
          have hrb' : rb < wr.heap.size := Nat.lt_of_lt_of_le hrb hbw.size
          obtain ⟨t0, ⟨hv', t1, t1'⟩, t2, t3, bv, t4, t5⟩ := hcells
          have HLIT : Hid (litsAt w bv rs[k].body) := t5
          obtain ⟨ba, bc, rfl, hblen, _⟩ := t5
          obtain ⟨ha, hc, rfl, _⟩ := t1'
          replace t0 := (cell_lasts hbw hrb).trans t0
          replace t1 := (cell_lasts hbw hrb).trans t1
          replace t2 := (cell_lasts hbw hrb).trans t2
          replace t3 := (cell_lasts hbw hrb).trans t3
          replace t4 := (cell_lasts hbw hrb).trans t4
          have HRT : Hid (Right ps rs[k]) := HK.out _ (List.getElem_mem hkl)
          have HET : Hid (edges (rs.take (k + 1)) = edges (rs.take k) ++ rs[k].body.map (edgeOf rs[k])) := edges_take hkl
          have hkl0 : (0 : Int) ≤ (k : Int) := by omega
          have hkl1 : (k : Int) < (rs.length : Int) := by omega
          clear hv
          generalize hre : rs[k] = r at *
          go_wp2_with fail
          have hRh := HRT.out.head
          obtain ⟨eh, heh⟩ : ∃ eh : Nat, r.head.pred = (eh : Int) := ⟨_, hRh.2⟩
          have hehn : eh < ps.length := by have := hRh.1; rw [heh] at this; simpa using this
          have HEO : Hid (∀ x, edgeOf r x = ⟨eh, x.atom.pred.toNat, x.neg⟩) := fun x => by rw [edgeOf, heh]; rfl
          have H3 : Hid (r.body.length ≤ 3) := HRT.out.few
          have hfew : (edges (rs.take k)).length ≤ 24 := by
            have := HET.out
            refine edges_few (rs := rs.take k) (by rw [List.length_take]; omega) fun x hx => (HK.out x (List.mem_of_mem_take hx)).few
          obtain ⟨R, hR⟩ : ∃ R, wr.heap.size = R := ⟨_, rfl⟩
          obtain ⟨W0, hW0⟩ : ∃ W0, wr.alloc (.cells #[.int .i64 r.head.pred, .slice ha r.head.args.length hc, .int .i64 r.src, .int .i64 r.n, .slice ba r.body.length bc] 48) = W0 := ⟨_, rfl⟩
          have hWR : Below wr.heap.size wr W0 := by rw [← hW0]; exact below_alloc _ _
          have d0 : W0.cell? ⟨R, 0, none⟩ = some (.int .i64 (eh : Int)) := by rw [← hW0, ← hR, ← heh]; simp [go_sem]
          have d4 : W0.cell? ⟨R, 4, none⟩ = some (.slice ba r.body.length bc) := by rw [← hW0, ← hR]; simp [go_sem]
          have hs0 : W0.heap.size = R + 1 := by rw [← hW0, ← hR]; simp
          have hbr0 : Below (w.heap.size + 1) (w.alloc (.cells #[.slice pa ps.length pc, .slice (some ⟨rb, ro, none⟩) rs.length rc] 25)) W0 := hbr.trans (hWR.mono (by omega))
          have hrow0 : rowAt W0 (w.heap.size + 1) (m.map intV) := hrow.below hWR hsz
          have hRs : w.heap.size + 1 < R := by omega
          rw [hW0, hR]
          clear hWR hbr hrow hsz t0 t1 t2 t3 t4 hrb' c1 hbw
          clear hW0 hR
          go_loopw [6, 9] (fun sm i wr3 => ∃ (q : Nat) (m' : List Nat), q ≤ r.body.length ∧ i = .int .i64 q ∧ Hid (m' = roundL (edges (rs.take k) ++ (r.body.take q).map (edgeOf r)) l) ∧ m'.length = ps.length ∧ sm = .bool (decide (m' = l)) ∧ (∀ j, at_ m' j ≤ t * 24 + (edges (rs.take k)).length + q) ∧
            rowAt wr3 (w.heap.size + 1) (m'.map intV) ∧ R < wr3.heap.size ∧ Below (w.heap.size + 1) (w.alloc (.cells #[.slice pa ps.length pc, .slice (some ⟨rb, ro, none⟩) rs.length rc] 25)) wr3 ∧
            wr3.cell? ⟨R, 0, none⟩ = some (.int .i64 (eh : Int)) ∧ wr3.cell? ⟨R, 4, none⟩ = some (.slice ba r.body.length bc)) (fun _ i _ => r.body.length - (intOf i).toNat)
          case atStart => exact ⟨0, m, Nat.zero_le _, rfl, by rw [List.take_zero, List.map_nil, List.append_nil]; exact hm, hml, rfl, fun j => by have := hbm j; omega, hrow0, by omega, hbr0, d0, d4⟩
          case round =>
            clear hbm hml hrow0 hbr0 hm d0 d4
            obtain ⟨q, m, hq, rfl, hm, hml, rfl, hbm, hrow, hsz, hbr, d0, d4⟩ := hrel
            by_cases hql : q < r.body.length
            · have hbw := hB.out _ hbr
              obtain ⟨lb, lo, lc', hv, hlb, hcells⟩ := slice_cells HLIT.out hql
              obtain ⟨rfl, rfl⟩ : ba = some ⟨lb, lo, none⟩ ∧ bc = lc' := by simpa using hv
              obtain ⟨l0, l1, _⟩ := hcells
              replace l0 := (cell_lasts hbw hlb).trans l0
              replace l1 := (cell_lasts hbw hlb).trans l1
              have hRb := HRT.out.body _ (List.getElem_mem hql)
              have HS := map_take_succ hql
              rw [HEO.out] at HS
              obtain ⟨eb, heb⟩ : ∃ eb : Nat, r.body[q].atom.pred = (eb : Int) := ⟨_, hRb.2⟩
              have hebn : eb < ps.length := by have := hRb.1; rw [heb] at this; simpa using this
              rw [heb] at l1
              rw [heb, Int.toNat_natCast] at HS
              have HS' : Hid _ := HS
              clear HS hv hRb heb
              have hq0 : (0 : Int) ≤ (q : Int) := by omega
              have hq1 : (q : Int) < (r.body.length : Int) := by omega
              have f0 := ints_at hrow (k := eb) (by omega)
              have f1 := ints_at hrow (k := eh) (by omega)
              have g1 : (eb : Int) < (ps.length : Int) := by omega
              have g2 : (eh : Int) < (ps.length : Int) := by omega
              have hbnd : at_ m eb ≤ 10000 := by have := hbm eb; have := H3.out; omega
              have hbnd' : at_ m eh ≤ 10000 := by have := hbm eh; have := H3.out; omega
              obtain ⟨f0, _⟩ := f0
              obtain ⟨f1, f2⟩ := f1
              have HW : Hid (Within (edges (rs.take k) ++ (r.body.take q).map (edgeOf r)) ps.length) := within_part (fun x hx => HK.out x (List.mem_of_mem_take hx)) HRT.out
              generalize hne : r.body[q].neg = ng at *
              generalize hae : at_ m eb = ab at *
              generalize hah : at_ m eh = ah at *
              cases ng
              · have hup : (⟨eh, eb, false⟩ : Strata.Edge).up = 0 := rfl
                have P1 := part_raised HW.out HSE.out hm.out (e := ⟨eh, eb, false⟩) hehn
                have P2 := part_same hm.out (e := ⟨eh, eb, false⟩)
                rw [hup] at P1 P2
                rw [hae, hah] at P1 P2
                by_cases hlt2 : ah < ab
                · obtain ⟨P1, P1'⟩ := P1 (by simpa using hlt2)
                  have HP1 : Hid _ := P1
                  clear P2 P1
                  go_wp2_with fail
                  refine ⟨⟨q + 1, m.set eh (ab), by omega, by go_num, ?_, by rw [List.length_set]; exact hml, ?_, ?_, ?_, by rw [size_set]; exact hsz, hbr.setCell (p := ⟨w.heap.size + 1, eh, none⟩) (by simp) _, ?_, ?_⟩, by simp [intOf]; omega⟩
                  · rw [HS'.out, ← List.append_assoc]
                    exact HP1.out
                  · rw [show ab = ab + 0 from rfl, P1']
                  · exact set_bound (c := t * 24 + (edges (rs.take k)).length + q) hbm (by omega) (by have hq9 := hbm eb; rw [hae] at hq9; omega)
                  · exact ints_set hrow (by omega) (ab)
                  · rw [cell_block (by omega)]; exact d0
                  · rw [cell_block (by omega)]; exact d4
                · have P2 := P2 (by simpa using hlt2)
                  clear P1
                  go_wp2_with fail
                  refine ⟨⟨q + 1, m, by omega, by go_num, ?_, hml, rfl, fun j => by have := hbm j; omega, hrow, hsz, hbr, d0, d4⟩, by simp [intOf]; omega⟩
                  rw [HS'.out, ← List.append_assoc]
                  exact P2.out
              · have hup : (⟨eh, eb, true⟩ : Strata.Edge).up = 1 := rfl
                have P1 := part_raised HW.out HSE.out hm.out (e := ⟨eh, eb, true⟩) hehn
                have P2 := part_same hm.out (e := ⟨eh, eb, true⟩)
                rw [hup] at P1 P2
                rw [hae, hah] at P1 P2
                by_cases hlt2 : ah < ab + 1
                · obtain ⟨P1, P1'⟩ := P1 (by simpa using hlt2)
                  have HP1 : Hid _ := P1
                  clear P2 P1
                  go_wp2_with fail
                  refine ⟨⟨q + 1, m.set eh (ab + 1), by omega, by go_num, ?_, by rw [List.length_set]; exact hml, ?_, ?_, ?_, by rw [size_set]; exact hsz, hbr.setCell (p := ⟨w.heap.size + 1, eh, none⟩) (by simp) _, ?_, ?_⟩, by simp [intOf]; omega⟩
                  · rw [HS'.out, ← List.append_assoc]
                    exact HP1.out
                  · rw [show ab + 1 = ab + 1 from rfl, P1']
                  · exact set_bound (c := t * 24 + (edges (rs.take k)).length + q) hbm (by omega) (by have hq9 := hbm eb; rw [hae] at hq9; omega)
                  · exact ints_set hrow (by omega) (ab + 1)
                  · rw [cell_block (by omega)]; exact d0
                  · rw [cell_block (by omega)]; exact d4
                · have P2 := P2 (by simpa using hlt2)
                  clear P1
                  go_wp2_with fail
                  refine ⟨⟨q + 1, m, by omega, by go_num, ?_, hml, rfl, fun j => by have := hbm j; omega, hrow, hsz, hbr, d0, d4⟩, by simp [intOf]; omega⟩
                  rw [HS'.out, ← List.append_assoc]
                  exact P2.out
            · obtain rfl : q = r.body.length := by omega
              go_wp2_with fail
              refine ⟨⟨k + 1, m, by omega, by go_num, ?_, hml, rfl, ?_, hrow, by omega, hbr⟩, by simp [intOf]; omega⟩
              · rw [HET.out]
                have := hm.out
                rw [List.take_length] at this
                exact this
              · intro j
                rw [HET.out, List.length_append, List.length_map]
                have := hbm j
                omega
        · obtain rfl : k = rs.length := by omega
          have HF := found hlt hse.out (m := m) (by have := hm.out; rwa [List.take_length] at this)
          rw [List.take_length] at hbm
          generalize hd : decide (m = l) = sd at *
          cases sd
          · have HF' : Hid _ := HF.2 rfl
            clear HF
            go_wp2_with fail
            exact ⟨⟨t + 1, m, by omega, by go_num, hml, HF'.out, fun j => by have := hbm j; omega, hrow, hsz, hbr⟩, by simp [intOf]; omega⟩
          · have HF' : Hid (strataL (edges rs) ps.length = some m) := HF.1 rfl
            clear HF
            go_wp2_with fail
            go_ret2
            refine ⟨⟨_, by rw [HF'.out]; rfl, fun l' hl' => ?_⟩, hB.out _ hbr⟩
            rw [HF'.out] at hl'
            obtain rfl := Option.some.inj hl'
            have := intsAt_of (cap := ps.length) hrow (by omega) hsz
            rwa [hml] at this
    · have HN : Hid (strataL (edges rs) ps.length = none) := by
        have := hse.out
        rw [show ps.length * ps.length + 2 - t = 0 by omega] at this
        exact this.symm
      have hlt' : ¬ (t : Int) ≤ (ps.length : Int) * (ps.length : Int) + 1 := by exact_mod_cast hlt
      go_wp2_with fail
      go_ret2
      exact ⟨⟨_, by rw [HN.out]; rfl, fun l' hl' => by rw [HN.out] at hl'; cases hl'⟩, hB.out _ hbr⟩
end Go.Proofs.Ytgbacodellfacab.Prog
