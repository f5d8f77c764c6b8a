/-
  What the document's own reckoning of programs answers: names, and lists of numbers held against each other.
-/
import Derived.Test.YtlfccloaoopadafGreatDoorG8
import Derived.Test.YtlfccloaoopadafGreatDoorG6
import Derived.Test.YtlfccloaoopadafGreatDoorG2
namespace Go.Proofs.YtlfccloaoopadafGreatDoor.Prog
open Go.ChangeShapes Go.WideShapes Go.ChangeAt Go.RowKit
open Lat (within within_c)
open Strata

theorem bytes_length (s : ByteArray) : (bytes s).length = s.size := by
  unfold bytes
  rw [List.length_map, Array.length_toList]
  rfl
theorem bytes_at {s : ByteArray} {j : Nat} (h : j < s.size) (h' : j < (bytes s).length) : (bytes s)[j] = s[j].toNat := by
  have e : (bytes s)[j]? = some s[j].toNat := by
    unfold bytes
    rw [List.getElem?_map, Array.getElem?_toList, Array.getElem?_eq_getElem h]
    rfl
  rw [List.getElem?_eq_getElem h'] at e
  exact Option.some.inj e
theorem letter_iff {b : Nat} : letter b = true ↔ 97 ≤ (b : Int) ∧ (b : Int) ≤ 122 := by
  unfold letter
  rw [Bool.and_eq_true, decide_eq_true_eq, decide_eq_true_eq]
  omega
theorem letter_not {b : Nat} (h : ¬ (97 ≤ (b : Int) ∧ (b : Int) ≤ 122)) : letter b = false := by
  cases hl : letter b
  · rfl
  · exact absurd (letter_iff.1 hl) h

set_option maxRecDepth 100000 in
set_option maxHeartbeats 4000000 in
theorem isName_c (w : World) (s : ByteArray) (hm : s.size ≤ 9223372036854775807) :
    Calls Tryz.prog 23 #[.string s] w fun e w' => e = .returned (.bool (isName s)) ∧ Below w.heap.size w w' := by
  go_enter Tryz.func23, Tryz.ntmps23
  go_wp2_with fail
  go_loopw [3] (fun i wr => ∃ j : Nat, j ≤ s.size ∧ i = .int .i64 j ∧ ((bytes s).take j).all letter = true ∧ Below w.heap.size w wr) (fun i _ => s.size - (intOf i).toNat)
  case atStart => exact ⟨0, Nat.zero_le _, rfl, rfl, Below.refl _ _⟩
  case round =>
    obtain ⟨j, hj, rfl, hall, hbw⟩ := hrel
    by_cases hlt : j < s.size
    · have hlt' : j < (bytes s).length := by rw [bytes_length]; exact hlt
      have HT : Hid (letter s[j].toNat = true → ((bytes s).take (j + 1)).all letter = true) := fun h => by rw [all_take hlt', hall, bytes_at hlt, h]; rfl
      have HN : Hid (letter s[j].toNat = false → isName s = false) := fun h => by rw [isName, all_not hlt' (by rw [bytes_at hlt]; exact h)]; rfl
      clear hall
      go_wp2_with fail
      case roundEnd =>
        rename_i h2
        refine ⟨⟨j + 1, by omega, by go_num, HT.out (letter_iff.2 h2), hbw⟩, ?_⟩
        simp [intOf]; omega
      all_goals
        go_ret
        exact ⟨by rw [HN.out (letter_not (by omega))]; rfl, hbw⟩
    · have HN : Hid (isName s = within (s.size : Int) 1 8) := by
        have : (bytes s).all letter = true := all_take_end (by rw [bytes_length]; exact hlt) hall
        show _ = _
        rw [isName, this, Bool.true_and]
      clear hall
      obtain rfl : j = s.size := by omega
      go_wp2_with (first | (go_at_call 24; refine (within_c _ _ _ _).mono ?_; rintro e w1 ⟨rfl, rfl⟩))
      go_ret
      exact ⟨by rw [HN.out]; rfl, hbw⟩

/-! ### Lists of numbers, of truths -/
def intAt (w : World) (b o : Nat) (x : Nat) : Prop := w.cell? ⟨b, o, none⟩ = some (.int .i64 (x : Int))
abbrev intsAt : World → Value → List Nat → Prop := sliceAt 1 intAt
def boolAt (w : World) (b o : Nat) (x : Bool) : Prop := w.cell? ⟨b, o, none⟩ = some (.bool x)
abbrev boolsAt : World → Value → List Bool → Prop := sliceAt 1 boolAt
theorem intAt.lasts : Lasts intAt := fun _ _ _ _ _ hb hlt h => (cell_lasts hb hlt).trans h
theorem intsAt.lasts {w w' : World} {v : Value} {xs : List Nat} (hb : Below w.heap.size w w') (h : intsAt w v xs) : intsAt w' v xs := sliceAt.lasts intAt.lasts hb h
theorem boolAt.lasts : Lasts boolAt := fun _ _ _ _ _ hb hlt h => (cell_lasts hb hlt).trans h
theorem boolsAt.lasts {w w' : World} {v : Value} {xs : List Bool} (hb : Below w.heap.size w w') (h : boolsAt w v xs) : boolsAt w' v xs := sliceAt.lasts boolAt.lasts hb h
theorem slice_cells {α : Type} {sz : Nat} {At : World → Nat → Nat → α → Prop} {w : World} {v : Value} {f : List α} (h : sliceAt sz At w v f) {j : Nat} (hj : j < f.length) : ∃ b off cap, v = .slice (some ⟨b, off, none⟩) f.length cap ∧ b < w.heap.size ∧ At w b (off + j * sz) f[j] := by
  obtain ⟨a, cap, rfl, hm, hx⟩ := h
  rcases hx with rfl | ⟨b, off, rfl, hb, hx⟩
  · simp at hj
  · exact ⟨b, off, cap, rfl, hb, hx j f[j] (by simp [hj])⟩
theorem take_same {α : Type} {f g : List α} {j : Nat} (h1 : j < f.length) (h2 : j < g.length) : f.take (j + 1) = g.take (j + 1) ↔ f.take j = g.take j ∧ f[j] = g[j] := by
  rw [List.take_succ_eq_append_getElem h1, List.take_succ_eq_append_getElem h2]
  constructor
  · intro h
    have := List.append_inj' h rfl
    exact ⟨this.1, by simpa using this.2⟩
  · rintro ⟨h, h'⟩
    rw [h, h']

end Go.Proofs.YtlfccloaoopadafGreatDoor.Prog

/-
  What the document's own 'strata' answers: the least numbers, round by round.
-/
namespace Go.Proofs.YtlfccloaoopadafGreatDoor.Prog
open Go.ChangeShapes Go.WideShapes Go.ChangeAt Go.RowKit
open Lat (within within_c)
open Strata

/-- a row of cells, unfrozen -/
def rowAt (w : World) (B : Nat) (vs : List Value) : Prop := ∀ k v, vs[k]? = some v → w.cell? ⟨B, k, none⟩ = some v ∧ w.frozen? ⟨B, k, none⟩ = false
theorem rowAt.set {w : World} {B k : Nat} {vs : List Value} (h : rowAt w B vs) (hk : k < vs.length) (v : Value) : rowAt (w.setCell ⟨B, k, none⟩ v) B (vs.set k v) := by
  intro j u hj
  rw [frozen_set]
  by_cases e : j = k
  · subst e
    rw [List.getElem?_set_self hk] at hj
    cases hj
    have := h j vs[j] (by simp [hk])
    exact ⟨cell_set this.1, this.2⟩
  · rw [List.getElem?_set_ne (fun q => e q.symm)] at hj
    rw [cell_off (fun q => e q.symm)]
    exact h j u hj
theorem rowAt.other {w : World} {B B' o : Nat} {vs : List Value} (h : rowAt w B vs) (hne : B' ≠ B) (u : Value) : rowAt (w.setCell ⟨B', o, none⟩ u) B vs := fun k v hk => by
  rw [frozen_set, cell_block hne]
  exact h k v hk
theorem rowAt.below {w w' : World} {B n : Nat} {vs : List Value} (h : rowAt w B vs) (hb : Below n w w') (hB : B < n) : rowAt w' B vs := fun k v hk => by
  rw [hb.cell (p := ⟨B, k, none⟩) hB, hb.frozen (p := ⟨B, k, none⟩) hB]
  exact h k v hk
def intV (x : Nat) : Value := .int .i64 (x : Int)
theorem ints_at {w : World} {B : Nat} {l : List Nat} (h : rowAt w B (l.map intV)) {k : Nat} (hk : k < l.length) : w.cell? ⟨B, k, none⟩ = some (.int .i64 (at_ l k : Int)) ∧ w.frozen? ⟨B, k, none⟩ = false := by
  refine h k _ ?_
  rw [List.getElem?_map, List.getElem?_eq_getElem hk, at_, List.getD_eq_getElem?_getD, List.getElem?_eq_getElem hk]
  rfl
theorem ints_set {w : World} {B : Nat} {l : List Nat} (h : rowAt w B (l.map intV)) {k : Nat} (hk : k < l.length) (x : Nat) : rowAt (w.setCell ⟨B, k, none⟩ (.int .i64 (x : Int))) B ((l.set k x).map intV) := by
  have := h.set (k := k) (by simpa using hk) (intV x)
  rwa [← List.map_set] at this
theorem intsAt_of {w : World} {B cap : Nat} {l : List Nat} (h : rowAt w B (l.map intV)) (hl : l.length ≤ 140737488355328) (hB : B < w.heap.size) : intsAt w (.slice (some ⟨B, 0, none⟩) l.length cap) l :=
  ⟨_, cap, rfl, hl, .inr ⟨B, 0, rfl, hB, fun i x hi => by
    have := (h i (intV x) (by rw [List.getElem?_map, hi]; rfl)).1
    rw [Nat.mul_one, Nat.zero_add]
    exact this⟩⟩
theorem make_ints {n : Nat} (h : n ≤ 5) (w : World) : (Instr.makeSlice 61 (.int .i64 (n : Int)) (.int .i64 (n : Int))).run Tryz.prog w = .ok (.slice (some ⟨w.heap.size, 0, none⟩) n n) (w.alloc (.cells (List.replicate n (.int .i64 0)).toArray 3)) := by
  obtain rfl | rfl | rfl | rfl | rfl | rfl : n = 0 ∨ n = 1 ∨ n = 2 ∨ n = 3 ∨ n = 4 ∨ n = 5 := by omega
  all_goals kernel_rfl
theorem rowAt_new {w : World} {vs : List Value} {t : TypeId} : rowAt (w.alloc (.cells vs.toArray t)) w.heap.size vs := by
  intro k v hk
  have hlt : k < vs.length := (List.getElem?_eq_some_iff.1 hk).1
  have hv : vs[k] = v := by rw [List.getElem?_eq_getElem hlt] at hk; exact Option.some.inj hk
  constructor
  · simp [go_sem, hlt, hv]
  · simp [go_sem]
theorem zeros_row {w : World} {n : Nat} {t : TypeId} : rowAt (w.alloc (.cells (List.replicate n (.int .i64 0)).toArray t)) w.heap.size ((List.replicate n 0).map intV) := by
  rw [List.map_replicate]
  exact rowAt_new
theorem edges_take {rs : List Rul} {i : Nat} (h : i < rs.length) : edges (rs.take (i + 1)) = edges (rs.take i) ++ rs[i].body.map (edgeOf rs[i]) := by
  unfold edges
  rw [List.take_succ_eq_append_getElem h, List.flatMap_append, List.flatMap_cons, List.flatMap_nil, List.append_nil]
theorem map_take_succ {r : Rul} {k : Nat} (h : k < r.body.length) : (r.body.take (k + 1)).map (edgeOf r) = (r.body.take k).map (edgeOf r) ++ [edgeOf r r.body[k]] := by
  rw [List.take_succ_eq_append_getElem h, List.map_append]
  rfl

theorem edges_few {rs : List Rul} (h8 : rs.length ≤ 8) (h3 : ∀ r ∈ rs, r.body.length ≤ 3) : (edges rs).length ≤ 24 := by
  have : ∀ rs : List Rul, (∀ r ∈ rs, r.body.length ≤ 3) → (edges rs).length ≤ rs.length * 3 := by
    intro rs
    induction rs with
    | nil => intro _; simp [edges]
    | cons r rs ih =>
      intro h
      have h1 := ih fun x hx => h x (by simp [hx])
      have h2 := h r (by simp)
      have e : edges (r :: rs) = r.body.map (edgeOf r) ++ edges rs := rfl
      rw [e, List.length_append, List.length_map, List.length_cons]
      omega
  have := this rs h3
  omega
theorem within_part {ps : List Prd} {rs : List Rul} {r : Rul} {q : Nat} (h : ∀ x ∈ rs, Right ps x) (hr : Right ps r) : Within (edges rs ++ (r.body.take q).map (edgeOf r)) ps.length := by
  intro e he
  rcases List.mem_append.1 he with he | he
  · exact within_edges h e he
  · obtain ⟨l, hl, rfl⟩ := List.mem_map.1 he
    exact ⟨hr.head.1, (hr.body l (List.mem_of_mem_take hl)).1⟩
theorem part_raised {E : List Strata.Edge} {l m : List Nat} {n : Nat} (hW : Within E n) (hl : l.length = n) (hm : m = roundL E l) {e : Strata.Edge} (he : e.h < n) (hr : at_ m e.h < at_ m e.b + e.up) : Hid (m.set e.h (at_ m e.b + e.up) = roundL (E ++ [e]) l) ∧ decide (m.set e.h (at_ m e.b + e.up) = l) = false := by
  have h1 : Strata.step m e = m.set e.h (at_ m e.b + e.up) := by rw [Strata.step, if_pos hr]
  rw [← h1]
  refine ⟨?_, decide_eq_false (round_ne hW he hl hm hr)⟩
  show _ = _
  rw [round_snoc, hm]
theorem part_same {E : List Strata.Edge} {l m : List Nat} (hm : m = roundL E l) {e : Strata.Edge} (hr : ¬ at_ m e.h < at_ m e.b + e.up) : Hid (m = roundL (E ++ [e]) l) := by
  show _ = _
  rw [round_snoc, ← hm, Strata.step, if_neg hr]
theorem set_bound {m : List Nat} {c h v : Nat} (hb : ∀ j, at_ m j ≤ c) (hh : h < m.length) (hv : v ≤ c + 1) (j : Nat) : at_ (m.set h v) j ≤ c + 1 := by
  rw [at_set hh]
  split
  · exact hv
  · have := hb j; omega
theorem found {E : List Strata.Edge} {n t : Nat} {l m : List Nat} {o : Option (List Nat)} (ht : t ≤ n * n + 1) (hse : search E (n * n + 2 - t) l = o) (hm : m = roundL E l) : (decide (m = l) = true → o = some m) ∧ (decide (m = l) = false → search E (n * n + 2 - (t + 1)) m = o) := by
  rw [show n * n + 2 - t = (n * n + 2 - (t + 1)) + 1 by omega, search] at hse
  constructor
  · intro h
    have h := of_decide_eq_true h
    rw [if_pos (by rw [← hm, h])] at hse
    rw [← hse, h]
  · intro h
    have h := of_decide_eq_false h
    rw [if_neg (by rw [← hm]; exact h), ← hm] at hse
    exact hse
theorem below_alloc' {n : Nat} (w : World) (o : Obj) (h : n ≤ w.heap.size) : Below n w (w.alloc o) := (Below.refl _ _).alloc h o

set_option maxRecDepth 100000 in
set_option maxHeartbeats 4000000 in
theorem strata_c (w : World) (pv rv : Value) (ps : List Prd) (rs : List Rul) (hp : predsAt w pv ps) (hr : rulesAt w rv rs) (h5 : ps.length ≤ 5) (h8 : rs.length ≤ 8) (hok : ∀ r ∈ rs, Right ps r) :
    Calls Tryz.prog 26 #[.agg #[pv, rv]] w fun e w' => (∃ v, e = .returned (.tuple #[v, .bool (strataL (edges rs) ps.length).isSome]) ∧ ∀ l, strataL (edges rs) ps.length = some l → intsAt w' v l) ∧ Below w.heap.size w w' := by
  have HP : Hid (predsAt w pv ps) := hp
  have HR : Hid (rulesAt w rv rs) := hr
  obtain ⟨pa, pc, rfl, hpm, hpx⟩ := hp
  obtain ⟨ra, rc, rfl, hrm, hrx⟩ := hr
  clear hpx hrx
  have hmk := @make_ints _ h5
  have HK : Hid (∀ r ∈ rs, Right ps r) := hok
  clear hok
  go_enter Tryz.func26, Tryz.ntmps26
  go_wp2_with fail
  clear hmk
  have hsq : ps.length * ps.length ≤ 25 := Nat.mul_le_mul h5 h5
  have hsq' : (ps.length : Int) * (ps.length : Int) ≤ 25 := by exact_mod_cast hsq
  have hsq0 : (0 : Int) ≤ (ps.length : Int) * (ps.length : Int) := by exact_mod_cast Nat.zero_le (ps.length * ps.length)
  have HE : Hid (Within (edges rs) ps.length) := within_edges HK.out
  have hE24 : (edges rs).length ≤ 24 := edges_few h8 fun r hr => (HK.out r hr).few
  have S0 : Hid (search (edges rs) (ps.length * ps.length + 2) (List.replicate ps.length 0) = strataL (edges rs) ps.length) := rfl
  have hB : Hid (∀ x, Below (w.heap.size + 1) (w.alloc (.cells #[.slice pa ps.length pc, .slice ra rs.length rc] 25)) x → Below w.heap.size w x) := fun x h => (below_alloc _ _).trans (h.mono (by omega))
  go_loopw [5] (fun i wr => ∃ (t : Nat) (l : List Nat), t ≤ ps.length * ps.length + 2 ∧ i = .int .i64 t ∧ l.length = ps.length ∧ Hid (search (edges rs) (ps.length * ps.length + 2 - t) l = strataL (edges rs) ps.length) ∧ (∀ k, at_ l k ≤ t * 24) ∧
    rowAt wr (w.heap.size + 1) (l.map intV) ∧ w.heap.size + 1 < wr.heap.size ∧ Below (w.heap.size + 1) (w.alloc (.cells #[.slice pa ps.length pc, .slice ra rs.length rc] 25)) wr) (fun i _ => ps.length * ps.length + 2 - (intOf i).toNat)
  case atStart =>
    refine ⟨0, List.replicate ps.length 0, by omega, rfl, by simp, S0.out, fun k => by rw [zeros]; omega, ?_, by simp, below_alloc' _ _ (by simp)⟩
    have := zeros_row (w := w.alloc (.cells #[.slice pa ps.length pc, .slice ra rs.length rc] 25)) (n := ps.length) (t := 3)
    rwa [World.size_alloc] at this
  case round =>
    obtain ⟨t, l, ht, rfl, hl, hse, hbd, hrow, hsz, hbr⟩ := hrel
    have c0 : wr.cell? ⟨w.heap.size, 0, none⟩ = some (.slice pa ps.length pc) := by rw [hbr.cell (p := ⟨w.heap.size, 0, none⟩) (by simp)]; simp [go_sem]
    have c1 : wr.cell? ⟨w.heap.size, 1, none⟩ = some (.slice ra rs.length rc) := by rw [hbr.cell (p := ⟨w.heap.size, 1, none⟩) (by simp)]; simp [go_sem]
    by_cases hlt : t ≤ ps.length * ps.length + 1
    · have hlt' : (t : Int) ≤ (ps.length : Int) * (ps.length : Int) + 1 := by exact_mod_cast hlt
      go_wp2_with fail
      have HSE : Hid (l.length = ps.length) := hl
      go_loopw [6, 7] (fun sm i wr2 => ∃ (k : Nat) (m : List Nat), k ≤ rs.length ∧ i = .int .i64 k ∧ Hid (m = roundL (edges (rs.take k)) l) ∧ m.length = ps.length ∧ sm = .bool (decide (m = l)) ∧ (∀ j, at_ m j ≤ t * 24 + (edges (rs.take k)).length) ∧
        rowAt wr2 (w.heap.size + 1) (m.map intV) ∧ w.heap.size + 1 < wr2.heap.size ∧ Below (w.heap.size + 1) (w.alloc (.cells #[.slice pa ps.length pc, .slice ra rs.length rc] 25)) wr2) (fun _ i _ => rs.length - (intOf i).toNat)
      case atStart => exact ⟨0, l, Nat.zero_le _, rfl, rfl, hl, by simp, fun j => by have := hbd j; simp [edges]; omega, hrow, hsz, hbr⟩
      case round =>
        clear hrow hsz hbr c0 c1
        obtain ⟨k, m, hk, rfl, hm, hml, rfl, hbm, hrow, hsz, hbr⟩ := hrel
        have c1 : wr.cell? ⟨w.heap.size, 1, none⟩ = some (.slice ra rs.length rc) := by rw [hbr.cell (p := ⟨w.heap.size, 1, none⟩) (by simp)]; simp [go_sem]
        by_cases hkl : k < rs.length
        · obtain ⟨rb, ro, rc', hv, hrb, hcells⟩ := slice_cells HR.out hkl
          obtain ⟨rfl, rfl⟩ : ra = some ⟨rb, ro, none⟩ ∧ rc = rc' := by simpa using hv
          have hbw := hB.out _ hbr
          have hrb' : rb < wr.heap.size := Nat.lt_of_lt_of_le hrb hbw.size
          obtain ⟨t0, ⟨hv', t1, t1'⟩, t2, t3, bv, t4, t5⟩ := hcells
          have HLIT : Hid (litsAt w bv rs[k].body) := t5
          obtain ⟨ba, bc, rfl, hblen, _⟩ := t5
          obtain ⟨ha, hc, rfl, _⟩ := t1'
          replace t0 := (cell_lasts hbw hrb).trans t0
          replace t1 := (cell_lasts hbw hrb).trans t1
          replace t2 := (cell_lasts hbw hrb).trans t2
          replace t3 := (cell_lasts hbw hrb).trans t3
          replace t4 := (cell_lasts hbw hrb).trans t4
          have HRT : Hid (Right ps rs[k]) := HK.out _ (List.getElem_mem hkl)
          have HET : Hid (edges (rs.take (k + 1)) = edges (rs.take k) ++ rs[k].body.map (edgeOf rs[k])) := edges_take hkl
          have hkl0 : (0 : Int) ≤ (k : Int) := by omega
          have hkl1 : (k : Int) < (rs.length : Int) := by omega
          clear hv
          generalize hre : rs[k] = r at *
          go_wp2_with fail
          have hRh := HRT.out.head
          obtain ⟨eh, heh⟩ : ∃ eh : Nat, r.head.pred = (eh : Int) := ⟨_, hRh.2⟩
          have hehn : eh < ps.length := by have := hRh.1; rw [heh] at this; simpa using this
          have HEO : Hid (∀ x, edgeOf r x = ⟨eh, x.atom.pred.toNat, x.neg⟩) := fun x => by rw [edgeOf, heh]; rfl
          have H3 : Hid (r.body.length ≤ 3) := HRT.out.few
          have hfew : (edges (rs.take k)).length ≤ 24 := by
            have := HET.out
            refine edges_few (rs := rs.take k) (by rw [List.length_take]; omega) fun x hx => (HK.out x (List.mem_of_mem_take hx)).few
          obtain ⟨R, hR⟩ : ∃ R, wr.heap.size = R := ⟨_, rfl⟩
          obtain ⟨W0, hW0⟩ : ∃ W0, wr.alloc (.cells #[.int .i64 r.head.pred, .slice ha r.head.args.length hc, .int .i64 r.src, .int .i64 r.n, .slice ba r.body.length bc] 54) = W0 := ⟨_, rfl⟩
          have hWR : Below wr.heap.size wr W0 := by rw [← hW0]; exact below_alloc _ _
          have d0 : W0.cell? ⟨R, 0, none⟩ = some (.int .i64 (eh : Int)) := by rw [← hW0, ← hR, ← heh]; simp [go_sem]
          have d4 : W0.cell? ⟨R, 4, none⟩ = some (.slice ba r.body.length bc) := by rw [← hW0, ← hR]; simp [go_sem]
          have hs0 : W0.heap.size = R + 1 := by rw [← hW0, ← hR]; simp
          have hbr0 : Below (w.heap.size + 1) (w.alloc (.cells #[.slice pa ps.length pc, .slice (some ⟨rb, ro, none⟩) rs.length rc] 25)) W0 := hbr.trans (hWR.mono (by omega))
          have hrow0 : rowAt W0 (w.heap.size + 1) (m.map intV) := hrow.below hWR hsz
          have hRs : w.heap.size + 1 < R := by omega
          rw [hW0, hR]
          clear hWR hbr hrow hsz t0 t1 t2 t3 t4 hrb' c1 hbw
          clear hW0 hR
          go_loopw [6, 9] (fun sm i wr3 => ∃ (q : Nat) (m' : List Nat), q ≤ r.body.length ∧ i = .int .i64 q ∧ Hid (m' = roundL (edges (rs.take k) ++ (r.body.take q).map (edgeOf r)) l) ∧ m'.length = ps.length ∧ sm = .bool (decide (m' = l)) ∧ (∀ j, at_ m' j ≤ t * 24 + (edges (rs.take k)).length + q) ∧
            rowAt wr3 (w.heap.size + 1) (m'.map intV) ∧ R < wr3.heap.size ∧ Below (w.heap.size + 1) (w.alloc (.cells #[.slice pa ps.length pc, .slice (some ⟨rb, ro, none⟩) rs.length rc] 25)) wr3 ∧
            wr3.cell? ⟨R, 0, none⟩ = some (.int .i64 (eh : Int)) ∧ wr3.cell? ⟨R, 4, none⟩ = some (.slice ba r.body.length bc)) (fun _ i _ => r.body.length - (intOf i).toNat)
          case atStart => exact ⟨0, m, Nat.zero_le _, rfl, by rw [List.take_zero, List.map_nil, List.append_nil]; exact hm, hml, rfl, fun j => by have := hbm j; omega, hrow0, by omega, hbr0, d0, d4⟩
          case round =>
            clear hbm hml hrow0 hbr0 hm d0 d4
            obtain ⟨q, m, hq, rfl, hm, hml, rfl, hbm, hrow, hsz, hbr, d0, d4⟩ := hrel
            by_cases hql : q < r.body.length
            · have hbw := hB.out _ hbr
              obtain ⟨lb, lo, lc', hv, hlb, hcells⟩ := slice_cells HLIT.out hql
              obtain ⟨rfl, rfl⟩ : ba = some ⟨lb, lo, none⟩ ∧ bc = lc' := by simpa using hv
              obtain ⟨l0, l1, _⟩ := hcells
              replace l0 := (cell_lasts hbw hlb).trans l0
              replace l1 := (cell_lasts hbw hlb).trans l1
              have hRb := HRT.out.body _ (List.getElem_mem hql)
              have HS := map_take_succ hql
              rw [HEO.out] at HS
              obtain ⟨eb, heb⟩ : ∃ eb : Nat, r.body[q].atom.pred = (eb : Int) := ⟨_, hRb.2⟩
              have hebn : eb < ps.length := by have := hRb.1; rw [heb] at this; simpa using this
              rw [heb] at l1
              rw [heb, Int.toNat_natCast] at HS
              have HS' : Hid _ := HS
              clear HS hv hRb heb
              have hq0 : (0 : Int) ≤ (q : Int) := by omega
              have hq1 : (q : Int) < (r.body.length : Int) := by omega
              have f0 := ints_at hrow (k := eb) (by omega)
              have f1 := ints_at hrow (k := eh) (by omega)
              have g1 : (eb : Int) < (ps.length : Int) := by omega
              have g2 : (eh : Int) < (ps.length : Int) := by omega
              have hbnd : at_ m eb ≤ 10000 := by have := hbm eb; have := H3.out; omega
              have hbnd' : at_ m eh ≤ 10000 := by have := hbm eh; have := H3.out; omega
              obtain ⟨f0, _⟩ := f0
              obtain ⟨f1, f2⟩ := f1
              have HW : Hid (Within (edges (rs.take k) ++ (r.body.take q).map (edgeOf r)) ps.length) := within_part (fun x hx => HK.out x (List.mem_of_mem_take hx)) HRT.out
              generalize hne : r.body[q].neg = ng at *
              generalize hae : at_ m eb = ab at *
              generalize hah : at_ m eh = ah at *
              cases ng
              · have hup : (⟨eh, eb, false⟩ : Strata.Edge).up = 0 := rfl
                have P1 := part_raised HW.out HSE.out hm.out (e := ⟨eh, eb, false⟩) hehn
                have P2 := part_same hm.out (e := ⟨eh, eb, false⟩)
                rw [hup] at P1 P2
                rw [hae, hah] at P1 P2
                by_cases hlt2 : ah < ab
                · obtain ⟨P1, P1'⟩ := P1 (by simpa using hlt2)
                  have HP1 : Hid _ := P1
                  clear P2 P1
                  go_wp2_with fail
                  refine ⟨⟨q + 1, m.set eh (ab), by omega, by go_num, ?_, by rw [List.length_set]; exact hml, ?_, ?_, ?_, by rw [size_set]; exact hsz, hbr.setCell (p := ⟨w.heap.size + 1, eh, none⟩) (by simp) _, ?_, ?_⟩, by simp [intOf]; omega⟩
                  · rw [HS'.out, ← List.append_assoc]
                    exact HP1.out
                  · rw [show ab = ab + 0 from rfl, P1']
                  · exact set_bound (c := t * 24 + (edges (rs.take k)).length + q) hbm (by omega) (by have hq9 := hbm eb; rw [hae] at hq9; omega)
                  · exact ints_set hrow (by omega) (ab)
                  · rw [cell_block (by omega)]; exact d0
                  · rw [cell_block (by omega)]; exact d4
                · have P2 := P2 (by simpa using hlt2)
                  clear P1
                  go_wp2_with fail
                  refine ⟨⟨q + 1, m, by omega, by go_num, ?_, hml, rfl, fun j => by have := hbm j; omega, hrow, hsz, hbr, d0, d4⟩, by simp [intOf]; omega⟩
                  rw [HS'.out, ← List.append_assoc]
                  exact P2.out
              · have hup : (⟨eh, eb, true⟩ : Strata.Edge).up = 1 := rfl
                have P1 := part_raised HW.out HSE.out hm.out (e := ⟨eh, eb, true⟩) hehn
                have P2 := part_same hm.out (e := ⟨eh, eb, true⟩)
                rw [hup] at P1 P2
                rw [hae, hah] at P1 P2
                by_cases hlt2 : ah < ab + 1
                · obtain ⟨P1, P1'⟩ := P1 (by simpa using hlt2)
                  have HP1 : Hid _ := P1
                  clear P2 P1
                  go_wp2_with fail
                  refine ⟨⟨q + 1, m.set eh (ab + 1), by omega, by go_num, ?_, by rw [List.length_set]; exact hml, ?_, ?_, ?_, by rw [size_set]; exact hsz, hbr.setCell (p := ⟨w.heap.size + 1, eh, none⟩) (by simp) _, ?_, ?_⟩, by simp [intOf]; omega⟩
                  · rw [HS'.out, ← List.append_assoc]
                    exact HP1.out
                  · rw [show ab + 1 = ab + 1 from rfl, P1']
                  · exact set_bound (c := t * 24 + (edges (rs.take k)).length + q) hbm (by omega) (by have hq9 := hbm eb; rw [hae] at hq9; omega)
                  · exact ints_set hrow (by omega) (ab + 1)
                  · rw [cell_block (by omega)]; exact d0
                  · rw [cell_block (by omega)]; exact d4
                · have P2 := P2 (by simpa using hlt2)
                  clear P1
                  go_wp2_with fail
                  refine ⟨⟨q + 1, m, by omega, by go_num, ?_, hml, rfl, fun j => by have := hbm j; omega, hrow, hsz, hbr, d0, d4⟩, by simp [intOf]; omega⟩
                  rw [HS'.out, ← List.append_assoc]
                  exact P2.out
            · obtain rfl : q = r.body.length := by omega
              go_wp2_with fail
              refine ⟨⟨k + 1, m, by omega, by go_num, ?_, hml, rfl, ?_, hrow, by omega, hbr⟩, by simp [intOf]; omega⟩
              · rw [HET.out]
                have := hm.out
                rw [List.take_length] at this
                exact this
              · intro j
                rw [HET.out, List.length_append, List.length_map]
                have := hbm j
                omega
        · obtain rfl : k = rs.length := by omega
          have HF := found hlt hse.out (m := m) (by have := hm.out; rwa [List.take_length] at this)
          rw [List.take_length] at hbm
          generalize hd : decide (m = l) = sd at *
          cases sd
          · have HF' : Hid _ := HF.2 rfl
            clear HF
            go_wp2_with fail
            exact ⟨⟨t + 1, m, by omega, by go_num, hml, HF'.out, fun j => by have := hbm j; omega, hrow, hsz, hbr⟩, by simp [intOf]; omega⟩
          · have HF' : Hid (strataL (edges rs) ps.length = some m) := HF.1 rfl
            clear HF
            go_wp2_with fail
            go_ret2
            refine ⟨⟨_, by rw [HF'.out]; rfl, fun l' hl' => ?_⟩, hB.out _ hbr⟩
            rw [HF'.out] at hl'
            obtain rfl := Option.some.inj hl'
            have := intsAt_of (cap := ps.length) hrow (by omega) hsz
            rwa [hml] at this
    · have HN : Hid (strataL (edges rs) ps.length = none) := by
        have := hse.out
        rw [show ps.length * ps.length + 2 - t = 0 by omega] at this
        exact this.symm
      have hlt' : ¬ (t : Int) ≤ (ps.length : Int) * (ps.length : Int) + 1 := by exact_mod_cast hlt
      go_wp2_with fail
      go_ret2
      exact ⟨⟨_, by rw [HN.out]; rfl, fun l' hl' => by rw [HN.out] at hl'; cases hl'⟩, hB.out _ hbr⟩
end Go.Proofs.YtlfccloaoopadafGreatDoor.Prog

/-
  What the document's own 'CheckProg' answers: the first error of a program, in its order.
-/
namespace Go.Proofs.YtlfccloaoopadafGreatDoor.Prog
open Go.ChangeShapes Go.WideShapes Go.ChangeAt Go.RowKit
open Lat (within within_c)
open Strata
open Rule (ruleErr checkRule_c)

def badName (q : Prd) : Bool := !isName q.name
def badArity (q : Prd) : Bool := !within q.arity 0 2
def badKind (q : Prd) : Bool := !within q.kind 0 3
def nameAt (ps : List Prd) (k : Nat) : ByteArray := (ps[k]?.map Prd.name).getD ⟨#[]⟩
def sameAs (s : ByteArray) (q : Prd) : Bool := q.name.toList == s.toList
def twiceAt (ps : List Prd) (k : Nat) : Bool := (ps.take k).any (sameAs (nameAt ps k))
theorem twice_eq (ps : List Prd) : twice ps = (List.range ps.length).any (twiceAt ps) := rfl
theorem parts_many {ps : List Prd} {rs : List Rul} (h : 5 < ps.length ∨ 8 < rs.length) : partsErr ps rs = 2 := by rw [partsErr, if_pos h]
theorem parts_name {ps : List Prd} {rs : List Rul} (h : ¬ (5 < ps.length ∨ 8 < rs.length)) (h1 : ps.any badName = true) : partsErr ps rs = 5 := by rw [partsErr, if_neg h, if_pos (show ps.any (fun q => !isName q.name) = true from h1)]
theorem parts_twice {ps : List Prd} {rs : List Rul} (h : ¬ (5 < ps.length ∨ 8 < rs.length)) (h1 : ps.any badName = false) (h2 : twice ps = true) : partsErr ps rs = 6 := by
  rw [partsErr, if_neg h, if_neg (by rw [show ps.any (fun q => !isName q.name) = false from h1]; simp), if_pos h2]
theorem parts_arity {ps : List Prd} {rs : List Rul} (h : ¬ (5 < ps.length ∨ 8 < rs.length)) (h1 : ps.any badName = false) (h2 : twice ps = false) (h3 : ps.any badArity = true) : partsErr ps rs = 3 := by
  rw [partsErr, if_neg h, if_neg (by rw [show ps.any (fun q => !isName q.name) = false from h1]; simp), if_neg (by rw [h2]; simp), if_pos (show ps.any (fun q => !within q.arity 0 2) = true from h3)]
theorem parts_kind {ps : List Prd} {rs : List Rul} (h : ¬ (5 < ps.length ∨ 8 < rs.length)) (h1 : ps.any badName = false) (h2 : twice ps = false) (h3 : ps.any badArity = false) (h4 : ps.any badKind = true) : partsErr ps rs = 4 := by
  rw [partsErr, if_neg h, if_neg (by rw [show ps.any (fun q => !isName q.name) = false from h1]; simp), if_neg (by rw [h2]; simp), if_neg (by rw [show ps.any (fun q => !within q.arity 0 2) = false from h3]; simp), if_pos (show ps.any (fun q => !within q.kind 0 3) = true from h4)]
theorem parts_rules {ps : List Prd} {rs : List Rul} (h : ¬ (5 < ps.length ∨ 8 < rs.length)) (h1 : ps.any badName = false) (h2 : twice ps = false) (h3 : ps.any badArity = false) (h4 : ps.any badKind = false) : partsErr ps rs = rulesErr ps rs := by
  rw [partsErr, if_neg h, if_neg (by rw [show ps.any (fun q => !isName q.name) = false from h1]; simp), if_neg (by rw [h2]; simp), if_neg (by rw [show ps.any (fun q => !within q.arity 0 2) = false from h3]; simp), if_neg (by rw [show ps.any (fun q => !within q.kind 0 3) = false from h4]; simp)]
theorem prog_parts {ps : List Prd} {rs : List Rul} {e : Int} (h : partsErr ps rs = e) (he : e ≠ 0) : progErr ps rs = e := by rw [progErr, if_pos (by rw [h]; exact he), h]
theorem prog_round {ps : List Prd} {rs : List Rul} (h : partsErr ps rs = 0) : progErr ps rs = if (strataL (edges rs) ps.length).isSome then 0 else 8 := by rw [progErr, if_neg (by rw [h]; simp)]
theorem range_any {p : Nat → Bool} {n k : Nat} (h : k < n) (hp : p k = true) : (List.range n).any p = true := List.any_eq_true.2 ⟨k, List.mem_range.2 h, hp⟩
theorem range_succ {p : Nat → Bool} {k : Nat} : (List.range (k + 1)).any p = ((List.range k).any p || p k) := by simp [List.range_succ]
theorem name_at {ps : List Prd} {k : Nat} (h : k < ps.length) : nameAt ps k = ps[k].name := by simp [nameAt, h]
def small (ps : List Prd) : Prop := ∀ q ∈ ps, q.name.size ≤ 9223372036854775807

set_option maxRecDepth 100000 in
set_option maxHeartbeats 8000000 in
theorem checkProg_c (w : World) (pv rv : Value) (ps : List Prd) (rs : List Rul) (hp : predsAt w pv ps) (hr : rulesAt w rv rs) (hn : small ps) :
    Calls Tryz.prog 7 #[.agg #[pv, rv]] w fun e w' => e = .returned (.int .i64 (progErr ps rs)) ∧ Below w.heap.size w w' := by
  have HP : Hid (predsAt w pv ps) := hp
  have HR : Hid (rulesAt w rv rs) := hr
  have HN : Hid (small ps) := hn
  clear hn
  obtain ⟨pa, pc, rfl, hpm, hpx⟩ := hp
  obtain ⟨ra, rc, rfl, hrm, hrx⟩ := hr
  clear hpx hrx
  have hB : Hid (∀ x, Below (w.heap.size + 1) (w.alloc (.cells #[.slice pa ps.length pc, .slice ra rs.length rc] 25)) x → Below w.heap.size w x) := fun x h => (below_alloc _ _).trans (h.mono (by omega))
  have HBOX : Hid (∀ x, Below (w.heap.size + 1) (w.alloc (.cells #[.slice pa ps.length pc, .slice ra rs.length rc] 25)) x → x.cell? ⟨w.heap.size, 0, none⟩ = some (.slice pa ps.length pc) ∧ x.cell? ⟨w.heap.size, 1, none⟩ = some (.slice ra rs.length rc)) := fun x h =>
    ⟨by rw [h.cell (p := ⟨w.heap.size, 0, none⟩) (by simp)]; simp [go_sem], by rw [h.cell (p := ⟨w.heap.size, 1, none⟩) (by simp)]; simp [go_sem]⟩
  by_cases h5 : 5 < ps.length
  · have H : Hid (progErr ps rs = 2) := prog_parts (parts_many (.inl h5)) (by decide)
    have h5' : (5 : Int) < (ps.length : Int) := by omega
    go_enter Tryz.func7, Tryz.ntmps7
    go_wp2_with fail
    go_ret
    exact ⟨by rw [H.out]; rfl, below_alloc _ _⟩
  by_cases h8 : 8 < rs.length
  · have H : Hid (progErr ps rs = 2) := prog_parts (parts_many (.inr h8)) (by decide)
    have h5' : ¬ (5 : Int) < (ps.length : Int) := by omega
    have h8' : (8 : Int) < (rs.length : Int) := by omega
    go_enter Tryz.func7, Tryz.ntmps7
    go_wp2_with fail
    go_ret
    exact ⟨by rw [H.out]; rfl, below_alloc _ _⟩
  have HM : Hid (¬ (5 < ps.length ∨ 8 < rs.length)) := by show ¬ _; omega
  have h5' : ¬ (5 : Int) < (ps.length : Int) := by omega
  have h8' : ¬ (8 : Int) < (rs.length : Int) := by omega
  go_enter Tryz.func7, Tryz.ntmps7
  go_wp2_with fail
  go_loopw [3] (fun i wr => ∃ j : Nat, j ≤ ps.length ∧ i = .int .i64 j ∧ (ps.take j).any badName = false ∧ Below (w.heap.size + 1) (w.alloc (.cells #[.slice pa ps.length pc, .slice ra rs.length rc] 25)) wr) (fun i _ => ps.length - (intOf i).toNat)
  case atStart => exact ⟨0, Nat.zero_le _, rfl, rfl, Below.refl _ _⟩
  case round =>
    obtain ⟨j, hj, rfl, hall, hbr⟩ := hrel
    obtain ⟨c0, c1⟩ := HBOX.out _ hbr
    by_cases hlt : j < ps.length
    · obtain ⟨b, off, cap, hv, hb, hcell⟩ := slice_cells HP.out hlt
      obtain ⟨rfl, rfl⟩ : pa = some ⟨b, off, none⟩ ∧ pc = cap := by simpa using hv
      have hbw := hB.out _ hbr
      obtain ⟨t0, t1, t2⟩ := predAt.lasts w wr b _ _ hbw hb hcell
      have hnm : ps[j].name.size ≤ 9223372036854775807 := HN.out _ (List.getElem_mem hlt)
      have HT : Hid (badName ps[j] = false → (ps.take (j + 1)).any badName = false) := fun h => by rw [any_take hlt, hall, h]; rfl
      have HF : Hid (badName ps[j] = true → progErr ps rs = 5) := fun h => prog_parts (parts_name HM.out  (any_of hlt h)) (by decide)
      have hj0 : (0 : Int) ≤ (j : Int) := by omega
      have hj1 : (j : Int) < (ps.length : Int) := by omega
      clear hv hcell hall
      generalize ps[j] = q at *
      cases hq : isName q.name
      · have H : Hid (progErr ps rs = 5) := HF.out (by rw [badName, hq]; rfl)
        clear HT HF
        go_wp2_with (first | (go_at_call 23; refine (isName_c _ _ hnm).mono ?_; rintro e w1 ⟨rfl, hb1⟩; rw [hq]))
        go_ret
        exact ⟨by rw [H.out]; rfl, hB.out _ (hbr.trans (hb1.mono (by have := hbr.size; simp at this; omega)))⟩
      · have H : Hid ((ps.take (j + 1)).any badName = false) := HT.out (by rw [badName, hq]; rfl)
        clear HT HF
        go_wp2_with (first | (go_at_call 23; refine (isName_c _ _ hnm).mono ?_; rintro e w1 ⟨rfl, hb1⟩; rw [hq]))
        exact ⟨⟨j + 1, by omega, by go_num, H.out, (hbr.trans (hb1.mono (by have := hbr.size; simp at this; omega)))⟩, by simp [intOf]; omega⟩
    · have H1 : Hid (ps.any badName = false) := any_take_end hlt hall
      clear hall
      obtain rfl : j = ps.length := by omega
      go_wp2_with fail
      go_loopw [4] (fun i wr => ∃ j : Nat, j ≤ ps.length ∧ i = .int .i64 j ∧ (List.range j).any (twiceAt ps) = false ∧ Below (w.heap.size + 1) (w.alloc (.cells #[.slice pa ps.length pc, .slice ra rs.length rc] 25)) wr) (fun i _ => ps.length - (intOf i).toNat)
      case atStart => exact ⟨0, Nat.zero_le _, rfl, rfl, hbr⟩
      case round =>
        clear hbr c0 c1
        obtain ⟨j, hj, rfl, hall, hbr⟩ := hrel
        obtain ⟨c0, c1⟩ := HBOX.out _ hbr
        by_cases hlt : j < ps.length
        · go_wp2_with fail
          go_loopw [5] (fun i wr => ∃ k : Nat, k ≤ j ∧ i = .int .i64 k ∧ (ps.take k).any (sameAs (nameAt ps j)) = false ∧ Below (w.heap.size + 1) (w.alloc (.cells #[.slice pa ps.length pc, .slice ra rs.length rc] 25)) wr) (fun i _ => j - (intOf i).toNat)
          case atStart => exact ⟨0, Nat.zero_le _, rfl, rfl, hbr⟩
          case round =>
            clear hbr c0 c1
            obtain ⟨k, hk, rfl, hno, hbr⟩ := hrel
            obtain ⟨c0, c1⟩ := HBOX.out _ hbr
            have hbw := hB.out _ hbr
            by_cases hkj : k < j
            · have hkl : k < ps.length := by omega
              obtain ⟨b, off, cap, hv, hb, hcell⟩ := slice_cells HP.out hlt
              obtain ⟨rfl, rfl⟩ : pa = some ⟨b, off, none⟩ ∧ pc = cap := by simpa using hv
              obtain ⟨b', off', cap', hv', hb', hcell'⟩ := slice_cells HP.out hkl
              obtain ⟨⟨rfl, rfl⟩, rfl⟩ : (b = b' ∧ off = off') ∧ pc = cap' := by simpa using hv'
              have t0 := (predAt.lasts w wr b _ _ hbw hb hcell).1
              have u0 := (predAt.lasts w wr b _ _ hbw hb hcell').1
              have HT : Hid (sameAs ps[j].name ps[k] = false → (ps.take (k + 1)).any (sameAs (nameAt ps j)) = false) := fun h => by rw [any_take hkl, hno, name_at hlt, h]; rfl
              have HF : Hid (sameAs ps[j].name ps[k] = true → progErr ps rs = 6) := fun h => prog_parts (parts_twice HM.out H1.out (by rw [twice_eq]; exact range_any hlt (List.any_eq_true.2 ⟨ps[k], List.mem_take_iff_getElem.2 ⟨k, by omega, rfl⟩, by rw [name_at hlt]; exact h⟩))) (by decide)
              have s1 : b < wr.heap.size := Nat.lt_of_lt_of_le hb hbw.size
              have s2 : w.heap.size < wr.heap.size := by have := hbr.size; simp at this; omega
              have hk0 : (0 : Int) ≤ (k : Int) := by omega
              have hk1 : (k : Int) < (ps.length : Int) := by omega
              have hj0 : (0 : Int) ≤ (j : Int) := by omega
              have hj1 : (j : Int) < (ps.length : Int) := by omega
              have hkj' : (k : Int) < (j : Int) := by omega
              clear hv hv' hcell hcell' hno
              generalize ps[j] = y at *
              generalize ps[k] = z at *
              have L0 : ∀ x : Low wr.heap.size wr, x.wd.cell? ⟨w.heap.size, 0, none⟩ = some (.slice (some ⟨b, off, none⟩) ps.length pc) := fun x => (cell_lasts x.low s2).trans c0
              have L1 : ∀ x : Low wr.heap.size wr, x.wd.cell? ⟨b, off + j * 3, none⟩ = some (.string y.name) := fun x => (cell_lasts x.low s1).trans t0
              have L2 : ∀ x : Low wr.heap.size wr, x.wd.cell? ⟨b, off + k * 3, none⟩ = some (.string z.name) := fun x => (cell_lasts x.low s1).trans u0
              go_wp2_with fail
              refine wp_region_low wr.heap.size (by kernel_rfl) (by kernel_rfl) ?_
              repeat (go_big_quiet_step (fail))
              refine wpQuiet_nil ?_
              rintro _ ⟨⟨w1, hk2⟩, rfl⟩
              clear L0 L1 L2
              go_wp2_with fail
              case roundEnd =>
                rename_i hq
                exact ⟨⟨k + 1, by omega, by go_num, HT.out hq, hbr.trans (hk2.mono (by have := hbr.size; simp at this; omega))⟩, by simp [intOf]; omega⟩
              · rename_i hq
                go_ret
                exact ⟨by rw [HF.out hq]; rfl, hbw.trans (hk2.mono hbw.size)⟩
            · obtain rfl : k = j := by omega
              have HT : Hid ((List.range (k + 1)).any (twiceAt ps) = false) := by
                show _ = _
                rw [range_succ, hall, twiceAt, hno]
                rfl
              clear hno hall
              go_wp2_with fail
              exact ⟨⟨k + 1, by omega, by go_num, HT.out, hbr⟩, by simp [intOf]; omega⟩
        · obtain rfl : j = ps.length := by omega
          have H2 : Hid (twice ps = false) := hall
          clear hall
          go_wp2_with fail
          go_loopw [6] (fun i wr => ∃ j : Nat, j ≤ ps.length ∧ i = .int .i64 j ∧ (ps.take j).any badArity = false ∧ Below (w.heap.size + 1) (w.alloc (.cells #[.slice pa ps.length pc, .slice ra rs.length rc] 25)) wr) (fun i _ => ps.length - (intOf i).toNat)
          case atStart => exact ⟨0, Nat.zero_le _, rfl, rfl, hbr⟩
          case round =>
            clear hbr c0 c1
            obtain ⟨j, hj, rfl, hall, hbr⟩ := hrel
            obtain ⟨c0, c1⟩ := HBOX.out _ hbr
            by_cases hlt : j < ps.length
            · obtain ⟨b, off, cap, hv, hb, hcell⟩ := slice_cells HP.out hlt
              obtain ⟨rfl, rfl⟩ : pa = some ⟨b, off, none⟩ ∧ pc = cap := by simpa using hv
              have hbw := hB.out _ hbr
              obtain ⟨t0, t1, t2⟩ := predAt.lasts w wr b _ _ hbw hb hcell
              have hnm : ps[j].name.size ≤ 9223372036854775807 := HN.out _ (List.getElem_mem hlt)
              have HT : Hid (badArity ps[j] = false → (ps.take (j + 1)).any badArity = false) := fun h => by rw [any_take hlt, hall, h]; rfl
              have HF : Hid (badArity ps[j] = true → progErr ps rs = 3) := fun h => prog_parts (parts_arity HM.out H1.out H2.out (any_of hlt h)) (by decide)
              have hj0 : (0 : Int) ≤ (j : Int) := by omega
              have hj1 : (j : Int) < (ps.length : Int) := by omega
              clear hv hcell hall
              generalize ps[j] = q at *
              cases hq : within q.arity 0 2
              · have H : Hid (progErr ps rs = 3) := HF.out (by rw [badArity, hq]; rfl)
                clear HT HF
                go_wp2_with (first | (go_at_call 24; refine (within_c _ _ _ _).mono ?_; rintro e w1 ⟨rfl, rfl⟩; rw [hq]))
                go_ret
                exact ⟨by rw [H.out]; rfl, hB.out _ hbr⟩
              · have H : Hid ((ps.take (j + 1)).any badArity = false) := HT.out (by rw [badArity, hq]; rfl)
                clear HT HF
                go_wp2_with (first | (go_at_call 24; refine (within_c _ _ _ _).mono ?_; rintro e w1 ⟨rfl, rfl⟩; rw [hq]))
                exact ⟨⟨j + 1, by omega, by go_num, H.out, hbr⟩, by simp [intOf]; omega⟩
            · have H3 : Hid (ps.any badArity = false) := any_take_end hlt hall
              clear hall
              obtain rfl : j = ps.length := by omega
              go_wp2_with fail
              go_loopw [7] (fun i wr => ∃ j : Nat, j ≤ ps.length ∧ i = .int .i64 j ∧ (ps.take j).any badKind = false ∧ Below (w.heap.size + 1) (w.alloc (.cells #[.slice pa ps.length pc, .slice ra rs.length rc] 25)) wr) (fun i _ => ps.length - (intOf i).toNat)
              case atStart => exact ⟨0, Nat.zero_le _, rfl, rfl, hbr⟩
              case round =>
                clear hbr c0 c1
                obtain ⟨j, hj, rfl, hall, hbr⟩ := hrel
                obtain ⟨c0, c1⟩ := HBOX.out _ hbr
                by_cases hlt : j < ps.length
                · obtain ⟨b, off, cap, hv, hb, hcell⟩ := slice_cells HP.out hlt
                  obtain ⟨rfl, rfl⟩ : pa = some ⟨b, off, none⟩ ∧ pc = cap := by simpa using hv
                  have hbw := hB.out _ hbr
                  obtain ⟨t0, t1, t2⟩ := predAt.lasts w wr b _ _ hbw hb hcell
                  have hnm : ps[j].name.size ≤ 9223372036854775807 := HN.out _ (List.getElem_mem hlt)
                  have HT : Hid (badKind ps[j] = false → (ps.take (j + 1)).any badKind = false) := fun h => by rw [any_take hlt, hall, h]; rfl
                  have HF : Hid (badKind ps[j] = true → progErr ps rs = 4) := fun h => prog_parts (parts_kind HM.out H1.out H2.out H3.out (any_of hlt h)) (by decide)
                  have hj0 : (0 : Int) ≤ (j : Int) := by omega
                  have hj1 : (j : Int) < (ps.length : Int) := by omega
                  clear hv hcell hall
                  generalize ps[j] = q at *
                  cases hq : within q.kind 0 3
                  · have H : Hid (progErr ps rs = 4) := HF.out (by rw [badKind, hq]; rfl)
                    clear HT HF
                    go_wp2_with (first | (go_at_call 24; refine (within_c _ _ _ _).mono ?_; rintro e w1 ⟨rfl, rfl⟩; rw [hq]))
                    go_ret
                    exact ⟨by rw [H.out]; rfl, hB.out _ hbr⟩
                  · have H : Hid ((ps.take (j + 1)).any badKind = false) := HT.out (by rw [badKind, hq]; rfl)
                    clear HT HF
                    go_wp2_with (first | (go_at_call 24; refine (within_c _ _ _ _).mono ?_; rintro e w1 ⟨rfl, rfl⟩; rw [hq]))
                    exact ⟨⟨j + 1, by omega, by go_num, H.out, hbr⟩, by simp [intOf]; omega⟩
                · have H4 : Hid (ps.any badKind = false) := any_take_end hlt hall
                  clear hall
                  obtain rfl : j = ps.length := by omega
                  go_wp2_with fail
                  have H5 : Hid (partsErr ps rs = rulesErr ps rs) := parts_rules HM.out H1.out H2.out H3.out H4.out
                  go_loopw [8] (fun i wr => ∃ j : Nat, j ≤ rs.length ∧ i = .int .i64 j ∧ (rs.take j).all (fun r => ruleErr ps r == 0) = true ∧ Below (w.heap.size + 1) (w.alloc (.cells #[.slice pa ps.length pc, .slice ra rs.length rc] 25)) wr) (fun i _ => rs.length - (intOf i).toNat)
                  case atStart => exact ⟨0, Nat.zero_le _, rfl, rfl, hbr⟩
                  case round =>
                    clear hbr c0 c1
                    obtain ⟨j, hj, rfl, hall, hbr⟩ := hrel
                    obtain ⟨c0, c1⟩ := HBOX.out _ hbr
                    have hbw := hB.out _ hbr
                    by_cases hlt : j < rs.length
                    · obtain ⟨rb, ro, rc', hv, hrb, hcells⟩ := slice_cells HR.out hlt
                      obtain ⟨rfl, rfl⟩ : ra = some ⟨rb, ro, none⟩ ∧ rc = rc' := by simpa using hv
                      obtain ⟨t0, ⟨hv', t1, t1'⟩, t2, t3, bv, t4, t5⟩ := ruleAt.lasts w wr rb _ _ hbw hrb hcells
                      have s1 : rb < wr.heap.size := Nat.lt_of_lt_of_le hrb hbw.size
                      have s2 : w.heap.size < wr.heap.size := by have := hbr.size; simp at this; omega
                      have HPR : Hid (∀ x, Below wr.heap.size wr x → predsAt x (.slice pa ps.length pc) ps) := fun x hx => predsAt.lasts (hbw.trans (hx.mono hbw.size)) HP.out
                      have HTR : Hid (∀ x, Below wr.heap.size wr x → termsAt x hv' rs[j].head.args) := fun x hx => termsAt.lasts hx t1'
                      have HBR : Hid (∀ x, Below wr.heap.size wr x → litsAt x bv rs[j].body) := fun x hx => litsAt.lasts hx t5
                      have HT : Hid (ruleErr ps rs[j] = 0 → (rs.take (j + 1)).all (fun r => ruleErr ps r == 0) = true) := fun h => by rw [all_take hlt, hall, h]; rfl
                      have HF : Hid (ruleErr ps rs[j] ≠ 0 → progErr ps rs = ruleErr ps rs[j]) := fun h => prog_parts (H5.out.trans (rulesErr_at hlt hall h)) h
                      have hj0 : (0 : Int) ≤ (j : Int) := by omega
                      have hj1 : (j : Int) < (rs.length : Int) := by omega
                      clear hv hcells hall
                      obtain ⟨ba, bc, rfl, hblen, _⟩ := t5
                      obtain ⟨ha, hc, rfl, _⟩ := t1'
                      generalize rs[j] = r at *
                      have L0 : ∀ x : Low wr.heap.size wr, x.wd.cell? ⟨w.heap.size, 0, none⟩ = some (.slice pa ps.length pc) := fun x => (cell_lasts x.low s2).trans c0
                      have L1 : ∀ x : Low wr.heap.size wr, x.wd.cell? ⟨w.heap.size, 1, none⟩ = some (.slice (some ⟨rb, ro, none⟩) rs.length rc) := fun x => (cell_lasts x.low s2).trans c1
                      have R0 : ∀ x : Low wr.heap.size wr, x.wd.cell? ⟨rb, ro + j * 5, none⟩ = some (.int .i64 r.head.pred) := fun x => (cell_lasts x.low s1).trans t0
                      have R1 : ∀ x : Low wr.heap.size wr, x.wd.cell? ⟨rb, ro + j * 5 + 1, none⟩ = some (.slice ha r.head.args.length hc) := fun x => (cell_lasts x.low s1).trans t1
                      have R2 : ∀ x : Low wr.heap.size wr, x.wd.cell? ⟨rb, ro + j * 5 + 2, none⟩ = some (.int .i64 r.src) := fun x => (cell_lasts x.low s1).trans t2
                      have R3 : ∀ x : Low wr.heap.size wr, x.wd.cell? ⟨rb, ro + j * 5 + 3, none⟩ = some (.int .i64 r.n) := fun x => (cell_lasts x.low s1).trans t3
                      have R4 : ∀ x : Low wr.heap.size wr, x.wd.cell? ⟨rb, ro + j * 5 + 4, none⟩ = some (.slice ba r.body.length bc) := fun x => (cell_lasts x.low s1).trans t4
                      go_wp2_with fail
                      refine wp_region_low wr.heap.size (by kernel_rfl) (by kernel_rfl) ?_
                      repeat (go_big_quiet_step (exact low_of (checkRule_c _ _ ps r _ _ (HPR.out _ (Low.low _)) (HTR.out _ (Low.low _)) (HBR.out _ (Low.low _)))))
                      refine wpQuiet_nil ?_
                      rintro _ ⟨⟨w1, hk2⟩, rfl⟩
                      clear L0 L1 R0 R1 R2 R3 R4
                      by_cases he : ruleErr ps r = 0
                      · have H := HT.out he
                        rw [he]
                        clear HT HF he
                        go_wp2_with fail
                        exact ⟨⟨j + 1, by omega, by go_num, H, hbr.trans (hk2.mono (by have := hbr.size; simp at this; omega))⟩, by simp [intOf]; omega⟩
                      · have H := HF.out he
                        clear HT HF
                        go_wp2_with fail
                        go_ret
                        exact ⟨by rw [H]; rfl, hbw.trans (hk2.mono hbw.size)⟩
                    · obtain rfl : j = rs.length := by omega
                      have H6 : Hid (partsErr ps rs = 0) := H5.out.trans (rulesErr_none (all_take_end (by omega) hall))
                      have H7 : Hid (progErr ps rs = if (strataL (edges rs) ps.length).isSome then 0 else 8) := prog_round H6.out
                      clear hall H5
                      have HPR : Hid (predsAt wr (.slice pa ps.length pc) ps) := predsAt.lasts hbw HP.out
                      have HRR : Hid (rulesAt wr (.slice ra rs.length rc) rs) := rulesAt.lasts hbw HR.out
                      go_wp2_with (first | (go_at_call 26; refine (strata_c _ _ _ ps rs HPR.out HRR.out (by omega) (by omega) (parts_zero H6.out).2.2).mono ?_; rintro e w1 ⟨⟨v, rfl, _⟩, hb1⟩; generalize (strataL (edges rs) ps.length).isSome = sm at *; cases sm))
                      all_goals
                        go_ret
                        exact ⟨by rw [H7.out]; rfl, hbw.trans (hb1.mono hbw.size)⟩
end Go.Proofs.YtlfccloaoopadafGreatDoor.Prog

/-
  What the document's own 'StrataOf' and 'NeedsOf' answer.
-/
namespace Go.Proofs.YtlfccloaoopadafGreatDoor.Prog
open Go.ChangeShapes Go.WideShapes Go.ChangeAt Go.RowKit
open Lat (within within_c)
open Strata

def boolV (x : Bool) : Value := .bool x
theorem bools_at {w : World} {B : Nat} {l : List Bool} (h : rowAt w B (l.map boolV)) {k : Nat} (hk : k < l.length) : w.cell? ⟨B, k, none⟩ = some (.bool (bat l k)) ∧ w.frozen? ⟨B, k, none⟩ = false := by
  refine h k _ ?_
  rw [List.getElem?_map, List.getElem?_eq_getElem hk, bat, List.getD_eq_getElem?_getD, List.getElem?_eq_getElem hk]
  rfl
theorem bools_set {w : World} {B : Nat} {l : List Bool} (h : rowAt w B (l.map boolV)) {k : Nat} (hk : k < l.length) (x : Bool) : rowAt (w.setCell ⟨B, k, none⟩ (.bool x)) B ((l.set k x).map boolV) := by
  have := h.set (k := k) (by simpa using hk) (boolV x)
  rwa [← List.map_set] at this
theorem boolsAt_of {w : World} {B cap : Nat} {l : List Bool} (h : rowAt w B (l.map boolV)) (hl : l.length ≤ 140737488355328) (hB : B < w.heap.size) : boolsAt w (.slice (some ⟨B, 0, none⟩) l.length cap) l :=
  ⟨_, cap, rfl, hl, .inr ⟨B, 0, rfl, hB, fun i x hi => by
    have := (h i (boolV x) (by rw [List.getElem?_map, hi]; rfl)).1
    rw [Nat.mul_one, Nat.zero_add]
    exact this⟩⟩
theorem falses_row {w : World} {n : Nat} {t : TypeId} : rowAt (w.alloc (.cells (List.replicate n (.bool false)).toArray t)) w.heap.size ((List.replicate n false).map boolV) := by
  rw [List.map_replicate]
  exact rowAt_new
theorem one_row {w : World} {n p : Nat} {t : TypeId} : rowAt (w.alloc (.cells ((Array.replicate n (.bool false)).setIfInBounds p (.bool true)) t)) w.heap.size ((one n p).map boolV) := by
  have e : (Array.replicate n (Value.bool false)).setIfInBounds p (.bool true) = ((one n p).map boolV).toArray := by
    rw [one, List.map_set, List.map_replicate]
    apply Array.ext'
    simp [boolV]
  rw [e]
  exact rowAt_new
/-- who is not needed asks for nothing -/
theorem idle {E : List Strata.Edge} {m : List Bool} {h : Nat} (hb : bat m h = false) (hE : ∀ e ∈ E, e.h = h) : roundB E m = m := by
  induction E with
  | nil => rfl
  | cons e E ih =>
    have h1 : stepB m e = m := by rw [stepB, hE e (by simp), hb]; rfl
    show roundB E (stepB m e) = m
    rw [h1]
    exact ih fun x hx => hE x (by simp [hx])
theorem roundB_append (E D : List Strata.Edge) (l : List Bool) : roundB (E ++ D) l = roundB D (roundB E l) := by
  unfold roundB
  rw [List.foldl_append]
theorem rest_idle {r : Rul} {E : List Strata.Edge} {q : Nat} {l m : List Bool} (hm : m = roundB (E ++ (r.body.take q).map (edgeOf r)) l) (hb : bat m r.head.pred.toNat = false) : m = roundB (E ++ r.body.map (edgeOf r)) l := by
  have h1 : r.body.map (edgeOf r) = (r.body.take q).map (edgeOf r) ++ (r.body.drop q).map (edgeOf r) := by rw [← List.map_append, List.take_append_drop]
  rw [h1, ← List.append_assoc, roundB_append, ← hm, idle hb]
  intro e he
  obtain ⟨l, _, rfl⟩ := List.mem_map.1 he
  rfl

end Go.Proofs.YtlfccloaoopadafGreatDoor.Prog

/-
  The laws' own 'choose': a number is turned into one that is less than n; and how rows of numbers and truths are read.
-/
namespace Go.Proofs.YtlfccloaoopadafGreatDoor.Prog
open Go.ChangeShapes Go.WideShapes Go.ChangeAt Go.RowKit
open Strata

def chosen (c : Int) (n : Nat) : Nat := ((if c < 0 then -(c + 1) else c) % (n : Int)).toNat
theorem chosen_lt (c : Int) {n : Nat} (h : 0 < n) : chosen c n < n := by
  unfold chosen
  have h1 := Int.emod_lt_of_pos (if c < 0 then -(c + 1) else c) (show (0 : Int) < n by omega)
  have h2 := Int.emod_nonneg (if c < 0 then -(c + 1) else c) (show (n : Int) ≠ 0 by omega)
  omega
theorem chosen_neg {c : Int} {n : Nat} (hn : 0 < n) (h : c < 0) : -(c + 1).tmod (n : Int) = (chosen c n : Int) := by
  unfold chosen
  rw [if_pos h, ← Int.neg_tmod, Int.tmod_eq_emod_of_nonneg (by omega)]
  have h2 := Int.emod_nonneg (-(c + 1)) (show (n : Int) ≠ 0 by omega)
  omega
theorem chosen_pos {c : Int} {n : Nat} (hn : 0 < n) (h : ¬ c < 0) : c % (n : Int) = (chosen c n : Int) := by
  unfold chosen
  rw [if_neg h]
  have h2 := Int.emod_nonneg c (show (n : Int) ≠ 0 by omega)
  omega
theorem wf_range {c : Int} (h : (Lit.int .i64 c).wf = true) : -9223372036854775808 ≤ c ∧ c ≤ 9223372036854775807 := by
  have h' : (decide (IntKind.min .i64 ≤ c) && decide (c ≤ IntKind.max .i64)) = true := h
  rw [Bool.and_eq_true, decide_eq_true_eq, decide_eq_true_eq] at h'
  exact h'
theorem bools_row {w : World} {v : Value} {l : List Bool} {n : Nat} (h : boolsAt w v l) (hl : l.length = n) (hn : 0 < n) : ∃ b off cap, v = .slice (some ⟨b, off, none⟩) n cap ∧ b < w.heap.size ∧ ∀ j, j < n → w.cell? ⟨b, off + j, none⟩ = some (.bool (bat l j)) := by
  subst hl
  obtain ⟨a, cap, rfl, hm, hx⟩ := h
  rcases hx with rfl | ⟨b, off, rfl, hb, hx⟩
  · simp at hn
  · refine ⟨b, off, cap, rfl, hb, fun j hj => ?_⟩
    have := hx j l[j] (List.getElem?_eq_getElem hj)
    rw [Nat.mul_one] at this
    rw [bat, List.getD_eq_getElem?_getD, List.getElem?_eq_getElem hj]
    exact this
theorem ints_row {w : World} {v : Value} {l : List Nat} {n : Nat} (h : intsAt w v l) (hl : l.length = n) (hn : 0 < n) : ∃ b off cap, v = .slice (some ⟨b, off, none⟩) n cap ∧ b < w.heap.size ∧ ∀ j, j < n → w.cell? ⟨b, off + j, none⟩ = some (.int .i64 (at_ l j : Int)) := by
  subst hl
  obtain ⟨a, cap, rfl, hm, hx⟩ := h
  rcases hx with rfl | ⟨b, off, rfl, hb, hx⟩
  · simp at hn
  · refine ⟨b, off, cap, rfl, hb, fun j hj => ?_⟩
    have := hx j l[j] (List.getElem?_eq_getElem hj)
    rw [Nat.mul_one] at this
    rw [at_, List.getD_eq_getElem?_getD, List.getElem?_eq_getElem hj]
    exact this
theorem boxL {w w1 : World} {a b : Value} {t : TypeId} (hb : Below (w.alloc (.cells #[a, b] t)).heap.size (w.alloc (.cells #[a, b] t)) w1) : w1.cell? ⟨w.heap.size, 0, none⟩ = some a ∧ w1.cell? ⟨w.heap.size, 1, none⟩ = some b ∧ w.heap.size < w1.heap.size :=
  ⟨by rw [hb.cell (p := ⟨w.heap.size, 0, none⟩) (by simp)]; simp [go_sem], by rw [hb.cell (p := ⟨w.heap.size, 1, none⟩) (by simp)]; simp [go_sem], by have := hb.size; simp at this; omega⟩
theorem boxO {w1 w2 : World} {B : Nat} {a b : Value} (hb : Below w1.heap.size w1 w2) (h : w1.cell? ⟨B, 0, none⟩ = some a ∧ w1.cell? ⟨B, 1, none⟩ = some b ∧ B < w1.heap.size) : w2.cell? ⟨B, 0, none⟩ = some a ∧ w2.cell? ⟨B, 1, none⟩ = some b ∧ B < w2.heap.size :=
  ⟨(cell_lasts hb h.2.2).trans h.1, (cell_lasts hb h.2.2).trans h.2.1, Nat.lt_of_lt_of_le h.2.2 hb.size⟩
end Go.Proofs.YtlfccloaoopadafGreatDoor.Prog
