/-
  The library's slices.Index and Contains at facts; slices.IndexFunc, told where; slices.DeleteFunc at facts, of a row of the call's own.
-/
import Derived.Lib.SliceRun
import Derived.Test.YtlfccloaoopadafGreatG10
import Derived.Test.YtlfccloaoopadafGreatG5
namespace Go.Proofs.YtlfccloaoopadafGreat.Semi
open Go.ChangeShapes Go.WideShapes Go.ChangeAt Go.RowKit
open Base (Asks factV cellsF capOk capNew)

set_option maxRecDepth 100000 in
set_option maxHeartbeats 4000000 in
theorem indexFact_n (w : World) (xv : Value) (xs : List Fct) (g : Nat) (lb : Array Value) (eg : ∀ args w, (callFunc g args).run Tryz.prog w = .ok (.enter g args) w) (p : Fct → Bool) (hx : factsAt w xv xs) (hp : Asks factV g lb p xs w) :
    Calls Tryz.prog 56 #[xv, .func (.func g) #[] lb] w fun e w' => ∃ i : Int, e = .returned (.int .i64 i) ∧ ((i = -1 ∧ xs.any p = false) ∨ ∃ k : Nat, ∃ hk : k < xs.length, i = (k : Int) ∧ p xs[k] = true ∧ (xs.take k).any p = false) ∧ Below w.heap.size w w' := by
  obtain ⟨xa, xc, rfl, hm, hx⟩ := hx
  have HX : Hid (xs = [] ∨ ∃ b off, xa = some ⟨b, off, none⟩ ∧ b < w.heap.size ∧ ∀ i x, xs[i]? = some x → factAt w b (off + i * 4) x) := hx
  have HP : Hid (Asks factV g lb p xs w) := hp
  clear hx hp
  go_enter Tryz.func56, Tryz.ntmps56
  go_wp2_with fail
  go_loopw [8] (fun i wr => ∃ j : Nat, j ≤ xs.length ∧ i = .int .i64 j ∧ (xs.take j).any p = false ∧ Below w.heap.size w wr) (fun i _ => xs.length - (intOf i).toNat)
  case atStart => exact ⟨0, Nat.zero_le _, rfl, rfl, Below.refl _ _⟩
  case round =>
    obtain ⟨j, hj, rfl, hno, hbw⟩ := hrel
    by_cases hlt : j < xs.length
    · obtain ⟨b, off, rfl, hbl, hx⟩ := HX.out.resolve_left (by rintro rfl; simp at hlt)
      have hcall := HP.out wr xs[j] hbw (List.getElem_mem hlt)
      have HT : Hid ((xs.take (j + 1)).any p = p xs[j]) := by show _ = _; rw [any_take hlt, hno, Bool.false_or]
      have HNO : Hid ((xs.take j).any p = false) := hno
      have hcell := hx j xs[j] (by simp [hlt])
      have hjl : (j : Int) < (xs.length : Int) := by omega
      have hj0 : (0 : Int) ≤ (j : Int) := by omega
      clear hx hno HP HX
      have HQ : Hid (∀ b, p xs[j] = b → p xs[j] = b) := fun _ h => h
      generalize hqq : xs[j] = q at hcell hcall HT
      obtain ⟨qp, qa, qb, qv⟩ := q
      obtain ⟨t0, t1, t2, t3⟩ := hcell
      replace t0 := (cell_lasts hbw hbl).trans t0
      replace t1 := (cell_lasts hbw hbl).trans t1
      replace t2 := (cell_lasts hbw hbl).trans t2
      replace t3 := (cell_lasts hbw hbl).trans t3
      simp only [factV] at hcall
      dsimp only at t0 t1 t2 t3
      have HQQ : Hid (xs[j] = ⟨qp, qa, qb, qv⟩) := hqq
      clear hqq HQ
      cases hq : p ⟨qp, qa, qb, qv⟩
      · rw [hq] at hcall HT
        go_wp2_with (go_at_fn g; refine hcall.mono ?_; rintro e w1 ⟨rfl, hb1⟩)
        go_roundw
        case rel => exact ⟨j + 1, by omega, by go_num, HT.out, hbw.trans (hb1.mono hbw.size)⟩
        case measure => simp [intOf]; omega
      · rw [hq] at hcall
        clear HT
        have HY : Hid (p xs[j] = true) := by show _ = _; rw [HQQ.out]; exact hq
        go_wp2_with (go_at_fn g; refine hcall.mono ?_; rintro e w1 ⟨rfl, hb1⟩)
        go_ret
        exact ⟨(j : Int), rfl, .inr ⟨j, hlt, rfl, HY.out, HNO.out⟩, hbw.trans (hb1.mono hbw.size)⟩
    · have HE : Hid (xs.any p = false) := any_take_end hlt hno
      clear hno HP HX
      go_wp2_with fail
      go_ret
      exact ⟨-1, rfl, .inl ⟨rfl, HE.out⟩, hbw⟩
end Go.Proofs.YtlfccloaoopadafGreat.Semi

/-
  The library's slices.DeleteFunc at facts, of a row of the call's own: what is left is what the question says no to, in order.
-/
namespace Go.Proofs.YtlfccloaoopadafGreat.Semi
open Go.ChangeShapes Go.WideShapes Go.ChangeAt Go.RowKit
open Base (Asks factV cellsF capOk capNew)

/-- a row of facts that may be written, from the block's first cell on -/
structure RowF (x : World) (g : Nat) (ys : List Fct) : Prop where
  lt : g < x.heap.size
  free : ∀ o, x.frozen? ⟨g, o, none⟩ = false
  at_ : ∀ k y, ys[k]? = some y → factAt x g (k * 4) y
theorem RowF.below {x y : World} {g : Nat} {ys : List Fct} (h : RowF x g ys) (hb : Below x.heap.size x y) : RowF y g ys :=
  ⟨Nat.lt_of_lt_of_le h.lt hb.size, fun o => (World.frozen?_of_block (a := ⟨g, o, none⟩) (hb.block g h.lt)).trans (h.free o), fun k z hk => factAt.lasts x y g _ _ hb h.lt (h.at_ k z hk)⟩
theorem RowF.isS {x : World} {g : Nat} {ys : List Fct} (h : RowF x g ys) {o : Nat} (ho : o < ys.length * 4) : (x.cell? ⟨g, o, none⟩).isSome = true := by
  have hk : o / 4 < ys.length := by omega
  obtain ⟨h0, h1, h2, h3⟩ := h.at_ (o / 4) ys[o / 4] (List.getElem?_eq_getElem hk)
  have : o = o / 4 * 4 ∨ o = o / 4 * 4 + 1 ∨ o = o / 4 * 4 + 2 ∨ o = o / 4 * 4 + 3 := by omega
  rcases this with e | e | e | e <;> rw [e]
  · rw [h0]; rfl
  · rw [h1]; rfl
  · rw [h2]; rfl
  · rw [h3]; rfl
/-- the world behind a store of a fact -/
def putF (x : World) (g i : Nat) (y : Fct) : World := (((x.setCell ⟨g, i * 4, none⟩ (.int .i64 y.pred)).setCell ⟨g, i * 4 + 1, none⟩ (.int .i64 y.a)).setCell ⟨g, i * 4 + 2, none⟩ (.int .i64 y.b)).setCell ⟨g, i * 4 + 3, none⟩ (.int .i64 y.val)
theorem putF_below {x : World} {g i n : Nat} {y : Fct} (h : n ≤ g) : Below n x (putF x g i y) :=
  (((((Below.refl _ _).setCell (p := ⟨g, i * 4, none⟩) h _).setCell (p := ⟨g, i * 4 + 1, none⟩) h _).setCell (p := ⟨g, i * 4 + 2, none⟩) h _).setCell (p := ⟨g, i * 4 + 3, none⟩) h _)
theorem RowF.put {x : World} {g : Nat} {ys : List Fct} (h : RowF x g ys) {i : Nat} (hi : i < ys.length) (y : Fct) : RowF (putF x g i y) g (ys.set i y) := by
  obtain ⟨s0, s1, s2, s3⟩ := h.at_ i ys[i] (List.getElem?_eq_getElem hi)
  refine ⟨by unfold putF; rw [size_set, size_set, size_set, size_set]; exact h.lt, fun o => by unfold putF; simp [h.free o], fun k z hk => ?_⟩
  rw [List.getElem?_set] at hk
  by_cases e : i = k
  · subst e
    rw [if_pos rfl, if_pos hi] at hk
    cases hk
    unfold putF
    refine ⟨?_, ?_, ?_, ?_⟩
    · rw [cell_off (by omega), cell_off (by omega), cell_off (by omega)]; exact cell_set s0
    · rw [cell_off (by omega), cell_off (by omega)]; exact cell_set (by rw [cell_off (by omega)]; exact s1)
    · rw [cell_off (by omega)]; exact cell_set (by rw [cell_off (by omega), cell_off (by omega)]; exact s2)
    · exact cell_set (by rw [cell_off (by omega), cell_off (by omega), cell_off (by omega)]; exact s3)
  · rw [if_neg e] at hk
    obtain ⟨h0, h1, h2, h3⟩ := h.at_ k z hk
    have : ∀ o u, k * 4 ≤ o → o < k * 4 + 4 → x.cell? ⟨g, o, none⟩ = some u → (putF x g i y).cell? ⟨g, o, none⟩ = some u := fun o u l1 l2 hu => by
      unfold putF
      rw [cell_off (by omega), cell_off (by omega), cell_off (by omega), cell_off (by omega)]
      exact hu
    exact ⟨this _ _ (by omega) (by omega) h0, this _ _ (by omega) (by omega) h1, this _ _ (by omega) (by omega) h2, this _ _ (by omega) (by omega) h3⟩
theorem setCells_below {n b : Nat} (h : n ≤ b) : ∀ (vs : List Value) (o : Nat) (w : World), Below n w (w.setCells b o vs)
  | [], _, _ => Below.refl _ _
  | v :: r, o, w => by
    rw [World.setCells]
    exact ((Below.refl n w).setCell (p := ⟨b, o, none⟩) h v).trans (setCells_below h r (o + 1) _)
theorem RowF.cut {x : World} {g : Nat} {ys : List Fct} (h : RowF x g ys) {i : Nat} (hi : i ≤ ys.length) (vs : List Value) : RowF (x.setCells g (i * 4) vs) g (ys.take i) := by
  refine ⟨Nat.lt_of_lt_of_le h.lt (setCells_below (Nat.zero_le _) vs _ x).size, fun o => by rw [World.frozen?_setCells]; exact h.free o, fun k z hk => ?_⟩
  have hlt : k < i := by
    have := (List.getElem?_eq_some_iff.1 hk).1
    simp at this
    omega
  rw [List.getElem?_take_of_lt hlt] at hk
  obtain ⟨h0, h1, h2, h3⟩ := h.at_ k z hk
  have : ∀ o u, o < i * 4 → x.cell? ⟨g, o, none⟩ = some u → (x.setCells g (i * 4) vs).cell? ⟨g, o, none⟩ = some u := fun o u l hu => by
    rw [World.cell?_setCells_out g vs (i * 4) x ⟨g, o, none⟩ (fun _ _ => .inl l)]
    exact hu
  exact ⟨this _ _ (by omega) h0, this _ _ (by omega) h1, this _ _ (by omega) h2, this _ _ (by omega) h3⟩
/-- where a loop over the row stands: i facts are kept of the first j -/
structure Mid (p : Fct → Bool) (xs : List Fct) (i j : Nat) (ys : List Fct) : Prop where
  len : ys.length = xs.length
  lt : i < j
  le : j ≤ xs.length
  low : ys.take i = (xs.take j).filter fun y => !p y
  high : ∀ k, j ≤ k → ys[k]? = xs[k]?
theorem Mid.start {p : Fct → Bool} {xs : List Fct} {k : Nat} (hk : k < xs.length) (h1 : p xs[k] = true) (h2 : (xs.take k).any p = false) : Mid p xs k (k + 1) xs := by
  refine ⟨rfl, by omega, by omega, ?_, fun _ _ => rfl⟩
  rw [List.take_succ_eq_append_getElem hk, List.filter_append]
  have e : (xs.take k).filter (fun y => !p y) = xs.take k := List.filter_eq_self.2 fun y hy => by
    have := List.any_eq_false.1 h2 y hy
    simpa using this
  rw [e]
  simp [h1]
theorem Mid.skip {p : Fct → Bool} {xs ys : List Fct} {i j : Nat} (h : Mid p xs i j ys) (hj : j < xs.length) (hp : p xs[j] = true) : Mid p xs i (j + 1) ys := by
  refine ⟨h.len, by have := h.lt; omega, by omega, ?_, fun k hk => h.high k (by omega)⟩
  rw [List.take_succ_eq_append_getElem hj, List.filter_append, h.low]
  simp [hp]
theorem Mid.keep {p : Fct → Bool} {xs ys : List Fct} {i j : Nat} (h : Mid p xs i j ys) (hj : j < xs.length) (hp : p xs[j] = false) : Mid p xs (i + 1) (j + 1) (ys.set i xs[j]) := by
  have hij := h.lt
  have hl := h.len
  refine ⟨by rw [List.length_set]; exact h.len, by omega, by omega, ?_, fun k hk => ?_⟩
  · rw [List.take_succ_eq_append_getElem hj, List.filter_append, ← h.low, List.take_succ_eq_append_getElem (by rw [List.length_set]; omega), List.take_set_of_le (Nat.le_refl _)]
    simp [hp]
  · rw [List.getElem?_set, if_neg (by omega)]
    exact h.high k (by omega)
theorem Mid.done {p : Fct → Bool} {xs ys : List Fct} {i : Nat} (h : Mid p xs i xs.length ys) : ys.take i = xs.filter fun y => !p y := by
  rw [h.low, List.take_length]
theorem zeros_one (n : Nat) : ∀ v ∈ (Builtin.zeroCells (Value.agg #[.int .i64 0, .int .i64 0, .int .i64 0, .int .i64 0]).cells n).toList, v.oneCell' = true := by
  intro v hv
  have e : (Value.agg #[.int .i64 0, .int .i64 0, .int .i64 0, .int .i64 0]).cells = #[.int .i64 0, .int .i64 0, .int .i64 0, .int .i64 0] := by rfl
  rw [e] at hv
  simp only [Builtin.zeroCells, Array.toList_map, List.mem_map] at hv
  obtain ⟨i, _, rfl⟩ := hv
  have : i % 4 < 4 := Nat.mod_lt _ (by omega)
  show (#[Value.int .i64 0, .int .i64 0, .int .i64 0, .int .i64 0][i % 4]!).oneCell' = true
  generalize i % 4 = k at this
  match k, this with
  | 0, _ => rfl
  | 1, _ => rfl
  | 2, _ => rfl
  | 3, _ => rfl
theorem zeros_length (n : Nat) : (Builtin.zeroCells (Value.agg #[.int .i64 0, .int .i64 0, .int .i64 0, .int .i64 0]).cells n).toList.length = n * 4 := by
  have e : (Value.agg #[.int .i64 0, .int .i64 0, .int .i64 0, .int .i64 0]).cells = #[.int .i64 0, .int .i64 0, .int .i64 0, .int .i64 0] := by rfl
  rw [e]
  simp [Builtin.zeroCells]
theorem run_clear {x : World} {g : Nat} {ys : List Fct} (h : RowF x g ys) {i : Nat} (hi : i < ys.length) (c : Nat) (ty : TypeId) : (Builtin.clear_ #[26] ty #[.slice (some ⟨g, i * 4, none⟩) (ys.length - i) c]).run Tryz.prog x = .ok (.tuple #[]) (x.setCells g (i * 4) (Builtin.zeroCells (Value.agg #[.int .i64 0, .int .i64 0, .int .i64 0, .int .i64 0]).cells (ys.length - i)).toList) := by
  have hst := run_storeCells_cells (P := Tryz.prog) g (i * 4) (Builtin.zeroCells (Value.agg #[.int .i64 0, .int .i64 0, .int .i64 0, .int .i64 0]).cells (ys.length - i)).toList 0 x (fun j hj => by rw [zeros_length] at hj; exact h.isS (by omega)) (fun j _ => h.free _) (zeros_one _)
  simp only [Nat.add_zero] at hst
  obtain ⟨m, hm⟩ : ∃ m, ys.length - i = m + 1 := ⟨ys.length - i - 1, by omega⟩
  rw [hm] at hst ⊢
  simp [Builtin.clear_, run_underlying Tryz.underlying26, hst]
theorem RowF.facts {x : World} {g cap : Nat} {ys : List Fct} (h : RowF x g ys) (hl : ys.length ≤ 500) : factsAt x (.slice (some ⟨g, 0, none⟩) ys.length cap) ys :=
  ⟨_, cap, rfl, by omega, .inr ⟨g, 0, rfl, h.lt, fun i y hi => by rw [Nat.zero_add]; exact h.at_ i y hi⟩⟩

set_option maxRecDepth 100000 in
set_option maxHeartbeats 4000000 in
theorem delete_c (w0 w : World) (g cap : Nat) (xs : List Fct) (fn : Nat) (lb : Array Value) (eg : ∀ args w, (callFunc fn args).run Tryz.prog w = .ok (.enter fn args) w) (p : Fct → Bool) (hw : Below w0.heap.size w0 w) (hg : w0.heap.size ≤ g) (hrow : RowF w g xs) (hcap : xs.length ≤ cap) (hl : xs.length ≤ 500)
    (hp : ∀ (w1 : World) (q : Fct), Below w0.heap.size w0 w1 → q ∈ xs → Calls Tryz.prog fn (#[factV q] ++ lb) w1 fun e w' => e = .returned (.bool (p q)) ∧ Below w1.heap.size w1 w') :
    Calls Tryz.prog 31 #[.slice (some ⟨g, 0, none⟩) xs.length cap, .func (.func fn) #[] lb] w fun e w' => e = .returned (.slice (some ⟨g, 0, none⟩) (xs.filter fun y => !p y).length cap) ∧ RowF w' g (xs.filter fun y => !p y) ∧ Below w0.heap.size w0 w' := by
  have HIX : Hid (Calls Tryz.prog 56 #[.slice (some ⟨g, 0, none⟩) xs.length cap, .func (.func fn) #[] lb] w fun e w' => ∃ i : Int, e = .returned (.int .i64 i) ∧ ((i = -1 ∧ xs.any p = false) ∨ ∃ k : Nat, ∃ hk : k < xs.length, i = (k : Int) ∧ p xs[k] = true ∧ (xs.take k).any p = false) ∧ Below w.heap.size w w') := indexFact_n w _ xs fn lb eg p (hrow.facts hl) (fun w1 q h hq => hp w1 q (hw.trans (h.mono hw.size)) hq)
  have HP : Hid (∀ (w1 : World) (q : Fct), Below w0.heap.size w0 w1 → q ∈ xs → Calls Tryz.prog fn (#[factV q] ++ lb) w1 fun e w' => e = .returned (.bool (p q)) ∧ Below w1.heap.size w1 w') := hp
  have HR : Hid (RowF w g xs) := hrow
  clear hp hrow
  go_enter Tryz.func31, Tryz.ntmps31
  go_wp2_with fail
  refine HIX.out.mono ?_
  rintro e W1 ⟨i0, rfl, hi0, hb1⟩
  have k1 : Below w0.heap.size w0 W1 := hw.trans (hb1.mono hw.size)
  have HR1 : Hid (RowF W1 g xs) := HR.out.below hb1
  rcases hi0 with ⟨rfl, hno⟩ | ⟨k, hk, rfl, hpk, hnk⟩
  · have HF : Hid (xs.filter (fun y => !p y) = xs) := List.filter_eq_self.2 fun y hy => by
      have := List.any_eq_false.1 hno y hy
      simpa using this
    clear hno
    go_wp2_with fail
    go_ret
    rw [HF.out]
    exact ⟨rfl, HR1.out, k1⟩
  · have HM0 : Hid (Mid p xs k (k + 1) xs) := Mid.start hk hpk hnk
    have hkm : ((k : Int) == -1) = false := beq_eq_false_iff_ne.2 (by omega)
    clear hpk hnk
    go_wp2_with fail
    go_loopw [5, 6, 7] (fun si sj _ wr => ∃ (i j : Nat) (ys : List Fct), si = .int .i64 i ∧ sj = .int .i64 j ∧ Hid (Mid p xs i j ys ∧ RowF wr g ys ∧ Below w0.heap.size w0 wr)) (fun _ sj _ _ => xs.length - (intOf sj).toNat)
    case atStart => exact ⟨k, k + 1, xs, rfl, by go_num, HM0.out, HR1.out, k1⟩
    case round =>
      obtain ⟨i, j, ys, rfl, rfl, hm⟩ := hrel
      have hij := hm.out.1.lt
      have hle := hm.out.1.le
      have hlen := hm.out.1.len
      by_cases hlt : j < xs.length
      · have hil : i < ys.length := by omega
        obtain ⟨t0, t1, t2, t3⟩ := hm.out.2.1.at_ j xs[j] (by rw [hm.out.1.high j (Nat.le_refl _)]; exact List.getElem?_eq_getElem hlt)
        have HQ : Hid (xs[j] ∈ xs) := List.getElem_mem hlt
        have HSK : Hid (p xs[j] = true → Mid p xs i (j + 1) ys) := fun h => hm.out.1.skip hlt h
        have HKE : Hid (p xs[j] = false → Mid p xs (i + 1) (j + 1) (ys.set i xs[j])) := fun h => hm.out.1.keep hlt h
        have hjl : (j : Int) < (xs.length : Int) := by omega
        have hil' : (i : Int) < (xs.length : Int) := by omega
        generalize xs[j] = q at *
        obtain ⟨W2, hW2⟩ : ∃ W2, wr.alloc (.cells #[.int .i64 q.pred, .int .i64 q.a, .int .i64 q.b, .int .i64 q.val] 41) = W2 := ⟨_, rfl⟩
        have b2 : Below wr.heap.size wr W2 := by rw [← hW2]; exact below_alloc _ _
        have s2 : wr.heap.size < W2.heap.size := by rw [← hW2]; simp
        have k2 : Below w0.heap.size w0 W2 := hm.out.2.2.trans (b2.mono hm.out.2.2.size)
        obtain ⟨d0, d1, d2, d3⟩ : W2.cell? ⟨wr.heap.size, 0, none⟩ = some (.int .i64 q.pred) ∧ W2.cell? ⟨wr.heap.size, 1, none⟩ = some (.int .i64 q.a) ∧ W2.cell? ⟨wr.heap.size, 2, none⟩ = some (.int .i64 q.b) ∧ W2.cell? ⟨wr.heap.size, 3, none⟩ = some (.int .i64 q.val) := by rw [← hW2]; simp [go_sem]
        have HR2 : Hid (∀ x, Below W2.heap.size W2 x → RowF x g ys ∧ x.cell? ⟨wr.heap.size, 0, none⟩ = some (.int .i64 q.pred) ∧ x.cell? ⟨wr.heap.size, 1, none⟩ = some (.int .i64 q.a) ∧ x.cell? ⟨wr.heap.size, 2, none⟩ = some (.int .i64 q.b) ∧ x.cell? ⟨wr.heap.size, 3, none⟩ = some (.int .i64 q.val)) := fun x hx => ⟨(hm.out.2.1.below b2).below hx, (cell_lasts hx s2).trans d0, (cell_lasts hx s2).trans d1, (cell_lasts hx s2).trans d2, (cell_lasts hx s2).trans d3⟩
        have hcall := HP.out W2 q k2 HQ.out
        simp only [factV] at hcall
        cases hq : p q
        · rw [hq] at hcall
          have HK2 : Hid (Mid p xs (i + 1) (j + 1) (ys.set i q)) := HKE.out hq
          clear HKE HSK
          go_wp2_with (go_at_fn fn; refine hcall.mono ?_; rintro e W3 ⟨rfl, hb3⟩; obtain ⟨r3, e0, e1, e2, e3⟩ := HR2.out W3 hb3; obtain ⟨s0, s1, s2', s3⟩ := r3.at_ i _ (List.getElem?_eq_getElem hil); have hz := r3.free; clear t0 t1 t2 t3 d0 d1 d2 d3)
          go_roundw
          case rel => exact ⟨i + 1, j + 1, ys.set i q, by go_num, by go_num, HK2.out, r3.put hil q, (k2.trans (hb3.mono k2.size)).trans (putF_below hg)⟩
          case measure => simp [intOf]; omega
        · rw [hq] at hcall
          have HK2 : Hid (Mid p xs i (j + 1) ys) := HSK.out hq
          clear HKE HSK
          go_wp2_with (go_at_fn fn; refine hcall.mono ?_; rintro e W3 ⟨rfl, hb3⟩; have r3 := (HR2.out W3 hb3).1; clear t0 t1 t2 t3 d0 d1 d2 d3)
          go_roundw
          case rel => exact ⟨i, j + 1, ys, rfl, by go_num, HK2.out, r3, k2.trans (hb3.mono k2.size)⟩
          case measure => simp [intOf]; omega
      · obtain rfl : j = xs.length := by omega
        have HD : Hid (ys.take i = xs.filter fun y => !p y) := hm.out.1.done
        have hcl := fun c ty => run_clear hm.out.2.1 (i := i) (by omega) c ty
        rw [hlen] at hcl
        have HC : Hid (∀ vs, RowF (wr.setCells g (i * 4) vs) g (ys.take i) ∧ Below w0.heap.size w0 (wr.setCells g (i * 4) vs)) := fun vs => ⟨hm.out.2.1.cut (by omega) vs, hm.out.2.2.trans (setCells_below hg vs _ _)⟩
        have HI : Hid ((xs.filter fun y => !p y).length = i) := by show _ = _; rw [← HD.out, List.length_take]; omega
        have hix : (i : Int) ≤ (xs.length : Int) := by omega
        go_wp2_with fail
        go_ret
        rw [HI.out, ← HD.out]
        exact ⟨rfl, HC.out _⟩
end Go.Proofs.YtlfccloaoopadafGreat.Semi
