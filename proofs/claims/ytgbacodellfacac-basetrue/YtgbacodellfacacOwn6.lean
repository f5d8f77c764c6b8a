/-
  New lists of facts: what the library's slices.Grow, slices.Concat and slices.Clone lay in memory.
-/
import Derived.Test.YtgbacodellfacacOwn5
import Derived.Deep.AppendLies
import Derived.Deep.DeepAppendWide
namespace Go.Proofs.Ytgbacodellfacac.Base
open Go.ChangeShapes Go.WideShapes Go.ChangeAt Go.RowKit

def cellsF : List Fct → List Value
  | [] => []
  | x :: l => .int .i64 x.pred :: .int .i64 x.a :: .int .i64 x.b :: .int .i64 x.val :: cellsF l
theorem cellsF_length : ∀ l, (cellsF l).length = l.length * 4
  | [] => rfl
  | x :: l => by simp only [cellsF, List.length_cons, cellsF_length l]; omega
theorem cellsF_append : ∀ l m, cellsF (l ++ m) = cellsF l ++ cellsF m
  | [], m => rfl
  | x :: l, m => by simp only [List.cons_append, cellsF, cellsF_append l m]
theorem cellsF_one : ∀ l, ∀ u ∈ cellsF l, u.oneCell' = true
  | [], u, h => by cases h
  | x :: l, u, h => by
    simp only [cellsF, List.mem_cons] at h
    rcases h with rfl | rfl | rfl | rfl | h
    · rfl
    · rfl
    · rfl
    · rfl
    · exact cellsF_one l u h
theorem cellsF_at : ∀ (l : List Fct) (i : Nat) (x : Fct), l[i]? = some x → (cellsF l)[i * 4]? = some (.int .i64 x.pred) ∧ (cellsF l)[i * 4 + 1]? = some (.int .i64 x.a) ∧ (cellsF l)[i * 4 + 2]? = some (.int .i64 x.b) ∧ (cellsF l)[i * 4 + 3]? = some (.int .i64 x.val)
  | [], i, x, h => by simp at h
  | y :: l, 0, x, h => by
    obtain rfl : y = x := by simpa using h
    exact ⟨rfl, rfl, rfl, rfl⟩
  | y :: l, i + 1, x, h => by
    have := cellsF_at l i x (by simpa using h)
    rw [show (i + 1) * 4 = i * 4 + 4 by omega]
    simpa [cellsF] using this
theorem cellsF_get : ∀ (l : List Fct) (j : Nat) (u : Value), (cellsF l)[j]? = some u → ∃ i x, l[i]? = some x ∧ ((j = i * 4 ∧ u = .int .i64 x.pred) ∨ (j = i * 4 + 1 ∧ u = .int .i64 x.a) ∨ (j = i * 4 + 2 ∧ u = .int .i64 x.b) ∨ (j = i * 4 + 3 ∧ u = .int .i64 x.val))
  | [], j, u, h => by simp [cellsF] at h
  | y :: l, 0, u, h => ⟨0, y, rfl, .inl ⟨rfl, by simpa [cellsF] using h.symm⟩⟩
  | y :: l, 1, u, h => ⟨0, y, rfl, .inr (.inl ⟨rfl, by simpa [cellsF] using h.symm⟩)⟩
  | y :: l, 2, u, h => ⟨0, y, rfl, .inr (.inr (.inl ⟨rfl, by simpa [cellsF] using h.symm⟩))⟩
  | y :: l, 3, u, h => ⟨0, y, rfl, .inr (.inr (.inr ⟨rfl, by simpa [cellsF] using h.symm⟩))⟩
  | y :: l, j + 4, u, h => by
    obtain ⟨i, x, hx, hr⟩ := cellsF_get l j u (by simpa [cellsF] using h)
    refine ⟨i + 1, x, by simpa using hx, ?_⟩
    rcases hr with ⟨rfl, rfl⟩ | ⟨rfl, rfl⟩ | ⟨rfl, rfl⟩ | ⟨rfl, rfl⟩
    · exact .inl ⟨by omega, rfl⟩
    · exact .inr (.inl ⟨by omega, rfl⟩)
    · exact .inr (.inr (.inl ⟨by omega, rfl⟩))
    · exact .inr (.inr (.inr ⟨by omega, rfl⟩))
theorem add_none (b off i : Nat) : (⟨b, off, none⟩ : Addr).add i = ⟨b, off + i, none⟩ := by simp [Addr.add]

/-- v holds the facts xs somewhere in memory -/
def piece (w : World) (v : Value) (xs : List Fct) : Prop :=
  (∃ c, v = .slice none 0 c ∧ xs = []) ∨ ∃ ad c, v = .slice (some ad) xs.length c ∧ ∀ j u, (cellsF xs)[j]? = some u → w.cell? (ad.add j) = some u
theorem addr_lt {w : World} {p : Addr} {v : Value} (h : w.cell? p = some v) : p.block < w.heap.size := by
  refine Classical.byContradiction fun hn => ?_
  have : w.heap[p.block]? = none := by simp; omega
  simp [World.cell?, this] at h
theorem piece.lasts {w w' : World} {v : Value} {xs : List Fct} (h : piece w v xs) (hb : Below w.heap.size w w') : piece w' v xs := by
  rcases h with h | ⟨ad, c, h1, h2⟩
  · exact .inl h
  · exact .inr ⟨ad, c, h1, fun j u hu => (hb.cell (addr_lt (h2 j u hu))).trans (h2 j u hu)⟩
theorem facts_cells {w : World} {b off : Nat} {xs : List Fct} (h : ∀ i x, xs[i]? = some x → factAt w b (off + i * 4) x) : ∀ j u, (cellsF xs)[j]? = some u → w.cell? ((⟨b, off, none⟩ : Addr).add j) = some u := by
  intro j u hu
  obtain ⟨i, x, hx, hr⟩ := cellsF_get xs j u hu
  obtain ⟨c0, c1, c2, c3⟩ := h i x hx
  rw [add_none]
  rcases hr with ⟨rfl, rfl⟩ | ⟨rfl, rfl⟩ | ⟨rfl, rfl⟩ | ⟨rfl, rfl⟩
  · exact c0
  · exact c1
  · exact c2
  · exact c3
theorem facts_piece {w : World} {v : Value} {xs : List Fct} (h : factsAt w v xs) : piece w v xs := by
  obtain ⟨a, c, rfl, _, hx⟩ := h
  rcases hx with rfl | ⟨b, off, rfl, _, hx⟩
  · cases a with
    | none => exact .inl ⟨c, rfl, rfl⟩
    | some ad => exact .inr ⟨ad, c, rfl, fun j u hu => by simp [cellsF] at hu⟩
  · exact .inr ⟨_, c, rfl, facts_cells hx⟩
/-- a row of the call's own is a list of facts -/
theorem factsAt_of {w : World} {base : Nat} {e : TypeId} {v : Value} {l : List Fct} (h : w.ownsRow base e 4 v l.length (cellsF l)) (hl : l.length ≤ 140737488355328) : factsAt w v l := by
  obtain ⟨h0, h1⟩ := h
  rcases h1 with ⟨rfl, hn⟩ | ⟨g, cap, cur, rfl, hb, hg, hc, hm, hsz, htk⟩
  · have : l = [] := List.eq_nil_of_length_eq_zero hn
    subst this
    exact ⟨none, 0, rfl, by simp, .inl rfl⟩
  · refine ⟨_, cap, rfl, hl, .inr ⟨g, 0, rfl, (Array.getElem?_eq_some_iff.1 hg).1, ?_⟩⟩
    intro i x hi
    have hcell : ∀ j z, (cellsF l)[j]? = some z → w.cell? ⟨g, 0 + j, none⟩ = some z := by
      intro j z hz
      rw [← htk] at hz
      have hj : j < l.length * 4 := by
        have := (List.getElem?_eq_some_iff.1 hz).1
        simp at this
        omega
      rw [List.getElem?_take_of_lt hj] at hz
      simp [World.cell?, hg]
      simpa using hz
    obtain ⟨k0, k1, k2, k3⟩ := cellsF_at l i x hi
    exact ⟨hcell _ _ k0, hcell _ _ k1, hcell _ _ k2, hcell _ _ k3⟩

theorem infoFact : (Try.prog.info? 25).map (fun i => (i.zero, i.size, i.bytes)) = some (some (.agg #[.int .i64 0, .int .i64 0, .int .i64 0, .int .i64 0]), 4, 32) := by kernel_rfl

section
variable {P : Program}
theorem run_append_zeros (w : World) (t u ty e : TypeId) (k : IntKind) (i : TypeInfo) (z : Value) (ht : P.underlying t = some (.slice e)) (hu : P.underlying u = some (.int k)) (hi : P.info? e = some i) (hz : i.zero = some z) (hs : 0 < i.size)
    (n : Nat) (h0 : 0 < n) (h63 : (n : Int) ≤ 1000) (hb : i.bytes ≤ 1000) :
    (Builtin.append_ #[t, u] ty #[.slice none 0 0, .int .i64 n]).run P w =
      .ok (.slice (some ⟨w.heap.size, 0, none⟩) n (grownCap w n 0 e)) (w.drew.alloc (.cells (Builtin.zeroCells z.cells n ++ Builtin.zeroCells z.cells (grownCap w n 0 e - n)) e)) := by
  have hn : n ≠ 0 := by omega
  have h63' : ¬ (9223372036854775807 < (n : Int)) := by omega
  have hle : n * i.bytes ≤ 1000 * 1000 := Nat.mul_le_mul (by omega) hb
  have h48' : ¬ (281474976710656 < Builtin.nextslicecap n 0 * i.bytes) := by rw [nextslicecap_zero h0]; omega
  have hw : IntKind.i64.wrap (n : Int) = n := by rw [IntKind.wrap_i64]; omega
  have hle' : ¬ (281474976710656 < (n : Int) * (i.bytes : Int)) := by
    have : ((n * i.bytes : Nat) : Int) = (n : Int) * (i.bytes : Int) := by push_cast; rfl
    omega
  have hne : n * i.size ≠ 0 := Nat.mul_ne_zero hn (by omega)
  simp [Builtin.append_, run_underlying ht, run_underlying hu, sizeOf, typeInfo, zeroValue, hi, hz, asInt, asIntOf, hw, hn, h63', h48', hle', hne, Question.forced, run_firstCells_none, newRow, grownCap]
  intro hneg
  omega

theorem wpList_append_zeros (w : World) {ops : Array Oper} {rest : List Oper} {o : Oper} {a : Act} {Q : Exit → Act → World → Prop} (hgd : o.guard = none) (s x : Operand) (t u : TypeId)
    (ho : o.op = .call { callee := .builtin .append, args := #[s, x], argTypes := #[t, u] }) (e : TypeId) (k : IntKind) (i : TypeInfo) (z : Value) (ht : P.underlying t = some (.slice e)) (hu : P.underlying u = some (.int k)) (hi : P.info? e = some i) (hz : i.zero = some z) (hs : 0 < i.size)
    (n : Nat) (h0 : 0 < n) (h63 : (n : Int) ≤ 1000) (hb : i.bytes ≤ 1000) (hsv : a.eval s = .slice none 0 0) (hxv : a.eval x = .int .i64 n)
    (h : wpList P ops Q rest (a.put o.dst (.slice (some ⟨w.heap.size, 0, none⟩) n (grownCap w n 0 e))) (w.drew.alloc (.cells (Builtin.zeroCells z.cells n ++ Builtin.zeroCells z.cells (grownCap w n 0 e - n)) e))) : wpList P ops Q (o :: rest) a w :=
  wpList_plain hgd fun _ hK => by
    have hr := run_append_zeros (P := P) w t u o.type e k i z ht hu hi hz hs n h0 h63 hb
    unfold Oper.wp execOp
    simp only [ho, resolve, invoke, builtin, Sem.run_bind, Sem.run_pure, Result.andThen_ok, List.map_toArray, List.map_cons, List.map_nil, hsv, hxv, hr]
    exact hK _ _ h

theorem wpList_append_none (w : World) {ops : Array Oper} {rest : List Oper} {o : Oper} {a : Act} {Q : Exit → Act → World → Prop} (hgd : o.guard = none) (s x : Operand) (t : TypeId)
    (ho : o.op = .call { callee := .builtin .append, args := #[s, x], argTypes := #[t, t] }) (e : TypeId) (i : TypeInfo) (ht : P.underlying t = some (.slice e)) (hi : P.info? e = some i)
    (ad : Option Addr) (n cap c : Nat) (hn : n ≤ cap) (hsv : a.eval s = .slice ad n cap) (hxv : a.eval x = .slice none 0 c)
    (h : wpList P ops Q rest (a.put o.dst (.slice ad n cap)) w) : wpList P ops Q (o :: rest) a w :=
  wpList_plain hgd fun _ hK => by
    have hr : (Builtin.append_ #[t, t] o.type #[.slice ad n cap, .slice none 0 c]).run P w = .ok (.slice ad n cap) w := by
      cases ad <;> simp [Builtin.append_, run_underlying ht, sizeOf, typeInfo, hi, Builtin.lenOf, Builtin.firstCells, hn, storeCells]
    unfold Oper.wp execOp
    simp only [ho, resolve, invoke, builtin, Sem.run_bind, Sem.run_pure, Result.andThen_ok, List.map_toArray, List.map_cons, List.map_nil, hsv, hxv, hr]
    exact hK _ _ h
end

theorem wpList_append_piece (w : World) {ops : Array Oper} {rest : List Oper} {o : Oper} {a : Act} {Q : Exit → Act → World → Prop} (hgd : o.guard = none) (s x : Operand)
    (ho : o.op = .call { callee := .builtin .append, args := #[s, x], argTypes := #[23, 23] }) (base : Nat) (v : Value) (xs ys : List Fct) (hown : w.ownsRow base 25 4 v xs.length (cellsF xs)) (hs : a.eval s = v) (y : Value) (hy : a.eval x = y) (hp : piece w y ys)
    (hb : xs.length + ys.length ≤ 1000) (hbase : base ≤ w.heap.size)
    (h : ∀ v' w', w'.ownsRow base 25 4 v' (xs ++ ys).length (cellsF (xs ++ ys)) → w.grownBy w' v.ownBlock → wpList Try.prog ops Q rest (a.put o.dst v') w') : wpList Try.prog ops Q (o :: rest) a w := by
  obtain ⟨i, hi, hz, hsz, hby⟩ := info_parts infoFact
  rcases hp with ⟨c, rfl, rfl⟩ | ⟨ad, c, rfl, hc⟩
  · have hown' := hown
    rcases hown.2 with ⟨rfl, h0⟩ | ⟨g, cap, cur, rfl, h1, h2, h3, h4, h5, h6⟩
    · refine wpList_append_none w hgd s x 23 ho 25 i Try.underlying23 hi none 0 0 c (Nat.le_refl _) hs hy ?_
      exact h _ w (by rw [List.append_nil]; exact hown') ⟨rfl, rfl, rfl, Nat.le_refl _, fun _ _ _ => rfl⟩
    · refine wpList_append_none w hgd s x 23 ho 25 i Try.underlying23 hi (some ⟨g, 0, none⟩) xs.length cap c h3 hs hy ?_
      exact h _ w (by rw [List.append_nil]; exact hown') ⟨rfl, rfl, rfl, Nat.le_refl _, fun _ _ _ => rfl⟩
  · refine wpList_append_own_wide w hgd s x 23 ho base 25 i _ 4 32 Try.underlying23 hi hz hsz hby rfl (by omega) v xs.length (cellsF xs) hs hown ad ys.length c (cellsF ys) hy (cellsF_length ys) hc (cellsF_one ys) (by unfold maxLen; omega) (by omega) hbase ?_
    intro v' w' h1 h2 _
    exact h v' w' (by rw [List.length_append, cellsF_append]; exact h1) h2

set_option maxRecDepth 100000 in
set_option maxHeartbeats 4000000 in
theorem grow_c (w : World) (n : Nat) (h0 : 0 < n) (h1 : n ≤ 1000) :
    Calls Try.prog 24 #[.slice none 0 0, .int .i64 n] w fun e w' => ∃ v, e = .returned v ∧ w'.ownsRow w.heap.size 25 4 v 0 [] ∧ Below w.heap.size w w' := by
  obtain ⟨i, hi, hz, hsz, hby⟩ := info_parts infoFact
  have h0' : (0 : Int) < (n : Int) := by omega
  have h0'' : ¬ (n : Int) < 0 := by omega
  have hge := grownCap_ge w n 0 25
  have hcm : grownCap w n 0 25 ≤ maxLen := grownCap_le_maxLen w n 0 25 (by unfold maxLen; omega)
  go_enter Try.func24, Try.ntmps24
  go_wp2_with (at_builtin; refine wpList_append_zeros _ rfl _ _ 23 3 rfl 25 .i64 i _ Try.underlying23 Try.underlying3 hi hz (by omega) n h0 (by omega) (by omega) rfl rfl ?_)
  go_ret
  refine ⟨_, rfl, ⟨rfl, .inr ⟨w.heap.size, _, _, rfl, Nat.le_refl _, heap_alloc_new w.drew _, Nat.zero_le _, hcm, ?_, by simp⟩⟩, ((Below.refl _ _).drew).alloc (Nat.le_refl _) _⟩
  have e4 : #[Value.int .i64 0, .int .i64 0, .int .i64 0, .int .i64 0].size = 4 := rfl
  rw [Array.size_append, size_zeroCells, size_zeroCells, e4]
  omega

set_option maxRecDepth 100000 in
set_option maxHeartbeats 4000000 in
theorem clone_c (w : World) (fv : Value) (f : List Fct) (hf : factsAt w fv f) (h0 : 0 < f.length) (h1 : f.length ≤ 500) :
    Calls Try.prog 13 #[fv] w fun e w' => ∃ v, e = .returned v ∧ w'.ownsRow w.heap.size 25 4 v f.length (cellsF f) ∧ Below w.heap.size w w' := by
  have HP : Hid (piece w fv f) := facts_piece hf
  obtain ⟨fa, fc, rfl, hfm, hfx⟩ := hf
  obtain ⟨b, off, rfl, hbl, _⟩ := hfx.resolve_left (by rintro rfl; simp at h0)
  clear hfx
  have hnil : ∀ w', Sem.run Try.prog (binOp .eql 23 (.slice (some ⟨b, off, none⟩) f.length fc) (.slice none 0 0)) w' = .ok (.bool false) w' := fun w' => by
    have h : ∀ d : Nat, (Op.equalIn (d + 1) 23 (.slice (some ⟨b, off, none⟩) f.length fc) (.slice none 0 0)).run Try.prog w' = .ok false w' := fun d => by
      simp [Op.equalIn, run_underlying Try.underlying23]
    simp only [binOp]
    simp [Op.equal, Op.maxDepth, h 9999]
  go_enter Try.func13, Try.ntmps13
  have HN : Hid ((w.alloc (.cells #[] 25)).ownsRow w.heap.size 25 4 (.slice (some ⟨w.heap.size, 0, none⟩) 0 0) ([] : List Fct).length (cellsF [])) := ⟨rfl, .inr ⟨w.heap.size, 0, #[], rfl, Nat.le_refl _, heap_alloc_new w _, Nat.le_refl _, Nat.zero_le _, rfl, rfl⟩⟩
  go_wp2_with (at_builtin; refine wpList_append_piece _ rfl _ _ rfl w.heap.size (.slice (some ⟨w.heap.size, 0, none⟩) 0 0) [] f HN.out rfl _ rfl (HP.out.lasts (below_alloc _ _)) (by simp; omega) (by simp) ?_; intro v1 w1 hown1 hgr1; have hb1 : Below w.heap.size w w1 := (below_alloc _ _).grown hgr1 (by simp) (fun k hk => by cases hk; exact Nat.le_refl _); clear hgr1)
  go_ret
  exact ⟨v1, rfl, hown1, hb1⟩

theorem grown_below {w w1 w2 : World} {base : Nat} {e : TypeId} {v : Value} {n : Nat} {xs : List Value} (hb : Below base w w1) (hown : w1.ownsRow base e 4 v n xs) (hg : w1.grownBy w2 v.ownBlock) (hs : base ≤ w1.heap.size) : Below base w w2 :=
  hb.grown hg hs (fun k hk => (hown.lt k hk).1)

set_option maxRecDepth 100000 in
set_option maxHeartbeats 8000000 in
theorem concat_c (w : World) (B : Nat) (a1 a2 a3 : Option Addr) (c1 c2 c3 : Nat) (x1 x2 x3 : List Fct) (h1 : w.cell? ⟨B, 0, none⟩ = some (.slice a1 x1.length c1)) (h2 : w.cell? ⟨B, 1, none⟩ = some (.slice a2 x2.length c2)) (h3 : w.cell? ⟨B, 2, none⟩ = some (.slice a3 x3.length c3))
    (p1 : piece w (.slice a1 x1.length c1) x1) (p2 : piece w (.slice a2 x2.length c2) x2) (p3 : piece w (.slice a3 x3.length c3) x3) (hpos : 0 < x2.length) (hle : x1.length + x2.length + x3.length ≤ 500) :
    Calls Try.prog 11 #[.slice (some ⟨B, 0, none⟩) 3 3] w fun e w' => ∃ v, e = .returned v ∧ w'.ownsRow w.heap.size 25 4 v (x1 ++ x2 ++ x3).length (cellsF (x1 ++ x2 ++ x3)) ∧ Below w.heap.size w w' := by
  have HP1 : Hid (piece w (.slice a1 x1.length c1) x1) := p1
  have HP2 : Hid (piece w (.slice a2 x2.length c2) x2) := p2
  have HP3 : Hid (piece w (.slice a3 x3.length c3) x3) := p3
  have bB : B < w.heap.size := cell_lt h1
  clear p1 p2 p3
  go_enter Try.func11, Try.ntmps11
  go_wp2_with fail
  go_loop [3, 11] (fun s i => (s = .int .i64 0 ∧ i = .int .i64 0) ∨ (s = .int .i64 x1.length ∧ i = .int .i64 1) ∨ (s = .int .i64 ((x1.length + x2.length : Nat) : Int) ∧ i = .int .i64 2) ∨ (s = .int .i64 ((x1.length + x2.length + x3.length : Nat) : Int) ∧ i = .int .i64 3)) (fun _ i => 3 - (intOf i).toNat)
  case atStart => exact .inl ⟨rfl, rfl⟩
  case round =>
    rcases hrel with ⟨rfl, rfl⟩ | ⟨rfl, rfl⟩ | ⟨rfl, rfl⟩ | ⟨rfl, rfl⟩
    · have g1 : ¬ ((x1.length : Int) < 0) := by omega
      go_wp2_with fail
      go_round
      case rel => exact .inr (.inl ⟨by go_num, by go_num⟩)
      case measure => simp [intOf]
    · have g1 : ¬ ((x1.length : Int) + (x2.length : Int) < 0) := by omega
      go_wp2_with fail
      go_round
      case rel => exact .inr (.inr (.inl ⟨by go_num, by go_num⟩))
      case measure => simp [intOf]
    · have g1 : ¬ (((x1.length + x2.length : Nat) : Int) + (x3.length : Int) < 0) := by omega
      have g2 : ¬ ((x1.length : Int) + (x2.length : Int) + (x3.length : Int) < 0) := by omega
      go_wp2_with fail
      go_round
      case rel => exact .inr (.inr (.inr ⟨by go_num, by go_num⟩))
      case measure => simp [intOf]
    · have hg := grow_c w (x1.length + x2.length + x3.length) (by omega) (by omega)
      simp only [Int.natCast_add] at hg
      go_wp2_with (go_at_call 24; refine hg.mono ?_; rintro e w1 ⟨v0, rfl, hown0, hb0⟩)
      clear hg
      go_loopw [6, 27] (fun s i wr => ∃ (xs : List Fct) (v : Value), v = s ∧ Below w.heap.size w wr ∧ wr.ownsRow w.heap.size 25 4 v xs.length (cellsF xs) ∧ (([] = xs ∧ i = .int .i64 0) ∨ (x1 = xs ∧ i = .int .i64 1) ∨ (x1 ++ x2 = xs ∧ i = .int .i64 2) ∨ (x1 ++ x2 ++ x3 = xs ∧ i = .int .i64 3))) (fun _ i _ => 3 - (intOf i).toNat)
      case atStart => exact ⟨[], _, rfl, hb0, hown0, .inl ⟨rfl, rfl⟩⟩
      case round =>
      obtain ⟨xs, v, hvs, hbw, hown, hi⟩ := hrel
      subst hvs
      rcases hi with ⟨hx, rfl⟩ | ⟨hx, rfl⟩ | ⟨hx, rfl⟩ | ⟨hx, rfl⟩ <;> subst hx
      · have t1 := (cell_lasts hbw bB).trans h1
        have HPP : Hid (piece wr (.slice a1 x1.length c1) x1) := HP1.out.lasts hbw
        have HOW : Hid (wr.ownsRow w.heap.size 25 4 v ([]).length (cellsF ([]))) := hown
        clear hown
        go_wp2_with (at_builtin; refine wpList_append_piece _ rfl _ _ rfl w.heap.size v ([]) x1 HOW.out rfl _ rfl HPP.out (by first | omega | (simp; omega)) hbw.size ?_; intro v1 w1 hown1 hgr1; have hb1 : Below w.heap.size w w1 := grown_below hbw HOW.out hgr1 hbw.size; clear hgr1)
        go_roundw
        case rel => exact ⟨_, _, rfl, hb1, hown1, .inr (.inl ⟨rfl, by go_num⟩)⟩
        case measure => simp [intOf]
      · have t1 := (cell_lasts hbw bB).trans h2
        have HPP : Hid (piece wr (.slice a2 x2.length c2) x2) := HP2.out.lasts hbw
        have HOW : Hid (wr.ownsRow w.heap.size 25 4 v (x1).length (cellsF (x1))) := hown
        clear hown
        go_wp2_with (at_builtin; refine wpList_append_piece _ rfl _ _ rfl w.heap.size v (x1) x2 HOW.out rfl _ rfl HPP.out (by first | omega | (simp; omega)) hbw.size ?_; intro v1 w1 hown1 hgr1; have hb1 : Below w.heap.size w w1 := grown_below hbw HOW.out hgr1 hbw.size; clear hgr1)
        go_roundw
        case rel => exact ⟨_, _, rfl, hb1, hown1, .inr (.inr (.inl ⟨rfl, by go_num⟩))⟩
        case measure => simp [intOf]
      · have t1 := (cell_lasts hbw bB).trans h3
        have HPP : Hid (piece wr (.slice a3 x3.length c3) x3) := HP3.out.lasts hbw
        have HOW : Hid (wr.ownsRow w.heap.size 25 4 v (x1 ++ x2).length (cellsF (x1 ++ x2))) := hown
        clear hown
        go_wp2_with (at_builtin; refine wpList_append_piece _ rfl _ _ rfl w.heap.size v (x1 ++ x2) x3 HOW.out rfl _ rfl HPP.out (by first | omega | (simp; omega)) hbw.size ?_; intro v1 w1 hown1 hgr1; have hb1 : Below w.heap.size w w1 := grown_below hbw HOW.out hgr1 hbw.size; clear hgr1)
        go_roundw
        case rel => exact ⟨_, _, rfl, hb1, hown1, .inr (.inr (.inr ⟨rfl, by go_num⟩))⟩
        case measure => simp [intOf]
      · have HOW : Hid (wr.ownsRow w.heap.size 25 4 v (x1 ++ x2 ++ x3).length (cellsF (x1 ++ x2 ++ x3))) := hown
        clear hown
        go_wp2_with fail
        go_ret
        exact ⟨_, rfl, HOW.out, hbw⟩
end Go.Proofs.Ytgbacodellfacac.Base
