/-
  New lists of facts: what the library's slices.Grow, slices.Concat and slices.Clone lay in memory.
-/
import Derived.Deep.AppendLies
import Derived.Deep.DeepAppendWide
import Derived.Test.YtlfccloaoopadagGreatG23
import Derived.Test.YtlfccloaoopadagGreatG22
import Derived.Test.YtlfccloaoopadagGreatG29
namespace Go.Proofs.YtlfccloaoopadagGreat.Base
open Go.ChangeShapes Go.WideShapes Go.ChangeAt Go.RowKit

def cellsF : List Fct → List Value
  | [] => []
  | x :: l => .int .i64 x.pred :: .int .i64 x.a :: .int .i64 x.b :: .int .i64 x.val :: cellsF l
theorem cellsF_length : ∀ l, (cellsF l).length = l.length * 4
  | [] => rfl
  | x :: l => by simp only [cellsF, List.length_cons, cellsF_length l]; omega
theorem cellsF_append : ∀ l m, cellsF (l ++ m) = cellsF l ++ cellsF m
  | [], m => rfl
  | x :: l, m => by simp only [List.cons_append, cellsF, cellsF_append l m]
theorem cellsF_one : ∀ l, ∀ u ∈ cellsF l, u.oneCell' = true
  | [], u, h => by cases h
  | x :: l, u, h => by
    simp only [cellsF, List.mem_cons] at h
    rcases h with rfl | rfl | rfl | rfl | h
    · rfl
    · rfl
    · rfl
    · rfl
    · exact cellsF_one l u h
theorem cellsF_at : ∀ (l : List Fct) (i : Nat) (x : Fct), l[i]? = some x → (cellsF l)[i * 4]? = some (.int .i64 x.pred) ∧ (cellsF l)[i * 4 + 1]? = some (.int .i64 x.a) ∧ (cellsF l)[i * 4 + 2]? = some (.int .i64 x.b) ∧ (cellsF l)[i * 4 + 3]? = some (.int .i64 x.val)
  | [], i, x, h => by simp at h
  | y :: l, 0, x, h => by
    obtain rfl : y = x := by simpa using h
    exact ⟨rfl, rfl, rfl, rfl⟩
  | y :: l, i + 1, x, h => by
    have := cellsF_at l i x (by simpa using h)
    rw [show (i + 1) * 4 = i * 4 + 4 by omega]
    simpa [cellsF] using this
theorem cellsF_get : ∀ (l : List Fct) (j : Nat) (u : Value), (cellsF l)[j]? = some u → ∃ i x, l[i]? = some x ∧ ((j = i * 4 ∧ u = .int .i64 x.pred) ∨ (j = i * 4 + 1 ∧ u = .int .i64 x.a) ∨ (j = i * 4 + 2 ∧ u = .int .i64 x.b) ∨ (j = i * 4 + 3 ∧ u = .int .i64 x.val))
  | [], j, u, h => by simp [cellsF] at h
  | y :: l, 0, u, h => ⟨0, y, rfl, .inl ⟨rfl, by simpa [cellsF] using h.symm⟩⟩
  | y :: l, 1, u, h => ⟨0, y, rfl, .inr (.inl ⟨rfl, by simpa [cellsF] using h.symm⟩)⟩
  | y :: l, 2, u, h => ⟨0, y, rfl, .inr (.inr (.inl ⟨rfl, by simpa [cellsF] using h.symm⟩))⟩
  | y :: l, 3, u, h => ⟨0, y, rfl, .inr (.inr (.inr ⟨rfl, by simpa [cellsF] using h.symm⟩))⟩
  | y :: l, j + 4, u, h => by
    obtain ⟨i, x, hx, hr⟩ := cellsF_get l j u (by simpa [cellsF] using h)
    refine ⟨i + 1, x, by simpa using hx, ?_⟩
    rcases hr with ⟨rfl, rfl⟩ | ⟨rfl, rfl⟩ | ⟨rfl, rfl⟩ | ⟨rfl, rfl⟩
    · exact .inl ⟨by omega, rfl⟩
    · exact .inr (.inl ⟨by omega, rfl⟩)
    · exact .inr (.inr (.inl ⟨by omega, rfl⟩))
    · exact .inr (.inr (.inr ⟨by omega, rfl⟩))
theorem add_none (b off i : Nat) : (⟨b, off, none⟩ : Addr).add i = ⟨b, off + i, none⟩ := by simp [Addr.add]

/-- v holds the facts xs somewhere in memory -/
def piece (w : World) (v : Value) (xs : List Fct) : Prop :=
  (∃ c, v = .slice none 0 c ∧ xs = []) ∨ ∃ ad c, v = .slice (some ad) xs.length c ∧ ∀ j u, (cellsF xs)[j]? = some u → w.cell? (ad.add j) = some u
theorem addr_lt {w : World} {p : Addr} {v : Value} (h : w.cell? p = some v) : p.block < w.heap.size := by
  refine Classical.byContradiction fun hn => ?_
  have : w.heap[p.block]? = none := by simp; omega
  simp [World.cell?, this] at h
theorem piece.lasts {w w' : World} {v : Value} {xs : List Fct} (h : piece w v xs) (hb : Below w.heap.size w w') : piece w' v xs := by
  rcases h with h | ⟨ad, c, h1, h2⟩
  · exact .inl h
  · exact .inr ⟨ad, c, h1, fun j u hu => (hb.cell (addr_lt (h2 j u hu))).trans (h2 j u hu)⟩
theorem facts_cells {w : World} {b off : Nat} {xs : List Fct} (h : ∀ i x, xs[i]? = some x → factAt w b (off + i * 4) x) : ∀ j u, (cellsF xs)[j]? = some u → w.cell? ((⟨b, off, none⟩ : Addr).add j) = some u := by
  intro j u hu
  obtain ⟨i, x, hx, hr⟩ := cellsF_get xs j u hu
  obtain ⟨c0, c1, c2, c3⟩ := h i x hx
  rw [add_none]
  rcases hr with ⟨rfl, rfl⟩ | ⟨rfl, rfl⟩ | ⟨rfl, rfl⟩ | ⟨rfl, rfl⟩
  · exact c0
  · exact c1
  · exact c2
  · exact c3
theorem facts_piece {w : World} {v : Value} {xs : List Fct} (h : factsAt w v xs) : piece w v xs := by
  obtain ⟨a, c, rfl, _, hx⟩ := h
  rcases hx with rfl | ⟨b, off, rfl, _, hx⟩
  · cases a with
    | none => exact .inl ⟨c, rfl, rfl⟩
    | some ad => exact .inr ⟨ad, c, rfl, fun j u hu => by simp [cellsF] at hu⟩
  · exact .inr ⟨_, c, rfl, facts_cells hx⟩
/-- a row of the call's own is a list of facts -/
theorem factsAt_of {w : World} {base : Nat} {e : TypeId} {v : Value} {l : List Fct} (h : w.ownsRow base e 4 v l.length (cellsF l)) (hl : l.length ≤ 140737488355328) : factsAt w v l := by
  obtain ⟨h0, h1⟩ := h
  rcases h1 with ⟨rfl, hn⟩ | ⟨g, cap, cur, rfl, hb, hg, hc, hm, hsz, htk⟩
  · have : l = [] := List.eq_nil_of_length_eq_zero hn
    subst this
    exact ⟨none, 0, rfl, by simp, .inl rfl⟩
  · refine ⟨_, cap, rfl, hl, .inr ⟨g, 0, rfl, (Array.getElem?_eq_some_iff.1 hg).1, ?_⟩⟩
    intro i x hi
    have hcell : ∀ j z, (cellsF l)[j]? = some z → w.cell? ⟨g, 0 + j, none⟩ = some z := by
      intro j z hz
      rw [← htk] at hz
      have hj : j < l.length * 4 := by
        have := (List.getElem?_eq_some_iff.1 hz).1
        simp at this
        omega
      rw [List.getElem?_take_of_lt hj] at hz
      simp [World.cell?, hg]
      simpa using hz
    obtain ⟨k0, k1, k2, k3⟩ := cellsF_at l i x hi
    exact ⟨hcell _ _ k0, hcell _ _ k1, hcell _ _ k2, hcell _ _ k3⟩

theorem infoFact : (Tryz.prog.info? 44).map (fun i => (i.zero, i.size, i.bytes)) = some (some (.agg #[.int .i64 0, .int .i64 0, .int .i64 0, .int .i64 0]), 4, 32) := by kernel_rfl

section
variable {P : Program}
theorem run_append_zeros (w : World) (t u ty e : TypeId) (k : IntKind) (i : TypeInfo) (z : Value) (ht : P.underlying t = some (.slice e)) (hu : P.underlying u = some (.int k)) (hi : P.info? e = some i) (hz : i.zero = some z) (hs : 0 < i.size)
    (n : Nat) (h0 : 0 < n) (h63 : (n : Int) ≤ 1000) (hb : i.bytes ≤ 1000) :
    (Builtin.append_ #[t, u] ty #[.slice none 0 0, .int .i64 n]).run P w =
      .ok (.slice (some ⟨w.heap.size, 0, none⟩) n (grownCap w n 0 e)) (w.drew.alloc (.cells (Builtin.zeroCells z.cells n ++ Builtin.zeroCells z.cells (grownCap w n 0 e - n)) e)) := by
  have hn : n ≠ 0 := by omega
  have h63' : ¬ (9223372036854775807 < (n : Int)) := by omega
  have hle : n * i.bytes ≤ 1000 * 1000 := Nat.mul_le_mul (by omega) hb
  have h48' : ¬ (281474976710656 < Builtin.nextslicecap n 0 * i.bytes) := by rw [nextslicecap_zero h0]; omega
  have hw : IntKind.i64.wrap (n : Int) = n := by rw [IntKind.wrap_i64]; omega
  have hle' : ¬ (281474976710656 < (n : Int) * (i.bytes : Int)) := by
    have : ((n * i.bytes : Nat) : Int) = (n : Int) * (i.bytes : Int) := by push_cast; rfl
    omega
  have hne : n * i.size ≠ 0 := Nat.mul_ne_zero hn (by omega)
  simp [Builtin.append_, run_underlying ht, run_underlying hu, sizeOf, typeInfo, zeroValue, hi, hz, asInt, asIntOf, hw, hn, h63', h48', hle', hne, Question.forced, run_firstCells_none, newRow, grownCap]
  intro hneg
  omega

theorem wpList_append_zeros (w : World) {ops : Array Oper} {rest : List Oper} {o : Oper} {a : Act} {Q : Exit → Act → World → Prop} (hgd : o.guard = none) (s x : Operand) (t u : TypeId)
    (ho : o.op = .call { callee := .builtin .append, args := #[s, x], argTypes := #[t, u] }) (e : TypeId) (k : IntKind) (i : TypeInfo) (z : Value) (ht : P.underlying t = some (.slice e)) (hu : P.underlying u = some (.int k)) (hi : P.info? e = some i) (hz : i.zero = some z) (hs : 0 < i.size)
    (n : Nat) (h0 : 0 < n) (h63 : (n : Int) ≤ 1000) (hb : i.bytes ≤ 1000) (hsv : a.eval s = .slice none 0 0) (hxv : a.eval x = .int .i64 n)
    (h : wpList P ops Q rest (a.put o.dst (.slice (some ⟨w.heap.size, 0, none⟩) n (grownCap w n 0 e))) (w.drew.alloc (.cells (Builtin.zeroCells z.cells n ++ Builtin.zeroCells z.cells (grownCap w n 0 e - n)) e))) : wpList P ops Q (o :: rest) a w :=
  wpList_plain hgd fun _ hK => by
    have hr := run_append_zeros (P := P) w t u o.type e k i z ht hu hi hz hs n h0 h63 hb
    unfold Oper.wp execOp
    simp only [ho, resolve, invoke, builtin, Sem.run_bind, Sem.run_pure, Result.andThen_ok, List.map_toArray, List.map_cons, List.map_nil, hsv, hxv, hr]
    exact hK _ _ h

theorem wpList_append_none (w : World) {ops : Array Oper} {rest : List Oper} {o : Oper} {a : Act} {Q : Exit → Act → World → Prop} (hgd : o.guard = none) (s x : Operand) (t : TypeId)
    (ho : o.op = .call { callee := .builtin .append, args := #[s, x], argTypes := #[t, t] }) (e : TypeId) (i : TypeInfo) (ht : P.underlying t = some (.slice e)) (hi : P.info? e = some i)
    (ad : Option Addr) (n cap c : Nat) (hn : n ≤ cap) (hsv : a.eval s = .slice ad n cap) (hxv : a.eval x = .slice none 0 c)
    (h : wpList P ops Q rest (a.put o.dst (.slice ad n cap)) w) : wpList P ops Q (o :: rest) a w :=
  wpList_plain hgd fun _ hK => by
    have hr : (Builtin.append_ #[t, t] o.type #[.slice ad n cap, .slice none 0 c]).run P w = .ok (.slice ad n cap) w := by
      cases ad <;> simp [Builtin.append_, run_underlying ht, sizeOf, typeInfo, hi, Builtin.lenOf, Builtin.firstCells, hn, storeCells]
    unfold Oper.wp execOp
    simp only [ho, resolve, invoke, builtin, Sem.run_bind, Sem.run_pure, Result.andThen_ok, List.map_toArray, List.map_cons, List.map_nil, hsv, hxv, hr]
    exact hK _ _ h
end

theorem wpList_append_piece (w : World) {ops : Array Oper} {rest : List Oper} {o : Oper} {a : Act} {Q : Exit → Act → World → Prop} (hgd : o.guard = none) (s x : Operand)
    (ho : o.op = .call { callee := .builtin .append, args := #[s, x], argTypes := #[30, 30] }) (base : Nat) (v : Value) (xs ys : List Fct) (hown : w.ownsRow base 44 4 v xs.length (cellsF xs)) (hs : a.eval s = v) (y : Value) (hy : a.eval x = y) (hp : piece w y ys)
    (hb : xs.length + ys.length ≤ 1000) (hbase : base ≤ w.heap.size)
    (h : ∀ v' w', w'.ownsRow base 44 4 v' (xs ++ ys).length (cellsF (xs ++ ys)) → w.grownBy w' v.ownBlock → wpList Tryz.prog ops Q rest (a.put o.dst v') w') : wpList Tryz.prog ops Q (o :: rest) a w := by
  obtain ⟨i, hi, hz, hsz, hby⟩ := info_parts infoFact
  rcases hp with ⟨c, rfl, rfl⟩ | ⟨ad, c, rfl, hc⟩
  · have hown' := hown
    rcases hown.2 with ⟨rfl, h0⟩ | ⟨g, cap, cur, rfl, h1, h2, h3, h4, h5, h6⟩
    · refine wpList_append_none w hgd s x 30 ho 44 i Tryz.underlying30 hi none 0 0 c (Nat.le_refl _) hs hy ?_
      exact h _ w (by rw [List.append_nil]; exact hown') ⟨rfl, rfl, rfl, Nat.le_refl _, fun _ _ _ => rfl⟩
    · refine wpList_append_none w hgd s x 30 ho 44 i Tryz.underlying30 hi (some ⟨g, 0, none⟩) xs.length cap c h3 hs hy ?_
      exact h _ w (by rw [List.append_nil]; exact hown') ⟨rfl, rfl, rfl, Nat.le_refl _, fun _ _ _ => rfl⟩
  · refine wpList_append_own_wide w hgd s x 30 ho base 44 i _ 4 32 Tryz.underlying30 hi hz hsz hby rfl (by omega) v xs.length (cellsF xs) hs hown ad ys.length c (cellsF ys) hy (cellsF_length ys) hc (cellsF_one ys) (by unfold maxLen; omega) (by omega) hbase ?_
    intro v' w' h1 h2 _
    exact h v' w' (by rw [List.length_append, cellsF_append]; exact h1) h2

set_option maxRecDepth 100000 in
set_option maxHeartbeats 4000000 in
theorem grow_c (w : World) (n : Nat) (h0 : 0 < n) (h1 : n ≤ 1000) :
    Calls Tryz.prog 84 #[.slice none 0 0, .int .i64 n] w fun e w' => ∃ v, e = .returned v ∧ w'.ownsRow w.heap.size 44 4 v 0 [] ∧ Below w.heap.size w w' := by
  obtain ⟨i, hi, hz, hsz, hby⟩ := info_parts infoFact
  have h0' : (0 : Int) < (n : Int) := by omega
  have h0'' : ¬ (n : Int) < 0 := by omega
  have hge := grownCap_ge w n 0 44
  have hcm : grownCap w n 0 44 ≤ maxLen := grownCap_le_maxLen w n 0 44 (by unfold maxLen; omega)
  go_enter Tryz.func84, Tryz.ntmps84
  go_wp2_with (at_builtin; refine wpList_append_zeros _ rfl _ _ 30 3 rfl 44 .i64 i _ Tryz.underlying30 Tryz.underlying3 hi hz (by omega) n h0 (by omega) (by omega) rfl rfl ?_)
  go_ret
  refine ⟨_, rfl, ⟨rfl, .inr ⟨w.heap.size, _, _, rfl, Nat.le_refl _, heap_alloc_new w.drew _, Nat.zero_le _, hcm, ?_, by simp⟩⟩, ((Below.refl _ _).drew).alloc (Nat.le_refl _) _⟩
  have e4 : #[Value.int .i64 0, .int .i64 0, .int .i64 0, .int .i64 0].size = 4 := rfl
  rw [Array.size_append, size_zeroCells, size_zeroCells, e4]
  omega

set_option maxRecDepth 100000 in
set_option maxHeartbeats 4000000 in
theorem clone_c (w : World) (fv : Value) (f : List Fct) (hf : factsAt w fv f) (h0 : 0 < f.length) (h1 : f.length ≤ 500) :
    Calls Tryz.prog 44 #[fv] w fun e w' => ∃ v, e = .returned v ∧ w'.ownsRow w.heap.size 44 4 v f.length (cellsF f) ∧ Below w.heap.size w w' := by
  have HP : Hid (piece w fv f) := facts_piece hf
  obtain ⟨fa, fc, rfl, hfm, hfx⟩ := hf
  obtain ⟨b, off, rfl, hbl, _⟩ := hfx.resolve_left (by rintro rfl; simp at h0)
  clear hfx
  have hnil : ∀ w', Sem.run Tryz.prog (binOp .eql 30 (.slice (some ⟨b, off, none⟩) f.length fc) (.slice none 0 0)) w' = .ok (.bool false) w' := fun w' => by
    have h : ∀ d : Nat, (Op.equalIn (d + 1) 30 (.slice (some ⟨b, off, none⟩) f.length fc) (.slice none 0 0)).run Tryz.prog w' = .ok false w' := fun d => by
      simp [Op.equalIn, run_underlying Tryz.underlying30]
    simp only [binOp]
    simp [Op.equal, Op.maxDepth, h 9999]
  go_enter Tryz.func44, Tryz.ntmps44
  have HN : Hid ((w.alloc (.cells #[] 44)).ownsRow w.heap.size 44 4 (.slice (some ⟨w.heap.size, 0, none⟩) 0 0) ([] : List Fct).length (cellsF [])) := ⟨rfl, .inr ⟨w.heap.size, 0, #[], rfl, Nat.le_refl _, heap_alloc_new w _, Nat.le_refl _, Nat.zero_le _, rfl, rfl⟩⟩
  go_wp2_with (at_builtin; refine wpList_append_piece _ rfl _ _ rfl w.heap.size (.slice (some ⟨w.heap.size, 0, none⟩) 0 0) [] f HN.out rfl _ rfl (HP.out.lasts (below_alloc _ _)) (by simp; omega) (by simp) ?_; intro v1 w1 hown1 hgr1; have hb1 : Below w.heap.size w w1 := (below_alloc _ _).grown hgr1 (by simp) (fun k hk => by cases hk; exact Nat.le_refl _); clear hgr1)
  go_ret
  exact ⟨v1, rfl, hown1, hb1⟩

theorem grown_below {w w1 w2 : World} {base : Nat} {e : TypeId} {v : Value} {n : Nat} {xs : List Value} (hb : Below base w w1) (hown : w1.ownsRow base e 4 v n xs) (hg : w1.grownBy w2 v.ownBlock) (hs : base ≤ w1.heap.size) : Below base w w2 :=
  hb.grown hg hs (fun k hk => (hown.lt k hk).1)

set_option maxRecDepth 100000 in
set_option maxHeartbeats 8000000 in
theorem concat_c (w : World) (B : Nat) (a1 a2 a3 : Option Addr) (c1 c2 c3 : Nat) (x1 x2 x3 : List Fct) (h1 : w.cell? ⟨B, 0, none⟩ = some (.slice a1 x1.length c1)) (h2 : w.cell? ⟨B, 1, none⟩ = some (.slice a2 x2.length c2)) (h3 : w.cell? ⟨B, 2, none⟩ = some (.slice a3 x3.length c3))
    (p1 : piece w (.slice a1 x1.length c1) x1) (p2 : piece w (.slice a2 x2.length c2) x2) (p3 : piece w (.slice a3 x3.length c3) x3) (hpos : 0 < x2.length) (hle : x1.length + x2.length + x3.length ≤ 500) :
    Calls Tryz.prog 47 #[.slice (some ⟨B, 0, none⟩) 3 3] w fun e w' => ∃ v, e = .returned v ∧ w'.ownsRow w.heap.size 44 4 v (x1 ++ x2 ++ x3).length (cellsF (x1 ++ x2 ++ x3)) ∧ Below w.heap.size w w' := by
  have HP1 : Hid (piece w (.slice a1 x1.length c1) x1) := p1
  have HP2 : Hid (piece w (.slice a2 x2.length c2) x2) := p2
  have HP3 : Hid (piece w (.slice a3 x3.length c3) x3) := p3
  have bB : B < w.heap.size := cell_lt h1
  clear p1 p2 p3
  go_enter Tryz.func47, Tryz.ntmps47
  go_wp2_with fail
  go_loop [3, 11] (fun s i => (s = .int .i64 0 ∧ i = .int .i64 0) ∨ (s = .int .i64 x1.length ∧ i = .int .i64 1) ∨ (s = .int .i64 ((x1.length + x2.length : Nat) : Int) ∧ i = .int .i64 2) ∨ (s = .int .i64 ((x1.length + x2.length + x3.length : Nat) : Int) ∧ i = .int .i64 3)) (fun _ i => 3 - (intOf i).toNat)
  case atStart => exact .inl ⟨rfl, rfl⟩
  case round =>
    rcases hrel with ⟨rfl, rfl⟩ | ⟨rfl, rfl⟩ | ⟨rfl, rfl⟩ | ⟨rfl, rfl⟩
    · have g1 : ¬ ((x1.length : Int) < 0) := by omega
      go_wp2_with fail
      go_round
      case rel => exact .inr (.inl ⟨by go_num, by go_num⟩)
      case measure => simp [intOf]
    · have g1 : ¬ ((x1.length : Int) + (x2.length : Int) < 0) := by omega
      go_wp2_with fail
      go_round
      case rel => exact .inr (.inr (.inl ⟨by go_num, by go_num⟩))
      case measure => simp [intOf]
    · have g1 : ¬ (((x1.length + x2.length : Nat) : Int) + (x3.length : Int) < 0) := by omega
      have g2 : ¬ ((x1.length : Int) + (x2.length : Int) + (x3.length : Int) < 0) := by omega
      go_wp2_with fail
      go_round
      case rel => exact .inr (.inr (.inr ⟨by go_num, by go_num⟩))
      case measure => simp [intOf]
    · have hg := grow_c w (x1.length + x2.length + x3.length) (by omega) (by omega)
      simp only [Int.natCast_add] at hg
      go_wp2_with (go_at_call 84; refine hg.mono ?_; rintro e w1 ⟨v0, rfl, hown0, hb0⟩)
      clear hg
      go_loopw [6, 27] (fun s i wr => ∃ (xs : List Fct) (v : Value), v = s ∧ Below w.heap.size w wr ∧ wr.ownsRow w.heap.size 44 4 v xs.length (cellsF xs) ∧ (([] = xs ∧ i = .int .i64 0) ∨ (x1 = xs ∧ i = .int .i64 1) ∨ (x1 ++ x2 = xs ∧ i = .int .i64 2) ∨ (x1 ++ x2 ++ x3 = xs ∧ i = .int .i64 3))) (fun _ i _ => 3 - (intOf i).toNat)
      case atStart => exact ⟨[], _, rfl, hb0, hown0, .inl ⟨rfl, rfl⟩⟩
      case round =>
      obtain ⟨xs, v, hvs, hbw, hown, hi⟩ := hrel
      subst hvs
      rcases hi with ⟨hx, rfl⟩ | ⟨hx, rfl⟩ | ⟨hx, rfl⟩ | ⟨hx, rfl⟩ <;> subst hx
      · have t1 := (cell_lasts hbw bB).trans h1
        have HPP : Hid (piece wr (.slice a1 x1.length c1) x1) := HP1.out.lasts hbw
        have HOW : Hid (wr.ownsRow w.heap.size 44 4 v ([]).length (cellsF ([]))) := hown
        clear hown
        go_wp2_with (at_builtin; refine wpList_append_piece _ rfl _ _ rfl w.heap.size v ([]) x1 HOW.out rfl _ rfl HPP.out (by first | omega | (simp; omega)) hbw.size ?_; intro v1 w1 hown1 hgr1; have hb1 : Below w.heap.size w w1 := grown_below hbw HOW.out hgr1 hbw.size; clear hgr1)
        go_roundw
        case rel => exact ⟨_, _, rfl, hb1, hown1, .inr (.inl ⟨rfl, by go_num⟩)⟩
        case measure => simp [intOf]
      · have t1 := (cell_lasts hbw bB).trans h2
        have HPP : Hid (piece wr (.slice a2 x2.length c2) x2) := HP2.out.lasts hbw
        have HOW : Hid (wr.ownsRow w.heap.size 44 4 v (x1).length (cellsF (x1))) := hown
        clear hown
        go_wp2_with (at_builtin; refine wpList_append_piece _ rfl _ _ rfl w.heap.size v (x1) x2 HOW.out rfl _ rfl HPP.out (by first | omega | (simp; omega)) hbw.size ?_; intro v1 w1 hown1 hgr1; have hb1 : Below w.heap.size w w1 := grown_below hbw HOW.out hgr1 hbw.size; clear hgr1)
        go_roundw
        case rel => exact ⟨_, _, rfl, hb1, hown1, .inr (.inr (.inl ⟨rfl, by go_num⟩))⟩
        case measure => simp [intOf]
      · have t1 := (cell_lasts hbw bB).trans h3
        have HPP : Hid (piece wr (.slice a3 x3.length c3) x3) := HP3.out.lasts hbw
        have HOW : Hid (wr.ownsRow w.heap.size 44 4 v (x1 ++ x2).length (cellsF (x1 ++ x2))) := hown
        clear hown
        go_wp2_with (at_builtin; refine wpList_append_piece _ rfl _ _ rfl w.heap.size v (x1 ++ x2) x3 HOW.out rfl _ rfl HPP.out (by first | omega | (simp; omega)) hbw.size ?_; intro v1 w1 hown1 hgr1; have hb1 : Below w.heap.size w w1 := grown_below hbw HOW.out hgr1 hbw.size; clear hgr1)
        go_roundw
        case rel => exact ⟨_, _, rfl, hb1, hown1, .inr (.inr (.inr ⟨rfl, by go_num⟩))⟩
        case measure => simp [intOf]
      · have HOW : Hid (wr.ownsRow w.heap.size 44 4 v (x1 ++ x2 ++ x3).length (cellsF (x1 ++ x2 ++ x3))) := hown
        clear hown
        go_wp2_with fail
        go_ret
        exact ⟨_, rfl, HOW.out, hbw⟩
end Go.Proofs.YtlfccloaoopadagGreat.Base

/-
  Package base: Add.
-/
namespace Go.Proofs.YtlfccloaoopadagGreat.Base
open Go.ChangeShapes Go.WideShapes Go.ChangeAt Go.RowKit
open Lat (within within_c join)
open Rule (factFine factFine_c isPred kindOf arityOf isPred_iff)

theorem pos_lt {y : Fct} {f : List Fct} {pl : Int} (h : place y < pl) : pos (y :: f) pl = pos f pl + 1 := by rw [pos_cons, if_pos h]
theorem pos_ge {y : Fct} {f : List Fct} {pl : Int} (hs : Sorted (y :: f)) (h : ¬ place y < pl) : pos (y :: f) pl = 0 := by
  rw [pos_cons, if_neg h]
  exact pos_zero (fun z hz => by have := (List.pairwise_cons.1 hs).1 z hz; omega)
theorem add_fresh {K : Int → Int} {x : Fct} {f : List Fct} (hs : Sorted f) (h : get f (place x) = none) : addF K x f = f.take (pos f (place x)) ++ [x] ++ f.drop (pos f (place x)) ∧ addC K x f = true := by
  induction f with
  | nil => exact ⟨rfl, rfl⟩
  | cons y f ih =>
    rw [get_cons] at h
    by_cases e : place y = place x
    · rw [if_pos e] at h; cases h
    · rw [if_neg e] at h
      rw [addF, addC, if_neg e, if_neg e]
      by_cases l : place x < place y
      · rw [if_pos l, if_pos l, pos_ge hs (by omega)]
        exact ⟨rfl, rfl⟩
      · rw [if_neg l, if_neg l, pos_lt (by omega)]
        obtain ⟨h1, h2⟩ := ih (List.pairwise_cons.1 hs).2 h
        rw [h1, h2]
        exact ⟨rfl, rfl⟩
theorem add_there {K : Int → Int} {x : Fct} {f : List Fct} (hs : Sorted f) (hp : pos f (place x) < f.length) (h : place f[pos f (place x)] = place x) :
    addF K x f = f.set (pos f (place x)) ⟨f[pos f (place x)].pred, f[pos f (place x)].a, f[pos f (place x)].b, join (K x.pred) f[pos f (place x)].val x.val⟩ ∧ addC K x f = (join (K x.pred) f[pos f (place x)].val x.val != f[pos f (place x)].val) := by
  induction f with
  | nil => simp at hp
  | cons y f ih =>
    by_cases l : place y < place x
    · have e := pos_lt (f := f) l
      simp only [e, List.getElem_cons_succ, List.length_cons, Nat.add_lt_add_iff_right, List.set_cons_succ] at h hp ⊢
      obtain ⟨h1, h2⟩ := ih (List.pairwise_cons.1 hs).2 hp h
      rw [addF, addC, if_neg (by omega), if_neg (by omega), if_neg (by omega), if_neg (by omega), h1, h2]
      exact ⟨rfl, rfl⟩
    · have e := pos_ge hs l
      simp only [e, List.getElem_cons_zero, List.set_cons_zero] at h hp ⊢
      rw [addF, addC, if_pos h, if_pos h]
      exact ⟨rfl, rfl⟩
theorem facts_short {ps : List Prd} {f : List Fct} (h : factsErr ps f = 0) : f.length ≤ 125 := by
  have hr := right_of h
  have h5 := (factsErr_zero h).1
  have hge : ∀ i (hi : i < f.length), (i : Int) ≤ place f[i] := by
    intro i
    induction i with
    | zero =>
      intro hi
      obtain ⟨_, _, _, _, _, _, _⟩ := hr.fine f[0] (List.getElem_mem hi)
      unfold place
      omega
    | succ i ih =>
      intro hi
      have h1 := ih (by omega)
      have h2 := good_adj (factsErr_zero h).2.2 i hi
      omega
  refine Classical.byContradiction fun hn => ?_
  have h1 := hge 125 (by omega)
  obtain ⟨_, _, _, _, _, _, _⟩ := hr.fine f[125] (List.getElem_mem (by omega))
  unfold place at h1
  omega

/-- D2 -/
def addOf (ps : List Prd) (f : List Fct) (x : Fct) : List Fct × Bool × Int := if withErr ps f x ≠ 0 then ([], false, withErr ps f x) else (addF (kindOf ps) x f, addC (kindOf ps) x f, 0)
/-- a slice within its room -/
def capOk (v : Value) : Prop := ∃ a n c, v = .slice a n c ∧ n ≤ c ∧ (a = none → c = 0)
theorem cap_own {w : World} {base : Nat} {e : TypeId} {sz n : Nat} {v : Value} {xs : List Value} (h : w.ownsRow base e sz v n xs) : capOk v := by
  rcases h.2 with ⟨rfl, _⟩ | ⟨g, cap, cur, rfl, _, _, h3, _⟩
  · exact ⟨none, 0, 0, rfl, Nat.le_refl _, fun _ => rfl⟩
  · exact ⟨_, n, cap, rfl, h3, fun h => by cases h⟩
theorem facts_nil (w : World) : factsAt w (.slice none 0 0) [] := ⟨none, 0, rfl, by simp, .inl rfl⟩
theorem cap_nil : capOk (.slice none 0 0) := ⟨none, 0, 0, rfl, Nat.le_refl _, fun _ => rfl⟩
/-- within its room, and in a block that is not older than n -/
def capNew (n : Nat) (v : Value) : Prop := capOk v ∧ ∀ b, v.ownBlock = some b → n ≤ b
/-- a row of facts that may be written: nothing, or a block of facts alone of which nothing is frozen -/
def rowW (w : World) (v : Value) : Prop := ∀ g, v.ownBlock = some g → (∃ n c, v = .slice (some ⟨g, 0, none⟩) n c) ∧ ∃ cur, w.heap[g]? = some (.cells cur 44 (0, 0))
theorem rowW_own {w : World} {base n : Nat} {v : Value} {xs : List Value} (h : w.ownsRow base 44 4 v n xs) : rowW w v := fun g hg => by
  rcases h.2 with ⟨rfl, _⟩ | ⟨g', cap, cur, rfl, _, hgc, _⟩
  · cases hg
  · cases hg
    exact ⟨⟨_, _, rfl⟩, cur, hgc⟩
theorem rowW_nil (w : World) : rowW w (.slice none 0 0) := fun g hg => by cases hg
theorem rowW.lasts {w w' : World} {v : Value} (h : rowW w v) (hb : Below w.heap.size w w') : rowW w' v := fun g hg => by
  obtain ⟨h1, cur, h2⟩ := h g hg
  exact ⟨h1, cur, (hb.block g (Array.getElem?_eq_some_iff.1 h2).1).trans h2⟩
theorem rowW.set {w : World} {v : Value} (h : rowW w v) (B o : Nat) (u : Value) : rowW (w.setCell ⟨B, o, none⟩ u) v := fun g hg => by
  obtain ⟨h1, cur, h2⟩ := h g hg
  by_cases e : B = g
  · subst e
    exact ⟨h1, _, heap_setCell_same w B o _ _ u h2⟩
  · refine ⟨h1, cur, ?_⟩
    rw [← h2]
    simp [World.setCell, Array.getElem?_modify, e]
theorem new_own {w : World} {base m : Nat} {e : TypeId} {sz n : Nat} {v : Value} {xs : List Value} (h : w.ownsRow base e sz v n xs) (hm : m ≤ base) : capNew m v := ⟨cap_own h, fun b hb => Nat.le_trans hm (h.lt b hb).1⟩
theorem new_nil (n : Nat) : capNew n (.slice none 0 0) := ⟨cap_nil, fun _ h => by cases h⟩
theorem capNew.mono {n m : Nat} {v : Value} (h : capNew n v) (hm : m ≤ n) : capNew m v := ⟨h.1, fun b hb => Nat.le_trans hm (h.2 b hb)⟩
/-- facts in a block that is not older than n -/
def factsNew (n : Nat) (w : World) (v : Value) (l : List Fct) : Prop := factsAt w v l ∧ ∀ b, v.ownBlock = some b → n ≤ b
theorem factsNew.lasts {n : Nat} {w w' : World} {v : Value} {l : List Fct} (hb : Below w.heap.size w w') (h : factsNew n w v l) : factsNew n w' v l := ⟨factsAt.lasts hb h.1, h.2⟩

theorem factsAt_set {w : World} {g cap i : Nat} {f : List Fct} (h : factsAt w (.slice (some ⟨g, 0, none⟩) f.length cap) f) (hi : i < f.length) (v : Int) :
    factsAt (w.setCell ⟨g, i * 4 + 3, none⟩ (.int .i64 v)) (.slice (some ⟨g, 0, none⟩) f.length cap) (f.set i ⟨f[i].pred, f[i].a, f[i].b, v⟩) := by
  obtain ⟨a, c, hv, hl, hx⟩ := h
  obtain ⟨b, off, rfl, hb, hx⟩ := hx.resolve_left (by rintro rfl; simp at hi)
  obtain ⟨⟨rfl, rfl⟩, rfl⟩ : (g = b ∧ 0 = off) ∧ cap = c := by simpa using hv
  refine ⟨_, cap, by rw [List.length_set], by rw [List.length_set]; exact hl, .inr ⟨g, 0, rfl, by rw [size_set]; exact hb, ?_⟩⟩
  intro k x hk
  by_cases e : i = k
  · subst e
    rw [List.getElem?_set_self hi] at hk
    obtain rfl := Option.some.inj hk
    obtain ⟨c0, c1, c2, c3⟩ := hx i f[i] (by simp [hi])
    simp only [Nat.zero_add] at c0 c1 c2 c3
    refine ⟨?_, ?_, ?_, ?_⟩
    · simp only [Nat.zero_add]; rw [cell_off (by omega)]; exact c0
    · simp only [Nat.zero_add]; rw [cell_off (by omega)]; exact c1
    · simp only [Nat.zero_add]; rw [cell_off (by omega)]; exact c2
    · simp only [Nat.zero_add]; exact cell_set c3
  · rw [List.getElem?_set_ne e] at hk
    obtain ⟨c0, c1, c2, c3⟩ := hx k x hk
    simp only [Nat.zero_add] at c0 c1 c2 c3
    refine ⟨?_, ?_, ?_, ?_⟩
    · simp only [Nat.zero_add]; rw [cell_off (by omega)]; exact c0
    · simp only [Nat.zero_add]; rw [cell_off (by omega)]; exact c1
    · simp only [Nat.zero_add]; rw [cell_off (by omega)]; exact c2
    · simp only [Nat.zero_add]; rw [cell_off (by omega)]; exact c3

theorem piece_take {w : World} {fa : Option Addr} {fc k : Nat} {f : List Fct} (h : factsAt w (.slice fa f.length fc) f) (hk : k ≤ f.length) : piece w (.slice fa k fc) (f.take k) := by
  obtain ⟨a, c, hv, _, hx⟩ := h
  simp only [Value.slice.injEq, true_and] at hv
  obtain ⟨rfl, rfl⟩ := hv
  rcases hx with rfl | ⟨b, off, rfl, _, hx⟩
  · obtain rfl : k = 0 := by simpa using hk
    cases fa with
    | none => exact .inl ⟨fc, rfl, rfl⟩
    | some ad => exact .inr ⟨ad, fc, rfl, fun j u hu => by simp [cellsF] at hu⟩
  · refine .inr ⟨_, fc, by rw [List.length_take, Nat.min_eq_left hk], facts_cells ?_⟩
    intro i x hi
    rw [List.getElem?_take] at hi
    split at hi
    · exact hx i x hi
    · cases hi
theorem piece_drop {w : World} {fa : Option Addr} {fc k : Nat} {f : List Fct} (h : factsAt w (.slice fa f.length fc) f) (hk : k ≤ f.length) (hc : f.length ≤ fc) :
    piece w (.slice (if fc = k then fa else Option.map (fun x => x.add (k * 4)) fa) (f.length - k) (fc - k)) (f.drop k) := by
  obtain ⟨a, c, hv, _, hx⟩ := h
  simp only [Value.slice.injEq, true_and] at hv
  obtain ⟨rfl, rfl⟩ := hv
  rcases hx with rfl | ⟨b, off, rfl, _, hx⟩
  · obtain rfl : k = 0 := by simpa using hk
    cases fa with
    | none => exact .inl ⟨fc - 0, by simp, rfl⟩
    | some ad =>
      by_cases e : fc = 0
      · rw [if_pos e]
        exact .inr ⟨ad, fc - 0, rfl, fun j u hu => by simp [cellsF] at hu⟩
      · rw [if_neg e]
        exact .inr ⟨_, fc - 0, rfl, fun j u hu => by simp [cellsF] at hu⟩
  · by_cases e : fc = k
    · rw [if_pos e]
      have e2 : f.drop k = [] := List.drop_eq_nil_of_le (by omega)
      rw [e2]
      exact .inr ⟨_, fc - k, by rw [show f.length - k = 0 by omega]; rfl, fun j u hu => by simp [cellsF] at hu⟩
    · rw [if_neg e]
      refine .inr ⟨⟨b, off + k * 4, none⟩, fc - k, by rw [List.length_drop]; simp [Addr.add], facts_cells ?_⟩
      intro i x hi
      rw [List.getElem?_drop] at hi
      have := hx (k + i) x hi
      rw [show off + k * 4 + i * 4 = off + (k + i) * 4 by omega]
      exact this
theorem piece_one {w : World} {B : Nat} {p a b v : Int} {t : TypeId} (h : w.heap[B]? = some (.cells #[.int .i64 p, .int .i64 a, .int .i64 b, .int .i64 v] t)) : piece w (.slice (some ⟨B, 0, none⟩) 1 1) [⟨p, a, b, v⟩] := by
  refine .inr ⟨⟨B, 0, none⟩, 1, rfl, facts_cells ?_⟩
  intro i x hi
  cases i with
  | zero =>
    obtain rfl : (⟨p, a, b, v⟩ : Fct) = x := by simpa using hi
    refine ⟨?_, ?_, ?_, ?_⟩ <;> simp [World.cell?, h]
  | succ i => simp at hi
theorem piece_new (w : World) (p a b v : Int) (t : TypeId) (B : Obj) : piece ((w.alloc (.cells #[.int .i64 p, .int .i64 a, .int .i64 b, .int .i64 v] t)).alloc B) (.slice (some ⟨w.heap.size, 0, none⟩) 1 1) [⟨p, a, b, v⟩] :=
  piece_one ((heap_alloc_old _ _ (by simp)).trans (heap_alloc_new w _))
theorem concat_is (w : World) (B : Nat) (a1 a2 a3 : Option Addr) (c1 c2 c3 n1 n2 n3 : Nat) (x1 x2 x3 : List Fct) (e1 : x1.length = n1) (e2 : x2.length = n2) (e3 : x3.length = n3) (h1 : w.cell? ⟨B, 0, none⟩ = some (.slice a1 n1 c1)) (h2 : w.cell? ⟨B, 1, none⟩ = some (.slice a2 n2 c2)) (h3 : w.cell? ⟨B, 2, none⟩ = some (.slice a3 n3 c3))
    (p1 : piece w (.slice a1 n1 c1) x1) (p2 : piece w (.slice a2 n2 c2) x2) (p3 : piece w (.slice a3 n3 c3) x3) (hpos : 0 < x2.length) (hle : x1.length + x2.length + x3.length ≤ 500) :
    Calls Tryz.prog 47 #[.slice (some ⟨B, 0, none⟩) 3 3] w fun e w' => ∃ v, e = .returned v ∧ w'.ownsRow w.heap.size 44 4 v (x1 ++ x2 ++ x3).length (cellsF (x1 ++ x2 ++ x3)) ∧ Below w.heap.size w w' := by
  subst e1 e2 e3
  exact concat_c w B a1 a2 a3 c1 c2 c3 x1 x2 x3 h1 h2 h3 p1 p2 p3 hpos hle

set_option maxRecDepth 100000 in
set_option maxHeartbeats 8000000 in
theorem Add_w (w : World) (pv fv : Value) (ps : List Prd) (f : List Fct) (p a b v : Int) (hp : predsAt w pv ps) (hf : factsAt w fv f) (hc : capOk fv) :
    Calls Tryz.prog 18 #[pv, fv, .agg #[.int .i64 p, .int .i64 a, .int .i64 b, .int .i64 v]] w fun e w' => ∃ u, e = .returned (.tuple #[u, .bool (addOf ps f ⟨p, a, b, v⟩).2.1, .int .i64 (addOf ps f ⟨p, a, b, v⟩).2.2]) ∧ factsAt w' u (addOf ps f ⟨p, a, b, v⟩).1 ∧ capNew w.heap.size u ∧ rowW w' u ∧ Below w.heap.size w w' := by
  have HP : Hid (∀ (w1 : World), Below w.heap.size w w1 → predsAt w1 pv ps) := fun w1 hb1 => predsAt.lasts hb1 hp
  have HF : Hid (∀ (w1 : World), Below w.heap.size w w1 → factsAt w1 fv f) := fun w1 hb1 => factsAt.lasts hb1 hf
  obtain ⟨fa, fc, rfl, hfm, hfx⟩ := hf
  obtain ⟨hcap, hcz⟩ : f.length ≤ fc ∧ (fa = none → fc = 0) := by
    obtain ⟨a', n', c', e, h1, h2⟩ := hc
    simp only [Value.slice.injEq] at e
    obtain ⟨rfl, rfl, rfl⟩ := e
    exact ⟨h1, h2⟩
  clear hc
  by_cases h0 : withErr ps f ⟨p, a, b, v⟩ = 0
  · obtain ⟨h1, h2⟩ := withErr_zero h0
    have HS : Hid (∀ y ∈ f, Small y) := facts_small h1
    have HX : Hid (Small ⟨p, a, b, v⟩) := fine_small (factsErr_zero h1).1 h2
    have HSO : Hid (Sorted f) := (right_of h1).sorted
    have hshort := facts_short h1
    have e : addOf ps f ⟨p, a, b, v⟩ = (addF (kindOf ps) ⟨p, a, b, v⟩ f, addC (kindOf ps) ⟨p, a, b, v⟩ f, 0) := by simp [addOf, h0]
    rw [e]
    clear e
    cases hg : get f (place ⟨p, a, b, v⟩) with
    | none =>
      obtain ⟨e1, e2⟩ := add_fresh (K := kindOf ps) HSO.out hg
      rw [e1, e2]
      have hpl := pos_le f (place ⟨p, a, b, v⟩)
      have HQ : Hid (∀ w', Below w.heap.size w w' → Calls Tryz.prog 31 #[.slice fa f.length fc, .agg #[.int .i64 p, .int .i64 a, .int .i64 b, .int .i64 v], .func (.func 32) #[] #[]] w' (fun e w1 => e = .returned (.tuple #[.int .i64 (pos f (place ⟨p, a, b, v⟩)), .bool false]) ∧ Below w'.heap.size w' w1)) := fun w' hb => by
        have := search_c w' _ f p a b v (HF.out _ hb) HS.out HX.out HSO.out
        rw [hg] at this
        exact this
      clear e1 e2 hg h1 h2 HS HX HSO
      generalize pos f (place ⟨p, a, b, v⟩) = k at *
      have hk0 : (0 : Int) ≤ (k : Int) := by omega
      have hk1 : (k : Int) ≤ (f.length : Int) := by omega
      have hk2 : (k : Int) ≤ (fc : Int) := by omega
      have hk3 : (f.length : Int) ≤ (fc : Int) := by omega
      go_enter Tryz.func18, Tryz.ntmps18
      go_wp2_with (first
        | (go_at_call 46; refine (checkWith_c _ _ _ ps f _ _ _ _ (HP.out _ (below_alloc _ _)) (HF.out _ (below_alloc _ _))).mono ?_; rintro e w1 ⟨rfl, hb1⟩; obtain ⟨c0, c1, c2, c3⟩ := four_last hb1; have hs1 : w.heap.size < w1.heap.size := Nat.lt_of_lt_of_le (by simp) hb1.size; have HB : Hid (Below w.heap.size w w1) := (below_alloc _ _).trans (hb1.mono (by simp)); clear hb1)
        | (go_at_call 31; refine (HQ.out _ HB.out).mono ?_; rintro e W0 ⟨rfl, hb2⟩; replace c0 := (cell_lasts hb2 hs1).trans c0; replace c1 := (cell_lasts hb2 hs1).trans c1; replace c2 := (cell_lasts hb2 hs1).trans c2; replace c3 := (cell_lasts hb2 hs1).trans c3; have hs2 : w.heap.size < W0.heap.size := Nat.lt_of_lt_of_le hs1 hb2.size; have HB2 : Hid (Below w.heap.size w W0) := HB.out.trans (hb2.mono HB.out.size); clear hb2))
      by_cases hfk : fc = k
      · have HT : Hid (piece W0 (.slice fa k k) (f.take k)) := by have := piece_take (k := k) (HF.out _ HB2.out) hpl; rw [hfk] at this; exact this
        have HD : Hid (piece W0 (.slice fa (f.length - k) 0) (f.drop k)) := by have := piece_drop (k := k) (HF.out _ HB2.out) hpl hcap; rw [if_pos hfk, hfk, Nat.sub_self] at this; exact this
        have HL1 : Hid ((f.take k).length = k) := by show _ = _; rw [List.length_take, Nat.min_eq_left hpl]
        have HL3 : Hid ((f.drop k).length = f.length - k) := by show _ = _; rw [List.length_drop]
        have HL4 : Hid (0 < [(⟨p, a, b, v⟩ : Fct)].length) := by show _ < _; simp
        have HL5 : Hid ((f.take k).length + [(⟨p, a, b, v⟩ : Fct)].length + (f.drop k).length ≤ 500) := by show _ ≤ _; simp; omega
        have KEEP : Hid (∀ w', Below W0.heap.size W0 w' → (fun w' => Below W0.heap.size W0 w' ∧ w'.cell? ⟨w.heap.size, 0, none⟩ = some (.int .i64 p) ∧ w'.cell? ⟨w.heap.size, 1, none⟩ = some (.int .i64 a) ∧ w'.cell? ⟨w.heap.size, 2, none⟩ = some (.int .i64 b) ∧ w'.cell? ⟨w.heap.size, 3, none⟩ = some (.int .i64 v)) w') :=
          fun w' hq => ⟨hq, (cell_lasts hq hs2).trans c0, (cell_lasts hq hs2).trans c1, (cell_lasts hq hs2).trans c2, (cell_lasts hq hs2).trans c3⟩
        go_region_held3 (fun w' => Below W0.heap.size W0 w' ∧ w'.cell? ⟨w.heap.size, 0, none⟩ = some (.int .i64 p) ∧ w'.cell? ⟨w.heap.size, 1, none⟩ = some (.int .i64 a) ∧ w'.cell? ⟨w.heap.size, 2, none⟩ = some (.int .i64 b) ∧ w'.cell? ⟨w.heap.size, 3, none⟩ = some (.int .i64 v))
          ((refine KEEP.out _ ?_; (first | exact Below.refl _ _ | exact (Below.refl _ _).drew | exact hk | exact hk.drew | exact (below_alloc _ _) | exact (below_alloc _ _).drew | exact ((Below.refl _ _).drew).alloc (Nat.le_refl _) _ | exact hk.alloc hk.size _ | exact (hk.alloc hk.size _).drew | exact hk.drew.alloc hk.size _ | exact (below_alloc _ _).alloc (by simp) _ | exact ((below_alloc _ _).alloc (by simp) _).drew | exact (((Below.refl _ _).drew).alloc (Nat.le_refl _) _).alloc (by simp) _ | exact ((below_alloc _ _).drew).alloc (by simp) _)))
          (first
            | (go_at_call 47; refine Calls.mono (concat_is _ (W0.heap.size + 1) fa (some ⟨W0.heap.size, 0, none⟩) fa k 1 0 k 1 (f.length - k) (f.take k) [⟨p, a, b, v⟩] (f.drop k) HL1.out rfl HL3.out ?g1 ?g2 ?g3 ?g4 ?g5 ?g6 HL4.out HL5.out) ?_; (case g1 => simp [go_sem]); (case g2 => simp [go_sem]); (case g3 => simp [go_sem]); (case g4 => exact HT.out.lasts (by (first | exact (below_alloc _ _).alloc (by simp) _ | exact ((below_alloc _ _).alloc (by simp) _).drew))); (case g5 => first | exact piece_new W0 p a b v 44 _ | exact (piece_new W0 p a b v 44 _).lasts ((Below.refl _ _).drew)); (case g6 => exact HD.out.lasts (by (first | exact (below_alloc _ _).alloc (by simp) _ | exact ((below_alloc _ _).alloc (by simp) _).drew))); rintro e w5 ⟨u5, rfl, hown5, hb5⟩; have hk : Below W0.heap.size W0 w5 := Below.trans (by (first | exact (below_alloc _ _).alloc (by simp) _ | exact ((below_alloc _ _).alloc (by simp) _).drew)) (hb5.mono (by first | (simp; done) | omega | (simp; omega))); have HOW : Hid (∃ base, w.heap.size ≤ base ∧ w5.ownsRow base 44 4 u5 (f.take k ++ [(⟨p, a, b, v⟩ : Fct)] ++ f.drop k).length (cellsF (f.take k ++ [(⟨p, a, b, v⟩ : Fct)] ++ f.drop k))) := ⟨_, Nat.le_trans HB2.out.size (Below.size (B := W0.heap.size) (w := W0) (by (first | exact (below_alloc _ _).alloc (by simp) _ | exact ((below_alloc _ _).alloc (by simp) _).drew))), hown5⟩; clear hb5 hown5))
        clear KEEP
        go_wp2_with fail
        go_ret3
        obtain ⟨base, hbase, hown⟩ := HOW.out
        exact ⟨_, rfl, factsAt_of hown (by simp; omega), new_own hown hbase, rowW_own hown, HB2.out.trans (hk.mono HB2.out.size)⟩
      · have HT : Hid (piece W0 (.slice fa k fc) (f.take k)) := piece_take (HF.out _ HB2.out) hpl
        have HD : Hid (piece W0 (.slice (Option.map (fun x => x.add (k * 4)) fa) (f.length - k) (fc - k)) (f.drop k)) := by have := piece_drop (k := k) (HF.out _ HB2.out) hpl hcap; rw [if_neg hfk] at this; exact this
        have HL1 : Hid ((f.take k).length = k) := by show _ = _; rw [List.length_take, Nat.min_eq_left hpl]
        have HL3 : Hid ((f.drop k).length = f.length - k) := by show _ = _; rw [List.length_drop]
        have HL4 : Hid (0 < [(⟨p, a, b, v⟩ : Fct)].length) := by show _ < _; simp
        have HL5 : Hid ((f.take k).length + [(⟨p, a, b, v⟩ : Fct)].length + (f.drop k).length ≤ 500) := by show _ ≤ _; simp; omega
        have KEEP : Hid (∀ w', Below W0.heap.size W0 w' → (fun w' => Below W0.heap.size W0 w' ∧ w'.cell? ⟨w.heap.size, 0, none⟩ = some (.int .i64 p) ∧ w'.cell? ⟨w.heap.size, 1, none⟩ = some (.int .i64 a) ∧ w'.cell? ⟨w.heap.size, 2, none⟩ = some (.int .i64 b) ∧ w'.cell? ⟨w.heap.size, 3, none⟩ = some (.int .i64 v)) w') :=
          fun w' hq => ⟨hq, (cell_lasts hq hs2).trans c0, (cell_lasts hq hs2).trans c1, (cell_lasts hq hs2).trans c2, (cell_lasts hq hs2).trans c3⟩
        go_region_held3 (fun w' => Below W0.heap.size W0 w' ∧ w'.cell? ⟨w.heap.size, 0, none⟩ = some (.int .i64 p) ∧ w'.cell? ⟨w.heap.size, 1, none⟩ = some (.int .i64 a) ∧ w'.cell? ⟨w.heap.size, 2, none⟩ = some (.int .i64 b) ∧ w'.cell? ⟨w.heap.size, 3, none⟩ = some (.int .i64 v))
          ((refine KEEP.out _ ?_; (first | exact Below.refl _ _ | exact (Below.refl _ _).drew | exact hk | exact hk.drew | exact (below_alloc _ _) | exact (below_alloc _ _).drew | exact ((Below.refl _ _).drew).alloc (Nat.le_refl _) _ | exact hk.alloc hk.size _ | exact (hk.alloc hk.size _).drew | exact hk.drew.alloc hk.size _ | exact (below_alloc _ _).alloc (by simp) _ | exact ((below_alloc _ _).alloc (by simp) _).drew | exact (((Below.refl _ _).drew).alloc (Nat.le_refl _) _).alloc (by simp) _ | exact ((below_alloc _ _).drew).alloc (by simp) _)))
          (first
            | (go_at_call 47; refine Calls.mono (concat_is _ (W0.heap.size + 1) fa (some ⟨W0.heap.size, 0, none⟩) (Option.map (fun x => x.add (k * 4)) fa) fc 1 (fc - k) k 1 (f.length - k) (f.take k) [⟨p, a, b, v⟩] (f.drop k) HL1.out rfl HL3.out ?g1 ?g2 ?g3 ?g4 ?g5 ?g6 HL4.out HL5.out) ?_; (case g1 => simp [go_sem]); (case g2 => simp [go_sem]); (case g3 => simp [go_sem]); (case g4 => exact HT.out.lasts (by (first | exact (below_alloc _ _).alloc (by simp) _ | exact ((below_alloc _ _).alloc (by simp) _).drew))); (case g5 => first | exact piece_new W0 p a b v 44 _ | exact (piece_new W0 p a b v 44 _).lasts ((Below.refl _ _).drew)); (case g6 => exact HD.out.lasts (by (first | exact (below_alloc _ _).alloc (by simp) _ | exact ((below_alloc _ _).alloc (by simp) _).drew))); rintro e w5 ⟨u5, rfl, hown5, hb5⟩; have hk : Below W0.heap.size W0 w5 := Below.trans (by (first | exact (below_alloc _ _).alloc (by simp) _ | exact ((below_alloc _ _).alloc (by simp) _).drew)) (hb5.mono (by first | (simp; done) | omega | (simp; omega))); have HOW : Hid (∃ base, w.heap.size ≤ base ∧ w5.ownsRow base 44 4 u5 (f.take k ++ [(⟨p, a, b, v⟩ : Fct)] ++ f.drop k).length (cellsF (f.take k ++ [(⟨p, a, b, v⟩ : Fct)] ++ f.drop k))) := ⟨_, Nat.le_trans HB2.out.size (Below.size (B := W0.heap.size) (w := W0) (by (first | exact (below_alloc _ _).alloc (by simp) _ | exact ((below_alloc _ _).alloc (by simp) _).drew))), hown5⟩; clear hb5 hown5))
        clear KEEP
        go_wp2_with fail
        go_ret3
        obtain ⟨base, hbase, hown⟩ := HOW.out
        exact ⟨_, rfl, factsAt_of hown (by simp; omega), new_own hown hbase, rowW_own hown, HB2.out.trans (hk.mono HB2.out.size)⟩
    | some u =>
      obtain ⟨hpos, hpp, hu⟩ := get_some_pos HSO.out hg
      obtain ⟨e1, e2⟩ := add_there (K := kindOf ps) HSO.out hpos hpp
      rw [e1, e2]
      obtain ⟨bb, off, cap, hv, hbl, hcells⟩ := fact_cells (HF.out w (Below.refl _ _)) hpos
      obtain ⟨rfl, rfl⟩ : fa = some ⟨bb, off, none⟩ ∧ fc = cap := by simpa using hv
      obtain ⟨_, _, _, t3⟩ := hcells
      obtain ⟨pk, hpk, hpe⟩ : ∃ k : Nat, k < ps.length ∧ p = (k : Int) := isPred_iff.1 (by have := h2; simp only [factFine, Bool.and_eq_true] at this; exact this.1)
      subst hpe
      obtain ⟨pa, pc, rfl, hpm, hpx⟩ := hp
      obtain ⟨pb, po, rfl, hbp, hxx⟩ := hpx.resolve_left (by rintro rfl; simp at hpk)
      obtain ⟨_, _, k2⟩ := hxx pk ps[pk] (by simp [hpk])
      have HKO : Hid (kindOf ps (pk : Int) = ps[pk].kind) := kindOf_at hpk
      have HXV : Hid (Lat.err (kindOf ps (pk : Int)) v = 0) := (fine_of h2).v
      have HUV : Hid (Lat.err (kindOf ps (pk : Int)) u = 0) := by
        have q1 := get_err (right_of h1) hg
        rw [← pred_of (fine_of h2)] at q1
        exact q1
      rw [hu] at t3
      rw [hu]
      have HJ : Hid (Lat.joinOf ps[pk].kind u v = join (kindOf ps (pk : Int)) u v) := by
        show _ = _
        rw [HKO.out, Lat.joinOf, if_pos]
        rw [Lat.err2, if_pos (by rw [← HKO.out]; exact HUV.out)]
        rw [← HKO.out]
        exact HXV.out
      rw [← HJ.out]
      have HQ : Hid (∀ w', Below w.heap.size w w' → Calls Tryz.prog 31 #[.slice (some ⟨bb, off, none⟩) f.length fc, .agg #[.int .i64 (pk : Int), .int .i64 a, .int .i64 b, .int .i64 v], .func (.func 32) #[] #[]] w' (fun e w1 => e = .returned (.tuple #[.int .i64 (pos f (place ⟨(pk : Int), a, b, v⟩)), .bool true]) ∧ Below w'.heap.size w' w1)) := fun w' hb => by
        have := search_c w' _ f (pk : Int) a b v (HF.out _ hb) HS.out HX.out HSO.out
        rw [hg] at this
        exact this
      clear e1 e2 hg h1 h2 HS HX HSO hpp HJ HXV HUV HKO hxx hpx hv hu hfx
      have hpl : (pk : Int) < (ps.length : Int) := by omega
      have hp0 : (0 : Int) ≤ (pk : Int) := by omega
      generalize ps[pk].kind = qk at *
      generalize pos f (place ⟨(pk : Int), a, b, v⟩) = k at *
      have hk0 : (0 : Int) ≤ (k : Int) := by omega
      have hk1 : (k : Int) < (f.length : Int) := by omega
      have hne : 0 < f.length := by omega
      go_enter Tryz.func18, Tryz.ntmps18
      go_wp2_with (first
        | (go_at_call 46; refine (checkWith_c _ _ _ ps f _ _ _ _ (HP.out _ (below_alloc _ _)) (HF.out _ (below_alloc _ _))).mono ?_; rintro e w1 ⟨rfl, hb1⟩; obtain ⟨c0, c1, c2, c3⟩ := four_last hb1; have hs1 : w.heap.size < w1.heap.size := Nat.lt_of_lt_of_le (by simp) hb1.size; have HB : Hid (Below w.heap.size w w1) := (below_alloc _ _).trans (hb1.mono (by simp)); clear hb1)
        | (go_at_call 31; refine (HQ.out _ HB.out).mono ?_; rintro e W0 ⟨rfl, hb2⟩; replace c0 := (cell_lasts hb2 hs1).trans c0; replace c3 := (cell_lasts hb2 hs1).trans c3; have hs2 : w.heap.size < W0.heap.size := Nat.lt_of_lt_of_le hs1 hb2.size; have HB2 : Hid (Below w.heap.size w W0) := HB.out.trans (hb2.mono HB.out.size); clear hb2))
      have sb : bb < W0.heap.size := by omega
      have sp : pb < W0.heap.size := by omega
      have L0 : ∀ x : Low W0.heap.size W0, x.wd.cell? ⟨w.heap.size, 0, none⟩ = some (.int .i64 pk) := fun x => (cell_lasts x.low hs2).trans c0
      have L3 : ∀ x : Low W0.heap.size W0, x.wd.cell? ⟨w.heap.size, 3, none⟩ = some (.int .i64 v) := fun x => (cell_lasts x.low hs2).trans c3
      have LG : ∀ x : Low W0.heap.size W0, x.wd.cell? ⟨bb, off + k * 4 + 3, none⟩ = some (.int .i64 u) := fun x => (cell_lasts x.low sb).trans ((cell_lasts HB2.out hbl).trans t3)
      have LP : ∀ x : Low W0.heap.size W0, x.wd.cell? ⟨pb, po + pk * 3 + 2, none⟩ = some (.int .i64 qk) := fun x => (cell_lasts x.low sp).trans ((cell_lasts HB2.out hbp).trans k2)
      refine wp_region_low W0.heap.size (by kernel_rfl) (by kernel_rfl) ?_
      repeat (go_big_quiet_step ((go_at_call 48; exact low_of (Lat.Join_c _ _ _ _))))
      refine wpQuiet_nil ?_
      rintro w2 ⟨⟨w2', hk⟩, hw2⟩
      obtain rfl : w2 = w2' := hw2
      clear L0 L3 LG LP
      have HB3 : Hid (Below w.heap.size w w2) := HB2.out.trans (hk.mono HB2.out.size)
      clear c0 c1 c2 c3
      go_wp2_with fail
      refine (clone_c w2 _ f (HF.out _ HB3.out) hne (by omega)).mono ?_
      rintro e w3 ⟨v3, rfl, hown3, hb3⟩
      have HB4 : Hid (Below w.heap.size w w3) := HB3.out.trans (hb3.mono HB3.out.size)
      have HF3 : Hid (factsAt w3 v3 f) := factsAt_of hown3 (by omega)
      rcases hown3.2 with ⟨_, hz⟩ | ⟨g, cap, cur, rfl, hge, hgc, hnc, _⟩
      · omega
      have hwg : w.heap.size ≤ g := Nat.le_trans HB3.out.size hge
      have hbg : g ≠ bb := by omega
      obtain ⟨bb', off', cap', hv', _, hcl⟩ := fact_cells HF3.out hpos
      obtain ⟨⟨rfl, rfl⟩, rfl⟩ : (g = bb' ∧ 0 = off') ∧ cap = cap' := by simpa using hv'
      obtain ⟨_, _, _, d3⟩ := hcl
      simp only [Nat.zero_add] at d3
      have fz : w3.frozen? ⟨g, k * 4 + 3, none⟩ = false := by simp [World.frozen?, hgc]
      have t3' := (cell_lasts HB4.out hbl).trans t3
      have HRW : Hid (rowW w3 (.slice (some ⟨g, 0, none⟩) f.length cap)) := rowW_own hown3
      clear hown3 hb3 hv' hgc
      go_wp2_with fail
      refine wp_called (fun W => Below w.heap.size w W ∧ factsAt W (.slice (some ⟨g, 0, none⟩) f.length cap) (f.set k ⟨f[k].pred, f[k].a, f[k].b, Lat.joinOf qk u v⟩) ∧ W.cell? ⟨bb, off + k * 4 + 3, none⟩ = some (.int .i64 u) ∧ Hid (rowW W (.slice (some ⟨g, 0, none⟩) f.length cap))) ⟨HB4.out.setCell (p := ⟨g, k * 4 + 3, none⟩) hwg _, factsAt_set HF3.out hpos _, by rw [cell_block hbg]; exact t3', HRW.out.set g (k * 4 + 3) _⟩ ?_
      rintro W5 ⟨hb5, hf5, t5, hrw5⟩
      have HF5 : Hid (∀ w', Below W5.heap.size W5 w' → factsAt w' (.slice (some ⟨g, 0, none⟩) f.length cap) (f.set k ⟨f[k].pred, f[k].a, f[k].b, Lat.joinOf qk u v⟩)) := fun w' hb => factsAt.lasts hb hf5
      have s5 : bb < W5.heap.size := Nat.lt_of_lt_of_le hbl hb5.size
      clear hf5 HF3 d3 fz t3'
      have LG : ∀ x : Low W5.heap.size W5, x.wd.cell? ⟨bb, off + k * 4 + 3, none⟩ = some (.int .i64 u) := fun x => (cell_lasts x.low s5).trans t5
      refine wp_region_low W5.heap.size (by kernel_rfl) (by kernel_rfl) ?_
      repeat (go_big_quiet_step (fail))
      refine wpQuiet_nil ?_
      rintro w6 ⟨⟨w6', hk6⟩, hw6⟩
      obtain rfl : w6 = w6' := hw6
      clear LG
      go_wp2_with fail
      go_ret3
      exact ⟨_, rfl, HF5.out _ hk6, ⟨⟨_, _, cap, rfl, hnc, fun h => by cases h⟩, fun b hb => by cases hb; exact hwg⟩, hrw5.out.lasts hk6, hb5.trans (hk6.mono hb5.size)⟩
  · have e : addOf ps f ⟨p, a, b, v⟩ = ([], false, withErr ps f ⟨p, a, b, v⟩) := by simp [addOf, h0]
    rw [e]
    have h0' : (withErr ps f ⟨p, a, b, v⟩ == 0) = false := by simpa using h0
    go_enter Tryz.func18, Tryz.ntmps18
    go_wp2_with (go_at_call 46; refine (checkWith_c _ _ _ ps f _ _ _ _ (HP.out _ (below_alloc _ _)) (HF.out _ (below_alloc _ _))).mono ?_; rintro e w1 ⟨rfl, hb1⟩; have HB : Hid (Below w.heap.size w w1) := (below_alloc _ _).trans (hb1.mono (by simp)); clear hb1)
    go_ret3
    exact ⟨_, rfl, facts_nil _, new_nil _, rowW_nil _, HB.out⟩
theorem Add_n (w : World) (pv fv : Value) (ps : List Prd) (f : List Fct) (p a b v : Int) (hp : predsAt w pv ps) (hf : factsAt w fv f) (hc : capOk fv) :
    Calls Tryz.prog 18 #[pv, fv, .agg #[.int .i64 p, .int .i64 a, .int .i64 b, .int .i64 v]] w fun e w' => ∃ u, e = .returned (.tuple #[u, .bool (addOf ps f ⟨p, a, b, v⟩).2.1, .int .i64 (addOf ps f ⟨p, a, b, v⟩).2.2]) ∧ factsAt w' u (addOf ps f ⟨p, a, b, v⟩).1 ∧ capNew w.heap.size u ∧ Below w.heap.size w w' :=
  (Add_w w pv fv ps f p a b v hp hf hc).mono fun _ _ ⟨u, h1, h2, h3, _, h4⟩ => ⟨u, h1, h2, h3, h4⟩

theorem Add_c (w : World) (pv fv : Value) (ps : List Prd) (f : List Fct) (p a b v : Int) (hp : predsAt w pv ps) (hf : factsAt w fv f) (hc : capOk fv) :
    Calls Tryz.prog 18 #[pv, fv, .agg #[.int .i64 p, .int .i64 a, .int .i64 b, .int .i64 v]] w fun e w' => ∃ u, e = .returned (.tuple #[u, .bool (addOf ps f ⟨p, a, b, v⟩).2.1, .int .i64 (addOf ps f ⟨p, a, b, v⟩).2.2]) ∧ factsAt w' u (addOf ps f ⟨p, a, b, v⟩).1 ∧ capOk u ∧ Below w.heap.size w w' :=
  (Add_n w pv fv ps f p a b v hp hf hc).mono fun _ _ ⟨u, h1, h2, h3, h4⟩ => ⟨u, h1, h2, h3.1, h4⟩
end Go.Proofs.YtlfccloaoopadagGreat.Base

/-
  What the document's own 'add' and 'AddOf' answer.
-/
namespace Go.Proofs.YtlfccloaoopadagGreat.Base
open Go.ChangeShapes Go.WideShapes Go.ChangeAt Go.RowKit
open Lat (within within_c join)
open Rule (factFine factFine_c isPred kindOf arityOf isPred_iff)

/-- does one stand at x's place, or behind it? -/
def hit (x : Fct) (f : List Fct) : Bool := f.any fun y => decide (place x ≤ place y)
theorem hit_cons (x y : Fct) (f : List Fct) : hit x (y :: f) = (decide (place x ≤ place y) || hit x f) := rfl
theorem add_hit {K : Int → Int} {x : Fct} : ∀ {f : List Fct} (g : List Fct), hit x f = true → addF K x (f ++ g) = addF K x f ++ g ∧ addC K x (f ++ g) = addC K x f
  | [], g, h => by cases h
  | y :: f, g, h => by
    rw [List.cons_append, addF, addF, addC, addC]
    by_cases e : place y = place x
    · rw [if_pos e, if_pos e, if_pos e, if_pos e]
      exact ⟨rfl, rfl⟩
    · rw [if_neg e, if_neg e, if_neg e, if_neg e]
      by_cases l : place x < place y
      · rw [if_pos l, if_pos l, if_pos l, if_pos l]
        exact ⟨rfl, rfl⟩
      · rw [if_neg l, if_neg l, if_neg l, if_neg l]
        have h' : hit x f = true := by
          rw [hit_cons] at h
          have : decide (place x ≤ place y) = false := by simp; omega
          rw [this, Bool.false_or] at h
          exact h
        obtain ⟨h1, h2⟩ := add_hit g h'
        rw [h1, h2]
        exact ⟨rfl, rfl⟩
theorem add_miss {K : Int → Int} {x : Fct} : ∀ {f : List Fct} (g : List Fct), hit x f = false → addF K x (f ++ g) = f ++ addF K x g ∧ addC K x (f ++ g) = addC K x g
  | [], g, _ => ⟨rfl, rfl⟩
  | y :: f, g, h => by
    rw [hit_cons, Bool.or_eq_false_iff] at h
    have hy : ¬ place x ≤ place y := by simpa using h.1
    obtain ⟨h1, h2⟩ := add_miss (K := K) g h.2
    rw [List.cons_append, addF, addC, if_neg (by omega), if_neg (by omega), if_neg (by omega), if_neg (by omega), h1, h2]
    exact ⟨rfl, rfl⟩
def outTo (K : Int → Int) (x : Fct) (f : List Fct) : List Fct := if hit x f then addF K x f else f
def chgTo (K : Int → Int) (x : Fct) (f : List Fct) : Bool := if hit x f then addC K x f else false
theorem hit_app (x y : Fct) (f : List Fct) : hit x (f ++ [y]) = (hit x f || decide (place x ≤ place y)) := by simp [hit]
theorem stepA {K : Int → Int} {x y : Fct} {f : List Fct} (h : hit x f = true) : hit x (f ++ [y]) = true ∧ outTo K x (f ++ [y]) = outTo K x f ++ [y] ∧ chgTo K x (f ++ [y]) = chgTo K x f := by
  have h1 : hit x (f ++ [y]) = true := by rw [hit_app, h]; rfl
  obtain ⟨h2, h3⟩ := add_hit (K := K) [y] h
  refine ⟨h1, ?_, ?_⟩
  · unfold outTo; rw [if_pos h1, if_pos h, h2]
  · unfold chgTo; rw [if_pos h1, if_pos h, h3]
theorem stepB {K : Int → Int} {x y : Fct} {f : List Fct} (h : hit x f = false) (hy : place y < place x) : hit x (f ++ [y]) = false ∧ outTo K x (f ++ [y]) = outTo K x f ++ [y] ∧ chgTo K x (f ++ [y]) = chgTo K x f := by
  have h1 : hit x (f ++ [y]) = false := by rw [hit_app, h]; simp; omega
  refine ⟨h1, ?_, ?_⟩
  · unfold outTo; rw [if_neg (by rw [h1]; simp), if_neg (by rw [h]; simp)]
  · unfold chgTo; rw [if_neg (by rw [h1]; simp), if_neg (by rw [h]; simp)]
theorem stepC {K : Int → Int} {x y : Fct} {f : List Fct} (h : hit x f = false) (hy : place y = place x) : hit x (f ++ [y]) = true ∧ outTo K x (f ++ [y]) = outTo K x f ++ [⟨y.pred, y.a, y.b, join (K x.pred) y.val x.val⟩] ∧ chgTo K x (f ++ [y]) = (join (K x.pred) y.val x.val != y.val) := by
  have h1 : hit x (f ++ [y]) = true := by rw [hit_app, h]; simp; omega
  obtain ⟨h2, h3⟩ := add_miss (K := K) [y] h
  refine ⟨h1, ?_, ?_⟩
  · unfold outTo; rw [if_pos h1, if_neg (by rw [h]; simp), h2, addF, if_pos hy]
  · unfold chgTo; rw [if_pos h1, h3, addC, if_pos hy]
theorem stepD {K : Int → Int} {x y : Fct} {f : List Fct} (h : hit x f = false) (hy : place x < place y) : hit x (f ++ [y]) = true ∧ outTo K x (f ++ [y]) = outTo K x f ++ [x] ++ [y] ∧ chgTo K x (f ++ [y]) = true := by
  have h1 : hit x (f ++ [y]) = true := by rw [hit_app, h]; simp; omega
  obtain ⟨h2, h3⟩ := add_miss (K := K) [y] h
  refine ⟨h1, ?_, ?_⟩
  · unfold outTo; rw [if_pos h1, if_neg (by rw [h]; simp), h2, addF, if_neg (by omega), if_pos hy]; simp
  · unfold chgTo; rw [if_pos h1, h3, addC, if_neg (by omega), if_pos hy]
theorem endHit {K : Int → Int} {x : Fct} {f : List Fct} (h : hit x f = true) : outTo K x f = addF K x f ∧ chgTo K x f = addC K x f := by
  unfold outTo chgTo; rw [if_pos h, if_pos h]; exact ⟨rfl, rfl⟩
theorem endMiss {K : Int → Int} {x : Fct} {f : List Fct} (h : hit x f = false) : addF K x f = outTo K x f ++ [x] ∧ addC K x f = true := by
  obtain ⟨h1, h2⟩ := add_miss (K := K) [] h
  rw [List.append_nil] at h1 h2
  unfold outTo; rw [if_neg (by rw [h]; simp), h1, h2]; exact ⟨rfl, rfl⟩
theorem hit_ne {f : List Fct} {x : Fct} (hs : Sorted f) {k : Nat} (hk : k < f.length) (h : hit x (f.take k) = true) : place f[k] ≠ place x := by
  obtain ⟨y, hy, hp⟩ := List.any_eq_true.1 h
  obtain ⟨i, hi, rfl⟩ := List.mem_iff_getElem.1 hy
  rw [List.getElem_take] at hp
  have hik : i < k := by simp at hi; omega
  have := List.pairwise_iff_getElem.1 hs i k (by omega) hk hik
  have hp' : place x ≤ place f[i] := by simpa using hp
  omega
theorem out_length (K : Int → Int) (x : Fct) (f : List Fct) : (outTo K x f).length ≤ f.length + 1 := by
  have : ∀ g : List Fct, (addF K x g).length ≤ g.length + 1 := by
    intro g
    induction g with
    | nil => simp [addF]
    | cons y g ih =>
      rw [addF]
      split
      · simp
      · split
        · simp
        · simp; exact ih
  unfold outTo
  split
  · exact this f
  · omega
theorem own_lasts {w w' : World} {base : Nat} {e : TypeId} {sz n : Nat} {v : Value} {xs : List Value} (h : w.ownsRow base e sz v n xs) (hb : Below w.heap.size w w') : w'.ownsRow base e sz v n xs := by
  obtain ⟨h0, h1⟩ := h
  refine ⟨h0, ?_⟩
  rcases h1 with h1 | ⟨g, cap, cur, h1, h2, h3, h4⟩
  · exact .inl h1
  · exact .inr ⟨g, cap, cur, h1, h2, (hb.block g (Array.getElem?_eq_some_iff.1 h3).1).trans h3, h4⟩
theorem own_set {w : World} {base : Nat} {e : TypeId} {sz n : Nat} {v : Value} {xs : List Value} (h : w.ownsRow base e sz v n xs) {b o : Nat} {u : Value} (hb : ∀ g, v.ownBlock = some g → g ≠ b) : (w.setCell ⟨b, o, none⟩ u).ownsRow base e sz v n xs := by
  obtain ⟨h0, h1⟩ := h
  refine ⟨h0, ?_⟩
  rcases h1 with h1 | ⟨g, cap, cur, h1, h2, h3, h4⟩
  · exact .inl h1
  · refine .inr ⟨g, cap, cur, h1, h2, ?_, h4⟩
    have : g ≠ b := hb g (by rw [h1]; rfl)
    rw [Below.heap_setCell _ _ _ _ this]
    exact h3
theorem own_lt {w : World} {base : Nat} {e : TypeId} {sz n : Nat} {v : Value} {xs : List Value} (h : w.ownsRow base e sz v n xs) : ∀ g, v.ownBlock = some g → g < w.heap.size := fun g hg => (h.lt g hg).2

set_option maxRecDepth 100000 in
set_option maxHeartbeats 16000000 in
theorem add_n (w : World) (pv fv : Value) (ps : List Prd) (f : List Fct) (p a b v : Int) (hp : predsAt w pv ps) (hf : factsAt w fv f) (ef : factsErr ps f = 0) (ex : factFine ps ⟨p, a, b, v⟩ = true) :
    Calls Tryz.prog 52 #[pv, fv, .agg #[.int .i64 p, .int .i64 a, .int .i64 b, .int .i64 v]] w fun e w' => ∃ u, e = .returned (.tuple #[u, .bool (addC (kindOf ps) ⟨p, a, b, v⟩ f)]) ∧ factsAt w' u (addF (kindOf ps) ⟨p, a, b, v⟩ f) ∧ capNew w.heap.size u ∧ Below w.heap.size w w' := by
  have HF : Hid (factsAt w fv f) := hf
  have HS : Hid (∀ y ∈ f, Small y) := facts_small ef
  have HX : Hid (Small ⟨p, a, b, v⟩) := fine_small (factsErr_zero ef).1 ex
  have HSO : Hid (Sorted f) := (right_of ef).sorted
  have hshort := facts_short ef
  obtain ⟨pk, hpk, hpe⟩ : ∃ k : Nat, k < ps.length ∧ p = (k : Int) := isPred_iff.1 (by have := ex; simp only [factFine, Bool.and_eq_true] at this; exact this.1)
  subst hpe
  obtain ⟨pa, pc, rfl, hpm, hpx⟩ := hp
  obtain ⟨fa, fc, rfl, hfm, hfx⟩ := hf
  obtain ⟨pb, po, rfl, hbp, hxx⟩ := hpx.resolve_left (by rintro rfl; simp at hpk)
  obtain ⟨_, _, k2⟩ := hxx pk ps[pk] (by simp [hpk])
  have HQ4 : Hid (ps[pk].kind = 0 ∨ ps[pk].kind = 1 ∨ ps[pk].kind = 2 ∨ ps[pk].kind = 3) := kind_four (factsErr_zero ef).2.1 hpk
  have HKO : Hid (kindOf ps (pk : Int) = ps[pk].kind) := kindOf_at hpk
  have hpl : (pk : Int) < (ps.length : Int) := by omega
  have hp0 : (0 : Int) ≤ (pk : Int) := by omega
  clear hpx hxx hfx ef ex
  generalize ps[pk].kind = qk at *
  go_enter Tryz.func52, Tryz.ntmps52
  go_wp2_with fail
  go_loopw [8, 9, 10, 11] (fun s8 s9 s10 s11 wr => ∃ (k : Nat) (vv : Value), vv = s8 ∧ k ≤ f.length ∧ s11 = .int .i64 k ∧ s9 = .bool (hit ⟨(pk : Int), a, b, v⟩ (f.take k)) ∧ s10 = .bool (chgTo (kindOf ps) ⟨(pk : Int), a, b, v⟩ (f.take k)) ∧ wr.ownsRow (w.heap.size + 1) 44 4 vv (outTo (kindOf ps) ⟨(pk : Int), a, b, v⟩ (f.take k)).length (cellsF (outTo (kindOf ps) ⟨(pk : Int), a, b, v⟩ (f.take k))) ∧ Below (w.heap.size + 1) (w.alloc (.cells #[.int .i64 (pk : Int), .int .i64 a, .int .i64 b, .int .i64 v] 44)) wr) (fun _ _ _ i _ => f.length - (intOf i).toNat)
  case atStart => exact ⟨0, _, rfl, Nat.zero_le _, rfl, rfl, rfl, World.ownsRow_nil _ _ _ _, by have := Below.refl (w.alloc (.cells #[.int .i64 (pk : Int), .int .i64 a, .int .i64 b, .int .i64 v] 44)).heap.size (w.alloc (.cells #[.int .i64 (pk : Int), .int .i64 a, .int .i64 b, .int .i64 v] 44)); simpa using this⟩
  case round =>
    obtain ⟨k, vv, hvv, hk, rfl, rfl, rfl, hown, hbr⟩ := hrel
    subst hvv
    have hbw : Below w.heap.size w wr := (below_alloc _ _).trans (hbr.mono (by simp))
    have c0 : wr.cell? ⟨w.heap.size, 0, none⟩ = some (.int .i64 (pk : Int)) := by rw [hbr.cell (by simp)]; simp [go_sem]
    have c1 : wr.cell? ⟨w.heap.size, 1, none⟩ = some (.int .i64 a) := by rw [hbr.cell (by simp)]; simp [go_sem]
    have c2 : wr.cell? ⟨w.heap.size, 2, none⟩ = some (.int .i64 b) := by rw [hbr.cell (by simp)]; simp [go_sem]
    have c3 : wr.cell? ⟨w.heap.size, 3, none⟩ = some (.int .i64 v) := by rw [hbr.cell (by simp)]; simp [go_sem]
    have sxr : w.heap.size < wr.heap.size := by have := hbr.size; simp at this; omega
    have k2r := (cell_lasts hbw hbp).trans k2
    by_cases hlt : k < f.length
    · obtain ⟨bb, off, cap, hv, hbl, hcells⟩ := fact_cells HF.out hlt
      obtain ⟨rfl, rfl⟩ : fa = some ⟨bb, off, none⟩ ∧ fc = cap := by simpa using hv
      obtain ⟨t0, t1, t2, t3⟩ := factAt.lasts w wr bb _ _ hbw hbl hcells
      have HSY : Hid (Small f[k]) := HS.out _ (List.getElem_mem hlt)
      have hjl : (k : Int) < (f.length : Int) := by omega
      have hj0 : (0 : Int) ≤ (k : Int) := by omega
      have hOl : (outTo (kindOf ps) ⟨(pk : Int), a, b, v⟩ (f.take k)).length ≤ 126 := Nat.le_trans (out_length _ _ _) (by simp; omega)
      have hne : ∀ g, vv.ownBlock = some g → g < wr.heap.size := own_lt hown
      have HT1 : Hid (f.take (k + 1) = f.take k ++ [f[k]]) := List.take_succ_eq_append_getElem hlt
      have HA : Hid (hit ⟨(pk : Int), a, b, v⟩ (f.take k) = true → place f[k] ≠ place ⟨(pk : Int), a, b, v⟩ ∧ hit ⟨(pk : Int), a, b, v⟩ (f.take (k + 1)) = true ∧ outTo (kindOf ps) ⟨(pk : Int), a, b, v⟩ (f.take (k + 1)) = outTo (kindOf ps) ⟨(pk : Int), a, b, v⟩ (f.take k) ++ [f[k]] ∧ chgTo (kindOf ps) ⟨(pk : Int), a, b, v⟩ (f.take (k + 1)) = chgTo (kindOf ps) ⟨(pk : Int), a, b, v⟩ (f.take k)) := fun h => ⟨hit_ne HSO.out hlt h, by rw [HT1.out]; exact stepA h⟩
      have HB : Hid (hit ⟨(pk : Int), a, b, v⟩ (f.take k) = false → place f[k] < place ⟨(pk : Int), a, b, v⟩ → hit ⟨(pk : Int), a, b, v⟩ (f.take (k + 1)) = false ∧ outTo (kindOf ps) ⟨(pk : Int), a, b, v⟩ (f.take (k + 1)) = outTo (kindOf ps) ⟨(pk : Int), a, b, v⟩ (f.take k) ++ [f[k]] ∧ chgTo (kindOf ps) ⟨(pk : Int), a, b, v⟩ (f.take (k + 1)) = chgTo (kindOf ps) ⟨(pk : Int), a, b, v⟩ (f.take k)) := fun h g => by rw [HT1.out]; exact stepB h g
      have HC : Hid (hit ⟨(pk : Int), a, b, v⟩ (f.take k) = false → place f[k] = place ⟨(pk : Int), a, b, v⟩ → hit ⟨(pk : Int), a, b, v⟩ (f.take (k + 1)) = true ∧ outTo (kindOf ps) ⟨(pk : Int), a, b, v⟩ (f.take (k + 1)) = outTo (kindOf ps) ⟨(pk : Int), a, b, v⟩ (f.take k) ++ [⟨f[k].pred, f[k].a, f[k].b, join qk f[k].val v⟩] ∧ chgTo (kindOf ps) ⟨(pk : Int), a, b, v⟩ (f.take (k + 1)) = (join qk f[k].val v != f[k].val)) := fun h g => by rw [HT1.out, ← HKO.out]; exact stepC h g
      have HD : Hid (hit ⟨(pk : Int), a, b, v⟩ (f.take k) = false → place ⟨(pk : Int), a, b, v⟩ < place f[k] → hit ⟨(pk : Int), a, b, v⟩ (f.take (k + 1)) = true ∧ outTo (kindOf ps) ⟨(pk : Int), a, b, v⟩ (f.take (k + 1)) = outTo (kindOf ps) ⟨(pk : Int), a, b, v⟩ (f.take k) ++ [⟨(pk : Int), a, b, v⟩] ++ [f[k]] ∧ chgTo (kindOf ps) ⟨(pk : Int), a, b, v⟩ (f.take (k + 1)) = true) := fun h g => by rw [HT1.out]; exact stepD h g
      clear hcells hv HF HS HSO HT1 HKO
      generalize f[k] = y at *
      obtain ⟨yp, ya, yb, yv⟩ := y
      generalize outTo (kindOf ps) ⟨(pk : Int), a, b, v⟩ (f.take k) = O at *
      generalize chgTo (kindOf ps) ⟨(pk : Int), a, b, v⟩ (f.take k) = C at *
      have HOW : Hid (wr.ownsRow (w.heap.size + 1) 44 4 vv O.length (cellsF O)) := hown
      have hneb : vv.ownBlock ≠ some wr.heap.size := fun e => by have := hne _ e; omega
      clear hown
      cases hh : hit ⟨(pk : Int), a, b, v⟩ (f.take k)
      · by_cases hlt2 : place ⟨yp, ya, yb, yv⟩ < place ⟨(pk : Int), a, b, v⟩
        · have HT := HB.out hh hlt2
          have hpe : (place ⟨yp, ya, yb, yv⟩ == place ⟨(pk : Int), a, b, v⟩) = false := by simp; omega
          have hpg : decide (place ⟨(pk : Int), a, b, v⟩ < place ⟨yp, ya, yb, yv⟩) = false := by simp; omega
          have HT : Hid _ := HT
          clear HA HB HC HD hlt2 hh
          go_wp2_with fail
          refine wp_called (fun W => w.heap.size < W.heap.size ∧ wr.heap.size < W.heap.size ∧ Below (w.heap.size + 1) (w.alloc (.cells #[.int .i64 (pk : Int), .int .i64 a, .int .i64 b, .int .i64 v] 44)) W ∧ W.ownsRow (w.heap.size + 1) 44 4 vv O.length (cellsF O) ∧ W.frozen? ⟨wr.heap.size, 3, none⟩ = false ∧ W.cell? ⟨pb, po + pk * 3 + 2, none⟩ = some (.int .i64 qk) ∧ W.cell? ⟨w.heap.size, 0, none⟩ = some (.int .i64 (pk : Int)) ∧ W.cell? ⟨w.heap.size, 1, none⟩ = some (.int .i64 a) ∧ W.cell? ⟨w.heap.size, 2, none⟩ = some (.int .i64 b) ∧ W.cell? ⟨w.heap.size, 3, none⟩ = some (.int .i64 v) ∧ W.cell? ⟨wr.heap.size, 0, none⟩ = some (.int .i64 yp) ∧ W.cell? ⟨wr.heap.size, 1, none⟩ = some (.int .i64 ya) ∧ W.cell? ⟨wr.heap.size, 2, none⟩ = some (.int .i64 yb) ∧ W.cell? ⟨wr.heap.size, 3, none⟩ = some (.int .i64 yv)) ⟨by simp; omega, by simp, hbr.alloc (by omega) _, own_lasts HOW.out (below_alloc _ _), by simp [go_sem], by rw [cell_lasts (below_alloc _ _) (by omega)]; exact k2r, by rw [cell_lasts (below_alloc _ _) sxr]; exact c0, by rw [cell_lasts (below_alloc _ _) sxr]; exact c1, by rw [cell_lasts (below_alloc _ _) sxr]; exact c2, by rw [cell_lasts (below_alloc _ _) sxr]; exact c3, by simp [go_sem], by simp [go_sem], by simp [go_sem], by simp [go_sem]⟩ ?_
          rintro W0 ⟨sx0, sy0, hx0, ho0, yf0, k20, x00, x10, x20, x30, y00, y10, y20, y30⟩
          have HO0 : Hid (W0.ownsRow (w.heap.size + 1) 44 4 vv O.length (cellsF O)) := ho0
          clear ho0 HOW t0 t1 t2 t3 c0 c1 c2 c3 k2r
          go_wp2_with fail
          have Lx0 : ∀ q : Low W0.heap.size W0, q.wd.cell? ⟨w.heap.size, 0, none⟩ = some (.int .i64 (pk : Int)) := fun q => (cell_lasts q.low sx0).trans x00
          have Lx1 : ∀ q : Low W0.heap.size W0, q.wd.cell? ⟨w.heap.size, 1, none⟩ = some (.int .i64 a) := fun q => (cell_lasts q.low sx0).trans x10
          have Lx2 : ∀ q : Low W0.heap.size W0, q.wd.cell? ⟨w.heap.size, 2, none⟩ = some (.int .i64 b) := fun q => (cell_lasts q.low sx0).trans x20
          have Lx3 : ∀ q : Low W0.heap.size W0, q.wd.cell? ⟨w.heap.size, 3, none⟩ = some (.int .i64 v) := fun q => (cell_lasts q.low sx0).trans x30
          have Ly0 : ∀ q : Low W0.heap.size W0, q.wd.cell? ⟨wr.heap.size, 0, none⟩ = some (.int .i64 yp) := fun q => (cell_lasts q.low sy0).trans y00
          have Ly1 : ∀ q : Low W0.heap.size W0, q.wd.cell? ⟨wr.heap.size, 1, none⟩ = some (.int .i64 ya) := fun q => (cell_lasts q.low sy0).trans y10
          have Ly2 : ∀ q : Low W0.heap.size W0, q.wd.cell? ⟨wr.heap.size, 2, none⟩ = some (.int .i64 yb) := fun q => (cell_lasts q.low sy0).trans y20
          have Ly3 : ∀ q : Low W0.heap.size W0, q.wd.cell? ⟨wr.heap.size, 3, none⟩ = some (.int .i64 yv) := fun q => (cell_lasts q.low sy0).trans y30
          refine wp_region_low W0.heap.size (by kernel_rfl) (by kernel_rfl) ?_
          repeat (go_big_quiet_step ((go_at_call 79; exact low_of (place_c _ _ _ _ _ (by first | exact HX.out | exact HSY.out)))))
          refine wpQuiet_nil ?_
          rintro w2 ⟨⟨w2', hq0⟩, hw0⟩
          obtain rfl : w2 = w2' := hw0
          clear Lx0 Lx1 Lx2 Lx3 Ly0 Ly1 Ly2 Ly3
          have x02 := (cell_lasts hq0 sx0).trans x00
          have x12 := (cell_lasts hq0 sx0).trans x10
          have x22 := (cell_lasts hq0 sx0).trans x20
          have x32 := (cell_lasts hq0 sx0).trans x30
          have y02 := (cell_lasts hq0 sy0).trans y00
          have y12 := (cell_lasts hq0 sy0).trans y10
          have y22 := (cell_lasts hq0 sy0).trans y20
          have y32 := (cell_lasts hq0 sy0).trans y30
          have sx2 : w.heap.size < w2.heap.size := Nat.lt_of_lt_of_le sx0 hq0.size
          have sy2 : wr.heap.size < w2.heap.size := Nat.lt_of_lt_of_le sy0 hq0.size
          have HO2 : Hid (w2.ownsRow (w.heap.size + 1) 44 4 vv O.length (cellsF O)) := own_lasts HO0.out hq0
          have hx2 : Below (w.heap.size + 1) (w.alloc (.cells #[.int .i64 (pk : Int), .int .i64 a, .int .i64 b, .int .i64 v] 44)) w2 := hx0.trans (hq0.mono (by have := sx0; omega))
          clear x00 x10 x20 x30 y00 y10 y20 y30 HO0
          go_wp2_with fail
          have Lx0 : ∀ q : Low w2.heap.size w2, q.wd.cell? ⟨w.heap.size, 0, none⟩ = some (.int .i64 (pk : Int)) := fun q => (cell_lasts q.low sx2).trans x02
          have Lx1 : ∀ q : Low w2.heap.size w2, q.wd.cell? ⟨w.heap.size, 1, none⟩ = some (.int .i64 a) := fun q => (cell_lasts q.low sx2).trans x12
          have Lx2 : ∀ q : Low w2.heap.size w2, q.wd.cell? ⟨w.heap.size, 2, none⟩ = some (.int .i64 b) := fun q => (cell_lasts q.low sx2).trans x22
          have Lx3 : ∀ q : Low w2.heap.size w2, q.wd.cell? ⟨w.heap.size, 3, none⟩ = some (.int .i64 v) := fun q => (cell_lasts q.low sx2).trans x32
          have Ly0 : ∀ q : Low w2.heap.size w2, q.wd.cell? ⟨wr.heap.size, 0, none⟩ = some (.int .i64 yp) := fun q => (cell_lasts q.low sy2).trans y02
          have Ly1 : ∀ q : Low w2.heap.size w2, q.wd.cell? ⟨wr.heap.size, 1, none⟩ = some (.int .i64 ya) := fun q => (cell_lasts q.low sy2).trans y12
          have Ly2 : ∀ q : Low w2.heap.size w2, q.wd.cell? ⟨wr.heap.size, 2, none⟩ = some (.int .i64 yb) := fun q => (cell_lasts q.low sy2).trans y22
          have Ly3 : ∀ q : Low w2.heap.size w2, q.wd.cell? ⟨wr.heap.size, 3, none⟩ = some (.int .i64 yv) := fun q => (cell_lasts q.low sy2).trans y32
          refine wp_region_low w2.heap.size (by kernel_rfl) (by kernel_rfl) ?_
          repeat (go_big_quiet_step ((go_at_call 79; exact low_of (place_c _ _ _ _ _ (by first | exact HX.out | exact HSY.out)))))
          refine wpQuiet_nil ?_
          rintro w3 ⟨⟨w3', hq2⟩, hw2⟩
          obtain rfl : w3 = w3' := hw2
          clear Lx0 Lx1 Lx2 Lx3 Ly0 Ly1 Ly2 Ly3
          have y03 := (cell_lasts hq2 sy2).trans y02
          have y13 := (cell_lasts hq2 sy2).trans y12
          have y23 := (cell_lasts hq2 sy2).trans y22
          have y33 := (cell_lasts hq2 sy2).trans y32
          have sx3 : w.heap.size < w3.heap.size := Nat.lt_of_lt_of_le sx2 hq2.size
          have sy3 : wr.heap.size < w3.heap.size := Nat.lt_of_lt_of_le sy2 hq2.size
          have HO3 : Hid (w3.ownsRow (w.heap.size + 1) 44 4 vv O.length (cellsF O)) := own_lasts HO2.out hq2
          have hx3 : Below (w.heap.size + 1) (w.alloc (.cells #[.int .i64 (pk : Int), .int .i64 a, .int .i64 b, .int .i64 v] 44)) w3 := hx2.trans (hq2.mono (by have := sx2; omega))
          clear y02 y12 y22 y32 HO2
          go_wp2_with (at_builtin; refine wpList_append_piece _ rfl _ _ rfl (w.heap.size + 1) vv (O) [⟨yp, ya, yb, yv⟩] (own_lasts HO3.out (below_alloc _ _)) rfl _ rfl (piece_one (heap_alloc_new _ _)) (by simp; omega) (by have := sx3; simp; omega) ?_; intro v5 w5 hown5 hgr5; have hx5 : Below (w.heap.size + 1) (w.alloc (.cells #[.int .i64 (pk : Int), .int .i64 a, .int .i64 b, .int .i64 v] 44)) w5 := grown_below (hx3.alloc (by have := sx3; omega) _) (own_lasts HO3.out (below_alloc _ _)) hgr5 (by have := sx3; simp; omega))
          go_roundw
          case rel => exact ⟨k + 1, _, rfl, by omega, by go_num, by rw [HT.out.1], by rw [HT.out.2.2], by rw [HT.out.2.1]; exact hown5, hx5⟩
          case measure => simp [intOf]; omega
        · by_cases heq : place ⟨yp, ya, yb, yv⟩ = place ⟨(pk : Int), a, b, v⟩
          · have HT : Hid _ := HC.out hh heq
            have hpe : (place ⟨yp, ya, yb, yv⟩ == place ⟨(pk : Int), a, b, v⟩) = true := by simpa using heq
            clear HA HB HC HD hlt2 hh heq
            go_wp2_with fail
            refine wp_called (fun W => w.heap.size < W.heap.size ∧ wr.heap.size < W.heap.size ∧ Below (w.heap.size + 1) (w.alloc (.cells #[.int .i64 (pk : Int), .int .i64 a, .int .i64 b, .int .i64 v] 44)) W ∧ W.ownsRow (w.heap.size + 1) 44 4 vv O.length (cellsF O) ∧ W.frozen? ⟨wr.heap.size, 3, none⟩ = false ∧ W.cell? ⟨pb, po + pk * 3 + 2, none⟩ = some (.int .i64 qk) ∧ W.cell? ⟨w.heap.size, 0, none⟩ = some (.int .i64 (pk : Int)) ∧ W.cell? ⟨w.heap.size, 1, none⟩ = some (.int .i64 a) ∧ W.cell? ⟨w.heap.size, 2, none⟩ = some (.int .i64 b) ∧ W.cell? ⟨w.heap.size, 3, none⟩ = some (.int .i64 v) ∧ W.cell? ⟨wr.heap.size, 0, none⟩ = some (.int .i64 yp) ∧ W.cell? ⟨wr.heap.size, 1, none⟩ = some (.int .i64 ya) ∧ W.cell? ⟨wr.heap.size, 2, none⟩ = some (.int .i64 yb) ∧ W.cell? ⟨wr.heap.size, 3, none⟩ = some (.int .i64 yv)) ⟨by simp; omega, by simp, hbr.alloc (by omega) _, own_lasts HOW.out (below_alloc _ _), by simp [go_sem], by rw [cell_lasts (below_alloc _ _) (by omega)]; exact k2r, by rw [cell_lasts (below_alloc _ _) sxr]; exact c0, by rw [cell_lasts (below_alloc _ _) sxr]; exact c1, by rw [cell_lasts (below_alloc _ _) sxr]; exact c2, by rw [cell_lasts (below_alloc _ _) sxr]; exact c3, by simp [go_sem], by simp [go_sem], by simp [go_sem], by simp [go_sem]⟩ ?_
            rintro W0 ⟨sx0, sy0, hx0, ho0, yf0, k20, x00, x10, x20, x30, y00, y10, y20, y30⟩
            have HO0 : Hid (W0.ownsRow (w.heap.size + 1) 44 4 vv O.length (cellsF O)) := ho0
            clear ho0 HOW t0 t1 t2 t3 c0 c1 c2 c3 k2r
            go_wp2_with fail
            have Lx0 : ∀ q : Low W0.heap.size W0, q.wd.cell? ⟨w.heap.size, 0, none⟩ = some (.int .i64 (pk : Int)) := fun q => (cell_lasts q.low sx0).trans x00
            have Lx1 : ∀ q : Low W0.heap.size W0, q.wd.cell? ⟨w.heap.size, 1, none⟩ = some (.int .i64 a) := fun q => (cell_lasts q.low sx0).trans x10
            have Lx2 : ∀ q : Low W0.heap.size W0, q.wd.cell? ⟨w.heap.size, 2, none⟩ = some (.int .i64 b) := fun q => (cell_lasts q.low sx0).trans x20
            have Lx3 : ∀ q : Low W0.heap.size W0, q.wd.cell? ⟨w.heap.size, 3, none⟩ = some (.int .i64 v) := fun q => (cell_lasts q.low sx0).trans x30
            have Ly0 : ∀ q : Low W0.heap.size W0, q.wd.cell? ⟨wr.heap.size, 0, none⟩ = some (.int .i64 yp) := fun q => (cell_lasts q.low sy0).trans y00
            have Ly1 : ∀ q : Low W0.heap.size W0, q.wd.cell? ⟨wr.heap.size, 1, none⟩ = some (.int .i64 ya) := fun q => (cell_lasts q.low sy0).trans y10
            have Ly2 : ∀ q : Low W0.heap.size W0, q.wd.cell? ⟨wr.heap.size, 2, none⟩ = some (.int .i64 yb) := fun q => (cell_lasts q.low sy0).trans y20
            have Ly3 : ∀ q : Low W0.heap.size W0, q.wd.cell? ⟨wr.heap.size, 3, none⟩ = some (.int .i64 yv) := fun q => (cell_lasts q.low sy0).trans y30
            refine wp_region_low W0.heap.size (by kernel_rfl) (by kernel_rfl) ?_
            repeat (go_big_quiet_step ((go_at_call 79; exact low_of (place_c _ _ _ _ _ (by first | exact HX.out | exact HSY.out)))))
            refine wpQuiet_nil ?_
            rintro w2 ⟨⟨w2', hq0⟩, hw0⟩
            obtain rfl : w2 = w2' := hw0
            clear Lx0 Lx1 Lx2 Lx3 Ly0 Ly1 Ly2 Ly3
            have x02 := (cell_lasts hq0 sx0).trans x00
            have x12 := (cell_lasts hq0 sx0).trans x10
            have x22 := (cell_lasts hq0 sx0).trans x20
            have x32 := (cell_lasts hq0 sx0).trans x30
            have y02 := (cell_lasts hq0 sy0).trans y00
            have y12 := (cell_lasts hq0 sy0).trans y10
            have y22 := (cell_lasts hq0 sy0).trans y20
            have y32 := (cell_lasts hq0 sy0).trans y30
            have k22 := (cell_lasts hq0 (by have := sx0; omega)).trans k20
            have yf2 : w2.frozen? ⟨wr.heap.size, 3, none⟩ = false := (hq0.frozen (p := ⟨wr.heap.size, 3, none⟩) sy0).trans yf0
            have sx2 : w.heap.size < w2.heap.size := Nat.lt_of_lt_of_le sx0 hq0.size
            have sy2 : wr.heap.size < w2.heap.size := Nat.lt_of_lt_of_le sy0 hq0.size
            have HO2 : Hid (w2.ownsRow (w.heap.size + 1) 44 4 vv O.length (cellsF O)) := own_lasts HO0.out hq0
            have hx2 : Below (w.heap.size + 1) (w.alloc (.cells #[.int .i64 (pk : Int), .int .i64 a, .int .i64 b, .int .i64 v] 44)) w2 := hx0.trans (hq0.mono (by have := sx0; omega))
            clear x00 x10 x20 x30 y00 y10 y20 y30 k20 yf0 HO0
            go_wp2_with fail
            have Lx0 : ∀ q : Low w2.heap.size w2, q.wd.cell? ⟨w.heap.size, 0, none⟩ = some (.int .i64 (pk : Int)) := fun q => (cell_lasts q.low sx2).trans x02
            have Lx1 : ∀ q : Low w2.heap.size w2, q.wd.cell? ⟨w.heap.size, 1, none⟩ = some (.int .i64 a) := fun q => (cell_lasts q.low sx2).trans x12
            have Lx2 : ∀ q : Low w2.heap.size w2, q.wd.cell? ⟨w.heap.size, 2, none⟩ = some (.int .i64 b) := fun q => (cell_lasts q.low sx2).trans x22
            have Lx3 : ∀ q : Low w2.heap.size w2, q.wd.cell? ⟨w.heap.size, 3, none⟩ = some (.int .i64 v) := fun q => (cell_lasts q.low sx2).trans x32
            have Ly0 : ∀ q : Low w2.heap.size w2, q.wd.cell? ⟨wr.heap.size, 0, none⟩ = some (.int .i64 yp) := fun q => (cell_lasts q.low sy2).trans y02
            have Ly1 : ∀ q : Low w2.heap.size w2, q.wd.cell? ⟨wr.heap.size, 1, none⟩ = some (.int .i64 ya) := fun q => (cell_lasts q.low sy2).trans y12
            have Ly2 : ∀ q : Low w2.heap.size w2, q.wd.cell? ⟨wr.heap.size, 2, none⟩ = some (.int .i64 yb) := fun q => (cell_lasts q.low sy2).trans y22
            have Ly3 : ∀ q : Low w2.heap.size w2, q.wd.cell? ⟨wr.heap.size, 3, none⟩ = some (.int .i64 yv) := fun q => (cell_lasts q.low sy2).trans y32
            have LP : ∀ q : Low w2.heap.size w2, q.wd.cell? ⟨pb, po + pk * 3 + 2, none⟩ = some (.int .i64 qk) := fun q => (cell_lasts q.low (by have := sx2; omega)).trans k22
            refine wp_region_low w2.heap.size (by kernel_rfl) (by kernel_rfl) ?_
            repeat (go_big_quiet_step ((go_at_call 91; exact low_same (Lat.joinR_c _ _ _ _ HQ4.out))))
            refine wpQuiet_nil ?_
            rintro w3 ⟨⟨w3', hq2⟩, hw2⟩
            obtain rfl : w3 = w3' := hw2
            clear Lx0 Lx1 Lx2 Lx3 Ly0 Ly1 Ly2 Ly3 LP
            have y03 := (cell_lasts hq2 sy2).trans y02
            have y13 := (cell_lasts hq2 sy2).trans y12
            have y23 := (cell_lasts hq2 sy2).trans y22
            have y33 := (cell_lasts hq2 sy2).trans y32
            have yf3 : w3.frozen? ⟨wr.heap.size, 3, none⟩ = false := (hq2.frozen (p := ⟨wr.heap.size, 3, none⟩) sy2).trans yf2
            have sx3 : w.heap.size < w3.heap.size := Nat.lt_of_lt_of_le sx2 hq2.size
            have sy3 : wr.heap.size < w3.heap.size := Nat.lt_of_lt_of_le sy2 hq2.size
            have HO3 : Hid (w3.ownsRow (w.heap.size + 1) 44 4 vv O.length (cellsF O)) := own_lasts HO2.out hq2
            have hx3 : Below (w.heap.size + 1) (w.alloc (.cells #[.int .i64 (pk : Int), .int .i64 a, .int .i64 b, .int .i64 v] 44)) w3 := hx2.trans (hq2.mono (by have := sx2; omega))
            clear y02 y12 y22 y32 yf2 HO2
            go_wp2_with fail
            refine wp_called (fun W => w.heap.size < W.heap.size ∧ wr.heap.size < W.heap.size ∧ Below (w.heap.size + 1) (w.alloc (.cells #[.int .i64 (pk : Int), .int .i64 a, .int .i64 b, .int .i64 v] 44)) W ∧ W.ownsRow (w.heap.size + 1) 44 4 vv O.length (cellsF O) ∧ W.cell? ⟨wr.heap.size, 0, none⟩ = some (.int .i64 yp) ∧ W.cell? ⟨wr.heap.size, 1, none⟩ = some (.int .i64 ya) ∧ W.cell? ⟨wr.heap.size, 2, none⟩ = some (.int .i64 yb) ∧ W.cell? ⟨wr.heap.size, 3, none⟩ = some (.int .i64 (join qk yv v))) ⟨by rw [size_set]; exact sx3, by rw [size_set]; exact sy3, hx3.setCell (p := ⟨wr.heap.size, 3, none⟩) (by show w.heap.size + 1 ≤ wr.heap.size; omega) _, own_set HO3.out (fun g hg => by have := hne g hg; omega), by rw [cell_off (by omega)]; exact y03, by rw [cell_off (by omega)]; exact y13, by rw [cell_off (by omega)]; exact y23, cell_set y33⟩ ?_
            rintro w4 ⟨sx4, sy4, hx4, ho4, y04, y14, y24, y34⟩
            have HO4 : Hid (w4.ownsRow (w.heap.size + 1) 44 4 vv O.length (cellsF O)) := ho4
            clear ho4 HO3 y03 y13 y23 y33 yf3
            go_wp2_with fail
            have Ly0 : ∀ q : Low w4.heap.size w4, q.wd.cell? ⟨wr.heap.size, 0, none⟩ = some (.int .i64 yp) := fun q => (cell_lasts q.low sy4).trans y04
            have Ly1 : ∀ q : Low w4.heap.size w4, q.wd.cell? ⟨wr.heap.size, 1, none⟩ = some (.int .i64 ya) := fun q => (cell_lasts q.low sy4).trans y14
            have Ly2 : ∀ q : Low w4.heap.size w4, q.wd.cell? ⟨wr.heap.size, 2, none⟩ = some (.int .i64 yb) := fun q => (cell_lasts q.low sy4).trans y24
            have Ly3 : ∀ q : Low w4.heap.size w4, q.wd.cell? ⟨wr.heap.size, 3, none⟩ = some (.int .i64 (join qk yv v)) := fun q => (cell_lasts q.low sy4).trans y34
            refine wp_region_low w4.heap.size (by kernel_rfl) (by kernel_rfl) ?_
            repeat (go_big_quiet_step ((go_at_call 79; exact low_of (place_c _ _ _ _ _ (by first | exact HX.out | exact HSY.out)))))
            refine wpQuiet_nil ?_
            rintro w6 ⟨⟨w6', hq4⟩, hw4⟩
            obtain rfl : w6 = w6' := hw4
            clear Ly0 Ly1 Ly2 Ly3
            have y06 := (cell_lasts hq4 sy4).trans y04
            have y16 := (cell_lasts hq4 sy4).trans y14
            have y26 := (cell_lasts hq4 sy4).trans y24
            have y36 := (cell_lasts hq4 sy4).trans y34
            have sx6 : w.heap.size < w6.heap.size := Nat.lt_of_lt_of_le sx4 hq4.size
            have sy6 : wr.heap.size < w6.heap.size := Nat.lt_of_lt_of_le sy4 hq4.size
            have HO6 : Hid (w6.ownsRow (w.heap.size + 1) 44 4 vv O.length (cellsF O)) := own_lasts HO4.out hq4
            have hx6 : Below (w.heap.size + 1) (w.alloc (.cells #[.int .i64 (pk : Int), .int .i64 a, .int .i64 b, .int .i64 v] 44)) w6 := hx4.trans (hq4.mono (by have := sx4; omega))
            clear y04 y14 y24 y34 HO4
            go_wp2_with (at_builtin; refine wpList_append_piece _ rfl _ _ rfl (w.heap.size + 1) vv (O) [⟨yp, ya, yb, join qk yv v⟩] (own_lasts HO6.out (below_alloc _ _)) rfl _ rfl (piece_one (heap_alloc_new _ _)) (by simp; omega) (by have := sx6; simp; omega) ?_; intro v5 w5 hown5 hgr5; have hx5 : Below (w.heap.size + 1) (w.alloc (.cells #[.int .i64 (pk : Int), .int .i64 a, .int .i64 b, .int .i64 v] 44)) w5 := grown_below (hx6.alloc (by have := sx6; omega) _) (own_lasts HO6.out (below_alloc _ _)) hgr5 (by have := sx6; simp; omega))
            go_roundw
            case rel => exact ⟨k + 1, _, rfl, by omega, by go_num, by rw [HT.out.1], by rw [HT.out.2.2], by rw [HT.out.2.1]; exact hown5, hx5⟩
            case measure => simp [intOf]; omega
          · have HT : Hid _ := HD.out hh (by omega)
            have hpe : (place ⟨yp, ya, yb, yv⟩ == place ⟨(pk : Int), a, b, v⟩) = false := by simpa using heq
            have hpg : decide (place ⟨(pk : Int), a, b, v⟩ < place ⟨yp, ya, yb, yv⟩) = true := by simp; omega
            have tok1 : True := trivial
            have tok2 : True := trivial
            clear HA HB HC HD hlt2 hh heq
            go_wp2_with fail
            refine wp_called (fun W => w.heap.size < W.heap.size ∧ wr.heap.size < W.heap.size ∧ Below (w.heap.size + 1) (w.alloc (.cells #[.int .i64 (pk : Int), .int .i64 a, .int .i64 b, .int .i64 v] 44)) W ∧ W.ownsRow (w.heap.size + 1) 44 4 vv O.length (cellsF O) ∧ W.frozen? ⟨wr.heap.size, 3, none⟩ = false ∧ W.cell? ⟨pb, po + pk * 3 + 2, none⟩ = some (.int .i64 qk) ∧ W.cell? ⟨w.heap.size, 0, none⟩ = some (.int .i64 (pk : Int)) ∧ W.cell? ⟨w.heap.size, 1, none⟩ = some (.int .i64 a) ∧ W.cell? ⟨w.heap.size, 2, none⟩ = some (.int .i64 b) ∧ W.cell? ⟨w.heap.size, 3, none⟩ = some (.int .i64 v) ∧ W.cell? ⟨wr.heap.size, 0, none⟩ = some (.int .i64 yp) ∧ W.cell? ⟨wr.heap.size, 1, none⟩ = some (.int .i64 ya) ∧ W.cell? ⟨wr.heap.size, 2, none⟩ = some (.int .i64 yb) ∧ W.cell? ⟨wr.heap.size, 3, none⟩ = some (.int .i64 yv)) ⟨by simp; omega, by simp, hbr.alloc (by omega) _, own_lasts HOW.out (below_alloc _ _), by simp [go_sem], by rw [cell_lasts (below_alloc _ _) (by omega)]; exact k2r, by rw [cell_lasts (below_alloc _ _) sxr]; exact c0, by rw [cell_lasts (below_alloc _ _) sxr]; exact c1, by rw [cell_lasts (below_alloc _ _) sxr]; exact c2, by rw [cell_lasts (below_alloc _ _) sxr]; exact c3, by simp [go_sem], by simp [go_sem], by simp [go_sem], by simp [go_sem]⟩ ?_
            rintro W0 ⟨sx0, sy0, hx0, ho0, yf0, k20, x00, x10, x20, x30, y00, y10, y20, y30⟩
            have HO0 : Hid (W0.ownsRow (w.heap.size + 1) 44 4 vv O.length (cellsF O)) := ho0
            clear ho0 HOW t0 t1 t2 t3 c0 c1 c2 c3 k2r
            go_wp2_with fail
            have Lx0 : ∀ q : Low W0.heap.size W0, q.wd.cell? ⟨w.heap.size, 0, none⟩ = some (.int .i64 (pk : Int)) := fun q => (cell_lasts q.low sx0).trans x00
            have Lx1 : ∀ q : Low W0.heap.size W0, q.wd.cell? ⟨w.heap.size, 1, none⟩ = some (.int .i64 a) := fun q => (cell_lasts q.low sx0).trans x10
            have Lx2 : ∀ q : Low W0.heap.size W0, q.wd.cell? ⟨w.heap.size, 2, none⟩ = some (.int .i64 b) := fun q => (cell_lasts q.low sx0).trans x20
            have Lx3 : ∀ q : Low W0.heap.size W0, q.wd.cell? ⟨w.heap.size, 3, none⟩ = some (.int .i64 v) := fun q => (cell_lasts q.low sx0).trans x30
            have Ly0 : ∀ q : Low W0.heap.size W0, q.wd.cell? ⟨wr.heap.size, 0, none⟩ = some (.int .i64 yp) := fun q => (cell_lasts q.low sy0).trans y00
            have Ly1 : ∀ q : Low W0.heap.size W0, q.wd.cell? ⟨wr.heap.size, 1, none⟩ = some (.int .i64 ya) := fun q => (cell_lasts q.low sy0).trans y10
            have Ly2 : ∀ q : Low W0.heap.size W0, q.wd.cell? ⟨wr.heap.size, 2, none⟩ = some (.int .i64 yb) := fun q => (cell_lasts q.low sy0).trans y20
            have Ly3 : ∀ q : Low W0.heap.size W0, q.wd.cell? ⟨wr.heap.size, 3, none⟩ = some (.int .i64 yv) := fun q => (cell_lasts q.low sy0).trans y30
            refine wp_region_low W0.heap.size (by kernel_rfl) (by kernel_rfl) ?_
            repeat (go_big_quiet_step ((go_at_call 79; exact low_of (place_c _ _ _ _ _ (by first | exact HX.out | exact HSY.out)))))
            refine wpQuiet_nil ?_
            rintro w2 ⟨⟨w2', hq0⟩, hw0⟩
            obtain rfl : w2 = w2' := hw0
            clear Lx0 Lx1 Lx2 Lx3 Ly0 Ly1 Ly2 Ly3
            have x02 := (cell_lasts hq0 sx0).trans x00
            have x12 := (cell_lasts hq0 sx0).trans x10
            have x22 := (cell_lasts hq0 sx0).trans x20
            have x32 := (cell_lasts hq0 sx0).trans x30
            have y02 := (cell_lasts hq0 sy0).trans y00
            have y12 := (cell_lasts hq0 sy0).trans y10
            have y22 := (cell_lasts hq0 sy0).trans y20
            have y32 := (cell_lasts hq0 sy0).trans y30
            have sx2 : w.heap.size < w2.heap.size := Nat.lt_of_lt_of_le sx0 hq0.size
            have sy2 : wr.heap.size < w2.heap.size := Nat.lt_of_lt_of_le sy0 hq0.size
            have HO2 : Hid (w2.ownsRow (w.heap.size + 1) 44 4 vv O.length (cellsF O)) := own_lasts HO0.out hq0
            have hx2 : Below (w.heap.size + 1) (w.alloc (.cells #[.int .i64 (pk : Int), .int .i64 a, .int .i64 b, .int .i64 v] 44)) w2 := hx0.trans (hq0.mono (by have := sx0; omega))
            clear x00 x10 x20 x30 y00 y10 y20 y30 HO0
            go_wp2_with fail
            have Lx0 : ∀ q : Low w2.heap.size w2, q.wd.cell? ⟨w.heap.size, 0, none⟩ = some (.int .i64 (pk : Int)) := fun q => (cell_lasts q.low sx2).trans x02
            have Lx1 : ∀ q : Low w2.heap.size w2, q.wd.cell? ⟨w.heap.size, 1, none⟩ = some (.int .i64 a) := fun q => (cell_lasts q.low sx2).trans x12
            have Lx2 : ∀ q : Low w2.heap.size w2, q.wd.cell? ⟨w.heap.size, 2, none⟩ = some (.int .i64 b) := fun q => (cell_lasts q.low sx2).trans x22
            have Lx3 : ∀ q : Low w2.heap.size w2, q.wd.cell? ⟨w.heap.size, 3, none⟩ = some (.int .i64 v) := fun q => (cell_lasts q.low sx2).trans x32
            have Ly0 : ∀ q : Low w2.heap.size w2, q.wd.cell? ⟨wr.heap.size, 0, none⟩ = some (.int .i64 yp) := fun q => (cell_lasts q.low sy2).trans y02
            have Ly1 : ∀ q : Low w2.heap.size w2, q.wd.cell? ⟨wr.heap.size, 1, none⟩ = some (.int .i64 ya) := fun q => (cell_lasts q.low sy2).trans y12
            have Ly2 : ∀ q : Low w2.heap.size w2, q.wd.cell? ⟨wr.heap.size, 2, none⟩ = some (.int .i64 yb) := fun q => (cell_lasts q.low sy2).trans y22
            have Ly3 : ∀ q : Low w2.heap.size w2, q.wd.cell? ⟨wr.heap.size, 3, none⟩ = some (.int .i64 yv) := fun q => (cell_lasts q.low sy2).trans y32
            refine wp_region_low w2.heap.size (by kernel_rfl) (by kernel_rfl) ?_
            repeat (go_big_quiet_step ((go_at_call 79; exact low_of (place_c _ _ _ _ _ (by first | exact HX.out | exact HSY.out)))))
            refine wpQuiet_nil ?_
            rintro w3 ⟨⟨w3', hq2⟩, hw2⟩
            obtain rfl : w3 = w3' := hw2
            clear Lx0 Lx1 Lx2 Lx3 Ly0 Ly1 Ly2 Ly3
            have x03 := (cell_lasts hq2 sx2).trans x02
            have x13 := (cell_lasts hq2 sx2).trans x12
            have x23 := (cell_lasts hq2 sx2).trans x22
            have x33 := (cell_lasts hq2 sx2).trans x32
            have y03 := (cell_lasts hq2 sy2).trans y02
            have y13 := (cell_lasts hq2 sy2).trans y12
            have y23 := (cell_lasts hq2 sy2).trans y22
            have y33 := (cell_lasts hq2 sy2).trans y32
            have sx3 : w.heap.size < w3.heap.size := Nat.lt_of_lt_of_le sx2 hq2.size
            have sy3 : wr.heap.size < w3.heap.size := Nat.lt_of_lt_of_le sy2 hq2.size
            have HO3 : Hid (w3.ownsRow (w.heap.size + 1) 44 4 vv O.length (cellsF O)) := own_lasts HO2.out hq2
            have hx3 : Below (w.heap.size + 1) (w.alloc (.cells #[.int .i64 (pk : Int), .int .i64 a, .int .i64 b, .int .i64 v] 44)) w3 := hx2.trans (hq2.mono (by have := sx2; omega))
            clear x02 x12 x22 x32 y02 y12 y22 y32 HO2
            go_wp2_with (first | (have _t := tok1; at_builtin; refine wpList_append_piece _ rfl _ _ rfl (w.heap.size + 1) vv (O) [⟨(pk : Int), a, b, v⟩] (own_lasts HO3.out (below_alloc _ _)) rfl _ rfl (piece_one (heap_alloc_new _ _)) (by simp; omega) (by have := sx3; simp; omega) ?_; intro v4 w4 hown4 hgr4; have hx4 : Below (w.heap.size + 1) (w.alloc (.cells #[.int .i64 (pk : Int), .int .i64 a, .int .i64 b, .int .i64 v] 44)) w4 := grown_below (hx3.alloc (by have := sx3; omega) _) (own_lasts HO3.out (below_alloc _ _)) hgr4 (by have := sx3; simp; omega); clear tok1; have HO4 : Hid (w4.ownsRow (w.heap.size + 1) 44 4 v4 (O ++ [(⟨(pk : Int), a, b, v⟩ : Fct)]).length (cellsF (O ++ [(⟨(pk : Int), a, b, v⟩ : Fct)]))) := hown4; have sx4 : w.heap.size < w4.heap.size := Nat.lt_of_lt_of_le (by have := sx3; simp; omega) hgr4.size; have y04 := hgr4.cell ((cell_lasts (below_alloc _ _) sy3).trans y03) (fun e => hneb e.symm); have y14 := hgr4.cell ((cell_lasts (below_alloc _ _) sy3).trans y13) (fun e => hneb e.symm); have y24 := hgr4.cell ((cell_lasts (below_alloc _ _) sy3).trans y23) (fun e => hneb e.symm); have y34 := hgr4.cell ((cell_lasts (below_alloc _ _) sy3).trans y33) (fun e => hneb e.symm)) | (have _t := tok2; at_builtin; refine wpList_append_piece _ rfl _ _ rfl (w.heap.size + 1) v4 (O ++ [(⟨(pk : Int), a, b, v⟩ : Fct)]) [⟨yp, ya, yb, yv⟩] (own_lasts HO4.out (below_alloc _ _)) rfl _ rfl (piece_one (heap_alloc_new _ _)) (by simp; omega) (by have := sx4; simp; omega) ?_; intro v5 w5 hown5 hgr5; have hx5 : Below (w.heap.size + 1) (w.alloc (.cells #[.int .i64 (pk : Int), .int .i64 a, .int .i64 b, .int .i64 v] 44)) w5 := grown_below (hx4.alloc (by have := sx4; omega) _) (own_lasts HO4.out (below_alloc _ _)) hgr5 (by have := sx4; simp; omega); clear tok2))
            go_roundw
            case rel => exact ⟨k + 1, _, rfl, by omega, by go_num, by rw [HT.out.1], by rw [HT.out.2.2], by rw [HT.out.2.1]; exact hown5, hx5⟩
            case measure => simp [intOf]; omega
      · have HT0 := HA.out hh
        have hpe : (place ⟨yp, ya, yb, yv⟩ == place ⟨(pk : Int), a, b, v⟩) = false := by simpa using HT0.1
        have HT : Hid _ := HT0.2
        clear HA HB HC HD HT0 hh
        go_wp2_with fail
        refine wp_called (fun W => w.heap.size < W.heap.size ∧ wr.heap.size < W.heap.size ∧ Below (w.heap.size + 1) (w.alloc (.cells #[.int .i64 (pk : Int), .int .i64 a, .int .i64 b, .int .i64 v] 44)) W ∧ W.ownsRow (w.heap.size + 1) 44 4 vv O.length (cellsF O) ∧ W.frozen? ⟨wr.heap.size, 3, none⟩ = false ∧ W.cell? ⟨pb, po + pk * 3 + 2, none⟩ = some (.int .i64 qk) ∧ W.cell? ⟨w.heap.size, 0, none⟩ = some (.int .i64 (pk : Int)) ∧ W.cell? ⟨w.heap.size, 1, none⟩ = some (.int .i64 a) ∧ W.cell? ⟨w.heap.size, 2, none⟩ = some (.int .i64 b) ∧ W.cell? ⟨w.heap.size, 3, none⟩ = some (.int .i64 v) ∧ W.cell? ⟨wr.heap.size, 0, none⟩ = some (.int .i64 yp) ∧ W.cell? ⟨wr.heap.size, 1, none⟩ = some (.int .i64 ya) ∧ W.cell? ⟨wr.heap.size, 2, none⟩ = some (.int .i64 yb) ∧ W.cell? ⟨wr.heap.size, 3, none⟩ = some (.int .i64 yv)) ⟨by simp; omega, by simp, hbr.alloc (by omega) _, own_lasts HOW.out (below_alloc _ _), by simp [go_sem], by rw [cell_lasts (below_alloc _ _) (by omega)]; exact k2r, by rw [cell_lasts (below_alloc _ _) sxr]; exact c0, by rw [cell_lasts (below_alloc _ _) sxr]; exact c1, by rw [cell_lasts (below_alloc _ _) sxr]; exact c2, by rw [cell_lasts (below_alloc _ _) sxr]; exact c3, by simp [go_sem], by simp [go_sem], by simp [go_sem], by simp [go_sem]⟩ ?_
        rintro W0 ⟨sx0, sy0, hx0, ho0, yf0, k20, x00, x10, x20, x30, y00, y10, y20, y30⟩
        have HO0 : Hid (W0.ownsRow (w.heap.size + 1) 44 4 vv O.length (cellsF O)) := ho0
        clear ho0 HOW t0 t1 t2 t3 c0 c1 c2 c3 k2r
        go_wp2_with fail
        have Lx0 : ∀ q : Low W0.heap.size W0, q.wd.cell? ⟨w.heap.size, 0, none⟩ = some (.int .i64 (pk : Int)) := fun q => (cell_lasts q.low sx0).trans x00
        have Lx1 : ∀ q : Low W0.heap.size W0, q.wd.cell? ⟨w.heap.size, 1, none⟩ = some (.int .i64 a) := fun q => (cell_lasts q.low sx0).trans x10
        have Lx2 : ∀ q : Low W0.heap.size W0, q.wd.cell? ⟨w.heap.size, 2, none⟩ = some (.int .i64 b) := fun q => (cell_lasts q.low sx0).trans x20
        have Lx3 : ∀ q : Low W0.heap.size W0, q.wd.cell? ⟨w.heap.size, 3, none⟩ = some (.int .i64 v) := fun q => (cell_lasts q.low sx0).trans x30
        have Ly0 : ∀ q : Low W0.heap.size W0, q.wd.cell? ⟨wr.heap.size, 0, none⟩ = some (.int .i64 yp) := fun q => (cell_lasts q.low sy0).trans y00
        have Ly1 : ∀ q : Low W0.heap.size W0, q.wd.cell? ⟨wr.heap.size, 1, none⟩ = some (.int .i64 ya) := fun q => (cell_lasts q.low sy0).trans y10
        have Ly2 : ∀ q : Low W0.heap.size W0, q.wd.cell? ⟨wr.heap.size, 2, none⟩ = some (.int .i64 yb) := fun q => (cell_lasts q.low sy0).trans y20
        have Ly3 : ∀ q : Low W0.heap.size W0, q.wd.cell? ⟨wr.heap.size, 3, none⟩ = some (.int .i64 yv) := fun q => (cell_lasts q.low sy0).trans y30
        refine wp_region_low W0.heap.size (by kernel_rfl) (by kernel_rfl) ?_
        repeat (go_big_quiet_step ((go_at_call 79; exact low_of (place_c _ _ _ _ _ (by first | exact HX.out | exact HSY.out)))))
        refine wpQuiet_nil ?_
        rintro w2 ⟨⟨w2', hq0⟩, hw0⟩
        obtain rfl : w2 = w2' := hw0
        clear Lx0 Lx1 Lx2 Lx3 Ly0 Ly1 Ly2 Ly3
        have x02 := (cell_lasts hq0 sx0).trans x00
        have x12 := (cell_lasts hq0 sx0).trans x10
        have x22 := (cell_lasts hq0 sx0).trans x20
        have x32 := (cell_lasts hq0 sx0).trans x30
        have y02 := (cell_lasts hq0 sy0).trans y00
        have y12 := (cell_lasts hq0 sy0).trans y10
        have y22 := (cell_lasts hq0 sy0).trans y20
        have y32 := (cell_lasts hq0 sy0).trans y30
        have sx2 : w.heap.size < w2.heap.size := Nat.lt_of_lt_of_le sx0 hq0.size
        have sy2 : wr.heap.size < w2.heap.size := Nat.lt_of_lt_of_le sy0 hq0.size
        have HO2 : Hid (w2.ownsRow (w.heap.size + 1) 44 4 vv O.length (cellsF O)) := own_lasts HO0.out hq0
        have hx2 : Below (w.heap.size + 1) (w.alloc (.cells #[.int .i64 (pk : Int), .int .i64 a, .int .i64 b, .int .i64 v] 44)) w2 := hx0.trans (hq0.mono (by have := sx0; omega))
        clear x00 x10 x20 x30 y00 y10 y20 y30 HO0
        go_wp2_with fail
        have Lx0 : ∀ q : Low w2.heap.size w2, q.wd.cell? ⟨w.heap.size, 0, none⟩ = some (.int .i64 (pk : Int)) := fun q => (cell_lasts q.low sx2).trans x02
        have Lx1 : ∀ q : Low w2.heap.size w2, q.wd.cell? ⟨w.heap.size, 1, none⟩ = some (.int .i64 a) := fun q => (cell_lasts q.low sx2).trans x12
        have Lx2 : ∀ q : Low w2.heap.size w2, q.wd.cell? ⟨w.heap.size, 2, none⟩ = some (.int .i64 b) := fun q => (cell_lasts q.low sx2).trans x22
        have Lx3 : ∀ q : Low w2.heap.size w2, q.wd.cell? ⟨w.heap.size, 3, none⟩ = some (.int .i64 v) := fun q => (cell_lasts q.low sx2).trans x32
        have Ly0 : ∀ q : Low w2.heap.size w2, q.wd.cell? ⟨wr.heap.size, 0, none⟩ = some (.int .i64 yp) := fun q => (cell_lasts q.low sy2).trans y02
        have Ly1 : ∀ q : Low w2.heap.size w2, q.wd.cell? ⟨wr.heap.size, 1, none⟩ = some (.int .i64 ya) := fun q => (cell_lasts q.low sy2).trans y12
        have Ly2 : ∀ q : Low w2.heap.size w2, q.wd.cell? ⟨wr.heap.size, 2, none⟩ = some (.int .i64 yb) := fun q => (cell_lasts q.low sy2).trans y22
        have Ly3 : ∀ q : Low w2.heap.size w2, q.wd.cell? ⟨wr.heap.size, 3, none⟩ = some (.int .i64 yv) := fun q => (cell_lasts q.low sy2).trans y32
        refine wp_region_low w2.heap.size (by kernel_rfl) (by kernel_rfl) ?_
        repeat (go_big_quiet_step ((go_at_call 79; exact low_of (place_c _ _ _ _ _ (by first | exact HX.out | exact HSY.out)))))
        refine wpQuiet_nil ?_
        rintro w3 ⟨⟨w3', hq2⟩, hw2⟩
        obtain rfl : w3 = w3' := hw2
        clear Lx0 Lx1 Lx2 Lx3 Ly0 Ly1 Ly2 Ly3
        have y03 := (cell_lasts hq2 sy2).trans y02
        have y13 := (cell_lasts hq2 sy2).trans y12
        have y23 := (cell_lasts hq2 sy2).trans y22
        have y33 := (cell_lasts hq2 sy2).trans y32
        have sx3 : w.heap.size < w3.heap.size := Nat.lt_of_lt_of_le sx2 hq2.size
        have sy3 : wr.heap.size < w3.heap.size := Nat.lt_of_lt_of_le sy2 hq2.size
        have HO3 : Hid (w3.ownsRow (w.heap.size + 1) 44 4 vv O.length (cellsF O)) := own_lasts HO2.out hq2
        have hx3 : Below (w.heap.size + 1) (w.alloc (.cells #[.int .i64 (pk : Int), .int .i64 a, .int .i64 b, .int .i64 v] 44)) w3 := hx2.trans (hq2.mono (by have := sx2; omega))
        clear y02 y12 y22 y32 HO2
        go_wp2_with (at_builtin; refine wpList_append_piece _ rfl _ _ rfl (w.heap.size + 1) vv (O) [⟨yp, ya, yb, yv⟩] (own_lasts HO3.out (below_alloc _ _)) rfl _ rfl (piece_one (heap_alloc_new _ _)) (by simp; omega) (by have := sx3; simp; omega) ?_; intro v5 w5 hown5 hgr5; have hx5 : Below (w.heap.size + 1) (w.alloc (.cells #[.int .i64 (pk : Int), .int .i64 a, .int .i64 b, .int .i64 v] 44)) w5 := grown_below (hx3.alloc (by have := sx3; omega) _) (own_lasts HO3.out (below_alloc _ _)) hgr5 (by have := sx3; simp; omega))
        go_roundw
        case rel => exact ⟨k + 1, _, rfl, by omega, by go_num, by rw [HT.out.1], by rw [HT.out.2.2], by rw [HT.out.2.1]; exact hown5, hx5⟩
        case measure => simp [intOf]; omega
    · have HFE : Hid (f.take k = f) := List.take_of_length_le (by omega)
      rw [HFE.out] at hown
      have hOl : (outTo (kindOf ps) ⟨(pk : Int), a, b, v⟩ f).length ≤ 126 := Nat.le_trans (out_length _ _ _) (by omega)
      rw [HFE.out]
      cases hh : hit ⟨(pk : Int), a, b, v⟩ f
      · obtain ⟨e1, e2⟩ := endMiss (K := kindOf ps) hh
        have HE1 : Hid (addF (kindOf ps) ⟨(pk : Int), a, b, v⟩ f = outTo (kindOf ps) ⟨(pk : Int), a, b, v⟩ f ++ [⟨(pk : Int), a, b, v⟩]) := e1
        have HE2 : Hid (addC (kindOf ps) ⟨(pk : Int), a, b, v⟩ f = true) := e2
        have HO3 : Hid (wr.ownsRow (w.heap.size + 1) 44 4 vv (outTo (kindOf ps) ⟨(pk : Int), a, b, v⟩ f).length (cellsF (outTo (kindOf ps) ⟨(pk : Int), a, b, v⟩ f))) := hown
        have sx3 := sxr
        have hx3 := hbr
        clear e1 e2 hown HF HS HSO hh
        generalize outTo (kindOf ps) ⟨(pk : Int), a, b, v⟩ f = O at *
        go_wp2_with (at_builtin; refine wpList_append_piece _ rfl _ _ rfl (w.heap.size + 1) vv (O) [⟨(pk : Int), a, b, v⟩] (own_lasts HO3.out (below_alloc _ _)) rfl _ rfl (piece_one (heap_alloc_new _ _)) (by simp; omega) (by have := sx3; simp; omega) ?_; intro v5 w5 hown5 hgr5; have hx5 : Below (w.heap.size + 1) (w.alloc (.cells #[.int .i64 (pk : Int), .int .i64 a, .int .i64 b, .int .i64 v] 44)) w5 := grown_below (hx3.alloc (by have := sx3; omega) _) (own_lasts HO3.out (below_alloc _ _)) hgr5 (by have := sx3; simp; omega))
        go_ret2
        have hl : (O ++ [(⟨(pk : Int), a, b, v⟩ : Fct)]).length ≤ 140737488355328 := by simp; omega
        exact ⟨v5, by rw [HE2.out]; rfl, by rw [HE1.out]; exact factsAt_of hown5 hl, new_own hown5 (by omega), (below_alloc _ _).trans (hx5.mono (by simp))⟩
      · obtain ⟨e1, e2⟩ := endHit (K := kindOf ps) hh
        have HOW : Hid (wr.ownsRow (w.heap.size + 1) 44 4 vv (outTo (kindOf ps) ⟨(pk : Int), a, b, v⟩ f).length (cellsF (outTo (kindOf ps) ⟨(pk : Int), a, b, v⟩ f))) := hown
        have HE1 : Hid (addF (kindOf ps) ⟨(pk : Int), a, b, v⟩ f = outTo (kindOf ps) ⟨(pk : Int), a, b, v⟩ f) := e1.symm
        have HE2 : Hid (addC (kindOf ps) ⟨(pk : Int), a, b, v⟩ f = chgTo (kindOf ps) ⟨(pk : Int), a, b, v⟩ f) := e2.symm
        clear e1 e2 hown HF HS HSO hh
        generalize outTo (kindOf ps) ⟨(pk : Int), a, b, v⟩ f = O at *
        generalize chgTo (kindOf ps) ⟨(pk : Int), a, b, v⟩ f = C at *
        go_wp2_with fail
        go_ret2
        exact ⟨vv, by rw [HE2.out]; rfl, by rw [HE1.out]; exact factsAt_of HOW.out (by omega), new_own HOW.out (by omega), hbw⟩

theorem add_c (w : World) (pv fv : Value) (ps : List Prd) (f : List Fct) (p a b v : Int) (hp : predsAt w pv ps) (hf : factsAt w fv f) (ef : factsErr ps f = 0) (ex : factFine ps ⟨p, a, b, v⟩ = true) :
    Calls Tryz.prog 52 #[pv, fv, .agg #[.int .i64 p, .int .i64 a, .int .i64 b, .int .i64 v]] w fun e w' => ∃ u, e = .returned (.tuple #[u, .bool (addC (kindOf ps) ⟨p, a, b, v⟩ f)]) ∧ factsAt w' u (addF (kindOf ps) ⟨p, a, b, v⟩ f) ∧ capOk u ∧ Below w.heap.size w w' :=
  (add_n w pv fv ps f p a b v hp hf ef ex).mono fun _ _ ⟨u, h1, h2, h3, h4⟩ => ⟨u, h1, h2, h3.1, h4⟩

set_option maxRecDepth 100000 in
set_option maxHeartbeats 4000000 in
theorem addOf_c (w : World) (pv fv : Value) (ps : List Prd) (f : List Fct) (p a b v : Int) (hp : predsAt w pv ps) (hf : factsAt w fv f) :
    Calls Tryz.prog 20 #[pv, fv, .agg #[.int .i64 p, .int .i64 a, .int .i64 b, .int .i64 v]] w fun e w' => ∃ u, e = .returned (.tuple #[u, .bool (addOf ps f ⟨p, a, b, v⟩).2.1, .int .i64 (addOf ps f ⟨p, a, b, v⟩).2.2]) ∧ factsAt w' u (addOf ps f ⟨p, a, b, v⟩).1 ∧ capOk u ∧ Below w.heap.size w w' := by
  have HP : Hid (∀ (w1 : World), Below w.heap.size w w1 → predsAt w1 pv ps) := fun w1 hb1 => predsAt.lasts hb1 hp
  have HF : Hid (∀ (w1 : World), Below w.heap.size w w1 → factsAt w1 fv f) := fun w1 hb1 => factsAt.lasts hb1 hf
  clear hp hf
  by_cases h0 : factsErr ps f = 0
  · have H0 : Hid (factsErr ps f = 0) := h0
    cases hff : factFine ps ⟨p, a, b, v⟩
    · have e : addOf ps f ⟨p, a, b, v⟩ = ([], false, 1) := by simp [addOf, withErr, h0, hff]
      rw [e]
      clear e
      go_enter Tryz.func20, Tryz.ntmps20
      go_wp2_with (first
        | (go_at_call 38; refine (checkFacts_c _ _ _ ps f (HP.out _ (below_alloc _ _)) (HF.out _ (below_alloc _ _))).mono ?_; rintro e w1 ⟨rfl, hb1⟩; obtain ⟨c0, c1, c2, c3⟩ := four_last hb1; have HB : Hid (Below w.heap.size w w1) := (below_alloc _ _).trans (hb1.mono (by simp)); clear hb1)
        | (go_at_call 53; refine (factFine_c _ _ ps _ _ _ _ (HP.out _ HB.out)).mono ?_; rintro e w2 ⟨rfl, hb2⟩))
      go_ret3
      exact ⟨_, rfl, facts_nil _, cap_nil, HB.out.trans (hb2.mono HB.out.size)⟩
    · have e : addOf ps f ⟨p, a, b, v⟩ = (addF (kindOf ps) ⟨p, a, b, v⟩ f, addC (kindOf ps) ⟨p, a, b, v⟩ f, 0) := by simp [addOf, withErr, h0, hff]
      rw [e]
      clear e
      have HX : Hid (factFine ps ⟨p, a, b, v⟩ = true) := hff
      go_enter Tryz.func20, Tryz.ntmps20
      go_wp2_with (first
        | (go_at_call 38; refine (checkFacts_c _ _ _ ps f (HP.out _ (below_alloc _ _)) (HF.out _ (below_alloc _ _))).mono ?_; rintro e w1 ⟨rfl, hb1⟩; obtain ⟨c0, c1, c2, c3⟩ := four_last hb1; have HB : Hid (Below w.heap.size w w1) := (below_alloc _ _).trans (hb1.mono (by simp)); have hs1 : w.heap.size < w1.heap.size := Nat.lt_of_lt_of_le (by simp) hb1.size; clear hb1)
        | (go_at_call 53; refine (factFine_c _ _ ps _ _ _ _ (HP.out _ HB.out)).mono ?_; rintro e w2 ⟨rfl, hb2⟩; replace c0 := (cell_lasts hb2 hs1).trans c0; replace c1 := (cell_lasts hb2 hs1).trans c1; replace c2 := (cell_lasts hb2 hs1).trans c2; replace c3 := (cell_lasts hb2 hs1).trans c3; have HB2 : Hid (Below w.heap.size w w2) := HB.out.trans (hb2.mono HB.out.size); clear hb2)
        | (go_at_call 52; refine (add_c _ _ _ ps f _ _ _ _ (HP.out _ HB2.out) (HF.out _ HB2.out) H0.out HX.out).mono ?_; rintro e w3 ⟨u3, rfl, hf3, hc3, hb3⟩; have HF3 : Hid (factsAt w3 u3 (addF (kindOf ps) ⟨p, a, b, v⟩ f)) := hf3; have HC3 : Hid (capOk u3) := hc3; clear hf3 hc3))
      go_ret3
      exact ⟨_, rfl, HF3.out, HC3.out, HB2.out.trans (hb3.mono HB2.out.size)⟩
  · have e : addOf ps f ⟨p, a, b, v⟩ = ([], false, factsErr ps f) := by simp [addOf, withErr, h0]
    rw [e]
    clear e
    have h0' : (factsErr ps f == 0) = false := by simpa using h0
    go_enter Tryz.func20, Tryz.ntmps20
    go_wp2_with (go_at_call 38; refine (checkFacts_c _ _ _ ps f (HP.out _ (below_alloc _ _)) (HF.out _ (below_alloc _ _))).mono ?_; rintro e w1 ⟨rfl, hb1⟩; have HB : Hid (Below w.heap.size w w1) := (below_alloc _ _).trans (hb1.mono (by simp)); clear hb1)
    go_ret3
    exact ⟨_, rfl, facts_nil _, cap_nil, HB.out⟩
end Go.Proofs.YtlfccloaoopadagGreat.Base

/-
  Lists of steps: all at which a rule's body holds, and how such a list grows in memory.
-/
namespace Go.Proofs.YtlfccloaoopadagGreat.Fire
open Go.ChangeShapes Go.WideShapes Go.ChangeAt Go.RowKit
open Base (cellsF cellsF_length cellsF_append cellsF_one piece piece_one factsAt_of wpList_append_none own_lasts)
open Rule (Vars asked)

def toF (s : Stp) : Fct := ⟨s.rule, s.x, s.y, s.z⟩
theorem steps_of_facts {w : World} {v : Value} {l : List Stp} (h : factsAt w v (l.map toF)) : stepsAt w v l := by
  obtain ⟨a, cap, rfl, hm, hx⟩ := h
  refine ⟨a, cap, by rw [List.length_map], by rwa [List.length_map] at hm, ?_⟩
  rcases hx with hx | ⟨b, off, rfl, hb, hx⟩
  · exact .inl (by simpa using hx)
  · exact .inr ⟨b, off, rfl, hb, fun i x hi => hx i (toF x) (by rw [List.getElem?_map, hi]; rfl)⟩
def cellsS (l : List Stp) : List Value := cellsF (l.map toF)
theorem stepsAt_of {w : World} {base : Nat} {e : TypeId} {v : Value} {l : List Stp} (h : w.ownsRow base e 4 v l.length (cellsS l)) (hl : l.length ≤ 140737488355328) : stepsAt w v l :=
  steps_of_facts (factsAt_of (base := base) (e := e) (by rw [List.length_map]; exact h) (by rw [List.length_map]; exact hl))
theorem infoStep : (Tryz.prog.info? 99).map (fun i => (i.zero, i.size, i.bytes)) = some (some (.agg #[.int .i64 0, .int .i64 0, .int .i64 0, .int .i64 0]), 4, 32) := by kernel_rfl

theorem wpList_append_step (w : World) {ops : Array Oper} {rest : List Oper} {o : Oper} {a : Act} {Q : Exit → Act → World → Prop} (hgd : o.guard = none) (s x : Operand)
    (ho : o.op = .call { callee := .builtin .append, args := #[s, x], argTypes := #[93, 93] }) (base : Nat) (v : Value) (xs : List Stp) (t : Stp) (hown : w.ownsRow base 99 4 v xs.length (cellsS xs)) (hs : a.eval s = v) (B : Nat) (hy : a.eval x = .slice (some ⟨B, 0, none⟩) 1 1) (u : TypeId) (hp : w.heap[B]? = some (.cells #[.int .i64 t.rule, .int .i64 t.x, .int .i64 t.y, .int .i64 t.z] u))
    (hb : xs.length ≤ 500) (hbase : base ≤ w.heap.size)
    (h : ∀ v' w', w'.ownsRow base 99 4 v' (xs ++ [t]).length (cellsS (xs ++ [t])) → w.grownBy w' v.ownBlock → wpList Tryz.prog ops Q rest (a.put o.dst v') w') : wpList Tryz.prog ops Q (o :: rest) a w := by
  obtain ⟨i, hi, hz, hsz, hby⟩ := info_parts infoStep
  rcases piece_one hp with ⟨c, hc, _⟩ | ⟨ad, c, he, hc⟩
  · simp at hc
  · obtain ⟨rfl, rfl⟩ : (⟨B, 0, none⟩ : Addr) = ad ∧ 1 = c := by simpa using he
    refine wpList_append_own_wide w hgd s x 93 ho base 99 i _ 4 32 Tryz.underlying93 hi hz hsz hby rfl (by omega) v xs.length (cellsS xs) hs hown ⟨B, 0, none⟩ 1 1 (cellsF [⟨t.rule, t.x, t.y, t.z⟩]) hy (cellsF_length _) hc (cellsF_one _) (by unfold maxLen; omega) (by omega) hbase ?_
    intro v' w' h1 h2 _
    refine h v' w' ?_ h2
    rw [List.length_append, cellsS, List.map_append, cellsF_append]
    exact h1

/-- does the body hold, and does each variable that does not stand in the rule stand for 0? -/
def okAt (f : List Fct) (r : Rul) (a b c : Nat) : Bool := (decide (a = 0) || asked r 0) && (decide (b = 0) || asked r 1) && (decide (c = 0) || asked r 2) && bodyOk f ⟨a, b, c⟩ r.body
def stepsC (f : List Fct) (r : Rul) (n : Int) (a b k : Nat) : List Stp := ((List.range k).filter (okAt f r a b)).map fun c => ⟨n, a, b, (c : Nat)⟩
def stepsB (f : List Fct) (r : Rul) (n : Int) (a k : Nat) : List Stp := (List.range k).flatMap fun b => stepsC f r n a b 5
def stepsA (f : List Fct) (r : Rul) (n : Int) (k : Nat) : List Stp := (List.range k).flatMap fun a => stepsB f r n a 5
/-- all steps of a rule, in their order -/
def allL (f : List Fct) (r : Rul) (n : Int) : List Stp := stepsA f r n 5
theorem stepsC_succ (f : List Fct) (r : Rul) (n : Int) (a b k : Nat) : stepsC f r n a b (k + 1) = stepsC f r n a b k ++ if okAt f r a b k then [⟨n, a, b, k⟩] else [] := by
  unfold stepsC
  rw [List.range_succ, List.filter_append, List.map_append]
  congr 1
  rw [List.filter_cons]
  split <;> rfl
theorem stepsB_succ (f : List Fct) (r : Rul) (n : Int) (a k : Nat) : stepsB f r n a (k + 1) = stepsB f r n a k ++ stepsC f r n a k 5 := by
  unfold stepsB
  rw [List.range_succ, List.flatMap_append, List.flatMap_singleton]
theorem stepsA_succ (f : List Fct) (r : Rul) (n : Int) (k : Nat) : stepsA f r n (k + 1) = stepsA f r n k ++ stepsB f r n k 5 := by
  unfold stepsA
  rw [List.range_succ, List.flatMap_append, List.flatMap_singleton]
theorem stepsC_len (f : List Fct) (r : Rul) (n : Int) (a b : Nat) : ∀ k, (stepsC f r n a b k).length ≤ k
  | 0 => by simp [stepsC]
  | k + 1 => by
    rw [stepsC_succ, List.length_append]
    have := stepsC_len f r n a b k
    split <;> simp <;> omega
theorem stepsB_len (f : List Fct) (r : Rul) (n : Int) (a : Nat) : ∀ k, (stepsB f r n a k).length ≤ 5 * k
  | 0 => by simp [stepsB]
  | k + 1 => by
    rw [stepsB_succ, List.length_append]
    have := stepsB_len f r n a k
    have := stepsC_len f r n a k 5
    omega
theorem stepsA_len (f : List Fct) (r : Rul) (n : Int) : ∀ k, (stepsA f r n k).length ≤ 25 * k
  | 0 => by simp [stepsA]
  | k + 1 => by
    rw [stepsA_succ, List.length_append]
    have := stepsA_len f r n k
    have := stepsB_len f r n k 5
    omega
end Go.Proofs.YtlfccloaoopadagGreat.Fire

/-
  A rule's steps stand in their order, and are just those at which it holds; so whatever list has just these, each once, is theirs when it is put in order.
-/
namespace Go.Proofs.YtlfccloaoopadagGreat.Fire
open Lat (within)
open Rule (Vars asked ruleErr)
open Base (factsErr)

def Stp.vars (s : Stp) : Vars := ⟨s.x, s.y, s.z⟩
def toStp (n : Int) (v : Vars) : Stp := ⟨n, v.x, v.y, v.z⟩
/-- the order of steps: by what their variables stand for -/
def ltS (s t : Stp) : Bool := decide (s.x < t.x) || (decide (s.x = t.x) && (decide (s.y < t.y) || (decide (s.y = t.y) && decide (s.z < t.z))))
theorem ltS_iff {s t : Stp} : ltS s t = true ↔ s.x < t.x ∨ s.x = t.x ∧ (s.y < t.y ∨ s.y = t.y ∧ s.z < t.z) := by unfold ltS; simp
theorem ltS_not {s t : Stp} : ltS s t = false ↔ ¬ (s.x < t.x ∨ s.x = t.x ∧ (s.y < t.y ∨ s.y = t.y ∧ s.z < t.z)) := by rw [← ltS_iff]; simp
theorem okAt_iff {f : List Fct} {r : Rul} {a b c : Nat} : okAt f r a b c = true ↔ bodyOk f ⟨a, b, c⟩ r.body = true ∧ ∀ m, (m = 0 ∨ m = 1 ∨ m = 2) → asked r m = false → (⟨a, b, c⟩ : Vars).at m = 0 := by
  unfold okAt
  simp only [Bool.and_eq_true, Bool.or_eq_true, decide_eq_true_eq]
  constructor
  · rintro ⟨⟨⟨h0, h1⟩, h2⟩, h3⟩
    refine ⟨h3, fun m hm ha => ?_⟩
    rcases hm with rfl | rfl | rfl
    · rcases h0 with h | h
      · subst h; rfl
      · rw [h] at ha; cases ha
    · rcases h1 with h | h
      · subst h; rfl
      · rw [h] at ha; cases ha
    · rcases h2 with h | h
      · subst h; rfl
      · rw [h] at ha; cases ha
  · rintro ⟨h, hz⟩
    refine ⟨⟨⟨?_, ?_⟩, ?_⟩, h⟩
    · cases e : asked r 0
      · have := hz 0 (.inl rfl) e
        simp [Vars.at] at this
        exact .inl this
      · exact .inr rfl
    · cases e : asked r 1
      · have := hz 1 (.inr (.inl rfl)) e
        simp [Vars.at] at this
        exact .inl this
      · exact .inr rfl
    · cases e : asked r 2
      · have := hz 2 (.inr (.inr rfl)) e
        simp [Vars.at] at this
        exact .inl this
      · exact .inr rfl
theorem mem_all {f : List Fct} {r : Rul} {n : Int} {s : Stp} : s ∈ allL f r n ↔ s.rule = n ∧ StepOk f r s.vars := by
  unfold allL stepsA stepsB stepsC
  simp only [List.mem_flatMap, List.mem_map, List.mem_filter, List.mem_range]
  constructor
  · rintro ⟨a, ha, b, hb, c, ⟨hc, hok⟩, rfl⟩
    obtain ⟨h1, h2⟩ := okAt_iff.1 hok
    refine ⟨rfl, ?_, h1, h2⟩
    unfold consts
    rw [Bool.and_eq_true, Bool.and_eq_true]
    exact ⟨within_iff.2 ⟨by show (0 : Int) ≤ (a : Int); omega, by show (a : Int) ≤ 4; omega⟩, within_iff.2 ⟨by show (0 : Int) ≤ (b : Int); omega, by show (b : Int) ≤ 4; omega⟩, within_iff.2 ⟨by show (0 : Int) ≤ (c : Int); omega, by show (c : Int) ≤ 4; omega⟩⟩
  · obtain ⟨k, x, y, z⟩ := s
    rintro ⟨rfl, hc, hb, hz⟩
    unfold consts at hc
    rw [Bool.and_eq_true, Bool.and_eq_true, within_iff, within_iff, within_iff] at hc
    simp only [Stp.vars] at hc hb hz
    obtain ⟨a, rfl⟩ : ∃ a : Nat, x = (a : Int) := ⟨x.toNat, by omega⟩
    obtain ⟨b, rfl⟩ : ∃ b : Nat, y = (b : Int) := ⟨y.toNat, by omega⟩
    obtain ⟨c, rfl⟩ : ∃ c : Nat, z = (c : Int) := ⟨z.toNat, by omega⟩
    exact ⟨a, by omega, b, by omega, c, ⟨by omega, okAt_iff.2 ⟨hb, hz⟩⟩, rfl⟩
theorem range_lt (k : Nat) : (List.range k).Pairwise (· < ·) := List.pairwise_lt_range
theorem all_sorted (f : List Fct) (r : Rul) (n : Int) : (allL f r n).Pairwise fun s t => ltS s t = true := by
  unfold allL stepsA
  rw [List.pairwise_flatMap]
  refine ⟨fun a _ => ?_, ?_⟩
  · unfold stepsB
    rw [List.pairwise_flatMap]
    refine ⟨fun b _ => ?_, ?_⟩
    · unfold stepsC
      rw [List.pairwise_map]
      refine List.Pairwise.imp ?_ ((range_lt 5).filter _)
      intro c d hcd
      rw [ltS_iff]
      exact .inr ⟨rfl, .inr ⟨rfl, by show (c : Int) < (d : Int); omega⟩⟩
    · refine List.Pairwise.imp ?_ (range_lt 5)
      intro b c hbc s hs t ht
      unfold stepsC at hs ht
      rw [List.mem_map] at hs ht
      obtain ⟨_, _, rfl⟩ := hs
      obtain ⟨_, _, rfl⟩ := ht
      rw [ltS_iff]
      exact .inr ⟨rfl, .inl (by show (b : Int) < (c : Int); omega)⟩
  · refine List.Pairwise.imp ?_ (range_lt 5)
    intro a b hab s hs t ht
    unfold stepsB stepsC at hs ht
    simp only [List.mem_flatMap, List.mem_map] at hs ht
    obtain ⟨_, _, _, _, rfl⟩ := hs
    obtain ⟨_, _, _, _, rfl⟩ := ht
    rw [ltS_iff]
    exact .inl (by show (a : Int) < (b : Int); omega)
theorem ltS_irrefl (s : Stp) : ltS s s = false := by rw [ltS_not]; omega
theorem ltS_trans {s t u : Stp} (h : ltS s t = true) (k : ltS t u = true) : ltS s u = true := by rw [ltS_iff] at *; omega
/-- two lists in order that have the same are the same -/
theorem sorted_same : ∀ {l k : List Stp}, (l.Pairwise fun s t => ltS s t = true) → (k.Pairwise fun s t => ltS s t = true) → (∀ s, s ∈ l ↔ s ∈ k) → l = k
  | [], [], _, _, _ => rfl
  | [], t :: k, _, _, h => absurd ((h t).2 (by simp)) (by simp)
  | s :: l, [], _, _, h => absurd ((h s).1 (by simp)) (by simp)
  | s :: l, t :: k, hl, hk, h => by
    have hl' := List.pairwise_cons.1 hl
    have hk' := List.pairwise_cons.1 hk
    have e : s = t := by
      rcases List.mem_cons.1 ((h s).1 (by simp)) with e | hs
      · exact e
      · rcases List.mem_cons.1 ((h t).2 (by simp)) with e | ht
        · exact e.symm
        · have := ltS_trans (hl'.1 t ht) (hk'.1 s hs)
          rw [ltS_irrefl] at this
          cases this
    subst e
    congr 1
    refine sorted_same hl'.2 hk'.2 fun u => ?_
    constructor
    · intro hu
      rcases List.mem_cons.1 ((h u).1 (by simp [hu])) with e | hu'
      · subst e
        have := hl'.1 u hu
        rw [ltS_irrefl] at this
        cases this
      · exact hu'
    · intro hu
      rcases List.mem_cons.1 ((h u).2 (by simp [hu])) with e | hu'
      · subst e
        have := hk'.1 u hu
        rw [ltS_irrefl] at this
        cases this
      · exact hu'
/-- what is gathered, put in order, is the document's list -/
theorem lay_sorted {ps : List Prd} {f : List Fct} {r : Rul} {n : Int} {l : List Stp} (hr : ruleErr ps r = 0) (hf : factsErr ps f = 0) (hp : l.Perm ((layL f r.body r.body std0).map (toStp n))) (hs : l.Pairwise fun s t => ltS t s = false) : l = allL f r n := by
  have hnd : ((layL f r.body r.body std0).map (toStp n)).Nodup := by
    rw [List.Nodup, List.pairwise_map]
    refine List.Pairwise.imp ?_ (lay_nodup hf std0_zero (rule_parts hr).2.1)
    intro u v huv e
    apply huv
    cases u
    cases v
    simpa [toStp] using e
  have hnd' : l.Nodup := hp.nodup_iff.2 hnd
  have hrule : ∀ s ∈ l, s.rule = n := fun s hs => by
    obtain ⟨v, _, rfl⟩ := List.mem_map.1 (hp.mem_iff.1 hs)
    rfl
  refine sorted_same ?_ (all_sorted f r n) fun s => ?_
  · have := List.Pairwise.and hs hnd'
    refine List.Pairwise.imp_of_mem ?_ this
    rintro s t hs ht ⟨h1, h2⟩
    have e1 := hrule s hs
    have e2 := hrule t ht
    cases e : ltS s t
    · exfalso
      rw [ltS_not] at h1 e
      apply h2
      cases s
      cases t
      simp at *
      omega
    · rfl
  · rw [mem_all, hp.mem_iff, List.mem_map]
    constructor
    · rintro ⟨v, hv, rfl⟩
      exact ⟨rfl, (lay_ok hr hf v).1 hv⟩
    · rintro ⟨e, hok⟩
      exact ⟨s.vars, (lay_ok hr hf _).2 hok, by cases s; simp [toStp, Stp.vars] at *; exact e.symm⟩
theorem lay_len {ps : List Prd} {f : List Fct} {r : Rul} (hr : ruleErr ps r = 0) (hf : factsErr ps f = 0) : (layL f r.body r.body std0).length ≤ 125 := by
  have hnd : ((layL f r.body r.body std0).map (toStp 0)).Nodup := by
    rw [List.Nodup, List.pairwise_map]
    refine List.Pairwise.imp ?_ (lay_nodup hf std0_zero (rule_parts hr).2.1)
    intro u v huv e
    apply huv
    cases u
    cases v
    simpa [toStp] using e
  have hsub : (layL f r.body r.body std0).map (toStp 0) ⊆ allL f r 0 := fun s hs => by
    obtain ⟨v, hv, rfl⟩ := List.mem_map.1 hs
    exact mem_all.2 ⟨rfl, (lay_ok hr hf v).1 hv⟩
  have := hnd.length_le_of_subset hsub
  rw [List.length_map] at this
  have := stepsA_len f r 0 5
  unfold allL at *
  omega
end Go.Proofs.YtlfccloaoopadagGreat.Fire

/-
  Rounds in plain words: what rules tell of facts is right; facts with all that is told added, and whether that changes something.
-/
namespace Go.Proofs.YtlfccloaoopadagGreat.Round
open Lat (within lift err)
open Rule (Vars asked ruleErr atomErr kindOf factFine isPred arityOf)
open Base (place get findTo factsErr predsOk addF addC under underOne Right Fine)
open Fire (consts atomF bodyOk valTo valueAt headF holdsF StepOk allL Stp mem_all)

theorem value_parts {ps : List Prd} {r : Rul} (h : ruleErr ps r = 0) : (kindOf ps r.head.pred = 0 → r.src = -1 ∧ r.n = 0) ∧ 0 ≤ r.n ∧ r.n ≤ 15 := by
  rw [ruleErr] at h
  split at h
  · contradiction
  · split at h
    · contradiction
    · split at h
      · contradiction
      · split at h
        · contradiction
        · unfold Rule.valueErr at h
          split at h
          · contradiction
          · split at h
            · contradiction
            · rename_i h4
              split at h
              · contradiction
              · split at h
                · contradiction
                · refine ⟨fun hk => ?_, by omega, by omega⟩
                  constructor
                  · exact Classical.byContradiction fun e => h4 ⟨hk, .inl e⟩
                  · exact Classical.byContradiction fun e => h4 ⟨hk, .inr e⟩
/-- what a rule tells of right facts is right -/
theorem head_fine {ps : List Prd} {f : List Fct} {r : Rul} {v : Vars} (hr : ruleErr ps r = 0) (hf : factsErr ps f = 0) (hv : consts v = true) : factFine ps (headF ps f r v) = true := by
  have hp := (Base.factsErr_zero hf).2.1
  have hg := (Fire.atom_ground (Fire.rule_parts hr).1 hp hv).2
  obtain ⟨h1, h2, h3⟩ := value_parts hr
  have hpred : isPred ps r.head.pred = true := (Rule.atom_right (Fire.rule_parts hr).1).1
  have hk := Fire.within_iff.1 (Fire.pred_ok hp hpred).1
  have he : err (kindOf ps r.head.pred) (valTo ps f r v r.body.length) = 0 := by
    by_cases h0 : kindOf ps r.head.pred = 0
    · obtain ⟨e1, e2⟩ := h1 h0
      rw [valTo, if_neg (by omega), e2, h0]
      rfl
    · have hk' : kindOf ps r.head.pred = 1 ∨ kindOf ps r.head.pred = 2 ∨ kindOf ps r.head.pred = 3 := by omega
      have hn := Lat.err_of hk' h2 h3
      rw [valTo]
      split
      · rw [valueAt]
        have := Fire.find_range hf (place (atomF v ((r.body[r.src.toNat]?.map Ltr.atom).getD ⟨0, []⟩)))
        exact Lat.err_lift (Lat.err_of hk' this.1 this.2) hn
      · exact hn
  unfold factFine at hg ⊢
  simp only [Bool.and_eq_true, beq_iff_eq] at hg ⊢
  exact ⟨hg.1, hg.2.1, hg.2.2.1, hg.2.2.2.1, hg.2.2.2.2.1, he⟩

/-- facts with all of a list added -/
def addAll (K : Int → Int) : List Fct → List Fct → List Fct
  | f, [] => f
  | f, x :: xs => addAll K (addF K x f) xs
/-- does that change something? -/
def chgAll (K : Int → Int) : List Fct → List Fct → Bool
  | _, [] => false
  | f, x :: xs => addC K x f || chgAll K (addF K x f) xs
theorem addAll_append (K : Int → Int) : ∀ (xs ys f : List Fct), addAll K f (xs ++ ys) = addAll K (addAll K f xs) ys
  | [], _, _ => rfl
  | x :: xs, ys, f => by rw [List.cons_append, addAll, addAll, addAll_append K xs ys]
theorem chgAll_append (K : Int → Int) : ∀ (xs ys f : List Fct), chgAll K f (xs ++ ys) = (chgAll K f xs || chgAll K (addAll K f xs) ys)
  | [], _, _ => by simp [chgAll, addAll]
  | x :: xs, ys, f => by rw [List.cons_append, chgAll, chgAll, addAll, chgAll_append K xs ys, Bool.or_assoc]
/-- what a rule tells of f -/
def toldR (ps : List Prd) (f : List Fct) (r : Rul) : List Fct := (allL f r 0).map fun s => headF ps f r s.vars
theorem toldR_any (ps : List Prd) (f : List Fct) (r : Rul) (n : Int) : toldR ps f r = (allL f r n).map fun s => headF ps f r s.vars := by
  unfold toldR allL Fire.stepsA Fire.stepsB Fire.stepsC
  rw [List.map_flatMap, List.map_flatMap]
  congr 1
  funext a
  rw [List.map_flatMap, List.map_flatMap]
  congr 1
  funext b
  rw [List.map_map, List.map_map]
  rfl
theorem told_fine {ps : List Prd} {f : List Fct} {r : Rul} (hr : ruleErr ps r = 0) (hf : factsErr ps f = 0) : ∀ x ∈ toldR ps f r, factFine ps x = true := fun x hx => by
  obtain ⟨s, hs, rfl⟩ := List.mem_map.1 hx
  exact head_fine hr hf (mem_all.1 hs).2.1
/-- right facts, as the document checks them, out of what is known of them -/
theorem factsErr_of {ps : List Prd} {f : List Fct} (h5 : ps.length ≤ 5) (hp : predsOk ps = true) (hs : Base.Sorted f) (hf : ∀ x ∈ f, factFine ps x = true) : factsErr ps f = 0 := by
  unfold factsErr
  rw [if_neg (by omega), if_neg (by rw [hp]; simp), if_pos]
  unfold Base.goodTo
  rw [List.all_eq_true]
  intro i hi
  have hi := List.mem_range.1 hi
  unfold Base.goodAt
  rw [Base.nth_eq hi, hf _ (List.getElem_mem hi), Bool.true_and]
  cases i with
  | zero => rfl
  | succ i =>
    rw [Base.nth_eq (show i + 1 - 1 < f.length by omega)]
    have := (List.pairwise_iff_getElem.1 hs) i (i + 1) (by omega) hi (by omega)
    simp [this]
theorem fine_join {ps : List Prd} {x y : Fct} (hx : factFine ps x = true) (hy : factFine ps y = true) (h : place y = place x) : factFine ps ⟨y.pred, y.a, y.b, Lat.join (kindOf ps x.pred) y.val x.val⟩ = true := by
  obtain ⟨e1, _, _⟩ := Base.place_inj (Base.fine_of hy) (Base.fine_of hx) h
  unfold factFine at *
  simp only [Bool.and_eq_true, beq_iff_eq] at *
  refine ⟨hy.1, hy.2.1, hy.2.2.1, hy.2.2.2.1, hy.2.2.2.2.1, ?_⟩
  rw [e1] at hy ⊢
  exact Lat.err_join hy.2.2.2.2.2 hx.2.2.2.2.2
theorem fine_added {ps : List Prd} {x : Fct} (hx : factFine ps x = true) : ∀ {f : List Fct}, (∀ y ∈ f, factFine ps y = true) → ∀ z ∈ addF (kindOf ps) x f, factFine ps z = true
  | [], _, z, hz => by
    rw [addF] at hz
    rcases List.mem_singleton.1 hz with rfl
    exact hx
  | y :: f, hf, z, hz => by
    rw [addF] at hz
    split at hz
    · rename_i e
      rcases List.mem_cons.1 hz with rfl | hz
      · exact fine_join hx (hf y (by simp)) e
      · exact hf z (by simp [hz])
    · split at hz
      · rcases List.mem_cons.1 hz with rfl | hz
        · exact hx
        · exact hf z hz
      · rcases List.mem_cons.1 hz with rfl | hz
        · exact hf z (by simp)
        · exact fine_added hx (fun y hy => hf y (by simp [hy])) z hz
theorem add_right {ps : List Prd} {f : List Fct} {x : Fct} (hf : factsErr ps f = 0) (hx : factFine ps x = true) : factsErr ps (addF (kindOf ps) x f) = 0 :=
  factsErr_of (Base.factsErr_zero hf).1 (Base.factsErr_zero hf).2.1 (Base.sorted_add (Base.right_of hf).sorted) (fine_added hx (Base.facts_fine hf))
theorem addAll_right {ps : List Prd} : ∀ {xs f : List Fct}, factsErr ps f = 0 → (∀ x ∈ xs, factFine ps x = true) → factsErr ps (addAll (kindOf ps) f xs) = 0
  | [], _, hf, _ => hf
  | x :: xs, f, hf, hx => by
    rw [addAll]
    exact addAll_right (add_right hf (hx x (by simp))) fun y hy => hx y (by simp [hy])
theorem one_right {ps : List Prd} {f : List Fct} {x : Fct} (hf : factsErr ps f = 0) (hx : factFine ps x = true) : factsErr ps [x] = 0 :=
  factsErr_of (Base.factsErr_zero hf).1 (Base.factsErr_zero hf).2.1 (List.pairwise_singleton _ _) fun y hy => by rw [List.mem_singleton.1 hy]; exact hx
theorem addOf_right {ps : List Prd} {f : List Fct} {x : Fct} (hf : factsErr ps f = 0) (hx : factFine ps x = true) : Base.addOf ps f x = (addF (kindOf ps) x f, addC (kindOf ps) x f, 0) := by
  simp [Base.addOf, Base.withErr, hf, hx]
theorem underOf_right {ps : List Prd} {f g : List Fct} (hf : factsErr ps f = 0) (hg : factsErr ps g = 0) : Base.underOf ps f g = (under (kindOf ps) f g, 0) := by
  unfold Base.underOf
  rw [if_neg (by rw [hf]; simp), if_neg (by rw [hg]; simp)]
/-- what all rules of which S holds tell of f -/
def toldS (ps : List Prd) (S : Rul → Bool) (f : List Fct) (rs : List Rul) : List Fct := rs.flatMap fun r => if S r then toldR ps f r else []
theorem toldS_fine {ps : List Prd} {S : Rul → Bool} {f : List Fct} {rs : List Rul} (hr : ∀ r ∈ rs, ruleErr ps r = 0) (hf : factsErr ps f = 0) : ∀ x ∈ toldS ps S f rs, factFine ps x = true := fun x hx => by
  obtain ⟨r, hrm, hx⟩ := List.mem_flatMap.1 hx
  split at hx
  · exact told_fine (hr r hrm) hf x hx
  · cases hx
end Go.Proofs.YtlfccloaoopadagGreat.Round

/-
  What the document's own 'AllOf' answers.
-/
namespace Go.Proofs.YtlfccloaoopadagGreat.Fire
open Go.ChangeShapes Go.WideShapes Go.ChangeAt Go.RowKit
open Base (factsErr own_lasts own_lt)
open Rule (Vars asked ruleErr)
open Prog (slice_cells)
open Base (grown_below)

set_option maxRecDepth 100000 in
set_option maxHeartbeats 16000000 in
theorem allOf_c (w : World) (pv rv fv : Value) (ps : List Prd) (rs : List Rul) (f : List Fct) (n : Nat) (hp : predsAt w pv ps) (hr : rulesAt w rv rs) (hf : factsAt w fv f) (hpe : ∀ r ∈ rs, ruleErr ps r = 0) (hfe : factsErr ps f = 0) (hn : n < rs.length) :
    Calls Tryz.prog 50 #[.agg #[pv, rv], fv, .int .i64 (n : Int)] w fun e w' => ∃ v, e = .returned v ∧ stepsAt w' v (allL f rs[n] n) ∧ Below w.heap.size w w' := by
  have HP : Hid (∀ x, Below w.heap.size w x → predsAt x pv ps) := fun x hx => predsAt.lasts hx hp
  have HR : Hid (∀ x, Below w.heap.size w x → rulesAt x rv rs) := fun x hx => rulesAt.lasts hx hr
  have HF : Hid (∀ x, Below w.heap.size w x → factsAt x fv f) := fun x hx => factsAt.lasts hx hf
  have HPE : Hid ((∀ r ∈ rs, ruleErr ps r = 0) ∧ factsErr ps f = 0) := ⟨hpe, hfe⟩
  obtain ⟨rb, ro, rc, rfl, hrb, hcells⟩ := slice_cells hr hn
  obtain ⟨pa, pc, rfl, hpm, hpx⟩ := hp
  obtain ⟨fa, fc, rfl, hfm, hfx⟩ := hf
  obtain ⟨t0, ⟨av, t1, t1'⟩, t2, t3, bv, t4, t5⟩ := hcells
  clear hpx hfx hpe hfe hr
  have HH : Hid (∀ x v, Below w.heap.size w x → consts v = true → Calls Tryz.prog 51 #[.agg #[.slice pa ps.length pc, .slice (some ⟨rb, ro, none⟩) rs.length rc], .slice fa f.length fc, .int .i64 (n : Int), .agg #[.int .i64 v.x, .int .i64 v.y, .int .i64 v.z]] x fun e w' => e = .returned (.tuple #[.bool (bodyOk f v rs[n].body), .agg #[.int .i64 (holdsF ps f rs[n] v).pred, .int .i64 (holdsF ps f rs[n] v).a, .int .i64 (holdsF ps f rs[n] v).b, .int .i64 (holdsF ps f rs[n] v).val]]) ∧ Below x.heap.size x w') := fun x v hx hv =>
    holds_c x _ _ _ ps rs f n v (HP.out x hx) (HR.out x hx) (HF.out x hx) HPE.out.1 HPE.out.2 hn hv
  clear HP HR HF HPE
  have hn0 : (0 : Int) ≤ (n : Int) := by omega
  have hn1 : (n : Int) < (rs.length : Int) := by omega
  generalize hre : rs[n] = r at *
  obtain ⟨ha, hc, rfl, hhm, hhx⟩ := id t1'
  clear hhx
  go_enter Tryz.func50, Tryz.ntmps50
  go_wp2_with fail
  refine (stand_c _ r _ _ _ (termsAt.lasts (below_alloc _ _) t1') (litsAt.lasts (below_alloc _ _) t5)).mono ?_
  rintro e w1 ⟨rfl, hb1⟩
  have hb : Below w.heap.size w w1 := below_trans (below_alloc _ _) hb1
  have hbox : w1.cell? ⟨w.heap.size, 0, none⟩ = some (.slice pa ps.length pc) ∧ w1.cell? ⟨w.heap.size, 1, none⟩ = some (.slice (some ⟨rb, ro, none⟩) rs.length rc) :=
    ⟨by rw [hb1.cell (p := ⟨w.heap.size, 0, none⟩) (by simp)]; simp [go_sem], by rw [hb1.cell (p := ⟨w.heap.size, 1, none⟩) (by simp)]; simp [go_sem]⟩
  have hs1 : w.heap.size < w1.heap.size := by have := hb1.size; simp at this; omega
  clear hb1 t0 t1 t2 t3 t4 t5 t1'
  go_wp2_with fail
  obtain ⟨W2, hW2⟩ : ∃ W2, w1.alloc (.cells #[.bool (asked r 0), .bool (asked r 1), .bool (asked r 2)] 140) = W2 := ⟨_, rfl⟩
  have s2 : W2.heap.size = w1.heap.size + 1 := by rw [← hW2]; simp
  have HQ : Hid (∀ x, Below (w1.heap.size + 1) W2 x → x.cell? ⟨w.heap.size, 0, none⟩ = some (.slice pa ps.length pc) ∧ x.cell? ⟨w.heap.size, 1, none⟩ = some (.slice (some ⟨rb, ro, none⟩) rs.length rc) ∧ x.cell? ⟨w1.heap.size, 0, none⟩ = some (.bool (asked r 0)) ∧ x.cell? ⟨w1.heap.size, 1, none⟩ = some (.bool (asked r 1)) ∧ x.cell? ⟨w1.heap.size, 2, none⟩ = some (.bool (asked r 2)) ∧ Below w.heap.size w x) := fun x hx => by
    subst hW2
    have e : Below w1.heap.size w1 x := (below_alloc _ _).trans (hx.mono (by omega))
    exact ⟨(cell_lasts e hs1).trans hbox.1, (cell_lasts e hs1).trans hbox.2, by rw [hx.cell (p := ⟨w1.heap.size, 0, none⟩) (by simp)]; simp [go_sem], by rw [hx.cell (p := ⟨w1.heap.size, 1, none⟩) (by simp)]; simp [go_sem], by rw [hx.cell (p := ⟨w1.heap.size, 2, none⟩) (by simp)]; simp [go_sem], hb.trans (e.mono hb.size)⟩
  rw [hW2]
  clear hW2 hbox hb
  generalize w1.heap.size = B at *
  go_loopw [7, 9] (fun o i wr => ∃ (a : Nat) (vv : Value), vv = o ∧ a ≤ 5 ∧ i = .int .i64 a ∧ wr.ownsRow (B + 1) 99 4 vv (stepsA f r n a).length (cellsS (stepsA f r n a)) ∧ Below (B + 1) W2 wr) (fun _ i _ => 5 - (intOf i).toNat)
  case atStart => exact ⟨0, _, rfl, by omega, rfl, World.ownsRow_nil _ _ _ _, Below.refl _ _⟩
  case round =>
    obtain ⟨a, vv, rfl, ha5, rfl, hown, hbr⟩ := hrel
    by_cases hal : a < 5
    · have ga4 : (a : Int) ≤ 4 := by omega
      have HO : Hid (wr.ownsRow (B + 1) 99 4 vv (stepsA f r n a).length (cellsS (stepsA f r n a))) := hown
      clear hown
      go_wp2_with fail
      go_loopw [7, 10] (fun o i wr => ∃ (b : Nat) (vv : Value), vv = o ∧ b ≤ 5 ∧ i = .int .i64 b ∧ wr.ownsRow (B + 1) 99 4 vv (stepsA f r n a ++ stepsB f r n a b).length (cellsS (stepsA f r n a ++ stepsB f r n a b)) ∧ Below (B + 1) W2 wr) (fun _ i _ => 5 - (intOf i).toNat)
      case atStart => exact ⟨0, _, rfl, by omega, rfl, by rw [show stepsB f r n a 0 = [] from rfl, List.append_nil]; exact HO.out, hbr⟩
      case round =>
        clear HO hbr
        obtain ⟨b, vv, rfl, hb5, rfl, hown, hbr⟩ := hrel
        by_cases hbl : b < 5
        · have gb4 : (b : Int) ≤ 4 := by omega
          have HO : Hid (wr.ownsRow (B + 1) 99 4 vv (stepsA f r n a ++ stepsB f r n a b).length (cellsS (stepsA f r n a ++ stepsB f r n a b))) := hown
          clear hown
          go_wp2_with fail
          go_loopw [7, 11] (fun o i wr => ∃ (c : Nat) (vv : Value), vv = o ∧ c ≤ 5 ∧ i = .int .i64 c ∧ wr.ownsRow (B + 1) 99 4 vv (stepsA f r n a ++ stepsB f r n a b ++ stepsC f r n a b c).length (cellsS (stepsA f r n a ++ stepsB f r n a b ++ stepsC f r n a b c)) ∧ Below (B + 1) W2 wr) (fun _ i _ => 5 - (intOf i).toNat)
          case atStart => exact ⟨0, _, rfl, by omega, rfl, by rw [show stepsC f r n a b 0 = [] from rfl, List.append_nil]; exact HO.out, hbr⟩
          case round =>
            clear HO hbr
            obtain ⟨c, vv, rfl, hc5, rfl, hown, hbr⟩ := hrel
            by_cases hcl : c < 5
            · have gc4 : (c : Int) ≤ 4 := by omega
              have HLEN : Hid ((stepsA f r n a ++ stepsB f r n a b ++ stepsC f r n a b c).length ≤ 500) := by
                have h1 := stepsA_len f r n a
                have h2 := stepsB_len f r n a b
                have h3 := stepsC_len f r n a b c
                show _ ≤ _
                simp only [List.length_append]
                omega
              have HS : Hid (∀ o, okAt f r a b c = o → stepsA f r n a ++ stepsB f r n a b ++ stepsC f r n a b (c + 1) = stepsA f r n a ++ stepsB f r n a b ++ stepsC f r n a b c ++ if o then [⟨n, a, b, c⟩] else []) := fun o ho => by rw [stepsC_succ, ho]; simp only [List.append_assoc]
              generalize stepsA f r n a ++ stepsB f r n a b ++ stepsC f r n a b c = O at *
              have HO : Hid (wr.ownsRow (B + 1) 99 4 vv O.length (cellsS O)) := hown
              clear hown
              obtain ⟨y0, y1, y2, y3, y4, hbw⟩ := HQ.out _ hbr
              have HCON : Hid (consts ⟨(a : Int), (b : Int), (c : Int)⟩ = true) := by
                show _ = _
                simp [consts, Lat.within]
                omega
              have HOK : Hid (okAt f r a b c = ((decide (a = 0) || asked r 0) && (decide (b = 0) || asked r 1) && (decide (c = 0) || asked r 2) && bodyOk f ⟨a, b, c⟩ r.body)) := rfl
              have ppa : (Hid (a = 0) ∧ ¬ (0 : Int) < (a : Int)) ∨ (Hid (¬ a = 0) ∧ (0 : Int) < (a : Int)) := by by_cases h : a = 0; exact .inl ⟨h, by omega⟩; exact .inr ⟨h, by omega⟩
              have ppb : (Hid (b = 0) ∧ ¬ (0 : Int) < (b : Int)) ∨ (Hid (¬ b = 0) ∧ (0 : Int) < (b : Int)) := by by_cases h : b = 0; exact .inl ⟨h, by omega⟩; exact .inr ⟨h, by omega⟩
              have ppc : (Hid (c = 0) ∧ ¬ (0 : Int) < (c : Int)) ∨ (Hid (¬ c = 0) ∧ (0 : Int) < (c : Int)) := by by_cases h : c = 0; exact .inl ⟨h, by omega⟩; exact .inr ⟨h, by omega⟩
              have hsB : B + 1 ≤ wr.heap.size := by have := hbr.size; omega
              have Z : ∀ o, (wr.alloc o).cell? ⟨w.heap.size, 0, none⟩ = some (.slice pa ps.length pc) ∧ (wr.alloc o).cell? ⟨w.heap.size, 1, none⟩ = some (.slice (some ⟨rb, ro, none⟩) rs.length rc) := fun o => by
                obtain ⟨z0, z1, _⟩ := HQ.out _ (hbr.alloc hsB o)
                exact ⟨z0, z1⟩
              rcases ppa with ⟨ea, ga⟩ | ⟨ea, ga⟩
              · skip
                rcases ppb with ⟨eb, gb⟩ | ⟨eb, gb⟩
                · skip
                  rcases ppc with ⟨ec, gc⟩ | ⟨ec, gc⟩
                  · skip
                    have HG : Hid (okAt f r a b c = bodyOk f ⟨a, b, c⟩ r.body) := by show _ = _; rw [HOK.out]; simp [ea.out, eb.out, ec.out]
                    clear HOK
                    go_wp2_with fail
                    clear Z y0 y1 y2 y3 y4
                    have hbr2 : Below (B + 1) W2 (wr.alloc (.cells #[.int .i64 (a : Int), .int .i64 (b : Int), .int .i64 (c : Int)] 97)) := hbr.alloc hsB _
                    have hbx : Below wr.heap.size wr (wr.alloc (.cells #[.int .i64 (a : Int), .int .i64 (b : Int), .int .i64 (c : Int)] 97)) := below_alloc _ _
                    refine (HH.out _ ⟨a, b, c⟩ (HQ.out _ hbr2).2.2.2.2.2 HCON.out).mono ?_
                    rintro e w4 ⟨rfl, hb4⟩
                    have v0 : w4.cell? ⟨wr.heap.size, 0, none⟩ = some (.int .i64 (a : Int)) := by rw [hb4.cell (p := ⟨wr.heap.size, 0, none⟩) (by simp)]; simp [go_sem]
                    have v1 : w4.cell? ⟨wr.heap.size, 1, none⟩ = some (.int .i64 (b : Int)) := by rw [hb4.cell (p := ⟨wr.heap.size, 1, none⟩) (by simp)]; simp [go_sem]
                    have v2 : w4.cell? ⟨wr.heap.size, 2, none⟩ = some (.int .i64 (c : Int)) := by rw [hb4.cell (p := ⟨wr.heap.size, 2, none⟩) (by simp)]; simp [go_sem]
                    have s4 : wr.heap.size < w4.heap.size := by have := hb4.size; simp at this; omega
                    have hbr4 : Below (B + 1) W2 w4 := hbr2.trans (hb4.mono (by simp; omega))
                    have HO4 : Hid (w4.ownsRow (B + 1) 99 4 vv O.length (cellsS O)) := own_lasts (own_lasts HO.out hbx) hb4
                    clear hb4 hbr2 hbx HO
                    generalize holdsF ps f r ⟨a, b, c⟩ = hx at *
                    cases hbo : bodyOk f ⟨a, b, c⟩ r.body
                    · have HN : Hid (stepsA f r n a ++ stepsB f r n a b ++ stepsC f r n a b (c + 1) = O) := by show _ = _; rw [HS.out false (HG.out.trans hbo), if_neg (by simp), List.append_nil]
                      clear HS HG
                      go_wp2_with fail
                      exact ⟨⟨c + 1, _, rfl, by omega, by go_num, by rw [HN.out]; exact own_lasts HO4.out (below_alloc _ _), hbr4.alloc (by omega) _⟩, by simp [intOf]; omega⟩
                    · have HN : Hid (stepsA f r n a ++ stepsB f r n a b ++ stepsC f r n a b (c + 1) = O ++ [⟨n, a, b, c⟩]) := by show _ = _; rw [HS.out true (HG.out.trans hbo), if_pos rfl]
                      clear HS HG
                      go_wp2_with (at_builtin; refine wpList_append_step _ rfl _ _ rfl (B + 1) vv O ⟨n, a, b, c⟩ (own_lasts (own_lasts HO4.out (below_alloc _ _)) (below_alloc _ _)) rfl (w4.heap.size + 1) rfl 99 (by have h := heap_alloc_new (w4.alloc (.cells #[.int .i64 hx.pred, .int .i64 hx.a, .int .i64 hx.b, .int .i64 hx.val] 44)) (.cells #[.int .i64 (n : Int), .int .i64 (a : Int), .int .i64 (b : Int), .int .i64 (c : Int)] 99); rw [World.size_alloc] at h; exact h) HLEN.out (by simp; omega) ?_; intro v5 w5 hown5 hgr5; have hx5 : Below (B + 1) W2 w5 := grown_below ((hbr4.alloc (by omega) _).alloc (by simp; omega) _) (own_lasts (own_lasts HO4.out (below_alloc _ _)) (below_alloc _ _)) hgr5 (by simp; omega))
                      exact ⟨⟨c + 1, _, rfl, by omega, by go_num, by rw [HN.out]; exact hown5, hx5⟩, by simp [intOf]; omega⟩
                  · cases hkc : asked r 2
                    · rw [hkc] at y4
                      have HB : Hid (okAt f r a b c = false) := by show _ = _; rw [HOK.out]; simp [ec.out, hkc]
                      have HN : Hid (wr.ownsRow (B + 1) 99 4 vv (stepsA f r n a ++ stepsB f r n a b ++ stepsC f r n a b (c + 1)).length (cellsS (stepsA f r n a ++ stepsB f r n a b ++ stepsC f r n a b (c + 1)))) := by rw [HS.out false HB.out, if_neg (by simp), List.append_nil]; exact HO.out
                      clear HO HS HOK HB HCON Z
                      go_wp2_with fail
                      exact ⟨⟨c + 1, _, rfl, by omega, by go_num, HN.out, hbr⟩, by simp [intOf]; omega⟩
                    · rw [hkc] at y4
                      have HG : Hid (okAt f r a b c = bodyOk f ⟨a, b, c⟩ r.body) := by show _ = _; rw [HOK.out]; simp [ea.out, eb.out, ec.out, hkc]
                      clear HOK
                      go_wp2_with fail
                      clear Z y0 y1 y2 y3 y4
                      have hbr2 : Below (B + 1) W2 (wr.alloc (.cells #[.int .i64 (a : Int), .int .i64 (b : Int), .int .i64 (c : Int)] 97)) := hbr.alloc hsB _
                      have hbx : Below wr.heap.size wr (wr.alloc (.cells #[.int .i64 (a : Int), .int .i64 (b : Int), .int .i64 (c : Int)] 97)) := below_alloc _ _
                      refine (HH.out _ ⟨a, b, c⟩ (HQ.out _ hbr2).2.2.2.2.2 HCON.out).mono ?_
                      rintro e w4 ⟨rfl, hb4⟩
                      have v0 : w4.cell? ⟨wr.heap.size, 0, none⟩ = some (.int .i64 (a : Int)) := by rw [hb4.cell (p := ⟨wr.heap.size, 0, none⟩) (by simp)]; simp [go_sem]
                      have v1 : w4.cell? ⟨wr.heap.size, 1, none⟩ = some (.int .i64 (b : Int)) := by rw [hb4.cell (p := ⟨wr.heap.size, 1, none⟩) (by simp)]; simp [go_sem]
                      have v2 : w4.cell? ⟨wr.heap.size, 2, none⟩ = some (.int .i64 (c : Int)) := by rw [hb4.cell (p := ⟨wr.heap.size, 2, none⟩) (by simp)]; simp [go_sem]
                      have s4 : wr.heap.size < w4.heap.size := by have := hb4.size; simp at this; omega
                      have hbr4 : Below (B + 1) W2 w4 := hbr2.trans (hb4.mono (by simp; omega))
                      have HO4 : Hid (w4.ownsRow (B + 1) 99 4 vv O.length (cellsS O)) := own_lasts (own_lasts HO.out hbx) hb4
                      clear hb4 hbr2 hbx HO
                      generalize holdsF ps f r ⟨a, b, c⟩ = hx at *
                      cases hbo : bodyOk f ⟨a, b, c⟩ r.body
                      · have HN : Hid (stepsA f r n a ++ stepsB f r n a b ++ stepsC f r n a b (c + 1) = O) := by show _ = _; rw [HS.out false (HG.out.trans hbo), if_neg (by simp), List.append_nil]
                        clear HS HG
                        go_wp2_with fail
                        exact ⟨⟨c + 1, _, rfl, by omega, by go_num, by rw [HN.out]; exact own_lasts HO4.out (below_alloc _ _), hbr4.alloc (by omega) _⟩, by simp [intOf]; omega⟩
                      · have HN : Hid (stepsA f r n a ++ stepsB f r n a b ++ stepsC f r n a b (c + 1) = O ++ [⟨n, a, b, c⟩]) := by show _ = _; rw [HS.out true (HG.out.trans hbo), if_pos rfl]
                        clear HS HG
                        go_wp2_with (at_builtin; refine wpList_append_step _ rfl _ _ rfl (B + 1) vv O ⟨n, a, b, c⟩ (own_lasts (own_lasts HO4.out (below_alloc _ _)) (below_alloc _ _)) rfl (w4.heap.size + 1) rfl 99 (by have h := heap_alloc_new (w4.alloc (.cells #[.int .i64 hx.pred, .int .i64 hx.a, .int .i64 hx.b, .int .i64 hx.val] 44)) (.cells #[.int .i64 (n : Int), .int .i64 (a : Int), .int .i64 (b : Int), .int .i64 (c : Int)] 99); rw [World.size_alloc] at h; exact h) HLEN.out (by simp; omega) ?_; intro v5 w5 hown5 hgr5; have hx5 : Below (B + 1) W2 w5 := grown_below ((hbr4.alloc (by omega) _).alloc (by simp; omega) _) (own_lasts (own_lasts HO4.out (below_alloc _ _)) (below_alloc _ _)) hgr5 (by simp; omega))
                        exact ⟨⟨c + 1, _, rfl, by omega, by go_num, by rw [HN.out]; exact hown5, hx5⟩, by simp [intOf]; omega⟩
                · cases hkb : asked r 1
                  · rw [hkb] at y3
                    have HB : Hid (okAt f r a b c = false) := by show _ = _; rw [HOK.out]; simp [eb.out, hkb]
                    have HN : Hid (wr.ownsRow (B + 1) 99 4 vv (stepsA f r n a ++ stepsB f r n a b ++ stepsC f r n a b (c + 1)).length (cellsS (stepsA f r n a ++ stepsB f r n a b ++ stepsC f r n a b (c + 1)))) := by rw [HS.out false HB.out, if_neg (by simp), List.append_nil]; exact HO.out
                    clear HO HS HOK HB HCON Z
                    go_wp2_with fail
                    exact ⟨⟨c + 1, _, rfl, by omega, by go_num, HN.out, hbr⟩, by simp [intOf]; omega⟩
                  · rw [hkb] at y3
                    rcases ppc with ⟨ec, gc⟩ | ⟨ec, gc⟩
                    · skip
                      have HG : Hid (okAt f r a b c = bodyOk f ⟨a, b, c⟩ r.body) := by show _ = _; rw [HOK.out]; simp [ea.out, eb.out, hkb, ec.out]
                      clear HOK
                      go_wp2_with fail
                      clear Z y0 y1 y2 y3 y4
                      have hbr2 : Below (B + 1) W2 (wr.alloc (.cells #[.int .i64 (a : Int), .int .i64 (b : Int), .int .i64 (c : Int)] 97)) := hbr.alloc hsB _
                      have hbx : Below wr.heap.size wr (wr.alloc (.cells #[.int .i64 (a : Int), .int .i64 (b : Int), .int .i64 (c : Int)] 97)) := below_alloc _ _
                      refine (HH.out _ ⟨a, b, c⟩ (HQ.out _ hbr2).2.2.2.2.2 HCON.out).mono ?_
                      rintro e w4 ⟨rfl, hb4⟩
                      have v0 : w4.cell? ⟨wr.heap.size, 0, none⟩ = some (.int .i64 (a : Int)) := by rw [hb4.cell (p := ⟨wr.heap.size, 0, none⟩) (by simp)]; simp [go_sem]
                      have v1 : w4.cell? ⟨wr.heap.size, 1, none⟩ = some (.int .i64 (b : Int)) := by rw [hb4.cell (p := ⟨wr.heap.size, 1, none⟩) (by simp)]; simp [go_sem]
                      have v2 : w4.cell? ⟨wr.heap.size, 2, none⟩ = some (.int .i64 (c : Int)) := by rw [hb4.cell (p := ⟨wr.heap.size, 2, none⟩) (by simp)]; simp [go_sem]
                      have s4 : wr.heap.size < w4.heap.size := by have := hb4.size; simp at this; omega
                      have hbr4 : Below (B + 1) W2 w4 := hbr2.trans (hb4.mono (by simp; omega))
                      have HO4 : Hid (w4.ownsRow (B + 1) 99 4 vv O.length (cellsS O)) := own_lasts (own_lasts HO.out hbx) hb4
                      clear hb4 hbr2 hbx HO
                      generalize holdsF ps f r ⟨a, b, c⟩ = hx at *
                      cases hbo : bodyOk f ⟨a, b, c⟩ r.body
                      · have HN : Hid (stepsA f r n a ++ stepsB f r n a b ++ stepsC f r n a b (c + 1) = O) := by show _ = _; rw [HS.out false (HG.out.trans hbo), if_neg (by simp), List.append_nil]
                        clear HS HG
                        go_wp2_with fail
                        exact ⟨⟨c + 1, _, rfl, by omega, by go_num, by rw [HN.out]; exact own_lasts HO4.out (below_alloc _ _), hbr4.alloc (by omega) _⟩, by simp [intOf]; omega⟩
                      · have HN : Hid (stepsA f r n a ++ stepsB f r n a b ++ stepsC f r n a b (c + 1) = O ++ [⟨n, a, b, c⟩]) := by show _ = _; rw [HS.out true (HG.out.trans hbo), if_pos rfl]
                        clear HS HG
                        go_wp2_with (at_builtin; refine wpList_append_step _ rfl _ _ rfl (B + 1) vv O ⟨n, a, b, c⟩ (own_lasts (own_lasts HO4.out (below_alloc _ _)) (below_alloc _ _)) rfl (w4.heap.size + 1) rfl 99 (by have h := heap_alloc_new (w4.alloc (.cells #[.int .i64 hx.pred, .int .i64 hx.a, .int .i64 hx.b, .int .i64 hx.val] 44)) (.cells #[.int .i64 (n : Int), .int .i64 (a : Int), .int .i64 (b : Int), .int .i64 (c : Int)] 99); rw [World.size_alloc] at h; exact h) HLEN.out (by simp; omega) ?_; intro v5 w5 hown5 hgr5; have hx5 : Below (B + 1) W2 w5 := grown_below ((hbr4.alloc (by omega) _).alloc (by simp; omega) _) (own_lasts (own_lasts HO4.out (below_alloc _ _)) (below_alloc _ _)) hgr5 (by simp; omega))
                        exact ⟨⟨c + 1, _, rfl, by omega, by go_num, by rw [HN.out]; exact hown5, hx5⟩, by simp [intOf]; omega⟩
                    · cases hkc : asked r 2
                      · rw [hkc] at y4
                        have HB : Hid (okAt f r a b c = false) := by show _ = _; rw [HOK.out]; simp [ec.out, hkc]
                        have HN : Hid (wr.ownsRow (B + 1) 99 4 vv (stepsA f r n a ++ stepsB f r n a b ++ stepsC f r n a b (c + 1)).length (cellsS (stepsA f r n a ++ stepsB f r n a b ++ stepsC f r n a b (c + 1)))) := by rw [HS.out false HB.out, if_neg (by simp), List.append_nil]; exact HO.out
                        clear HO HS HOK HB HCON Z
                        go_wp2_with fail
                        exact ⟨⟨c + 1, _, rfl, by omega, by go_num, HN.out, hbr⟩, by simp [intOf]; omega⟩
                      · rw [hkc] at y4
                        have HG : Hid (okAt f r a b c = bodyOk f ⟨a, b, c⟩ r.body) := by show _ = _; rw [HOK.out]; simp [ea.out, eb.out, hkb, ec.out, hkc]
                        clear HOK
                        go_wp2_with fail
                        clear Z y0 y1 y2 y3 y4
                        have hbr2 : Below (B + 1) W2 (wr.alloc (.cells #[.int .i64 (a : Int), .int .i64 (b : Int), .int .i64 (c : Int)] 97)) := hbr.alloc hsB _
                        have hbx : Below wr.heap.size wr (wr.alloc (.cells #[.int .i64 (a : Int), .int .i64 (b : Int), .int .i64 (c : Int)] 97)) := below_alloc _ _
                        refine (HH.out _ ⟨a, b, c⟩ (HQ.out _ hbr2).2.2.2.2.2 HCON.out).mono ?_
                        rintro e w4 ⟨rfl, hb4⟩
                        have v0 : w4.cell? ⟨wr.heap.size, 0, none⟩ = some (.int .i64 (a : Int)) := by rw [hb4.cell (p := ⟨wr.heap.size, 0, none⟩) (by simp)]; simp [go_sem]
                        have v1 : w4.cell? ⟨wr.heap.size, 1, none⟩ = some (.int .i64 (b : Int)) := by rw [hb4.cell (p := ⟨wr.heap.size, 1, none⟩) (by simp)]; simp [go_sem]
                        have v2 : w4.cell? ⟨wr.heap.size, 2, none⟩ = some (.int .i64 (c : Int)) := by rw [hb4.cell (p := ⟨wr.heap.size, 2, none⟩) (by simp)]; simp [go_sem]
                        have s4 : wr.heap.size < w4.heap.size := by have := hb4.size; simp at this; omega
                        have hbr4 : Below (B + 1) W2 w4 := hbr2.trans (hb4.mono (by simp; omega))
                        have HO4 : Hid (w4.ownsRow (B + 1) 99 4 vv O.length (cellsS O)) := own_lasts (own_lasts HO.out hbx) hb4
                        clear hb4 hbr2 hbx HO
                        generalize holdsF ps f r ⟨a, b, c⟩ = hx at *
                        cases hbo : bodyOk f ⟨a, b, c⟩ r.body
                        · have HN : Hid (stepsA f r n a ++ stepsB f r n a b ++ stepsC f r n a b (c + 1) = O) := by show _ = _; rw [HS.out false (HG.out.trans hbo), if_neg (by simp), List.append_nil]
                          clear HS HG
                          go_wp2_with fail
                          exact ⟨⟨c + 1, _, rfl, by omega, by go_num, by rw [HN.out]; exact own_lasts HO4.out (below_alloc _ _), hbr4.alloc (by omega) _⟩, by simp [intOf]; omega⟩
                        · have HN : Hid (stepsA f r n a ++ stepsB f r n a b ++ stepsC f r n a b (c + 1) = O ++ [⟨n, a, b, c⟩]) := by show _ = _; rw [HS.out true (HG.out.trans hbo), if_pos rfl]
                          clear HS HG
                          go_wp2_with (at_builtin; refine wpList_append_step _ rfl _ _ rfl (B + 1) vv O ⟨n, a, b, c⟩ (own_lasts (own_lasts HO4.out (below_alloc _ _)) (below_alloc _ _)) rfl (w4.heap.size + 1) rfl 99 (by have h := heap_alloc_new (w4.alloc (.cells #[.int .i64 hx.pred, .int .i64 hx.a, .int .i64 hx.b, .int .i64 hx.val] 44)) (.cells #[.int .i64 (n : Int), .int .i64 (a : Int), .int .i64 (b : Int), .int .i64 (c : Int)] 99); rw [World.size_alloc] at h; exact h) HLEN.out (by simp; omega) ?_; intro v5 w5 hown5 hgr5; have hx5 : Below (B + 1) W2 w5 := grown_below ((hbr4.alloc (by omega) _).alloc (by simp; omega) _) (own_lasts (own_lasts HO4.out (below_alloc _ _)) (below_alloc _ _)) hgr5 (by simp; omega))
                          exact ⟨⟨c + 1, _, rfl, by omega, by go_num, by rw [HN.out]; exact hown5, hx5⟩, by simp [intOf]; omega⟩
              · cases hka : asked r 0
                · rw [hka] at y2
                  have HB : Hid (okAt f r a b c = false) := by show _ = _; rw [HOK.out]; simp [ea.out, hka]
                  have HN : Hid (wr.ownsRow (B + 1) 99 4 vv (stepsA f r n a ++ stepsB f r n a b ++ stepsC f r n a b (c + 1)).length (cellsS (stepsA f r n a ++ stepsB f r n a b ++ stepsC f r n a b (c + 1)))) := by rw [HS.out false HB.out, if_neg (by simp), List.append_nil]; exact HO.out
                  clear HO HS HOK HB HCON Z
                  go_wp2_with fail
                  exact ⟨⟨c + 1, _, rfl, by omega, by go_num, HN.out, hbr⟩, by simp [intOf]; omega⟩
                · rw [hka] at y2
                  rcases ppb with ⟨eb, gb⟩ | ⟨eb, gb⟩
                  · skip
                    rcases ppc with ⟨ec, gc⟩ | ⟨ec, gc⟩
                    · skip
                      have HG : Hid (okAt f r a b c = bodyOk f ⟨a, b, c⟩ r.body) := by show _ = _; rw [HOK.out]; simp [ea.out, hka, eb.out, ec.out]
                      clear HOK
                      go_wp2_with fail
                      clear Z y0 y1 y2 y3 y4
                      have hbr2 : Below (B + 1) W2 (wr.alloc (.cells #[.int .i64 (a : Int), .int .i64 (b : Int), .int .i64 (c : Int)] 97)) := hbr.alloc hsB _
                      have hbx : Below wr.heap.size wr (wr.alloc (.cells #[.int .i64 (a : Int), .int .i64 (b : Int), .int .i64 (c : Int)] 97)) := below_alloc _ _
                      refine (HH.out _ ⟨a, b, c⟩ (HQ.out _ hbr2).2.2.2.2.2 HCON.out).mono ?_
                      rintro e w4 ⟨rfl, hb4⟩
                      have v0 : w4.cell? ⟨wr.heap.size, 0, none⟩ = some (.int .i64 (a : Int)) := by rw [hb4.cell (p := ⟨wr.heap.size, 0, none⟩) (by simp)]; simp [go_sem]
                      have v1 : w4.cell? ⟨wr.heap.size, 1, none⟩ = some (.int .i64 (b : Int)) := by rw [hb4.cell (p := ⟨wr.heap.size, 1, none⟩) (by simp)]; simp [go_sem]
                      have v2 : w4.cell? ⟨wr.heap.size, 2, none⟩ = some (.int .i64 (c : Int)) := by rw [hb4.cell (p := ⟨wr.heap.size, 2, none⟩) (by simp)]; simp [go_sem]
                      have s4 : wr.heap.size < w4.heap.size := by have := hb4.size; simp at this; omega
                      have hbr4 : Below (B + 1) W2 w4 := hbr2.trans (hb4.mono (by simp; omega))
                      have HO4 : Hid (w4.ownsRow (B + 1) 99 4 vv O.length (cellsS O)) := own_lasts (own_lasts HO.out hbx) hb4
                      clear hb4 hbr2 hbx HO
                      generalize holdsF ps f r ⟨a, b, c⟩ = hx at *
                      cases hbo : bodyOk f ⟨a, b, c⟩ r.body
                      · have HN : Hid (stepsA f r n a ++ stepsB f r n a b ++ stepsC f r n a b (c + 1) = O) := by show _ = _; rw [HS.out false (HG.out.trans hbo), if_neg (by simp), List.append_nil]
                        clear HS HG
                        go_wp2_with fail
                        exact ⟨⟨c + 1, _, rfl, by omega, by go_num, by rw [HN.out]; exact own_lasts HO4.out (below_alloc _ _), hbr4.alloc (by omega) _⟩, by simp [intOf]; omega⟩
                      · have HN : Hid (stepsA f r n a ++ stepsB f r n a b ++ stepsC f r n a b (c + 1) = O ++ [⟨n, a, b, c⟩]) := by show _ = _; rw [HS.out true (HG.out.trans hbo), if_pos rfl]
                        clear HS HG
                        go_wp2_with (at_builtin; refine wpList_append_step _ rfl _ _ rfl (B + 1) vv O ⟨n, a, b, c⟩ (own_lasts (own_lasts HO4.out (below_alloc _ _)) (below_alloc _ _)) rfl (w4.heap.size + 1) rfl 99 (by have h := heap_alloc_new (w4.alloc (.cells #[.int .i64 hx.pred, .int .i64 hx.a, .int .i64 hx.b, .int .i64 hx.val] 44)) (.cells #[.int .i64 (n : Int), .int .i64 (a : Int), .int .i64 (b : Int), .int .i64 (c : Int)] 99); rw [World.size_alloc] at h; exact h) HLEN.out (by simp; omega) ?_; intro v5 w5 hown5 hgr5; have hx5 : Below (B + 1) W2 w5 := grown_below ((hbr4.alloc (by omega) _).alloc (by simp; omega) _) (own_lasts (own_lasts HO4.out (below_alloc _ _)) (below_alloc _ _)) hgr5 (by simp; omega))
                        exact ⟨⟨c + 1, _, rfl, by omega, by go_num, by rw [HN.out]; exact hown5, hx5⟩, by simp [intOf]; omega⟩
                    · cases hkc : asked r 2
                      · rw [hkc] at y4
                        have HB : Hid (okAt f r a b c = false) := by show _ = _; rw [HOK.out]; simp [ec.out, hkc]
                        have HN : Hid (wr.ownsRow (B + 1) 99 4 vv (stepsA f r n a ++ stepsB f r n a b ++ stepsC f r n a b (c + 1)).length (cellsS (stepsA f r n a ++ stepsB f r n a b ++ stepsC f r n a b (c + 1)))) := by rw [HS.out false HB.out, if_neg (by simp), List.append_nil]; exact HO.out
                        clear HO HS HOK HB HCON Z
                        go_wp2_with fail
                        exact ⟨⟨c + 1, _, rfl, by omega, by go_num, HN.out, hbr⟩, by simp [intOf]; omega⟩
                      · rw [hkc] at y4
                        have HG : Hid (okAt f r a b c = bodyOk f ⟨a, b, c⟩ r.body) := by show _ = _; rw [HOK.out]; simp [ea.out, hka, eb.out, ec.out, hkc]
                        clear HOK
                        go_wp2_with fail
                        clear Z y0 y1 y2 y3 y4
                        have hbr2 : Below (B + 1) W2 (wr.alloc (.cells #[.int .i64 (a : Int), .int .i64 (b : Int), .int .i64 (c : Int)] 97)) := hbr.alloc hsB _
                        have hbx : Below wr.heap.size wr (wr.alloc (.cells #[.int .i64 (a : Int), .int .i64 (b : Int), .int .i64 (c : Int)] 97)) := below_alloc _ _
                        refine (HH.out _ ⟨a, b, c⟩ (HQ.out _ hbr2).2.2.2.2.2 HCON.out).mono ?_
                        rintro e w4 ⟨rfl, hb4⟩
                        have v0 : w4.cell? ⟨wr.heap.size, 0, none⟩ = some (.int .i64 (a : Int)) := by rw [hb4.cell (p := ⟨wr.heap.size, 0, none⟩) (by simp)]; simp [go_sem]
                        have v1 : w4.cell? ⟨wr.heap.size, 1, none⟩ = some (.int .i64 (b : Int)) := by rw [hb4.cell (p := ⟨wr.heap.size, 1, none⟩) (by simp)]; simp [go_sem]
                        have v2 : w4.cell? ⟨wr.heap.size, 2, none⟩ = some (.int .i64 (c : Int)) := by rw [hb4.cell (p := ⟨wr.heap.size, 2, none⟩) (by simp)]; simp [go_sem]
                        have s4 : wr.heap.size < w4.heap.size := by have := hb4.size; simp at this; omega
                        have hbr4 : Below (B + 1) W2 w4 := hbr2.trans (hb4.mono (by simp; omega))
                        have HO4 : Hid (w4.ownsRow (B + 1) 99 4 vv O.length (cellsS O)) := own_lasts (own_lasts HO.out hbx) hb4
                        clear hb4 hbr2 hbx HO
                        generalize holdsF ps f r ⟨a, b, c⟩ = hx at *
                        cases hbo : bodyOk f ⟨a, b, c⟩ r.body
                        · have HN : Hid (stepsA f r n a ++ stepsB f r n a b ++ stepsC f r n a b (c + 1) = O) := by show _ = _; rw [HS.out false (HG.out.trans hbo), if_neg (by simp), List.append_nil]
                          clear HS HG
                          go_wp2_with fail
                          exact ⟨⟨c + 1, _, rfl, by omega, by go_num, by rw [HN.out]; exact own_lasts HO4.out (below_alloc _ _), hbr4.alloc (by omega) _⟩, by simp [intOf]; omega⟩
                        · have HN : Hid (stepsA f r n a ++ stepsB f r n a b ++ stepsC f r n a b (c + 1) = O ++ [⟨n, a, b, c⟩]) := by show _ = _; rw [HS.out true (HG.out.trans hbo), if_pos rfl]
                          clear HS HG
                          go_wp2_with (at_builtin; refine wpList_append_step _ rfl _ _ rfl (B + 1) vv O ⟨n, a, b, c⟩ (own_lasts (own_lasts HO4.out (below_alloc _ _)) (below_alloc _ _)) rfl (w4.heap.size + 1) rfl 99 (by have h := heap_alloc_new (w4.alloc (.cells #[.int .i64 hx.pred, .int .i64 hx.a, .int .i64 hx.b, .int .i64 hx.val] 44)) (.cells #[.int .i64 (n : Int), .int .i64 (a : Int), .int .i64 (b : Int), .int .i64 (c : Int)] 99); rw [World.size_alloc] at h; exact h) HLEN.out (by simp; omega) ?_; intro v5 w5 hown5 hgr5; have hx5 : Below (B + 1) W2 w5 := grown_below ((hbr4.alloc (by omega) _).alloc (by simp; omega) _) (own_lasts (own_lasts HO4.out (below_alloc _ _)) (below_alloc _ _)) hgr5 (by simp; omega))
                          exact ⟨⟨c + 1, _, rfl, by omega, by go_num, by rw [HN.out]; exact hown5, hx5⟩, by simp [intOf]; omega⟩
                  · cases hkb : asked r 1
                    · rw [hkb] at y3
                      have HB : Hid (okAt f r a b c = false) := by show _ = _; rw [HOK.out]; simp [eb.out, hkb]
                      have HN : Hid (wr.ownsRow (B + 1) 99 4 vv (stepsA f r n a ++ stepsB f r n a b ++ stepsC f r n a b (c + 1)).length (cellsS (stepsA f r n a ++ stepsB f r n a b ++ stepsC f r n a b (c + 1)))) := by rw [HS.out false HB.out, if_neg (by simp), List.append_nil]; exact HO.out
                      clear HO HS HOK HB HCON Z
                      go_wp2_with fail
                      exact ⟨⟨c + 1, _, rfl, by omega, by go_num, HN.out, hbr⟩, by simp [intOf]; omega⟩
                    · rw [hkb] at y3
                      rcases ppc with ⟨ec, gc⟩ | ⟨ec, gc⟩
                      · skip
                        have HG : Hid (okAt f r a b c = bodyOk f ⟨a, b, c⟩ r.body) := by show _ = _; rw [HOK.out]; simp [ea.out, hka, eb.out, hkb, ec.out]
                        clear HOK
                        go_wp2_with fail
                        clear Z y0 y1 y2 y3 y4
                        have hbr2 : Below (B + 1) W2 (wr.alloc (.cells #[.int .i64 (a : Int), .int .i64 (b : Int), .int .i64 (c : Int)] 97)) := hbr.alloc hsB _
                        have hbx : Below wr.heap.size wr (wr.alloc (.cells #[.int .i64 (a : Int), .int .i64 (b : Int), .int .i64 (c : Int)] 97)) := below_alloc _ _
                        refine (HH.out _ ⟨a, b, c⟩ (HQ.out _ hbr2).2.2.2.2.2 HCON.out).mono ?_
                        rintro e w4 ⟨rfl, hb4⟩
                        have v0 : w4.cell? ⟨wr.heap.size, 0, none⟩ = some (.int .i64 (a : Int)) := by rw [hb4.cell (p := ⟨wr.heap.size, 0, none⟩) (by simp)]; simp [go_sem]
                        have v1 : w4.cell? ⟨wr.heap.size, 1, none⟩ = some (.int .i64 (b : Int)) := by rw [hb4.cell (p := ⟨wr.heap.size, 1, none⟩) (by simp)]; simp [go_sem]
                        have v2 : w4.cell? ⟨wr.heap.size, 2, none⟩ = some (.int .i64 (c : Int)) := by rw [hb4.cell (p := ⟨wr.heap.size, 2, none⟩) (by simp)]; simp [go_sem]
                        have s4 : wr.heap.size < w4.heap.size := by have := hb4.size; simp at this; omega
                        have hbr4 : Below (B + 1) W2 w4 := hbr2.trans (hb4.mono (by simp; omega))
                        have HO4 : Hid (w4.ownsRow (B + 1) 99 4 vv O.length (cellsS O)) := own_lasts (own_lasts HO.out hbx) hb4
                        clear hb4 hbr2 hbx HO
                        generalize holdsF ps f r ⟨a, b, c⟩ = hx at *
                        cases hbo : bodyOk f ⟨a, b, c⟩ r.body
                        · have HN : Hid (stepsA f r n a ++ stepsB f r n a b ++ stepsC f r n a b (c + 1) = O) := by show _ = _; rw [HS.out false (HG.out.trans hbo), if_neg (by simp), List.append_nil]
                          clear HS HG
                          go_wp2_with fail
                          exact ⟨⟨c + 1, _, rfl, by omega, by go_num, by rw [HN.out]; exact own_lasts HO4.out (below_alloc _ _), hbr4.alloc (by omega) _⟩, by simp [intOf]; omega⟩
                        · have HN : Hid (stepsA f r n a ++ stepsB f r n a b ++ stepsC f r n a b (c + 1) = O ++ [⟨n, a, b, c⟩]) := by show _ = _; rw [HS.out true (HG.out.trans hbo), if_pos rfl]
                          clear HS HG
                          go_wp2_with (at_builtin; refine wpList_append_step _ rfl _ _ rfl (B + 1) vv O ⟨n, a, b, c⟩ (own_lasts (own_lasts HO4.out (below_alloc _ _)) (below_alloc _ _)) rfl (w4.heap.size + 1) rfl 99 (by have h := heap_alloc_new (w4.alloc (.cells #[.int .i64 hx.pred, .int .i64 hx.a, .int .i64 hx.b, .int .i64 hx.val] 44)) (.cells #[.int .i64 (n : Int), .int .i64 (a : Int), .int .i64 (b : Int), .int .i64 (c : Int)] 99); rw [World.size_alloc] at h; exact h) HLEN.out (by simp; omega) ?_; intro v5 w5 hown5 hgr5; have hx5 : Below (B + 1) W2 w5 := grown_below ((hbr4.alloc (by omega) _).alloc (by simp; omega) _) (own_lasts (own_lasts HO4.out (below_alloc _ _)) (below_alloc _ _)) hgr5 (by simp; omega))
                          exact ⟨⟨c + 1, _, rfl, by omega, by go_num, by rw [HN.out]; exact hown5, hx5⟩, by simp [intOf]; omega⟩
                      · cases hkc : asked r 2
                        · rw [hkc] at y4
                          have HB : Hid (okAt f r a b c = false) := by show _ = _; rw [HOK.out]; simp [ec.out, hkc]
                          have HN : Hid (wr.ownsRow (B + 1) 99 4 vv (stepsA f r n a ++ stepsB f r n a b ++ stepsC f r n a b (c + 1)).length (cellsS (stepsA f r n a ++ stepsB f r n a b ++ stepsC f r n a b (c + 1)))) := by rw [HS.out false HB.out, if_neg (by simp), List.append_nil]; exact HO.out
                          clear HO HS HOK HB HCON Z
                          go_wp2_with fail
                          exact ⟨⟨c + 1, _, rfl, by omega, by go_num, HN.out, hbr⟩, by simp [intOf]; omega⟩
                        · rw [hkc] at y4
                          have HG : Hid (okAt f r a b c = bodyOk f ⟨a, b, c⟩ r.body) := by show _ = _; rw [HOK.out]; simp [ea.out, hka, eb.out, hkb, ec.out, hkc]
                          clear HOK
                          go_wp2_with fail
                          clear Z y0 y1 y2 y3 y4
                          have hbr2 : Below (B + 1) W2 (wr.alloc (.cells #[.int .i64 (a : Int), .int .i64 (b : Int), .int .i64 (c : Int)] 97)) := hbr.alloc hsB _
                          have hbx : Below wr.heap.size wr (wr.alloc (.cells #[.int .i64 (a : Int), .int .i64 (b : Int), .int .i64 (c : Int)] 97)) := below_alloc _ _
                          refine (HH.out _ ⟨a, b, c⟩ (HQ.out _ hbr2).2.2.2.2.2 HCON.out).mono ?_
                          rintro e w4 ⟨rfl, hb4⟩
                          have v0 : w4.cell? ⟨wr.heap.size, 0, none⟩ = some (.int .i64 (a : Int)) := by rw [hb4.cell (p := ⟨wr.heap.size, 0, none⟩) (by simp)]; simp [go_sem]
                          have v1 : w4.cell? ⟨wr.heap.size, 1, none⟩ = some (.int .i64 (b : Int)) := by rw [hb4.cell (p := ⟨wr.heap.size, 1, none⟩) (by simp)]; simp [go_sem]
                          have v2 : w4.cell? ⟨wr.heap.size, 2, none⟩ = some (.int .i64 (c : Int)) := by rw [hb4.cell (p := ⟨wr.heap.size, 2, none⟩) (by simp)]; simp [go_sem]
                          have s4 : wr.heap.size < w4.heap.size := by have := hb4.size; simp at this; omega
                          have hbr4 : Below (B + 1) W2 w4 := hbr2.trans (hb4.mono (by simp; omega))
                          have HO4 : Hid (w4.ownsRow (B + 1) 99 4 vv O.length (cellsS O)) := own_lasts (own_lasts HO.out hbx) hb4
                          clear hb4 hbr2 hbx HO
                          generalize holdsF ps f r ⟨a, b, c⟩ = hx at *
                          cases hbo : bodyOk f ⟨a, b, c⟩ r.body
                          · have HN : Hid (stepsA f r n a ++ stepsB f r n a b ++ stepsC f r n a b (c + 1) = O) := by show _ = _; rw [HS.out false (HG.out.trans hbo), if_neg (by simp), List.append_nil]
                            clear HS HG
                            go_wp2_with fail
                            exact ⟨⟨c + 1, _, rfl, by omega, by go_num, by rw [HN.out]; exact own_lasts HO4.out (below_alloc _ _), hbr4.alloc (by omega) _⟩, by simp [intOf]; omega⟩
                          · have HN : Hid (stepsA f r n a ++ stepsB f r n a b ++ stepsC f r n a b (c + 1) = O ++ [⟨n, a, b, c⟩]) := by show _ = _; rw [HS.out true (HG.out.trans hbo), if_pos rfl]
                            clear HS HG
                            go_wp2_with (at_builtin; refine wpList_append_step _ rfl _ _ rfl (B + 1) vv O ⟨n, a, b, c⟩ (own_lasts (own_lasts HO4.out (below_alloc _ _)) (below_alloc _ _)) rfl (w4.heap.size + 1) rfl 99 (by have h := heap_alloc_new (w4.alloc (.cells #[.int .i64 hx.pred, .int .i64 hx.a, .int .i64 hx.b, .int .i64 hx.val] 44)) (.cells #[.int .i64 (n : Int), .int .i64 (a : Int), .int .i64 (b : Int), .int .i64 (c : Int)] 99); rw [World.size_alloc] at h; exact h) HLEN.out (by simp; omega) ?_; intro v5 w5 hown5 hgr5; have hx5 : Below (B + 1) W2 w5 := grown_below ((hbr4.alloc (by omega) _).alloc (by simp; omega) _) (own_lasts (own_lasts HO4.out (below_alloc _ _)) (below_alloc _ _)) hgr5 (by simp; omega))
                            exact ⟨⟨c + 1, _, rfl, by omega, by go_num, by rw [HN.out]; exact hown5, hx5⟩, by simp [intOf]; omega⟩
            · have gc4 : ¬ (c : Int) ≤ 4 := by omega
              have HO : Hid (wr.ownsRow (B + 1) 99 4 vv (stepsA f r n a ++ stepsB f r n a (b + 1)).length (cellsS (stepsA f r n a ++ stepsB f r n a (b + 1)))) := by
                obtain rfl : c = 5 := by omega
                rw [stepsB_succ, ← List.append_assoc]
                exact hown
              clear hown
              go_wp2_with fail
              exact ⟨⟨b + 1, _, rfl, by omega, by go_num, HO.out, hbr⟩, by simp [intOf]; omega⟩
        · have gb4 : ¬ (b : Int) ≤ 4 := by omega
          have HO : Hid (wr.ownsRow (B + 1) 99 4 vv (stepsA f r n (a + 1)).length (cellsS (stepsA f r n (a + 1)))) := by
            obtain rfl : b = 5 := by omega
            rw [stepsA_succ]
            exact hown
          clear hown
          go_wp2_with fail
          exact ⟨⟨a + 1, _, rfl, by omega, by go_num, HO.out, hbr⟩, by simp [intOf]; omega⟩
    · have ga4 : ¬ (a : Int) ≤ 4 := by omega
      have HO : Hid (stepsAt wr vv (allL f r n)) := by
        obtain rfl : a = 5 := by omega
        exact stepsAt_of hown (by have := stepsA_len f r n 5; show (stepsA f r n 5).length ≤ _; omega)
      clear hown
      obtain ⟨y0, y1, y2, y3, y4, hbw⟩ := HQ.out _ hbr
      go_wp2_with fail
      go_ret
      exact ⟨_, rfl, HO.out, hbw⟩
end Go.Proofs.YtlfccloaoopadagGreat.Fire

/-
  What the document's own 'OnceOf' answers.
-/
namespace Go.Proofs.YtlfccloaoopadagGreat.Round
open Go.ChangeShapes Go.WideShapes Go.ChangeAt Go.RowKit
open Rule (Vars ruleErr kindOf factFine)
open Base (factsNew factsNew.lasts factsErr addF addC own_lasts piece facts_piece wpList_append_piece cellsF factsAt_of grown_below)
open Fire (consts bodyOk headF holdsF allL Stp stepsAt stepAt step_cells mem_all holds_c allOf_c rules_right)
open Prog (progErr slice_cells intsAt edges)
open Strata (strataL at_)

/-- is a rule of that stratum? -/
def ofS (L : List Nat) (s : Int) (r : Rul) : Bool := decide ((at_ L r.head.pred.toNat : Int) = s)
theorem toldS_succ {ps : List Prd} {S : Rul → Bool} {f : List Fct} {rs : List Rul} {n : Nat} (h : n < rs.length) : toldS ps S f (rs.take (n + 1)) = toldS ps S f (rs.take n) ++ if S rs[n] then toldR ps f rs[n] else [] := by
  unfold toldS
  rw [List.take_add_one, List.getElem?_eq_getElem h, List.flatMap_append]
  simp
theorem toldR_at {ps : List Prd} {f : List Fct} {r : Rul} {n : Int} {k : Nat} (h : k < (allL f r n).length) : (toldR ps f r).take (k + 1) = (toldR ps f r).take k ++ [headF ps f r (allL f r n)[k].vars] := by
  rw [toldR_any ps f r n, List.take_add_one, List.getElem?_map, List.getElem?_eq_getElem h]
  rfl
theorem told_holds {ps : List Prd} {f : List Fct} {r : Rul} {n : Int} {k : Nat} (h : k < (allL f r n).length) : bodyOk f (allL f r n)[k].vars r.body = true ∧ consts (allL f r n)[k].vars = true ∧ holdsF ps f r (allL f r n)[k].vars = headF ps f r (allL f r n)[k].vars := by
  have hm := (mem_all.1 (List.getElem_mem h)).2
  refine ⟨hm.2.1, hm.1, ?_⟩
  rw [holdsF, if_pos hm.2.1]
theorem addAll_one (K : Int → Int) (f xs : List Fct) (x : Fct) : addAll K f (xs ++ [x]) = addF K x (addAll K f xs) := by rw [addAll_append]; rfl
theorem chgAll_one (K : Int → Int) (f xs : List Fct) (x : Fct) : chgAll K f (xs ++ [x]) = (chgAll K f xs || addC K x (addAll K f xs)) := by rw [chgAll_append]; simp [chgAll]

set_option maxRecDepth 100000 in
set_option maxHeartbeats 8000000 in
theorem onceOf_n (w : World) (pv rv fv : Value) (ps : List Prd) (rs : List Rul) (f : List Fct) (s : Int) (L : List Nat) (hp : predsAt w pv ps) (hr : rulesAt w rv rs) (hf : factsAt w fv f) (hpe : progErr ps rs = 0) (hfe : factsErr ps f = 0) (hL : strataL (edges rs) ps.length = some L) (hll : L.length = ps.length) :
    Calls Tryz.prog 19 #[.agg #[pv, rv], fv, .int .i64 s] w fun e w' => ∃ u, e = .returned (.tuple #[u, .bool (chgAll (kindOf ps) f (toldS ps (ofS L s) f rs))]) ∧ factsNew w.heap.size w' u (addAll (kindOf ps) f (toldS ps (ofS L s) f rs)) ∧ Below w.heap.size w w' := by
  have hre := rules_right hpe
  obtain ⟨z1, z2, z3⟩ := Prog.parts_zero (Prog.prog_zero hpe).1
  have HD : Hid (∀ x, Below w.heap.size w x → predsAt x pv ps ∧ rulesAt x rv rs ∧ factsAt x fv f) := fun x hx => ⟨predsAt.lasts hx hp, rulesAt.lasts hx hr, factsAt.lasts hx hf⟩
  have HST : Hid (∀ x, Below w.heap.size w x → Calls Tryz.prog 49 #[.agg #[pv, rv]] x fun e w' => (∃ v, e = .returned v ∧ intsAt w' v L) ∧ Below x.heap.size x w') := fun x hx => (Prog.strataOf_c x pv rv ps rs (HD.out x hx).1 (HD.out x hx).2.1 z1 z2 z3).mono fun _ _ ⟨⟨v, h1, h2⟩, h3⟩ => ⟨⟨v, h1, h2 L hL⟩, h3⟩
  have HALL : Hid (∀ x n, (hn : n < rs.length) → Below w.heap.size w x → Calls Tryz.prog 50 #[.agg #[pv, rv], fv, .int .i64 (n : Int)] x fun e w' => ∃ v, e = .returned v ∧ stepsAt w' v (allL f rs[n] n) ∧ Below x.heap.size x w') := fun x n hn hx => allOf_c x pv rv fv ps rs f n (HD.out x hx).1 (HD.out x hx).2.1 (HD.out x hx).2.2 hre hfe hn
  have HHO : Hid (∀ x n, (hn : n < rs.length) → ∀ v, consts v = true → Below w.heap.size w x → Calls Tryz.prog 51 #[.agg #[pv, rv], fv, .int .i64 (n : Int), .agg #[.int .i64 v.x, .int .i64 v.y, .int .i64 v.z]] x fun e w' => e = .returned (.tuple #[.bool (bodyOk f v rs[n].body), .agg #[.int .i64 (holdsF ps f rs[n] v).pred, .int .i64 (holdsF ps f rs[n] v).a, .int .i64 (holdsF ps f rs[n] v).b, .int .i64 (holdsF ps f rs[n] v).val]]) ∧ Below x.heap.size x w') := fun x n hn v hv hx => holds_c x pv rv fv ps rs f n v (HD.out x hx).1 (HD.out x hx).2.1 (HD.out x hx).2.2 hre hfe hn hv
  have HADD : Hid (∀ x g u y, factsNew w.heap.size x u g → factsErr ps g = 0 → factFine ps y = true → Below w.heap.size w x → Calls Tryz.prog 52 #[pv, u, .agg #[.int .i64 y.pred, .int .i64 y.a, .int .i64 y.b, .int .i64 y.val]] x fun e w' => ∃ u', e = .returned (.tuple #[u', .bool (addC (kindOf ps) y g)]) ∧ factsNew w.heap.size w' u' (addF (kindOf ps) y g) ∧ Below x.heap.size x w') := fun x g u y h1 h2 h3 hx => (Base.add_n x pv u ps g y.pred y.a y.b y.val (HD.out x hx).1 h1.1 h2 h3).mono fun _ _ ⟨u', h1, h2, h4, h3⟩ => ⟨u', h1, ⟨h2, (h4.mono hx.size).2⟩, h3⟩
  have HRE : Hid ((∀ r ∈ rs, ruleErr ps r = 0) ∧ factsErr ps f = 0) := ⟨hre, hfe⟩
  have HLEN : Hid (f.length ≤ 125) := Base.facts_short hfe
  have HPI : Hid (∀ x, Below w.heap.size w x → piece x fv f) := fun x hx => facts_piece (HD.out x hx).2.2
  have HPR : Hid (∀ r ∈ rs, ∃ e : Nat, r.head.pred = (e : Int) ∧ e < L.length) := fun r hr' => by
    obtain ⟨k, hk, e⟩ := Rule.isPred_iff.1 (Rule.atom_right (Fire.rule_parts (hre r hr')).1).1
    exact ⟨k, e, by omega⟩
  have HRC : Hid (∀ x n, (hn : n < rs.length) → Below w.heap.size w x → ∃ rb ro rc, rv = .slice (some ⟨rb, ro, none⟩) rs.length rc ∧ rb < w.heap.size ∧ x.cell? ⟨rb, ro + n * 5, none⟩ = some (.int .i64 rs[n].head.pred)) := fun x n hn hx => by
    obtain ⟨rb, ro, rc, e, hb, hc⟩ := slice_cells hr hn
    exact ⟨rb, ro, rc, e, hb, (cell_lasts hx hb).trans hc.1⟩
  clear hre hfe hpe z1 z2 z3 hL
  obtain ⟨pa, pc, rfl, _⟩ := hp
  obtain ⟨ra, rc, rfl, _⟩ := hr
  obtain ⟨fa, fc, rfl, _⟩ := hf
  go_enter Tryz.func19, Tryz.ntmps19
  go_wp2_with fail
  refine (HST.out _ (below_alloc _ _)).mono ?_
  rintro e w1 ⟨⟨vs, rfl, hints⟩, hb1⟩
  have k1 : Below w.heap.size w w1 := below_trans (below_alloc _ _) hb1
  have B1 := Prog.boxL hb1
  have HI : Hid (∀ x, Below w1.heap.size w1 x → intsAt x vs L) := fun x hx => intsAt.lasts hx hints
  obtain ⟨sa, sc, rfl, _⟩ := hints
  clear hb1 HST
  have HN : Hid ((w1.alloc (.cells #[] 44)).ownsRow w1.heap.size 44 4 (.slice (some ⟨w1.heap.size, 0, none⟩) 0 0) ([] : List Fct).length (cellsF [])) := ⟨rfl, .inr ⟨w1.heap.size, 0, #[], rfl, Nat.le_refl _, heap_alloc_new w1 _, Nat.le_refl _, Nat.zero_le _, rfl, rfl⟩⟩
  go_wp2_with (at_builtin; refine wpList_append_piece _ rfl _ _ rfl w1.heap.size (.slice (some ⟨w1.heap.size, 0, none⟩) 0 0) [] f HN.out rfl _ rfl (HPI.out _ (k1.alloc k1.size _)) (by have := HLEN.out; simp; omega) (by simp) ?_; intro v2 w2 hown2 hgr2; have hb2 : Below w1.heap.size w1 w2 := (below_alloc _ _).grown hgr2 (by simp) (fun k hk => by cases hk; exact Nat.le_refl _); clear hgr2)
  have HF2 : Hid (factsNew w.heap.size w2 v2 f) := ⟨factsAt_of hown2 (by have := HLEN.out; omega), (Base.new_own hown2 k1.size).2⟩
  clear hown2 HN
  have HTF : Hid (∀ n, factsErr ps (addAll (kindOf ps) f (toldS ps (ofS L s) f (rs.take n))) = 0) := fun n => addAll_right HRE.out.2 (toldS_fine (fun r hr => HRE.out.1 r (List.mem_of_mem_take hr)) HRE.out.2)
  go_loopw [9, 10, 11] (fun o c i wr => ∃ (n : Nat) (u : Value), u = o ∧ n ≤ rs.length ∧ i = .int .i64 n ∧ c = .bool (chgAll (kindOf ps) f (toldS ps (ofS L s) f (rs.take n))) ∧ factsNew w.heap.size wr u (addAll (kindOf ps) f (toldS ps (ofS L s) f (rs.take n))) ∧ Below w1.heap.size w1 wr) (fun _ _ i _ => rs.length - (intOf i).toNat)
  case atStart => exact ⟨0, v2, rfl, Nat.zero_le _, rfl, rfl, HF2.out, hb2⟩
  case round =>
    obtain ⟨n, u, rfl, hn, rfl, rfl, hfu, hbr⟩ := hrel
    have kr : Below w.heap.size w wr := k1.trans (hbr.mono k1.size)
    have BR := Prog.boxO hbr B1
    obtain ⟨c0, c1, hNr⟩ := id BR
    have HFU : Hid (factsNew w.heap.size wr u (addAll (kindOf ps) f (toldS ps (ofS L s) f (rs.take n)))) := hfu
    clear hfu
    by_cases hlt : n < rs.length
    · obtain ⟨rb, ro, rc', hrv, hrb, t0⟩ := HRC.out wr n hlt kr
      obtain ⟨rfl, rfl⟩ : ra = some ⟨rb, ro, none⟩ ∧ rc = rc' := by simpa using hrv
      clear hrv
      obtain ⟨e, hpe, hel⟩ := HPR.out rs[n] (List.getElem_mem hlt)
      rw [hpe] at t0
      obtain ⟨lb, lo, lc, hlv, hlb, l0⟩ := slice_cells (HI.out wr hbr) hel
      obtain ⟨rfl, rfl⟩ : sa = some ⟨lb, lo, none⟩ ∧ sc = lc := by simpa using hlv
      have l0' : wr.cell? ⟨lb, lo + e, none⟩ = some (.int .i64 (L[e] : Int)) := by have := l0; rwa [Nat.mul_one] at this
      clear hlv l0
      have hea : (at_ L rs[n].head.pred.toNat : Int) = (L[e] : Int) := by
        rw [hpe, Int.toNat_natCast]
        unfold at_
        simp [hel]
      have hel' : (e : Int) < (L.length : Int) := by omega
      have hn0 : (n : Int) < (rs.length : Int) := by omega
      have HSU : Hid (toldS ps (ofS L s) f (rs.take (n + 1)) = toldS ps (ofS L s) f (rs.take n) ++ if ofS L s rs[n] then toldR ps f rs[n] else []) := toldS_succ hlt
      by_cases hs : (L[e] : Int) = s
      · have HSN : Hid (toldS ps (ofS L s) f (rs.take (n + 1)) = toldS ps (ofS L s) f (rs.take n) ++ toldR ps f rs[n]) := by
          show _ = _
          rw [HSU.out, if_pos (by unfold ofS; rw [hea, hs]; simp)]
        have HA1 : Hid (∀ x, Below w.heap.size w x → Calls Tryz.prog 50 #[.agg #[.slice pa ps.length pc, .slice (some ⟨rb, ro, none⟩) rs.length rc], .slice fa f.length fc, .int .i64 (n : Int)] x fun e w' => ∃ v, e = .returned v ∧ stepsAt w' v (allL f rs[n] n) ∧ Below x.heap.size x w') := fun x hx => HALL.out x n hlt hx
        have HH1 : Hid (∀ x (v : Vars), consts v = true → Below w.heap.size w x → Calls Tryz.prog 51 #[.agg #[.slice pa ps.length pc, .slice (some ⟨rb, ro, none⟩) rs.length rc], .slice fa f.length fc, .int .i64 (n : Int), .agg #[.int .i64 v.x, .int .i64 v.y, .int .i64 v.z]] x fun e w' => e = .returned (.tuple #[.bool (bodyOk f v rs[n].body), .agg #[.int .i64 (holdsF ps f rs[n] v).pred, .int .i64 (holdsF ps f rs[n] v).a, .int .i64 (holdsF ps f rs[n] v).b, .int .i64 (holdsF ps f rs[n] v).val]]) ∧ Below x.heap.size x w') := fun x v hv hx => HHO.out x n hlt v hv hx
        have HTK : Hid (∀ k, factsErr ps (addAll (kindOf ps) f (toldS ps (ofS L s) f (rs.take n) ++ (toldR ps f rs[n]).take k)) = 0) := fun k => by
          rw [addAll_append]
          exact addAll_right (HTF.out n) fun x hx => told_fine (HRE.out.1 _ (List.getElem_mem hlt)) HRE.out.2 x (List.mem_of_mem_take hx)
        have HFN : Hid (∀ v, consts v = true → factFine ps (headF ps f rs[n] v) = true) := fun v hv => head_fine (HRE.out.1 _ (List.getElem_mem hlt)) HRE.out.2 hv
        clear HSU hea hpe HALL HHO
        generalize rs[n] = r at *
        generalize toldS ps (ofS L s) f (rs.take n) = T at *
        rw [hs] at l0'
        go_wp2_with fail
        refine (HA1.out _ kr).mono ?_
        rintro ex w3 ⟨vt, rfl, hst, hb3⟩
        have k3 : Below w.heap.size w w3 := kr.trans (hb3.mono kr.size)
        have B3 := Prog.boxO hb3 BR
        have HSA : Hid (∀ x, Below w3.heap.size w3 x → stepsAt x vt (allL f r n)) := fun x hx => Fire.stepsAt.lasts hx hst
        have HF3 : Hid (factsNew w.heap.size w3 u (addAll (kindOf ps) f T)) := factsNew.lasts hb3 HFU.out
        have h13 : Below w1.heap.size w1 w3 := hbr.trans (hb3.mono hbr.size)
        obtain ⟨ta, tc, rfl, _⟩ := hst
        clear hb3 c0 c1 t0 l0' HFU HA1
        have HRL : Hid ((toldR ps f r).length = (allL f r n).length) := by show _ = _; rw [toldR_any ps f r n, List.length_map]
        go_wp2_with fail
        go_loopw [9, 10, 13] (fun o c i wr3 => ∃ (k : Nat) (u : Value), u = o ∧ k ≤ (allL f r n).length ∧ i = .int .i64 k ∧ c = .bool (chgAll (kindOf ps) f (T ++ (toldR ps f r).take k)) ∧ factsNew w.heap.size wr3 u (addAll (kindOf ps) f (T ++ (toldR ps f r).take k)) ∧ Below w3.heap.size w3 wr3) (fun _ _ i _ => (allL f r n).length - (intOf i).toNat)
        case atStart => exact ⟨0, u, rfl, Nat.zero_le _, rfl, by simp, by simpa using HF3.out, Below.refl _ _⟩
        case round =>
          obtain ⟨k, u3, rfl, hk, rfl, rfl, hf3, hbr3⟩ := hrel
          have kr3 : Below w.heap.size w wr := k3.trans (hbr3.mono k3.size)
          have BR3 := Prog.boxO hbr3 B3
          have HF4 : Hid (factsNew w.heap.size wr u3 (addAll (kindOf ps) f (T ++ (toldR ps f r).take k))) := hf3
          clear hf3
          by_cases hlt3 : k < (allL f r n).length
          · obtain ⟨tb, to_, tc', htv, htb, q0, q1, q2, q3⟩ := step_cells (HSA.out _ hbr3) hlt3
            obtain ⟨rfl, rfl⟩ : ta = some ⟨tb, to_, none⟩ ∧ tc = tc' := by simpa using htv
            have HT1 : Hid (T ++ (toldR ps f r).take (k + 1) = T ++ (toldR ps f r).take k ++ [headF ps f r (allL f r n)[k].vars]) := by show _ = _; rw [toldR_at (n := (n : Int)) hlt3, List.append_assoc]
            obtain ⟨g1, g2, g3⟩ := told_holds (ps := ps) (n := (n : Int)) hlt3
            have HHK : Hid (∀ x, Below w.heap.size w x → Calls Tryz.prog 51 #[.agg #[.slice pa ps.length pc, .slice (some ⟨rb, ro, none⟩) rs.length rc], .slice fa f.length fc, .int .i64 (n : Int), .agg #[.int .i64 (allL f r n)[k].x, .int .i64 (allL f r n)[k].y, .int .i64 (allL f r n)[k].z]] x fun e w' => e = .returned (.tuple #[.bool true, .agg #[.int .i64 (headF ps f r (allL f r n)[k].vars).pred, .int .i64 (headF ps f r (allL f r n)[k].vars).a, .int .i64 (headF ps f r (allL f r n)[k].vars).b, .int .i64 (headF ps f r (allL f r n)[k].vars).val]]) ∧ Below x.heap.size x w') := fun x hx => by
              have h := HH1.out x (allL f r n)[k].vars g2 hx
              rw [g1, g3] at h
              exact h
            have HFK : Hid (factFine ps (headF ps f r (allL f r n)[k].vars) = true) := HFN.out _ g2
            generalize (allL f r n)[k] = sk at *
            generalize headF ps f r sk.vars = y at *
            have hk0 : (k : Int) < ((allL f r n).length : Int) := by omega
            obtain ⟨c0, c1, hNw⟩ := id BR3
            have HAD : Hid (∀ x, factsNew w.heap.size x u3 (addAll (kindOf ps) f (T ++ (toldR ps f r).take k)) → Below w.heap.size w x → Calls Tryz.prog 52 #[.slice pa ps.length pc, u3, .agg #[.int .i64 y.pred, .int .i64 y.a, .int .i64 y.b, .int .i64 y.val]] x fun e w' => ∃ u', e = .returned (.tuple #[u', .bool (addC (kindOf ps) y (addAll (kindOf ps) f (T ++ (toldR ps f r).take k)))]) ∧ factsNew w.heap.size w' u' (addF (kindOf ps) y (addAll (kindOf ps) f (T ++ (toldR ps f r).take k))) ∧ Below x.heap.size x w') := fun x h1 hx => HADD.out x _ u3 y h1 (HTK.out k) HFK.out hx
            have KEEP : Hid (∀ w' : World, Below wr.heap.size wr w' → w'.cell? ⟨w.heap.size, 0, none⟩ = some (.slice pa ps.length pc) ∧ w'.cell? ⟨w.heap.size, 1, none⟩ = some (.slice (some ⟨rb, ro, none⟩) rs.length rc) ∧ w'.cell? ⟨tb, to_ + k * 4 + 1, none⟩ = some (.int .i64 sk.x) ∧ w'.cell? ⟨tb, to_ + k * 4 + 2, none⟩ = some (.int .i64 sk.y) ∧ w'.cell? ⟨tb, to_ + k * 4 + 3, none⟩ = some (.int .i64 sk.z)) := fun w' hx => ⟨(cell_lasts hx hNw).trans c0, (cell_lasts hx hNw).trans c1, (cell_lasts hx htb).trans q1, (cell_lasts hx htb).trans q2, (cell_lasts hx htb).trans q3⟩
            have KA : Hid (Below wr.heap.size wr (wr.alloc (.cells #[.int .i64 0, .int .i64 0, .int .i64 0, .int .i64 0] 44))) := below_alloc _ _
            have KS : Hid (∀ x, Below wr.heap.size wr x → ∀ y0 y1 y2 y3, Below wr.heap.size wr ((((x.setCell ⟨wr.heap.size, 0, none⟩ y0).setCell ⟨wr.heap.size, 1, none⟩ y1).setCell ⟨wr.heap.size, 2, none⟩ y2).setCell ⟨wr.heap.size, 3, none⟩ y3)) := fun x hx y0 y1 y2 y3 => by
              have e : ∀ o, wr.heap.size ≤ (⟨wr.heap.size, o, none⟩ : Addr).block := fun _ => Nat.le_refl _
              exact (((hx.setCell (e _) _).setCell (e _) _).setCell (e _) _).setCell (e _) _
            have KZ : Hid (∀ x, Below (wr.alloc (.cells #[.int .i64 0, .int .i64 0, .int .i64 0, .int .i64 0] 44)).drew.heap.size (wr.alloc (.cells #[.int .i64 0, .int .i64 0, .int .i64 0, .int .i64 0] 44)).drew x → x.cell? ⟨wr.heap.size, 0, none⟩ = some (.int .i64 0) ∧ x.cell? ⟨wr.heap.size, 1, none⟩ = some (.int .i64 0) ∧ x.cell? ⟨wr.heap.size, 2, none⟩ = some (.int .i64 0) ∧ x.cell? ⟨wr.heap.size, 3, none⟩ = some (.int .i64 0) ∧ ∀ o, x.frozen? ⟨wr.heap.size, o, none⟩ = false) := fun x hx => by
              have hlt' : wr.heap.size < (wr.alloc (.cells #[.int .i64 0, .int .i64 0, .int .i64 0, .int .i64 0] 44)).drew.heap.size := by simp [World.drew]
              have e := fun o => cell_lasts hx (o := o) hlt'
              rw [e, e, e, e]
              refine ⟨?_, ?_, ?_, ?_, fun o => ?_⟩
              all_goals first | rw [(bcell hx).2 _ _ hlt'] | skip
              all_goals simp [go_sem]
            clear HH1 HFN HTK HADD g1 g2 g3 htv c0 c1 q0 q1 q2 q3
            go_wp2_with fail
            go_region_held3 (fun w' => w'.cell? ⟨w.heap.size, 0, none⟩ = some (.slice pa ps.length pc) ∧ w'.cell? ⟨w.heap.size, 1, none⟩ = some (.slice (some ⟨rb, ro, none⟩) rs.length rc) ∧ w'.cell? ⟨tb, to_ + k * 4 + 1, none⟩ = some (.int .i64 sk.x) ∧ w'.cell? ⟨tb, to_ + k * 4 + 2, none⟩ = some (.int .i64 sk.y) ∧ w'.cell? ⟨tb, to_ + k * 4 + 3, none⟩ = some (.int .i64 sk.z))
              (first | (refine KEEP.out _ ?_; (first | with_reducible exact Below.refl _ _ | with_reducible exact Below.drew (Below.refl _ _) | with_reducible exact hk | with_reducible exact KA.out | with_reducible exact Below.drew KA.out | with_reducible exact Below.alloc hk (Below.size hk) _ | with_reducible exact KS.out _ hk _ _ _ _)))
              (first | (go_at_call 51; refine (HHK.out _ (kr3.trans (KA.out.drew.mono kr3.size))).mono ?_; rintro ex w5 ⟨rfl, hb5⟩; have hk : Below wr.heap.size wr w5 := KA.out.trans ((((Below.refl _ _).drew).trans hb5).mono KA.out.size); obtain ⟨z0, z1, z2, z3, zf⟩ := KZ.out _ hb5) | (go_at_call 51; refine (HHK.out _ kr3.drew).mono ?_; rintro ex w5 ⟨rfl, hb5⟩; have hk : Below wr.heap.size wr w5 := ((Below.refl _ _).drew).trans hb5))
            · obtain ⟨W6, hW6⟩ : ∃ W6, w5.alloc (.cells #[.int .i64 y.pred, .int .i64 y.a, .int .i64 y.b, .int .i64 y.val] 44) = W6 := ⟨_, rfl⟩
              have k6 : Below wr.heap.size wr W6 := by rw [← hW6]; exact Below.alloc hk (Below.size hk) _
              obtain ⟨n0, n1, n2, n3⟩ : W6.cell? ⟨w5.heap.size, 0, none⟩ = some (.int .i64 y.pred) ∧ W6.cell? ⟨w5.heap.size, 1, none⟩ = some (.int .i64 y.a) ∧ W6.cell? ⟨w5.heap.size, 2, none⟩ = some (.int .i64 y.b) ∧ W6.cell? ⟨w5.heap.size, 3, none⟩ = some (.int .i64 y.val) := by rw [← hW6]; simp [go_sem]
              rw [hW6]
              obtain ⟨c0, c1, _⟩ := KEEP.out _ k6
              clear hW6
              have kw6 : Below w.heap.size w W6 := kr3.trans (k6.mono kr3.size)
              go_wp2_with fail
              refine (HAD.out W6 (factsNew.lasts k6 HF4.out) kw6).mono ?_
              rintro ex W7 ⟨u7, rfl, hf7, hb7⟩
              have k37 : Below w3.heap.size w3 W7 := hbr3.trans ((k6.trans (hb7.mono k6.size)).mono hbr3.size)
              go_wp2_with fail
              all_goals exact ⟨⟨k + 1, u7, rfl, by omega, by go_num, by rw [HT1.out, chgAll_one]; simp_all, by rw [HT1.out, addAll_one]; exact hf7, k37⟩, by simp [intOf]; omega⟩
            · obtain ⟨W6, hW6⟩ : ∃ W6, (((w5.setCell ⟨wr.heap.size, 0, none⟩ (.int .i64 y.pred)).setCell ⟨wr.heap.size, 1, none⟩ (.int .i64 y.a)).setCell ⟨wr.heap.size, 2, none⟩ (.int .i64 y.b)).setCell ⟨wr.heap.size, 3, none⟩ (.int .i64 y.val) = W6 := ⟨_, rfl⟩
              have k6 : Below wr.heap.size wr W6 := by rw [← hW6]; exact KS.out _ hk _ _ _ _
              obtain ⟨n0, n1, n2, n3⟩ : W6.cell? ⟨wr.heap.size, 0, none⟩ = some (.int .i64 y.pred) ∧ W6.cell? ⟨wr.heap.size, 1, none⟩ = some (.int .i64 y.a) ∧ W6.cell? ⟨wr.heap.size, 2, none⟩ = some (.int .i64 y.b) ∧ W6.cell? ⟨wr.heap.size, 3, none⟩ = some (.int .i64 y.val) := by rw [← hW6]; simp [go_sem, z0, z1, z2, z3]
              rw [hW6]
              obtain ⟨c0, c1, _⟩ := KEEP.out _ k6
              clear hW6
              have kw6 : Below w.heap.size w W6 := kr3.trans (k6.mono kr3.size)
              go_wp2_with fail
              refine (HAD.out W6 (factsNew.lasts k6 HF4.out) kw6).mono ?_
              rintro ex W7 ⟨u7, rfl, hf7, hb7⟩
              have k37 : Below w3.heap.size w3 W7 := hbr3.trans ((k6.trans (hb7.mono k6.size)).mono hbr3.size)
              go_wp2_with fail
              all_goals exact ⟨⟨k + 1, u7, rfl, by omega, by go_num, by rw [HT1.out, chgAll_one]; simp_all, by rw [HT1.out, addAll_one]; exact hf7, k37⟩, by simp [intOf]; omega⟩
          · obtain rfl : k = (allL f r n).length := by omega
            have HRT : Hid ((toldR ps f r).take (allL f r n).length = toldR ps f r) := List.take_of_length_le (by rw [HRL.out]; exact Nat.le_refl _)
            rw [HRT.out] at HF4 ⊢
            go_wp2_with fail
            exact ⟨⟨n + 1, u3, rfl, by omega, by go_num, by rw [HSN.out], by rw [HSN.out]; exact HF4.out, h13.trans (hbr3.mono h13.size)⟩, by simp [intOf]; omega⟩
      · have hsx : ((L[e] : Int) == s) = false := by simpa using hs
        have HSN : Hid (toldS ps (ofS L s) f (rs.take (n + 1)) = toldS ps (ofS L s) f (rs.take n)) := by
          show _ = _
          rw [HSU.out, if_neg (by unfold ofS; rw [hea]; simp [hs]), List.append_nil]
        clear HSU hea hpe HALL HHO
        go_wp2_with fail
        exact ⟨⟨n + 1, u, rfl, by omega, by go_num, by rw [HSN.out], by rw [HSN.out]; exact HFU.out, hbr⟩, by simp [intOf]; omega⟩
    · obtain rfl : n = rs.length := by omega
      rw [List.take_length] at HFU ⊢
      go_wp2_with fail
      refine bodyPost_ret (v := .tuple #[u, .bool (chgAll (kindOf ps) f (toldS ps (ofS L s) f rs))]) (by simp [results, Tryz.results19, go_sem]) rfl ?_
      exact ⟨u, rfl, HFU.out, kr⟩
theorem onceOf_c (w : World) (pv rv fv : Value) (ps : List Prd) (rs : List Rul) (f : List Fct) (s : Int) (L : List Nat) (hp : predsAt w pv ps) (hr : rulesAt w rv rs) (hf : factsAt w fv f) (hpe : progErr ps rs = 0) (hfe : factsErr ps f = 0) (hL : strataL (edges rs) ps.length = some L) (hll : L.length = ps.length) :
    Calls Tryz.prog 19 #[.agg #[pv, rv], fv, .int .i64 s] w fun e w' => ∃ u, e = .returned (.tuple #[u, .bool (chgAll (kindOf ps) f (toldS ps (ofS L s) f rs))]) ∧ factsAt w' u (addAll (kindOf ps) f (toldS ps (ofS L s) f rs)) ∧ Below w.heap.size w w' :=
  (onceOf_n w pv rv fv ps rs f s L hp hr hf hpe hfe hL hll).mono fun _ _ ⟨u, h1, h2, h3⟩ => ⟨u, h1, h2.1, h3⟩
end Go.Proofs.YtlfccloaoopadagGreat.Round

/-
  The small parts of the developers' package round: which rules are wanted, the iterator's making, and a copy of facts.
-/
namespace Go.Proofs.YtlfccloaoopadagGreat.Round
open Go.ChangeShapes Go.WideShapes Go.ChangeAt Go.RowKit
open Rule (Vars ruleErr kindOf factFine)
open Base (factsErr piece facts_piece wpList_append_piece cellsF factsAt_of)
open Prog (slice_cells intsAt)
open Strata (at_)

set_option maxRecDepth 100000 in
set_option maxHeartbeats 2000000 in
theorem once1_c (x : World) (Bs Bt e : Nat) (vs : Value) (L : List Nat) (s : Int) (r : Rul) (ha : Option Addr) (hn hc : Nat) (ba : Option Addr) (bn bc : Nat) (he : r.head.pred = (e : Int)) (hel : e < L.length) (h1 : x.cell? ⟨Bs, 0, none⟩ = some vs) (h2 : x.cell? ⟨Bt, 0, none⟩ = some (.int .i64 s)) (h3 : intsAt x vs L) (h4 : Bs < x.heap.size) (h5 : Bt < x.heap.size) :
    Calls Tryz.prog 43 #[.agg #[.int .i64 r.head.pred, .slice ha hn hc, .int .i64 r.src, .int .i64 r.n, .slice ba bn bc], .pointer (some ⟨Bs, 0, none⟩), .pointer (some ⟨Bt, 0, none⟩)] x fun e w' => e = .returned (.bool (ofS L s r)) ∧ Below x.heap.size x w' := by
  obtain ⟨lb, lo, lc, rfl, hlb, l0⟩ := slice_cells h3 hel
  have l0' : x.cell? ⟨lb, lo + e, none⟩ = some (.int .i64 (L[e] : Int)) := by have := l0; rwa [Nat.mul_one] at this
  have HE : Hid (ofS L s r = ((L[e] : Int) == s)) := by
    show _ = _
    unfold ofS at_
    rw [he, Int.toNat_natCast]
    simp [hel]
    rfl
  rw [he]
  obtain ⟨W1, hW1⟩ : ∃ W1, x.alloc (.cells #[.int .i64 (e : Int), .slice ha hn hc, .int .i64 r.src, .int .i64 r.n, .slice ba bn bc] 58) = W1 := ⟨_, rfl⟩
  have b1 : Below x.heap.size x W1 := by rw [← hW1]; exact below_alloc _ _
  have d0 : W1.cell? ⟨x.heap.size, 0, none⟩ = some (.int .i64 (e : Int)) := by rw [← hW1]; simp [go_sem]
  have c1 := (cell_lasts (o := 0) b1 h4).trans h1
  have c2 := (cell_lasts (o := 0) b1 h5).trans h2
  have c3 := (cell_lasts (o := lo + e) b1 hlb).trans l0'
  have hel' : (e : Int) < (L.length : Int) := by omega
  generalize L[e] = le at *
  clear h1 h2 h3 l0 l0' h4 h5 hlb
  go_enter Tryz.func43, Tryz.ntmps43
  go_wp2_with fail
  clear hW1
  go_quiet (fail)
  go_wp2_with fail
  go_ret
  refine ⟨?_, b1.trans ⟨rfl, rfl, rfl, Nat.le_refl _, fun _ _ => rfl⟩⟩
  rw [HE.out]
  rfl

theorem closed1_c (x : World) (p sr n : Int) (ha : Option Addr) (hn hc : Nat) (ba : Option Addr) (bn bc : Nat) :
    Calls Tryz.prog 80 #[.agg #[.int .i64 p, .slice ha hn hc, .int .i64 sr, .int .i64 n, .slice ba bn bc]] x fun e w' => e = .returned (.bool true) ∧ Below x.heap.size x w' := by
  go_enter Tryz.func80, Tryz.ntmps80
  go_wp2_with fail
  go_ret
  exact ⟨rfl, below_alloc _ _⟩

theorem told_c (w : World) (pa : Option Addr) (pn pc : Nat) (ra : Option Addr) (rn rc : Nat) (fa : Option Addr) (fn fc : Nat) (g : Nat) (lb : Array Value) : Calls Tryz.prog 45 #[.agg #[.slice pa pn pc, .slice ra rn rc], .slice fa fn fc, .func (.func g) #[] lb] w fun e w' => e = .returned (.func (.func 81) #[] #[.pointer (some ⟨w.heap.size, 0, none⟩), .pointer (some ⟨w.heap.size + 1 + 1, 0, none⟩), .pointer (some ⟨w.heap.size + 1, 0, none⟩)]) ∧
    w' = ((w.alloc (.cells #[.slice pa pn pc, .slice ra rn rc] 25)).alloc (.cells #[.slice fa fn fc] 30)).alloc (.cells #[.func (.func g) #[] lb] 84) := by
  go_enter Tryz.func45, Tryz.ntmps45
  go_wp2_with fail
  go_ret
  exact ⟨rfl, rfl⟩

set_option maxRecDepth 100000 in
set_option maxHeartbeats 4000000 in
theorem cloneF_w (w : World) (fv : Value) (f : List Fct) (hf : factsAt w fv f) (h1 : f.length ≤ 500) :
    Calls Tryz.prog 44 #[fv] w fun e w' => ∃ v, e = .returned v ∧ factsAt w' v f ∧ Base.capNew w.heap.size v ∧ Base.rowW w' v ∧ Below w.heap.size w w' := by
  have HP : Hid (piece w fv f) := facts_piece hf
  obtain ⟨fa, fc, rfl, hfm, hfx⟩ := hf
  cases fa with
  | none =>
    have hf0 : f = [] := by
      rcases hfx with h | ⟨b, off, h, _⟩
      · exact h
      · cases h
    subst hf0
    have hnil : ∀ w', Sem.run Tryz.prog (binOp .eql 30 (.slice none 0 fc) (.slice none 0 0)) w' = .ok (.bool true) w' := fun w' => by
      have h : ∀ d : Nat, (Op.equalIn (d + 1) 30 (.slice none 0 fc) (.slice none 0 0)).run Tryz.prog w' = .ok true w' := fun d => by
        simp [Op.equalIn, run_underlying Tryz.underlying30]
      simp only [binOp]
      simp [Op.equal, Op.maxDepth, h 9999]
    clear h1 hfm HP hfx
    simp only [List.length_nil]
    go_enter Tryz.func44, Tryz.ntmps44
    go_wp2_with fail
    go_ret
    exact ⟨.slice none 0 0, rfl, Base.facts_nil _, Base.new_nil _, Base.rowW_nil _, Below.refl _ _⟩
  | some ad =>
    clear hfx
    have hnil : ∀ w', Sem.run Tryz.prog (binOp .eql 30 (.slice (some ad) f.length fc) (.slice none 0 0)) w' = .ok (.bool false) w' := fun w' => by
      have h : ∀ d : Nat, (Op.equalIn (d + 1) 30 (.slice (some ad) f.length fc) (.slice none 0 0)).run Tryz.prog w' = .ok false w' := fun d => by
        simp [Op.equalIn, run_underlying Tryz.underlying30]
      simp only [binOp]
      simp [Op.equal, Op.maxDepth, h 9999]
    go_enter Tryz.func44, Tryz.ntmps44
    have HN : Hid ((w.alloc (.cells #[] 44)).ownsRow w.heap.size 44 4 (.slice (some ⟨w.heap.size, 0, none⟩) 0 0) ([] : List Fct).length (cellsF [])) := ⟨rfl, .inr ⟨w.heap.size, 0, #[], rfl, Nat.le_refl _, heap_alloc_new w _, Nat.le_refl _, Nat.zero_le _, rfl, rfl⟩⟩
    go_wp2_with (at_builtin; refine wpList_append_piece _ rfl _ _ rfl w.heap.size (.slice (some ⟨w.heap.size, 0, none⟩) 0 0) [] f HN.out rfl _ rfl (HP.out.lasts (below_alloc _ _)) (by simp; omega) (by simp) ?_; intro v1 w1 hown1 hgr1; have hb1 : Below w.heap.size w w1 := (below_alloc _ _).grown hgr1 (by simp) (fun k hk => by cases hk; exact Nat.le_refl _); clear hgr1)
    go_ret
    exact ⟨v1, rfl, factsAt_of hown1 (by show f.length ≤ _; omega), Base.new_own hown1 (Nat.le_refl _), Base.rowW_own hown1, hb1⟩
theorem cloneF_n (w : World) (fv : Value) (f : List Fct) (hf : factsAt w fv f) (h1 : f.length ≤ 500) :
    Calls Tryz.prog 44 #[fv] w fun e w' => ∃ v, e = .returned v ∧ factsAt w' v f ∧ Base.capNew w.heap.size v ∧ Below w.heap.size w w' :=
  (cloneF_w w fv f hf h1).mono fun _ _ ⟨v, h1, h2, h3, _, h4⟩ => ⟨v, h1, h2, h3, h4⟩
end Go.Proofs.YtlfccloaoopadagGreat.Round

/-
  What the document's own 'ClosedOf' answers.
-/
namespace Go.Proofs.YtlfccloaoopadagGreat.Round
open Go.ChangeShapes Go.WideShapes Go.ChangeAt Go.RowKit
open Rule (Vars ruleErr kindOf factFine)
open Base (factsErr under underOne)
open Fire (consts bodyOk headF holdsF allL Stp stepsAt stepAt step_cells mem_all holds_c allOf_c rules_right)
open Prog (progErr slice_cells)

theorem under_append (K : Int → Int) (xs ys f : List Fct) : under K (xs ++ ys) f = (under K xs f && under K ys f) := by unfold under; rw [List.all_append]
theorem under_one (K : Int → Int) (x : Fct) (f : List Fct) : under K [x] f = underOne K f x := by unfold under; simp
theorem facts_new (w : World) (x : Fct) : factsAt (w.alloc (.cells #[.int .i64 x.pred, .int .i64 x.a, .int .i64 x.b, .int .i64 x.val] 44)) (.slice (some ⟨w.heap.size, 0, none⟩) 1 1) [x] := by
  refine ⟨_, 1, rfl, by simp, .inr ⟨w.heap.size, 0, rfl, by simp, fun i y hi => ?_⟩⟩
  match i, hi with
  | 0, hi =>
    obtain rfl : x = y := by simpa using hi
    refine ⟨?_, ?_, ?_, ?_⟩ <;> simp [go_sem]
  | i + 1, hi => simp at hi

end Go.Proofs.YtlfccloaoopadagGreat.Round

/-
  What must be in any case of package base.
-/
namespace Go.Proofs.YtlfccloaoopadagGreat.Base
open Go.ChangeShapes Go.WideShapes Go.ChangeAt Go.RowKit
open Lat (within within_c join)
open Rule (factFine factFine_c isPred kindOf arityOf isPred_iff)

def pathsL : List Fct := [⟨0, 0, 1, 0⟩, ⟨0, 1, 2, 0⟩, ⟨1, 0, 1, 4⟩]
def pathsM : List Fct := [⟨0, 0, 1, 0⟩, ⟨0, 1, 2, 0⟩, ⟨1, 0, 1, 2⟩]
theorem paths_c (w : World) : Calls Tryz.prog 39 #[] w fun e w' => ∃ v, e = .returned v ∧ factsAt w' v pathsL ∧ capOk v ∧ Below w.heap.size w w' := by
  go_enter Tryz.func39, Tryz.ntmps39
  go_wp2_with fail
  go_ret
  refine ⟨_, rfl, ⟨_, 3, rfl, by decide, .inr ⟨w.heap.size, 0, rfl, by simp, ?_⟩⟩, ⟨_, _, 3, rfl, Nat.le_refl _, fun h => by cases h⟩, below_alloc _ _⟩
  intro i x hi
  match i, hi with
  | 0, hi =>
    obtain rfl : (⟨0, 0, 1, 0⟩ : Fct) = x := by simpa [pathsL] using hi
    refine ⟨?_, ?_, ?_, ?_⟩ <;> simp [go_sem]
  | 1, hi =>
    obtain rfl : (⟨0, 1, 2, 0⟩ : Fct) = x := by simpa [pathsL] using hi
    refine ⟨?_, ?_, ?_, ?_⟩ <;> simp [go_sem]
  | 2, hi =>
    obtain rfl : (⟨1, 0, 1, 4⟩ : Fct) = x := by simpa [pathsL] using hi
    refine ⟨?_, ?_, ?_, ?_⟩ <;> simp [go_sem]
  | i + 3, hi => simp [pathsL] at hi

theorem b1 : findOf Roads.preds pathsL ⟨1, 0, 1, 0⟩ = (4, true, 0) := by decide
theorem b2 : addOf Roads.preds pathsL ⟨1, 0, 1, 2⟩ = (pathsM, true, 0) := rfl
theorem b3 : (addOf Roads.preds pathsL ⟨1, 0, 1, 9⟩).2 = (false, 0) := by decide
theorem b4 : underOf Roads.preds pathsL pathsM = (true, 0) := by decide
theorem b5 : underOf Roads.preds pathsM pathsL = (false, 0) := by decide
theorem b6 : (addOf Roads.preds pathsL ⟨2, 0, 1, 0⟩).2.2 = 1 := by decide
theorem b7 : factsErr Roads.preds pathsL = 0 := by decide

end Go.Proofs.YtlfccloaoopadagGreat.Base
