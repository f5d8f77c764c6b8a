/-
  New lists of facts: what the library's slices.Grow, slices.Concat and slices.Clone lay in memory.
-/
import Derived.Deep.AppendLies
import Derived.Deep.DeepAppendWide
import Derived.Test.YtlfccloaoopadafGreatDoorG26
import Derived.Test.YtlfccloaoopadafGreatDoorG30
namespace Go.Proofs.YtlfccloaoopadafGreatDoor.Base
open Go.ChangeShapes Go.WideShapes Go.ChangeAt Go.RowKit

def cellsF : List Fct → List Value
  | [] => []
  | x :: l => .int .i64 x.pred :: .int .i64 x.a :: .int .i64 x.b :: .int .i64 x.val :: cellsF l
theorem cellsF_length : ∀ l, (cellsF l).length = l.length * 4
  | [] => rfl
  | x :: l => by simp only [cellsF, List.length_cons, cellsF_length l]; omega
theorem cellsF_append : ∀ l m, cellsF (l ++ m) = cellsF l ++ cellsF m
  | [], m => rfl
  | x :: l, m => by simp only [List.cons_append, cellsF, cellsF_append l m]
theorem cellsF_one : ∀ l, ∀ u ∈ cellsF l, u.oneCell' = true
  | [], u, h => by cases h
  | x :: l, u, h => by
    simp only [cellsF, List.mem_cons] at h
    rcases h with rfl | rfl | rfl | rfl | h
    · rfl
    · rfl
    · rfl
    · rfl
    · exact cellsF_one l u h
theorem cellsF_at : ∀ (l : List Fct) (i : Nat) (x : Fct), l[i]? = some x → (cellsF l)[i * 4]? = some (.int .i64 x.pred) ∧ (cellsF l)[i * 4 + 1]? = some (.int .i64 x.a) ∧ (cellsF l)[i * 4 + 2]? = some (.int .i64 x.b) ∧ (cellsF l)[i * 4 + 3]? = some (.int .i64 x.val)
  | [], i, x, h => by simp at h
  | y :: l, 0, x, h => by
    obtain rfl : y = x := by simpa using h
    exact ⟨rfl, rfl, rfl, rfl⟩
  | y :: l, i + 1, x, h => by
    have := cellsF_at l i x (by simpa using h)
    rw [show (i + 1) * 4 = i * 4 + 4 by omega]
    simpa [cellsF] using this
theorem cellsF_get : ∀ (l : List Fct) (j : Nat) (u : Value), (cellsF l)[j]? = some u → ∃ i x, l[i]? = some x ∧ ((j = i * 4 ∧ u = .int .i64 x.pred) ∨ (j = i * 4 + 1 ∧ u = .int .i64 x.a) ∨ (j = i * 4 + 2 ∧ u = .int .i64 x.b) ∨ (j = i * 4 + 3 ∧ u = .int .i64 x.val))
  | [], j, u, h => by simp [cellsF] at h
  | y :: l, 0, u, h => ⟨0, y, rfl, .inl ⟨rfl, by simpa [cellsF] using h.symm⟩⟩
  | y :: l, 1, u, h => ⟨0, y, rfl, .inr (.inl ⟨rfl, by simpa [cellsF] using h.symm⟩)⟩
  | y :: l, 2, u, h => ⟨0, y, rfl, .inr (.inr (.inl ⟨rfl, by simpa [cellsF] using h.symm⟩))⟩
  | y :: l, 3, u, h => ⟨0, y, rfl, .inr (.inr (.inr ⟨rfl, by simpa [cellsF] using h.symm⟩))⟩
  | y :: l, j + 4, u, h => by
    obtain ⟨i, x, hx, hr⟩ := cellsF_get l j u (by simpa [cellsF] using h)
    refine ⟨i + 1, x, by simpa using hx, ?_⟩
    rcases hr with ⟨rfl, rfl⟩ | ⟨rfl, rfl⟩ | ⟨rfl, rfl⟩ | ⟨rfl, rfl⟩
    · exact .inl ⟨by omega, rfl⟩
    · exact .inr (.inl ⟨by omega, rfl⟩)
    · exact .inr (.inr (.inl ⟨by omega, rfl⟩))
    · exact .inr (.inr (.inr ⟨by omega, rfl⟩))
theorem add_none (b off i : Nat) : (⟨b, off, none⟩ : Addr).add i = ⟨b, off + i, none⟩ := by simp [Addr.add]

/-- v holds the facts xs somewhere in memory -/
def piece (w : World) (v : Value) (xs : List Fct) : Prop :=
  (∃ c, v = .slice none 0 c ∧ xs = []) ∨ ∃ ad c, v = .slice (some ad) xs.length c ∧ ∀ j u, (cellsF xs)[j]? = some u → w.cell? (ad.add j) = some u
theorem addr_lt {w : World} {p : Addr} {v : Value} (h : w.cell? p = some v) : p.block < w.heap.size := by
  refine Classical.byContradiction fun hn => ?_
  have : w.heap[p.block]? = none := by simp; omega
  simp [World.cell?, this] at h
theorem piece.lasts {w w' : World} {v : Value} {xs : List Fct} (h : piece w v xs) (hb : Below w.heap.size w w') : piece w' v xs := by
  rcases h with h | ⟨ad, c, h1, h2⟩
  · exact .inl h
  · exact .inr ⟨ad, c, h1, fun j u hu => (hb.cell (addr_lt (h2 j u hu))).trans (h2 j u hu)⟩
theorem facts_cells {w : World} {b off : Nat} {xs : List Fct} (h : ∀ i x, xs[i]? = some x → factAt w b (off + i * 4) x) : ∀ j u, (cellsF xs)[j]? = some u → w.cell? ((⟨b, off, none⟩ : Addr).add j) = some u := by
  intro j u hu
  obtain ⟨i, x, hx, hr⟩ := cellsF_get xs j u hu
  obtain ⟨c0, c1, c2, c3⟩ := h i x hx
  rw [add_none]
  rcases hr with ⟨rfl, rfl⟩ | ⟨rfl, rfl⟩ | ⟨rfl, rfl⟩ | ⟨rfl, rfl⟩
  · exact c0
  · exact c1
  · exact c2
  · exact c3
theorem facts_piece {w : World} {v : Value} {xs : List Fct} (h : factsAt w v xs) : piece w v xs := by
  obtain ⟨a, c, rfl, _, hx⟩ := h
  rcases hx with rfl | ⟨b, off, rfl, _, hx⟩
  · cases a with
    | none => exact .inl ⟨c, rfl, rfl⟩
    | some ad => exact .inr ⟨ad, c, rfl, fun j u hu => by simp [cellsF] at hu⟩
  · exact .inr ⟨_, c, rfl, facts_cells hx⟩
/-- a row of the call's own is a list of facts -/
theorem factsAt_of {w : World} {base : Nat} {e : TypeId} {v : Value} {l : List Fct} (h : w.ownsRow base e 4 v l.length (cellsF l)) (hl : l.length ≤ 140737488355328) : factsAt w v l := by
  obtain ⟨h0, h1⟩ := h
  rcases h1 with ⟨rfl, hn⟩ | ⟨g, cap, cur, rfl, hb, hg, hc, hm, hsz, htk⟩
  · have : l = [] := List.eq_nil_of_length_eq_zero hn
    subst this
    exact ⟨none, 0, rfl, by simp, .inl rfl⟩
  · refine ⟨_, cap, rfl, hl, .inr ⟨g, 0, rfl, (Array.getElem?_eq_some_iff.1 hg).1, ?_⟩⟩
    intro i x hi
    have hcell : ∀ j z, (cellsF l)[j]? = some z → w.cell? ⟨g, 0 + j, none⟩ = some z := by
      intro j z hz
      rw [← htk] at hz
      have hj : j < l.length * 4 := by
        have := (List.getElem?_eq_some_iff.1 hz).1
        simp at this
        omega
      rw [List.getElem?_take_of_lt hj] at hz
      simp [World.cell?, hg]
      simpa using hz
    obtain ⟨k0, k1, k2, k3⟩ := cellsF_at l i x hi
    exact ⟨hcell _ _ k0, hcell _ _ k1, hcell _ _ k2, hcell _ _ k3⟩

theorem infoFact : (Tryz.prog.info? 82).map (fun i => (i.zero, i.size, i.bytes)) = some (some (.agg #[.int .i64 0, .int .i64 0, .int .i64 0, .int .i64 0]), 4, 32) := by kernel_rfl

section
variable {P : Program}
theorem run_append_zeros (w : World) (t u ty e : TypeId) (k : IntKind) (i : TypeInfo) (z : Value) (ht : P.underlying t = some (.slice e)) (hu : P.underlying u = some (.int k)) (hi : P.info? e = some i) (hz : i.zero = some z) (hs : 0 < i.size)
    (n : Nat) (h0 : 0 < n) (h63 : (n : Int) ≤ 1000) (hb : i.bytes ≤ 1000) :
    (Builtin.append_ #[t, u] ty #[.slice none 0 0, .int .i64 n]).run P w =
      .ok (.slice (some ⟨w.heap.size, 0, none⟩) n (grownCap w n 0 e)) (w.drew.alloc (.cells (Builtin.zeroCells z.cells n ++ Builtin.zeroCells z.cells (grownCap w n 0 e - n)) e)) := by
  have hn : n ≠ 0 := by omega
  have h63' : ¬ (9223372036854775807 < (n : Int)) := by omega
  have hle : n * i.bytes ≤ 1000 * 1000 := Nat.mul_le_mul (by omega) hb
  have h48' : ¬ (281474976710656 < Builtin.nextslicecap n 0 * i.bytes) := by rw [nextslicecap_zero h0]; omega
  have hw : IntKind.i64.wrap (n : Int) = n := by rw [IntKind.wrap_i64]; omega
  have hle' : ¬ (281474976710656 < (n : Int) * (i.bytes : Int)) := by
    have : ((n * i.bytes : Nat) : Int) = (n : Int) * (i.bytes : Int) := by push_cast; rfl
    omega
  have hne : n * i.size ≠ 0 := Nat.mul_ne_zero hn (by omega)
  simp [Builtin.append_, run_underlying ht, run_underlying hu, sizeOf, typeInfo, zeroValue, hi, hz, asInt, asIntOf, hw, hn, h63', h48', hle', hne, Question.forced, run_firstCells_none, newRow, grownCap]
  intro hneg
  omega

theorem wpList_append_zeros (w : World) {ops : Array Oper} {rest : List Oper} {o : Oper} {a : Act} {Q : Exit → Act → World → Prop} (hgd : o.guard = none) (s x : Operand) (t u : TypeId)
    (ho : o.op = .call { callee := .builtin .append, args := #[s, x], argTypes := #[t, u] }) (e : TypeId) (k : IntKind) (i : TypeInfo) (z : Value) (ht : P.underlying t = some (.slice e)) (hu : P.underlying u = some (.int k)) (hi : P.info? e = some i) (hz : i.zero = some z) (hs : 0 < i.size)
    (n : Nat) (h0 : 0 < n) (h63 : (n : Int) ≤ 1000) (hb : i.bytes ≤ 1000) (hsv : a.eval s = .slice none 0 0) (hxv : a.eval x = .int .i64 n)
    (h : wpList P ops Q rest (a.put o.dst (.slice (some ⟨w.heap.size, 0, none⟩) n (grownCap w n 0 e))) (w.drew.alloc (.cells (Builtin.zeroCells z.cells n ++ Builtin.zeroCells z.cells (grownCap w n 0 e - n)) e))) : wpList P ops Q (o :: rest) a w :=
  wpList_plain hgd fun _ hK => by
    have hr := run_append_zeros (P := P) w t u o.type e k i z ht hu hi hz hs n h0 h63 hb
    unfold Oper.wp execOp
    simp only [ho, resolve, invoke, builtin, Sem.run_bind, Sem.run_pure, Result.andThen_ok, List.map_toArray, List.map_cons, List.map_nil, hsv, hxv, hr]
    exact hK _ _ h

theorem wpList_append_none (w : World) {ops : Array Oper} {rest : List Oper} {o : Oper} {a : Act} {Q : Exit → Act → World → Prop} (hgd : o.guard = none) (s x : Operand) (t : TypeId)
    (ho : o.op = .call { callee := .builtin .append, args := #[s, x], argTypes := #[t, t] }) (e : TypeId) (i : TypeInfo) (ht : P.underlying t = some (.slice e)) (hi : P.info? e = some i)
    (ad : Option Addr) (n cap c : Nat) (hn : n ≤ cap) (hsv : a.eval s = .slice ad n cap) (hxv : a.eval x = .slice none 0 c)
    (h : wpList P ops Q rest (a.put o.dst (.slice ad n cap)) w) : wpList P ops Q (o :: rest) a w :=
  wpList_plain hgd fun _ hK => by
    have hr : (Builtin.append_ #[t, t] o.type #[.slice ad n cap, .slice none 0 c]).run P w = .ok (.slice ad n cap) w := by
      cases ad <;> simp [Builtin.append_, run_underlying ht, sizeOf, typeInfo, hi, Builtin.lenOf, Builtin.firstCells, hn, storeCells]
    unfold Oper.wp execOp
    simp only [ho, resolve, invoke, builtin, Sem.run_bind, Sem.run_pure, Result.andThen_ok, List.map_toArray, List.map_cons, List.map_nil, hsv, hxv, hr]
    exact hK _ _ h
end

theorem wpList_append_piece (w : World) {ops : Array Oper} {rest : List Oper} {o : Oper} {a : Act} {Q : Exit → Act → World → Prop} (hgd : o.guard = none) (s x : Operand)
    (ho : o.op = .call { callee := .builtin .append, args := #[s, x], argTypes := #[38, 38] }) (base : Nat) (v : Value) (xs ys : List Fct) (hown : w.ownsRow base 82 4 v xs.length (cellsF xs)) (hs : a.eval s = v) (y : Value) (hy : a.eval x = y) (hp : piece w y ys)
    (hb : xs.length + ys.length ≤ 1000) (hbase : base ≤ w.heap.size)
    (h : ∀ v' w', w'.ownsRow base 82 4 v' (xs ++ ys).length (cellsF (xs ++ ys)) → w.grownBy w' v.ownBlock → wpList Tryz.prog ops Q rest (a.put o.dst v') w') : wpList Tryz.prog ops Q (o :: rest) a w := by
  obtain ⟨i, hi, hz, hsz, hby⟩ := info_parts infoFact
  rcases hp with ⟨c, rfl, rfl⟩ | ⟨ad, c, rfl, hc⟩
  · have hown' := hown
    rcases hown.2 with ⟨rfl, h0⟩ | ⟨g, cap, cur, rfl, h1, h2, h3, h4, h5, h6⟩
    · refine wpList_append_none w hgd s x 38 ho 82 i Tryz.underlying38 hi none 0 0 c (Nat.le_refl _) hs hy ?_
      exact h _ w (by rw [List.append_nil]; exact hown') ⟨rfl, rfl, rfl, Nat.le_refl _, fun _ _ _ => rfl⟩
    · refine wpList_append_none w hgd s x 38 ho 82 i Tryz.underlying38 hi (some ⟨g, 0, none⟩) xs.length cap c h3 hs hy ?_
      exact h _ w (by rw [List.append_nil]; exact hown') ⟨rfl, rfl, rfl, Nat.le_refl _, fun _ _ _ => rfl⟩
  · refine wpList_append_own_wide w hgd s x 38 ho base 82 i _ 4 32 Tryz.underlying38 hi hz hsz hby rfl (by omega) v xs.length (cellsF xs) hs hown ad ys.length c (cellsF ys) hy (cellsF_length ys) hc (cellsF_one ys) (by unfold maxLen; omega) (by omega) hbase ?_
    intro v' w' h1 h2 _
    exact h v' w' (by rw [List.length_append, cellsF_append]; exact h1) h2

set_option maxRecDepth 100000 in
set_option maxHeartbeats 4000000 in
theorem grow_c (w : World) (n : Nat) (h0 : 0 < n) (h1 : n ≤ 1000) :
    Calls Tryz.prog 148 #[.slice none 0 0, .int .i64 n] w fun e w' => ∃ v, e = .returned v ∧ w'.ownsRow w.heap.size 82 4 v 0 [] ∧ Below w.heap.size w w' := by
  obtain ⟨i, hi, hz, hsz, hby⟩ := info_parts infoFact
  have h0' : (0 : Int) < (n : Int) := by omega
  have h0'' : ¬ (n : Int) < 0 := by omega
  have hge := grownCap_ge w n 0 82
  have hcm : grownCap w n 0 82 ≤ maxLen := grownCap_le_maxLen w n 0 82 (by unfold maxLen; omega)
  go_enter Tryz.func148, Tryz.ntmps148
  go_wp2_with (at_builtin; refine wpList_append_zeros _ rfl _ _ 38 3 rfl 82 .i64 i _ Tryz.underlying38 Tryz.underlying3 hi hz (by omega) n h0 (by omega) (by omega) rfl rfl ?_)
  go_ret
  refine ⟨_, rfl, ⟨rfl, .inr ⟨w.heap.size, _, _, rfl, Nat.le_refl _, heap_alloc_new w.drew _, Nat.zero_le _, hcm, ?_, by simp⟩⟩, ((Below.refl _ _).drew).alloc (Nat.le_refl _) _⟩
  have e4 : #[Value.int .i64 0, .int .i64 0, .int .i64 0, .int .i64 0].size = 4 := rfl
  rw [Array.size_append, size_zeroCells, size_zeroCells, e4]
  omega

set_option maxRecDepth 100000 in
set_option maxHeartbeats 4000000 in
theorem clone_c (w : World) (fv : Value) (f : List Fct) (hf : factsAt w fv f) (h0 : 0 < f.length) (h1 : f.length ≤ 500) :
    Calls Tryz.prog 98 #[fv] w fun e w' => ∃ v, e = .returned v ∧ w'.ownsRow w.heap.size 82 4 v f.length (cellsF f) ∧ Below w.heap.size w w' := by
  have HP : Hid (piece w fv f) := facts_piece hf
  obtain ⟨fa, fc, rfl, hfm, hfx⟩ := hf
  obtain ⟨b, off, rfl, hbl, _⟩ := hfx.resolve_left (by rintro rfl; simp at h0)
  clear hfx
  have hnil : ∀ w', Sem.run Tryz.prog (binOp .eql 38 (.slice (some ⟨b, off, none⟩) f.length fc) (.slice none 0 0)) w' = .ok (.bool false) w' := fun w' => by
    have h : ∀ d : Nat, (Op.equalIn (d + 1) 38 (.slice (some ⟨b, off, none⟩) f.length fc) (.slice none 0 0)).run Tryz.prog w' = .ok false w' := fun d => by
      simp [Op.equalIn, run_underlying Tryz.underlying38]
    simp only [binOp]
    simp [Op.equal, Op.maxDepth, h 9999]
  go_enter Tryz.func98, Tryz.ntmps98
  have HN : Hid ((w.alloc (.cells #[] 82)).ownsRow w.heap.size 82 4 (.slice (some ⟨w.heap.size, 0, none⟩) 0 0) ([] : List Fct).length (cellsF [])) := ⟨rfl, .inr ⟨w.heap.size, 0, #[], rfl, Nat.le_refl _, heap_alloc_new w _, Nat.le_refl _, Nat.zero_le _, rfl, rfl⟩⟩
  go_wp2_with (at_builtin; refine wpList_append_piece _ rfl _ _ rfl w.heap.size (.slice (some ⟨w.heap.size, 0, none⟩) 0 0) [] f HN.out rfl _ rfl (HP.out.lasts (below_alloc _ _)) (by simp; omega) (by simp) ?_; intro v1 w1 hown1 hgr1; have hb1 : Below w.heap.size w w1 := (below_alloc _ _).grown hgr1 (by simp) (fun k hk => by cases hk; exact Nat.le_refl _); clear hgr1)
  go_ret
  exact ⟨v1, rfl, hown1, hb1⟩

theorem grown_below {w w1 w2 : World} {base : Nat} {e : TypeId} {v : Value} {n : Nat} {xs : List Value} (hb : Below base w w1) (hown : w1.ownsRow base e 4 v n xs) (hg : w1.grownBy w2 v.ownBlock) (hs : base ≤ w1.heap.size) : Below base w w2 :=
  hb.grown hg hs (fun k hk => (hown.lt k hk).1)

set_option maxRecDepth 100000 in
set_option maxHeartbeats 8000000 in
theorem concat_c (w : World) (B : Nat) (a1 a2 a3 : Option Addr) (c1 c2 c3 : Nat) (x1 x2 x3 : List Fct) (h1 : w.cell? ⟨B, 0, none⟩ = some (.slice a1 x1.length c1)) (h2 : w.cell? ⟨B, 1, none⟩ = some (.slice a2 x2.length c2)) (h3 : w.cell? ⟨B, 2, none⟩ = some (.slice a3 x3.length c3))
    (p1 : piece w (.slice a1 x1.length c1) x1) (p2 : piece w (.slice a2 x2.length c2) x2) (p3 : piece w (.slice a3 x3.length c3) x3) (hpos : 0 < x2.length) (hle : x1.length + x2.length + x3.length ≤ 500) :
    Calls Tryz.prog 117 #[.slice (some ⟨B, 0, none⟩) 3 3] w fun e w' => ∃ v, e = .returned v ∧ w'.ownsRow w.heap.size 82 4 v (x1 ++ x2 ++ x3).length (cellsF (x1 ++ x2 ++ x3)) ∧ Below w.heap.size w w' := by
  have HP1 : Hid (piece w (.slice a1 x1.length c1) x1) := p1
  have HP2 : Hid (piece w (.slice a2 x2.length c2) x2) := p2
  have HP3 : Hid (piece w (.slice a3 x3.length c3) x3) := p3
  have bB : B < w.heap.size := cell_lt h1
  clear p1 p2 p3
  go_enter Tryz.func117, Tryz.ntmps117
  go_wp2_with fail
  go_loop [3, 11] (fun s i => (s = .int .i64 0 ∧ i = .int .i64 0) ∨ (s = .int .i64 x1.length ∧ i = .int .i64 1) ∨ (s = .int .i64 ((x1.length + x2.length : Nat) : Int) ∧ i = .int .i64 2) ∨ (s = .int .i64 ((x1.length + x2.length + x3.length : Nat) : Int) ∧ i = .int .i64 3)) (fun _ i => 3 - (intOf i).toNat)
  case atStart => exact .inl ⟨rfl, rfl⟩
  case round =>
    rcases hrel with ⟨rfl, rfl⟩ | ⟨rfl, rfl⟩ | ⟨rfl, rfl⟩ | ⟨rfl, rfl⟩
    · have g1 : ¬ ((x1.length : Int) < 0) := by omega
      go_wp2_with fail
      go_round
      case rel => exact .inr (.inl ⟨by go_num, by go_num⟩)
      case measure => simp [intOf]
    · have g1 : ¬ ((x1.length : Int) + (x2.length : Int) < 0) := by omega
      go_wp2_with fail
      go_round
      case rel => exact .inr (.inr (.inl ⟨by go_num, by go_num⟩))
      case measure => simp [intOf]
    · have g1 : ¬ (((x1.length + x2.length : Nat) : Int) + (x3.length : Int) < 0) := by omega
      have g2 : ¬ ((x1.length : Int) + (x2.length : Int) + (x3.length : Int) < 0) := by omega
      go_wp2_with fail
      go_round
      case rel => exact .inr (.inr (.inr ⟨by go_num, by go_num⟩))
      case measure => simp [intOf]
    · have hg := grow_c w (x1.length + x2.length + x3.length) (by omega) (by omega)
      simp only [Int.natCast_add] at hg
      go_wp2_with (go_at_call 148; refine hg.mono ?_; rintro e w1 ⟨v0, rfl, hown0, hb0⟩)
      clear hg
      go_loopw [6, 27] (fun s i wr => ∃ (xs : List Fct) (v : Value), v = s ∧ Below w.heap.size w wr ∧ wr.ownsRow w.heap.size 82 4 v xs.length (cellsF xs) ∧ (([] = xs ∧ i = .int .i64 0) ∨ (x1 = xs ∧ i = .int .i64 1) ∨ (x1 ++ x2 = xs ∧ i = .int .i64 2) ∨ (x1 ++ x2 ++ x3 = xs ∧ i = .int .i64 3))) (fun _ i _ => 3 - (intOf i).toNat)
      case atStart => exact ⟨[], _, rfl, hb0, hown0, .inl ⟨rfl, rfl⟩⟩
      case round =>
      obtain ⟨xs, v, hvs, hbw, hown, hi⟩ := hrel
      subst hvs
      rcases hi with ⟨hx, rfl⟩ | ⟨hx, rfl⟩ | ⟨hx, rfl⟩ | ⟨hx, rfl⟩ <;> subst hx
      · have t1 := (cell_lasts hbw bB).trans h1
        have HPP : Hid (piece wr (.slice a1 x1.length c1) x1) := HP1.out.lasts hbw
        have HOW : Hid (wr.ownsRow w.heap.size 82 4 v ([]).length (cellsF ([]))) := hown
        clear hown
        go_wp2_with (at_builtin; refine wpList_append_piece _ rfl _ _ rfl w.heap.size v ([]) x1 HOW.out rfl _ rfl HPP.out (by first | omega | (simp; omega)) hbw.size ?_; intro v1 w1 hown1 hgr1; have hb1 : Below w.heap.size w w1 := grown_below hbw HOW.out hgr1 hbw.size; clear hgr1)
        go_roundw
        case rel => exact ⟨_, _, rfl, hb1, hown1, .inr (.inl ⟨rfl, by go_num⟩)⟩
        case measure => simp [intOf]
      · have t1 := (cell_lasts hbw bB).trans h2
        have HPP : Hid (piece wr (.slice a2 x2.length c2) x2) := HP2.out.lasts hbw
        have HOW : Hid (wr.ownsRow w.heap.size 82 4 v (x1).length (cellsF (x1))) := hown
        clear hown
        go_wp2_with (at_builtin; refine wpList_append_piece _ rfl _ _ rfl w.heap.size v (x1) x2 HOW.out rfl _ rfl HPP.out (by first | omega | (simp; omega)) hbw.size ?_; intro v1 w1 hown1 hgr1; have hb1 : Below w.heap.size w w1 := grown_below hbw HOW.out hgr1 hbw.size; clear hgr1)
        go_roundw
        case rel => exact ⟨_, _, rfl, hb1, hown1, .inr (.inr (.inl ⟨rfl, by go_num⟩))⟩
        case measure => simp [intOf]
      · have t1 := (cell_lasts hbw bB).trans h3
        have HPP : Hid (piece wr (.slice a3 x3.length c3) x3) := HP3.out.lasts hbw
        have HOW : Hid (wr.ownsRow w.heap.size 82 4 v (x1 ++ x2).length (cellsF (x1 ++ x2))) := hown
        clear hown
        go_wp2_with (at_builtin; refine wpList_append_piece _ rfl _ _ rfl w.heap.size v (x1 ++ x2) x3 HOW.out rfl _ rfl HPP.out (by first | omega | (simp; omega)) hbw.size ?_; intro v1 w1 hown1 hgr1; have hb1 : Below w.heap.size w w1 := grown_below hbw HOW.out hgr1 hbw.size; clear hgr1)
        go_roundw
        case rel => exact ⟨_, _, rfl, hb1, hown1, .inr (.inr (.inr ⟨rfl, by go_num⟩))⟩
        case measure => simp [intOf]
      · have HOW : Hid (wr.ownsRow w.heap.size 82 4 v (x1 ++ x2 ++ x3).length (cellsF (x1 ++ x2 ++ x3))) := hown
        clear hown
        go_wp2_with fail
        go_ret
        exact ⟨_, rfl, HOW.out, hbw⟩
end Go.Proofs.YtlfccloaoopadafGreatDoor.Base

/-
  Package base: Add.
-/
namespace Go.Proofs.YtlfccloaoopadafGreatDoor.Base
open Go.ChangeShapes Go.WideShapes Go.ChangeAt Go.RowKit
open Lat (within within_c join)
open Rule (factFine factFine_c isPred kindOf arityOf isPred_iff)

theorem pos_lt {y : Fct} {f : List Fct} {pl : Int} (h : place y < pl) : pos (y :: f) pl = pos f pl + 1 := by rw [pos_cons, if_pos h]
theorem pos_ge {y : Fct} {f : List Fct} {pl : Int} (hs : Sorted (y :: f)) (h : ¬ place y < pl) : pos (y :: f) pl = 0 := by
  rw [pos_cons, if_neg h]
  exact pos_zero (fun z hz => by have := (List.pairwise_cons.1 hs).1 z hz; omega)
theorem add_fresh {K : Int → Int} {x : Fct} {f : List Fct} (hs : Sorted f) (h : get f (place x) = none) : addF K x f = f.take (pos f (place x)) ++ [x] ++ f.drop (pos f (place x)) ∧ addC K x f = true := by
  induction f with
  | nil => exact ⟨rfl, rfl⟩
  | cons y f ih =>
    rw [get_cons] at h
    by_cases e : place y = place x
    · rw [if_pos e] at h; cases h
    · rw [if_neg e] at h
      rw [addF, addC, if_neg e, if_neg e]
      by_cases l : place x < place y
      · rw [if_pos l, if_pos l, pos_ge hs (by omega)]
        exact ⟨rfl, rfl⟩
      · rw [if_neg l, if_neg l, pos_lt (by omega)]
        obtain ⟨h1, h2⟩ := ih (List.pairwise_cons.1 hs).2 h
        rw [h1, h2]
        exact ⟨rfl, rfl⟩
theorem add_there {K : Int → Int} {x : Fct} {f : List Fct} (hs : Sorted f) (hp : pos f (place x) < f.length) (h : place f[pos f (place x)] = place x) :
    addF K x f = f.set (pos f (place x)) ⟨f[pos f (place x)].pred, f[pos f (place x)].a, f[pos f (place x)].b, join (K x.pred) f[pos f (place x)].val x.val⟩ ∧ addC K x f = (join (K x.pred) f[pos f (place x)].val x.val != f[pos f (place x)].val) := by
  induction f with
  | nil => simp at hp
  | cons y f ih =>
    by_cases l : place y < place x
    · have e := pos_lt (f := f) l
      simp only [e, List.getElem_cons_succ, List.length_cons, Nat.add_lt_add_iff_right, List.set_cons_succ] at h hp ⊢
      obtain ⟨h1, h2⟩ := ih (List.pairwise_cons.1 hs).2 hp h
      rw [addF, addC, if_neg (by omega), if_neg (by omega), if_neg (by omega), if_neg (by omega), h1, h2]
      exact ⟨rfl, rfl⟩
    · have e := pos_ge hs l
      simp only [e, List.getElem_cons_zero, List.set_cons_zero] at h hp ⊢
      rw [addF, addC, if_pos h, if_pos h]
      exact ⟨rfl, rfl⟩
theorem facts_short {ps : List Prd} {f : List Fct} (h : factsErr ps f = 0) : f.length ≤ 125 := by
  have hr := right_of h
  have h5 := (factsErr_zero h).1
  have hge : ∀ i (hi : i < f.length), (i : Int) ≤ place f[i] := by
    intro i
    induction i with
    | zero =>
      intro hi
      obtain ⟨_, _, _, _, _, _, _⟩ := hr.fine f[0] (List.getElem_mem hi)
      unfold place
      omega
    | succ i ih =>
      intro hi
      have h1 := ih (by omega)
      have h2 := good_adj (factsErr_zero h).2.2 i hi
      omega
  refine Classical.byContradiction fun hn => ?_
  have h1 := hge 125 (by omega)
  obtain ⟨_, _, _, _, _, _, _⟩ := hr.fine f[125] (List.getElem_mem (by omega))
  unfold place at h1
  omega

/-- D2 -/
def addOf (ps : List Prd) (f : List Fct) (x : Fct) : List Fct × Bool × Int := if withErr ps f x ≠ 0 then ([], false, withErr ps f x) else (addF (kindOf ps) x f, addC (kindOf ps) x f, 0)
/-- a slice within its room -/
def capOk (v : Value) : Prop := ∃ a n c, v = .slice a n c ∧ n ≤ c ∧ (a = none → c = 0)
theorem cap_own {w : World} {base : Nat} {e : TypeId} {sz n : Nat} {v : Value} {xs : List Value} (h : w.ownsRow base e sz v n xs) : capOk v := by
  rcases h.2 with ⟨rfl, _⟩ | ⟨g, cap, cur, rfl, _, _, h3, _⟩
  · exact ⟨none, 0, 0, rfl, Nat.le_refl _, fun _ => rfl⟩
  · exact ⟨_, n, cap, rfl, h3, fun h => by cases h⟩
theorem facts_nil (w : World) : factsAt w (.slice none 0 0) [] := ⟨none, 0, rfl, by simp, .inl rfl⟩
theorem cap_nil : capOk (.slice none 0 0) := ⟨none, 0, 0, rfl, Nat.le_refl _, fun _ => rfl⟩
/-- within its room, and in a block that is not older than n -/
def capNew (n : Nat) (v : Value) : Prop := capOk v ∧ ∀ b, v.ownBlock = some b → n ≤ b
/-- a row of facts that may be written: nothing, or a block of facts alone of which nothing is frozen -/
def rowW (w : World) (v : Value) : Prop := ∀ g, v.ownBlock = some g → (∃ n c, v = .slice (some ⟨g, 0, none⟩) n c) ∧ ∃ cur, w.heap[g]? = some (.cells cur 82 (0, 0))
theorem rowW_own {w : World} {base n : Nat} {v : Value} {xs : List Value} (h : w.ownsRow base 82 4 v n xs) : rowW w v := fun g hg => by
  rcases h.2 with ⟨rfl, _⟩ | ⟨g', cap, cur, rfl, _, hgc, _⟩
  · cases hg
  · cases hg
    exact ⟨⟨_, _, rfl⟩, cur, hgc⟩
theorem rowW_nil (w : World) : rowW w (.slice none 0 0) := fun g hg => by cases hg
theorem rowW.lasts {w w' : World} {v : Value} (h : rowW w v) (hb : Below w.heap.size w w') : rowW w' v := fun g hg => by
  obtain ⟨h1, cur, h2⟩ := h g hg
  exact ⟨h1, cur, (hb.block g (Array.getElem?_eq_some_iff.1 h2).1).trans h2⟩
theorem rowW.set {w : World} {v : Value} (h : rowW w v) (B o : Nat) (u : Value) : rowW (w.setCell ⟨B, o, none⟩ u) v := fun g hg => by
  obtain ⟨h1, cur, h2⟩ := h g hg
  by_cases e : B = g
  · subst e
    exact ⟨h1, _, heap_setCell_same w B o _ _ u h2⟩
  · refine ⟨h1, cur, ?_⟩
    rw [← h2]
    simp [World.setCell, Array.getElem?_modify, e]
theorem new_own {w : World} {base m : Nat} {e : TypeId} {sz n : Nat} {v : Value} {xs : List Value} (h : w.ownsRow base e sz v n xs) (hm : m ≤ base) : capNew m v := ⟨cap_own h, fun b hb => Nat.le_trans hm (h.lt b hb).1⟩
theorem new_nil (n : Nat) : capNew n (.slice none 0 0) := ⟨cap_nil, fun _ h => by cases h⟩
theorem capNew.mono {n m : Nat} {v : Value} (h : capNew n v) (hm : m ≤ n) : capNew m v := ⟨h.1, fun b hb => Nat.le_trans hm (h.2 b hb)⟩
/-- facts in a block that is not older than n -/
def factsNew (n : Nat) (w : World) (v : Value) (l : List Fct) : Prop := factsAt w v l ∧ ∀ b, v.ownBlock = some b → n ≤ b
theorem factsNew.lasts {n : Nat} {w w' : World} {v : Value} {l : List Fct} (hb : Below w.heap.size w w') (h : factsNew n w v l) : factsNew n w' v l := ⟨factsAt.lasts hb h.1, h.2⟩

theorem factsAt_set {w : World} {g cap i : Nat} {f : List Fct} (h : factsAt w (.slice (some ⟨g, 0, none⟩) f.length cap) f) (hi : i < f.length) (v : Int) :
    factsAt (w.setCell ⟨g, i * 4 + 3, none⟩ (.int .i64 v)) (.slice (some ⟨g, 0, none⟩) f.length cap) (f.set i ⟨f[i].pred, f[i].a, f[i].b, v⟩) := by
  obtain ⟨a, c, hv, hl, hx⟩ := h
  obtain ⟨b, off, rfl, hb, hx⟩ := hx.resolve_left (by rintro rfl; simp at hi)
  obtain ⟨⟨rfl, rfl⟩, rfl⟩ : (g = b ∧ 0 = off) ∧ cap = c := by simpa using hv
  refine ⟨_, cap, by rw [List.length_set], by rw [List.length_set]; exact hl, .inr ⟨g, 0, rfl, by rw [size_set]; exact hb, ?_⟩⟩
  intro k x hk
  by_cases e : i = k
  · subst e
    rw [List.getElem?_set_self hi] at hk
    obtain rfl := Option.some.inj hk
    obtain ⟨c0, c1, c2, c3⟩ := hx i f[i] (by simp [hi])
    simp only [Nat.zero_add] at c0 c1 c2 c3
    refine ⟨?_, ?_, ?_, ?_⟩
    · simp only [Nat.zero_add]; rw [cell_off (by omega)]; exact c0
    · simp only [Nat.zero_add]; rw [cell_off (by omega)]; exact c1
    · simp only [Nat.zero_add]; rw [cell_off (by omega)]; exact c2
    · simp only [Nat.zero_add]; exact cell_set c3
  · rw [List.getElem?_set_ne e] at hk
    obtain ⟨c0, c1, c2, c3⟩ := hx k x hk
    simp only [Nat.zero_add] at c0 c1 c2 c3
    refine ⟨?_, ?_, ?_, ?_⟩
    · simp only [Nat.zero_add]; rw [cell_off (by omega)]; exact c0
    · simp only [Nat.zero_add]; rw [cell_off (by omega)]; exact c1
    · simp only [Nat.zero_add]; rw [cell_off (by omega)]; exact c2
    · simp only [Nat.zero_add]; rw [cell_off (by omega)]; exact c3

theorem piece_take {w : World} {fa : Option Addr} {fc k : Nat} {f : List Fct} (h : factsAt w (.slice fa f.length fc) f) (hk : k ≤ f.length) : piece w (.slice fa k fc) (f.take k) := by
  obtain ⟨a, c, hv, _, hx⟩ := h
  simp only [Value.slice.injEq, true_and] at hv
  obtain ⟨rfl, rfl⟩ := hv
  rcases hx with rfl | ⟨b, off, rfl, _, hx⟩
  · obtain rfl : k = 0 := by simpa using hk
    cases fa with
    | none => exact .inl ⟨fc, rfl, rfl⟩
    | some ad => exact .inr ⟨ad, fc, rfl, fun j u hu => by simp [cellsF] at hu⟩
  · refine .inr ⟨_, fc, by rw [List.length_take, Nat.min_eq_left hk], facts_cells ?_⟩
    intro i x hi
    rw [List.getElem?_take] at hi
    split at hi
    · exact hx i x hi
    · cases hi
theorem piece_drop {w : World} {fa : Option Addr} {fc k : Nat} {f : List Fct} (h : factsAt w (.slice fa f.length fc) f) (hk : k ≤ f.length) (hc : f.length ≤ fc) :
    piece w (.slice (if fc = k then fa else Option.map (fun x => x.add (k * 4)) fa) (f.length - k) (fc - k)) (f.drop k) := by
  obtain ⟨a, c, hv, _, hx⟩ := h
  simp only [Value.slice.injEq, true_and] at hv
  obtain ⟨rfl, rfl⟩ := hv
  rcases hx with rfl | ⟨b, off, rfl, _, hx⟩
  · obtain rfl : k = 0 := by simpa using hk
    cases fa with
    | none => exact .inl ⟨fc - 0, by simp, rfl⟩
    | some ad =>
      by_cases e : fc = 0
      · rw [if_pos e]
        exact .inr ⟨ad, fc - 0, rfl, fun j u hu => by simp [cellsF] at hu⟩
      · rw [if_neg e]
        exact .inr ⟨_, fc - 0, rfl, fun j u hu => by simp [cellsF] at hu⟩
  · by_cases e : fc = k
    · rw [if_pos e]
      have e2 : f.drop k = [] := List.drop_eq_nil_of_le (by omega)
      rw [e2]
      exact .inr ⟨_, fc - k, by rw [show f.length - k = 0 by omega]; rfl, fun j u hu => by simp [cellsF] at hu⟩
    · rw [if_neg e]
      refine .inr ⟨⟨b, off + k * 4, none⟩, fc - k, by rw [List.length_drop]; simp [Addr.add], facts_cells ?_⟩
      intro i x hi
      rw [List.getElem?_drop] at hi
      have := hx (k + i) x hi
      rw [show off + k * 4 + i * 4 = off + (k + i) * 4 by omega]
      exact this
theorem piece_one {w : World} {B : Nat} {p a b v : Int} {t : TypeId} (h : w.heap[B]? = some (.cells #[.int .i64 p, .int .i64 a, .int .i64 b, .int .i64 v] t)) : piece w (.slice (some ⟨B, 0, none⟩) 1 1) [⟨p, a, b, v⟩] := by
  refine .inr ⟨⟨B, 0, none⟩, 1, rfl, facts_cells ?_⟩
  intro i x hi
  cases i with
  | zero =>
    obtain rfl : (⟨p, a, b, v⟩ : Fct) = x := by simpa using hi
    refine ⟨?_, ?_, ?_, ?_⟩ <;> simp [World.cell?, h]
  | succ i => simp at hi
theorem piece_new (w : World) (p a b v : Int) (t : TypeId) (B : Obj) : piece ((w.alloc (.cells #[.int .i64 p, .int .i64 a, .int .i64 b, .int .i64 v] t)).alloc B) (.slice (some ⟨w.heap.size, 0, none⟩) 1 1) [⟨p, a, b, v⟩] :=
  piece_one ((heap_alloc_old _ _ (by simp)).trans (heap_alloc_new w _))
theorem concat_is (w : World) (B : Nat) (a1 a2 a3 : Option Addr) (c1 c2 c3 n1 n2 n3 : Nat) (x1 x2 x3 : List Fct) (e1 : x1.length = n1) (e2 : x2.length = n2) (e3 : x3.length = n3) (h1 : w.cell? ⟨B, 0, none⟩ = some (.slice a1 n1 c1)) (h2 : w.cell? ⟨B, 1, none⟩ = some (.slice a2 n2 c2)) (h3 : w.cell? ⟨B, 2, none⟩ = some (.slice a3 n3 c3))
    (p1 : piece w (.slice a1 n1 c1) x1) (p2 : piece w (.slice a2 n2 c2) x2) (p3 : piece w (.slice a3 n3 c3) x3) (hpos : 0 < x2.length) (hle : x1.length + x2.length + x3.length ≤ 500) :
    Calls Tryz.prog 117 #[.slice (some ⟨B, 0, none⟩) 3 3] w fun e w' => ∃ v, e = .returned v ∧ w'.ownsRow w.heap.size 82 4 v (x1 ++ x2 ++ x3).length (cellsF (x1 ++ x2 ++ x3)) ∧ Below w.heap.size w w' := by
  subst e1 e2 e3
  exact concat_c w B a1 a2 a3 c1 c2 c3 x1 x2 x3 h1 h2 h3 p1 p2 p3 hpos hle

set_option maxRecDepth 100000 in
set_option maxHeartbeats 8000000 in
theorem Add_w (w : World) (pv fv : Value) (ps : List Prd) (f : List Fct) (p a b v : Int) (hp : predsAt w pv ps) (hf : factsAt w fv f) (hc : capOk fv) :
    Calls Tryz.prog 100 #[pv, fv, .agg #[.int .i64 p, .int .i64 a, .int .i64 b, .int .i64 v]] w fun e w' => ∃ u, e = .returned (.tuple #[u, .bool (addOf ps f ⟨p, a, b, v⟩).2.1, .int .i64 (addOf ps f ⟨p, a, b, v⟩).2.2]) ∧ factsAt w' u (addOf ps f ⟨p, a, b, v⟩).1 ∧ capNew w.heap.size u ∧ rowW w' u ∧ Below w.heap.size w w' := by
  have HP : Hid (∀ (w1 : World), Below w.heap.size w w1 → predsAt w1 pv ps) := fun w1 hb1 => predsAt.lasts hb1 hp
  have HF : Hid (∀ (w1 : World), Below w.heap.size w w1 → factsAt w1 fv f) := fun w1 hb1 => factsAt.lasts hb1 hf
  obtain ⟨fa, fc, rfl, hfm, hfx⟩ := hf
  obtain ⟨hcap, hcz⟩ : f.length ≤ fc ∧ (fa = none → fc = 0) := by
    obtain ⟨a', n', c', e, h1, h2⟩ := hc
    simp only [Value.slice.injEq] at e
    obtain ⟨rfl, rfl, rfl⟩ := e
    exact ⟨h1, h2⟩
  clear hc
  by_cases h0 : withErr ps f ⟨p, a, b, v⟩ = 0
  · obtain ⟨h1, h2⟩ := withErr_zero h0
    have HS : Hid (∀ y ∈ f, Small y) := facts_small h1
    have HX : Hid (Small ⟨p, a, b, v⟩) := fine_small (factsErr_zero h1).1 h2
    have HSO : Hid (Sorted f) := (right_of h1).sorted
    have hshort := facts_short h1
    have e : addOf ps f ⟨p, a, b, v⟩ = (addF (kindOf ps) ⟨p, a, b, v⟩ f, addC (kindOf ps) ⟨p, a, b, v⟩ f, 0) := by simp [addOf, h0]
    rw [e]
    clear e
    cases hg : get f (place ⟨p, a, b, v⟩) with
    | none =>
      obtain ⟨e1, e2⟩ := add_fresh (K := kindOf ps) HSO.out hg
      rw [e1, e2]
      have hpl := pos_le f (place ⟨p, a, b, v⟩)
      have HQ : Hid (∀ w', Below w.heap.size w w' → Calls Tryz.prog 116 #[.slice fa f.length fc, .agg #[.int .i64 p, .int .i64 a, .int .i64 b, .int .i64 v], .func (.func 72) #[] #[]] w' (fun e w1 => e = .returned (.tuple #[.int .i64 (pos f (place ⟨p, a, b, v⟩)), .bool false]) ∧ Below w'.heap.size w' w1)) := fun w' hb => by
        have := search_c w' _ f p a b v (HF.out _ hb) HS.out HX.out HSO.out
        rw [hg] at this
        exact this
      clear e1 e2 hg h1 h2 HS HX HSO
      generalize pos f (place ⟨p, a, b, v⟩) = k at *
      have hk0 : (0 : Int) ≤ (k : Int) := by omega
      have hk1 : (k : Int) ≤ (f.length : Int) := by omega
      have hk2 : (k : Int) ≤ (fc : Int) := by omega
      have hk3 : (f.length : Int) ≤ (fc : Int) := by omega
      go_enter Tryz.func100, Tryz.ntmps100
      go_wp2_with (first
        | (go_at_call 115; refine (checkWith_c _ _ _ ps f _ _ _ _ (HP.out _ (below_alloc _ _)) (HF.out _ (below_alloc _ _))).mono ?_; rintro e w1 ⟨rfl, hb1⟩; obtain ⟨c0, c1, c2, c3⟩ := four_last hb1; have hs1 : w.heap.size < w1.heap.size := Nat.lt_of_lt_of_le (by simp) hb1.size; have HB : Hid (Below w.heap.size w w1) := (below_alloc _ _).trans (hb1.mono (by simp)); clear hb1)
        | (go_at_call 116; refine (HQ.out _ HB.out).mono ?_; rintro e W0 ⟨rfl, hb2⟩; replace c0 := (cell_lasts hb2 hs1).trans c0; replace c1 := (cell_lasts hb2 hs1).trans c1; replace c2 := (cell_lasts hb2 hs1).trans c2; replace c3 := (cell_lasts hb2 hs1).trans c3; have hs2 : w.heap.size < W0.heap.size := Nat.lt_of_lt_of_le hs1 hb2.size; have HB2 : Hid (Below w.heap.size w W0) := HB.out.trans (hb2.mono HB.out.size); clear hb2))
      by_cases hfk : fc = k
      · have HT : Hid (piece W0 (.slice fa k k) (f.take k)) := by have := piece_take (k := k) (HF.out _ HB2.out) hpl; rw [hfk] at this; exact this
        have HD : Hid (piece W0 (.slice fa (f.length - k) 0) (f.drop k)) := by have := piece_drop (k := k) (HF.out _ HB2.out) hpl hcap; rw [if_pos hfk, hfk, Nat.sub_self] at this; exact this
        have HL1 : Hid ((f.take k).length = k) := by show _ = _; rw [List.length_take, Nat.min_eq_left hpl]
        have HL3 : Hid ((f.drop k).length = f.length - k) := by show _ = _; rw [List.length_drop]
        have HL4 : Hid (0 < [(⟨p, a, b, v⟩ : Fct)].length) := by show _ < _; simp
        have HL5 : Hid ((f.take k).length + [(⟨p, a, b, v⟩ : Fct)].length + (f.drop k).length ≤ 500) := by show _ ≤ _; simp; omega
        have KEEP : Hid (∀ w', Below W0.heap.size W0 w' → (fun w' => Below W0.heap.size W0 w' ∧ w'.cell? ⟨w.heap.size, 0, none⟩ = some (.int .i64 p) ∧ w'.cell? ⟨w.heap.size, 1, none⟩ = some (.int .i64 a) ∧ w'.cell? ⟨w.heap.size, 2, none⟩ = some (.int .i64 b) ∧ w'.cell? ⟨w.heap.size, 3, none⟩ = some (.int .i64 v)) w') :=
          fun w' hq => ⟨hq, (cell_lasts hq hs2).trans c0, (cell_lasts hq hs2).trans c1, (cell_lasts hq hs2).trans c2, (cell_lasts hq hs2).trans c3⟩
        go_region_held3 (fun w' => Below W0.heap.size W0 w' ∧ w'.cell? ⟨w.heap.size, 0, none⟩ = some (.int .i64 p) ∧ w'.cell? ⟨w.heap.size, 1, none⟩ = some (.int .i64 a) ∧ w'.cell? ⟨w.heap.size, 2, none⟩ = some (.int .i64 b) ∧ w'.cell? ⟨w.heap.size, 3, none⟩ = some (.int .i64 v))
          ((refine KEEP.out _ ?_; (first | exact Below.refl _ _ | exact (Below.refl _ _).drew | exact hk | exact hk.drew | exact (below_alloc _ _) | exact (below_alloc _ _).drew | exact ((Below.refl _ _).drew).alloc (Nat.le_refl _) _ | exact hk.alloc hk.size _ | exact (hk.alloc hk.size _).drew | exact hk.drew.alloc hk.size _ | exact (below_alloc _ _).alloc (by simp) _ | exact ((below_alloc _ _).alloc (by simp) _).drew | exact (((Below.refl _ _).drew).alloc (Nat.le_refl _) _).alloc (by simp) _ | exact ((below_alloc _ _).drew).alloc (by simp) _)))
          (first
            | (go_at_call 117; refine Calls.mono (concat_is _ (W0.heap.size + 1) fa (some ⟨W0.heap.size, 0, none⟩) fa k 1 0 k 1 (f.length - k) (f.take k) [⟨p, a, b, v⟩] (f.drop k) HL1.out rfl HL3.out ?g1 ?g2 ?g3 ?g4 ?g5 ?g6 HL4.out HL5.out) ?_; (case g1 => simp [go_sem]); (case g2 => simp [go_sem]); (case g3 => simp [go_sem]); (case g4 => exact HT.out.lasts (by (first | exact (below_alloc _ _).alloc (by simp) _ | exact ((below_alloc _ _).alloc (by simp) _).drew))); (case g5 => first | exact piece_new W0 p a b v 82 _ | exact (piece_new W0 p a b v 82 _).lasts ((Below.refl _ _).drew)); (case g6 => exact HD.out.lasts (by (first | exact (below_alloc _ _).alloc (by simp) _ | exact ((below_alloc _ _).alloc (by simp) _).drew))); rintro e w5 ⟨u5, rfl, hown5, hb5⟩; have hk : Below W0.heap.size W0 w5 := Below.trans (by (first | exact (below_alloc _ _).alloc (by simp) _ | exact ((below_alloc _ _).alloc (by simp) _).drew)) (hb5.mono (by first | (simp; done) | omega | (simp; omega))); have HOW : Hid (∃ base, w.heap.size ≤ base ∧ w5.ownsRow base 82 4 u5 (f.take k ++ [(⟨p, a, b, v⟩ : Fct)] ++ f.drop k).length (cellsF (f.take k ++ [(⟨p, a, b, v⟩ : Fct)] ++ f.drop k))) := ⟨_, Nat.le_trans HB2.out.size (Below.size (B := W0.heap.size) (w := W0) (by (first | exact (below_alloc _ _).alloc (by simp) _ | exact ((below_alloc _ _).alloc (by simp) _).drew))), hown5⟩; clear hb5 hown5))
        clear KEEP
        go_wp2_with fail
        go_ret3
        obtain ⟨base, hbase, hown⟩ := HOW.out
        exact ⟨_, rfl, factsAt_of hown (by simp; omega), new_own hown hbase, rowW_own hown, HB2.out.trans (hk.mono HB2.out.size)⟩
      · have HT : Hid (piece W0 (.slice fa k fc) (f.take k)) := piece_take (HF.out _ HB2.out) hpl
        have HD : Hid (piece W0 (.slice (Option.map (fun x => x.add (k * 4)) fa) (f.length - k) (fc - k)) (f.drop k)) := by have := piece_drop (k := k) (HF.out _ HB2.out) hpl hcap; rw [if_neg hfk] at this; exact this
        have HL1 : Hid ((f.take k).length = k) := by show _ = _; rw [List.length_take, Nat.min_eq_left hpl]
        have HL3 : Hid ((f.drop k).length = f.length - k) := by show _ = _; rw [List.length_drop]
        have HL4 : Hid (0 < [(⟨p, a, b, v⟩ : Fct)].length) := by show _ < _; simp
        have HL5 : Hid ((f.take k).length + [(⟨p, a, b, v⟩ : Fct)].length + (f.drop k).length ≤ 500) := by show _ ≤ _; simp; omega
        have KEEP : Hid (∀ w', Below W0.heap.size W0 w' → (fun w' => Below W0.heap.size W0 w' ∧ w'.cell? ⟨w.heap.size, 0, none⟩ = some (.int .i64 p) ∧ w'.cell? ⟨w.heap.size, 1, none⟩ = some (.int .i64 a) ∧ w'.cell? ⟨w.heap.size, 2, none⟩ = some (.int .i64 b) ∧ w'.cell? ⟨w.heap.size, 3, none⟩ = some (.int .i64 v)) w') :=
          fun w' hq => ⟨hq, (cell_lasts hq hs2).trans c0, (cell_lasts hq hs2).trans c1, (cell_lasts hq hs2).trans c2, (cell_lasts hq hs2).trans c3⟩
        go_region_held3 (fun w' => Below W0.heap.size W0 w' ∧ w'.cell? ⟨w.heap.size, 0, none⟩ = some (.int .i64 p) ∧ w'.cell? ⟨w.heap.size, 1, none⟩ = some (.int .i64 a) ∧ w'.cell? ⟨w.heap.size, 2, none⟩ = some (.int .i64 b) ∧ w'.cell? ⟨w.heap.size, 3, none⟩ = some (.int .i64 v))
          ((refine KEEP.out _ ?_; (first | exact Below.refl _ _ | exact (Below.refl _ _).drew | exact hk | exact hk.drew | exact (below_alloc _ _) | exact (below_alloc _ _).drew | exact ((Below.refl _ _).drew).alloc (Nat.le_refl _) _ | exact hk.alloc hk.size _ | exact (hk.alloc hk.size _).drew | exact hk.drew.alloc hk.size _ | exact (below_alloc _ _).alloc (by simp) _ | exact ((below_alloc _ _).alloc (by simp) _).drew | exact (((Below.refl _ _).drew).alloc (Nat.le_refl _) _).alloc (by simp) _ | exact ((below_alloc _ _).drew).alloc (by simp) _)))
          (first
            | (go_at_call 117; refine Calls.mono (concat_is _ (W0.heap.size + 1) fa (some ⟨W0.heap.size, 0, none⟩) (Option.map (fun x => x.add (k * 4)) fa) fc 1 (fc - k) k 1 (f.length - k) (f.take k) [⟨p, a, b, v⟩] (f.drop k) HL1.out rfl HL3.out ?g1 ?g2 ?g3 ?g4 ?g5 ?g6 HL4.out HL5.out) ?_; (case g1 => simp [go_sem]); (case g2 => simp [go_sem]); (case g3 => simp [go_sem]); (case g4 => exact HT.out.lasts (by (first | exact (below_alloc _ _).alloc (by simp) _ | exact ((below_alloc _ _).alloc (by simp) _).drew))); (case g5 => first | exact piece_new W0 p a b v 82 _ | exact (piece_new W0 p a b v 82 _).lasts ((Below.refl _ _).drew)); (case g6 => exact HD.out.lasts (by (first | exact (below_alloc _ _).alloc (by simp) _ | exact ((below_alloc _ _).alloc (by simp) _).drew))); rintro e w5 ⟨u5, rfl, hown5, hb5⟩; have hk : Below W0.heap.size W0 w5 := Below.trans (by (first | exact (below_alloc _ _).alloc (by simp) _ | exact ((below_alloc _ _).alloc (by simp) _).drew)) (hb5.mono (by first | (simp; done) | omega | (simp; omega))); have HOW : Hid (∃ base, w.heap.size ≤ base ∧ w5.ownsRow base 82 4 u5 (f.take k ++ [(⟨p, a, b, v⟩ : Fct)] ++ f.drop k).length (cellsF (f.take k ++ [(⟨p, a, b, v⟩ : Fct)] ++ f.drop k))) := ⟨_, Nat.le_trans HB2.out.size (Below.size (B := W0.heap.size) (w := W0) (by (first | exact (below_alloc _ _).alloc (by simp) _ | exact ((below_alloc _ _).alloc (by simp) _).drew))), hown5⟩; clear hb5 hown5))
        clear KEEP
        go_wp2_with fail
        go_ret3
        obtain ⟨base, hbase, hown⟩ := HOW.out
        exact ⟨_, rfl, factsAt_of hown (by simp; omega), new_own hown hbase, rowW_own hown, HB2.out.trans (hk.mono HB2.out.size)⟩
    | some u =>
      obtain ⟨hpos, hpp, hu⟩ := get_some_pos HSO.out hg
      obtain ⟨e1, e2⟩ := add_there (K := kindOf ps) HSO.out hpos hpp
      rw [e1, e2]
      obtain ⟨bb, off, cap, hv, hbl, hcells⟩ := fact_cells (HF.out w (Below.refl _ _)) hpos
      obtain ⟨rfl, rfl⟩ : fa = some ⟨bb, off, none⟩ ∧ fc = cap := by simpa using hv
      obtain ⟨_, _, _, t3⟩ := hcells
      obtain ⟨pk, hpk, hpe⟩ : ∃ k : Nat, k < ps.length ∧ p = (k : Int) := isPred_iff.1 (by have := h2; simp only [factFine, Bool.and_eq_true] at this; exact this.1)
      subst hpe
      obtain ⟨pa, pc, rfl, hpm, hpx⟩ := hp
      obtain ⟨pb, po, rfl, hbp, hxx⟩ := hpx.resolve_left (by rintro rfl; simp at hpk)
      obtain ⟨_, _, k2⟩ := hxx pk ps[pk] (by simp [hpk])
      have HKO : Hid (kindOf ps (pk : Int) = ps[pk].kind) := kindOf_at hpk
      have HXV : Hid (Lat.err (kindOf ps (pk : Int)) v = 0) := (fine_of h2).v
      have HUV : Hid (Lat.err (kindOf ps (pk : Int)) u = 0) := by
        have q1 := get_err (right_of h1) hg
        rw [← pred_of (fine_of h2)] at q1
        exact q1
      rw [hu] at t3
      rw [hu]
      have HJ : Hid (Lat.joinOf ps[pk].kind u v = join (kindOf ps (pk : Int)) u v) := by
        show _ = _
        rw [HKO.out, Lat.joinOf, if_pos]
        rw [Lat.err2, if_pos (by rw [← HKO.out]; exact HUV.out)]
        rw [← HKO.out]
        exact HXV.out
      rw [← HJ.out]
      have HQ : Hid (∀ w', Below w.heap.size w w' → Calls Tryz.prog 116 #[.slice (some ⟨bb, off, none⟩) f.length fc, .agg #[.int .i64 (pk : Int), .int .i64 a, .int .i64 b, .int .i64 v], .func (.func 72) #[] #[]] w' (fun e w1 => e = .returned (.tuple #[.int .i64 (pos f (place ⟨(pk : Int), a, b, v⟩)), .bool true]) ∧ Below w'.heap.size w' w1)) := fun w' hb => by
        have := search_c w' _ f (pk : Int) a b v (HF.out _ hb) HS.out HX.out HSO.out
        rw [hg] at this
        exact this
      clear e1 e2 hg h1 h2 HS HX HSO hpp HJ HXV HUV HKO hxx hpx hv hu hfx
      have hpl : (pk : Int) < (ps.length : Int) := by omega
      have hp0 : (0 : Int) ≤ (pk : Int) := by omega
      generalize ps[pk].kind = qk at *
      generalize pos f (place ⟨(pk : Int), a, b, v⟩) = k at *
      have hk0 : (0 : Int) ≤ (k : Int) := by omega
      have hk1 : (k : Int) < (f.length : Int) := by omega
      have hne : 0 < f.length := by omega
      go_enter Tryz.func100, Tryz.ntmps100
      go_wp2_with (first
        | (go_at_call 115; refine (checkWith_c _ _ _ ps f _ _ _ _ (HP.out _ (below_alloc _ _)) (HF.out _ (below_alloc _ _))).mono ?_; rintro e w1 ⟨rfl, hb1⟩; obtain ⟨c0, c1, c2, c3⟩ := four_last hb1; have hs1 : w.heap.size < w1.heap.size := Nat.lt_of_lt_of_le (by simp) hb1.size; have HB : Hid (Below w.heap.size w w1) := (below_alloc _ _).trans (hb1.mono (by simp)); clear hb1)
        | (go_at_call 116; refine (HQ.out _ HB.out).mono ?_; rintro e W0 ⟨rfl, hb2⟩; replace c0 := (cell_lasts hb2 hs1).trans c0; replace c3 := (cell_lasts hb2 hs1).trans c3; have hs2 : w.heap.size < W0.heap.size := Nat.lt_of_lt_of_le hs1 hb2.size; have HB2 : Hid (Below w.heap.size w W0) := HB.out.trans (hb2.mono HB.out.size); clear hb2))
      have sb : bb < W0.heap.size := by omega
      have sp : pb < W0.heap.size := by omega
      have L0 : ∀ x : Low W0.heap.size W0, x.wd.cell? ⟨w.heap.size, 0, none⟩ = some (.int .i64 pk) := fun x => (cell_lasts x.low hs2).trans c0
      have L3 : ∀ x : Low W0.heap.size W0, x.wd.cell? ⟨w.heap.size, 3, none⟩ = some (.int .i64 v) := fun x => (cell_lasts x.low hs2).trans c3
      have LG : ∀ x : Low W0.heap.size W0, x.wd.cell? ⟨bb, off + k * 4 + 3, none⟩ = some (.int .i64 u) := fun x => (cell_lasts x.low sb).trans ((cell_lasts HB2.out hbl).trans t3)
      have LP : ∀ x : Low W0.heap.size W0, x.wd.cell? ⟨pb, po + pk * 3 + 2, none⟩ = some (.int .i64 qk) := fun x => (cell_lasts x.low sp).trans ((cell_lasts HB2.out hbp).trans k2)
      refine wp_region_low W0.heap.size (by kernel_rfl) (by kernel_rfl) ?_
      repeat (go_big_quiet_step ((go_at_call 118; exact low_of (Lat.Join_c _ _ _ _))))
      refine wpQuiet_nil ?_
      rintro w2 ⟨⟨w2', hk⟩, hw2⟩
      obtain rfl : w2 = w2' := hw2
      clear L0 L3 LG LP
      have HB3 : Hid (Below w.heap.size w w2) := HB2.out.trans (hk.mono HB2.out.size)
      clear c0 c1 c2 c3
      go_wp2_with fail
      refine (clone_c w2 _ f (HF.out _ HB3.out) hne (by omega)).mono ?_
      rintro e w3 ⟨v3, rfl, hown3, hb3⟩
      have HB4 : Hid (Below w.heap.size w w3) := HB3.out.trans (hb3.mono HB3.out.size)
      have HF3 : Hid (factsAt w3 v3 f) := factsAt_of hown3 (by omega)
      rcases hown3.2 with ⟨_, hz⟩ | ⟨g, cap, cur, rfl, hge, hgc, hnc, _⟩
      · omega
      have hwg : w.heap.size ≤ g := Nat.le_trans HB3.out.size hge
      have hbg : g ≠ bb := by omega
      obtain ⟨bb', off', cap', hv', _, hcl⟩ := fact_cells HF3.out hpos
      obtain ⟨⟨rfl, rfl⟩, rfl⟩ : (g = bb' ∧ 0 = off') ∧ cap = cap' := by simpa using hv'
      obtain ⟨_, _, _, d3⟩ := hcl
      simp only [Nat.zero_add] at d3
      have fz : w3.frozen? ⟨g, k * 4 + 3, none⟩ = false := by simp [World.frozen?, hgc]
      have t3' := (cell_lasts HB4.out hbl).trans t3
      have HRW : Hid (rowW w3 (.slice (some ⟨g, 0, none⟩) f.length cap)) := rowW_own hown3
      clear hown3 hb3 hv' hgc
      go_wp2_with fail
      refine wp_called (fun W => Below w.heap.size w W ∧ factsAt W (.slice (some ⟨g, 0, none⟩) f.length cap) (f.set k ⟨f[k].pred, f[k].a, f[k].b, Lat.joinOf qk u v⟩) ∧ W.cell? ⟨bb, off + k * 4 + 3, none⟩ = some (.int .i64 u) ∧ Hid (rowW W (.slice (some ⟨g, 0, none⟩) f.length cap))) ⟨HB4.out.setCell (p := ⟨g, k * 4 + 3, none⟩) hwg _, factsAt_set HF3.out hpos _, by rw [cell_block hbg]; exact t3', HRW.out.set g (k * 4 + 3) _⟩ ?_
      rintro W5 ⟨hb5, hf5, t5, hrw5⟩
      have HF5 : Hid (∀ w', Below W5.heap.size W5 w' → factsAt w' (.slice (some ⟨g, 0, none⟩) f.length cap) (f.set k ⟨f[k].pred, f[k].a, f[k].b, Lat.joinOf qk u v⟩)) := fun w' hb => factsAt.lasts hb hf5
      have s5 : bb < W5.heap.size := Nat.lt_of_lt_of_le hbl hb5.size
      clear hf5 HF3 d3 fz t3'
      have LG : ∀ x : Low W5.heap.size W5, x.wd.cell? ⟨bb, off + k * 4 + 3, none⟩ = some (.int .i64 u) := fun x => (cell_lasts x.low s5).trans t5
      refine wp_region_low W5.heap.size (by kernel_rfl) (by kernel_rfl) ?_
      repeat (go_big_quiet_step (fail))
      refine wpQuiet_nil ?_
      rintro w6 ⟨⟨w6', hk6⟩, hw6⟩
      obtain rfl : w6 = w6' := hw6
      clear LG
      go_wp2_with fail
      go_ret3
      exact ⟨_, rfl, HF5.out _ hk6, ⟨⟨_, _, cap, rfl, hnc, fun h => by cases h⟩, fun b hb => by cases hb; exact hwg⟩, hrw5.out.lasts hk6, hb5.trans (hk6.mono hb5.size)⟩
  · have e : addOf ps f ⟨p, a, b, v⟩ = ([], false, withErr ps f ⟨p, a, b, v⟩) := by simp [addOf, h0]
    rw [e]
    have h0' : (withErr ps f ⟨p, a, b, v⟩ == 0) = false := by simpa using h0
    go_enter Tryz.func100, Tryz.ntmps100
    go_wp2_with (go_at_call 115; refine (checkWith_c _ _ _ ps f _ _ _ _ (HP.out _ (below_alloc _ _)) (HF.out _ (below_alloc _ _))).mono ?_; rintro e w1 ⟨rfl, hb1⟩; have HB : Hid (Below w.heap.size w w1) := (below_alloc _ _).trans (hb1.mono (by simp)); clear hb1)
    go_ret3
    exact ⟨_, rfl, facts_nil _, new_nil _, rowW_nil _, HB.out⟩
theorem Add_n (w : World) (pv fv : Value) (ps : List Prd) (f : List Fct) (p a b v : Int) (hp : predsAt w pv ps) (hf : factsAt w fv f) (hc : capOk fv) :
    Calls Tryz.prog 100 #[pv, fv, .agg #[.int .i64 p, .int .i64 a, .int .i64 b, .int .i64 v]] w fun e w' => ∃ u, e = .returned (.tuple #[u, .bool (addOf ps f ⟨p, a, b, v⟩).2.1, .int .i64 (addOf ps f ⟨p, a, b, v⟩).2.2]) ∧ factsAt w' u (addOf ps f ⟨p, a, b, v⟩).1 ∧ capNew w.heap.size u ∧ Below w.heap.size w w' :=
  (Add_w w pv fv ps f p a b v hp hf hc).mono fun _ _ ⟨u, h1, h2, h3, _, h4⟩ => ⟨u, h1, h2, h3, h4⟩

theorem Add_c (w : World) (pv fv : Value) (ps : List Prd) (f : List Fct) (p a b v : Int) (hp : predsAt w pv ps) (hf : factsAt w fv f) (hc : capOk fv) :
    Calls Tryz.prog 100 #[pv, fv, .agg #[.int .i64 p, .int .i64 a, .int .i64 b, .int .i64 v]] w fun e w' => ∃ u, e = .returned (.tuple #[u, .bool (addOf ps f ⟨p, a, b, v⟩).2.1, .int .i64 (addOf ps f ⟨p, a, b, v⟩).2.2]) ∧ factsAt w' u (addOf ps f ⟨p, a, b, v⟩).1 ∧ capOk u ∧ Below w.heap.size w w' :=
  (Add_n w pv fv ps f p a b v hp hf hc).mono fun _ _ ⟨u, h1, h2, h3, h4⟩ => ⟨u, h1, h2, h3.1, h4⟩
end Go.Proofs.YtlfccloaoopadafGreatDoor.Base

/-
  What must be in any case of package base.
-/
namespace Go.Proofs.YtlfccloaoopadafGreatDoor.Base
open Go.ChangeShapes Go.WideShapes Go.ChangeAt Go.RowKit
open Lat (within within_c join)
open Rule (factFine factFine_c isPred kindOf arityOf isPred_iff)

def pathsL : List Fct := [⟨0, 0, 1, 0⟩, ⟨0, 1, 2, 0⟩, ⟨1, 0, 1, 4⟩]
def pathsM : List Fct := [⟨0, 0, 1, 0⟩, ⟨0, 1, 2, 0⟩, ⟨1, 0, 1, 2⟩]
theorem paths_c (w : World) : Calls Tryz.prog 36 #[] w fun e w' => ∃ v, e = .returned v ∧ factsAt w' v pathsL ∧ capOk v ∧ Below w.heap.size w w' := by
  go_enter Tryz.func36, Tryz.ntmps36
  go_wp2_with fail
  go_ret
  refine ⟨_, rfl, ⟨_, 3, rfl, by decide, .inr ⟨w.heap.size, 0, rfl, by simp, ?_⟩⟩, ⟨_, _, 3, rfl, Nat.le_refl _, fun h => by cases h⟩, below_alloc _ _⟩
  intro i x hi
  match i, hi with
  | 0, hi =>
    obtain rfl : (⟨0, 0, 1, 0⟩ : Fct) = x := by simpa [pathsL] using hi
    refine ⟨?_, ?_, ?_, ?_⟩ <;> simp [go_sem]
  | 1, hi =>
    obtain rfl : (⟨0, 1, 2, 0⟩ : Fct) = x := by simpa [pathsL] using hi
    refine ⟨?_, ?_, ?_, ?_⟩ <;> simp [go_sem]
  | 2, hi =>
    obtain rfl : (⟨1, 0, 1, 4⟩ : Fct) = x := by simpa [pathsL] using hi
    refine ⟨?_, ?_, ?_, ?_⟩ <;> simp [go_sem]
  | i + 3, hi => simp [pathsL] at hi

theorem b1 : findOf Roads.preds pathsL ⟨1, 0, 1, 0⟩ = (4, true, 0) := by decide
theorem b2 : addOf Roads.preds pathsL ⟨1, 0, 1, 2⟩ = (pathsM, true, 0) := rfl
theorem b3 : (addOf Roads.preds pathsL ⟨1, 0, 1, 9⟩).2 = (false, 0) := by decide
theorem b4 : underOf Roads.preds pathsL pathsM = (true, 0) := by decide
theorem b5 : underOf Roads.preds pathsM pathsL = (false, 0) := by decide
theorem b6 : (addOf Roads.preds pathsL ⟨2, 0, 1, 0⟩).2.2 = 1 := by decide
theorem b7 : factsErr Roads.preds pathsL = 0 := by decide

end Go.Proofs.YtlfccloaoopadafGreatDoor.Base
