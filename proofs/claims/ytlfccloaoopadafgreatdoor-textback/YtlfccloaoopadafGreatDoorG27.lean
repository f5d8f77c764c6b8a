/-
  New lists of facts: what the library's slices.Grow, slices.Concat and slices.Clone lay in memory.
-/
import Derived.Deep.AppendLies
import Derived.Deep.DeepAppendWide
import Derived.Test.YtlfccloaoopadafGreatDoorG26
import Derived.Test.YtlfccloaoopadafGreatDoorG30
import Derived.Test.YtlfccloaoopadafGreatDoorG14
namespace Go.Proofs.YtlfccloaoopadafGreatDoor.Base
open Go.ChangeShapes Go.WideShapes Go.ChangeAt Go.RowKit

def cellsF : List Fct → List Value
  | [] => []
  | x :: l => .int .i64 x.pred :: .int .i64 x.a :: .int .i64 x.b :: .int .i64 x.val :: cellsF l
theorem cellsF_length : ∀ l, (cellsF l).length = l.length * 4
  | [] => rfl
  | x :: l => by simp only [cellsF, List.length_cons, cellsF_length l]; omega
theorem cellsF_append : ∀ l m, cellsF (l ++ m) = cellsF l ++ cellsF m
  | [], m => rfl
  | x :: l, m => by simp only [List.cons_append, cellsF, cellsF_append l m]
theorem cellsF_one : ∀ l, ∀ u ∈ cellsF l, u.oneCell' = true
  | [], u, h => by cases h
  | x :: l, u, h => by
    simp only [cellsF, List.mem_cons] at h
    rcases h with rfl | rfl | rfl | rfl | h
    · rfl
    · rfl
    · rfl
    · rfl
    · exact cellsF_one l u h
theorem cellsF_at : ∀ (l : List Fct) (i : Nat) (x : Fct), l[i]? = some x → (cellsF l)[i * 4]? = some (.int .i64 x.pred) ∧ (cellsF l)[i * 4 + 1]? = some (.int .i64 x.a) ∧ (cellsF l)[i * 4 + 2]? = some (.int .i64 x.b) ∧ (cellsF l)[i * 4 + 3]? = some (.int .i64 x.val)
  | [], i, x, h => by simp at h
  | y :: l, 0, x, h => by
    obtain rfl : y = x := by simpa using h
    exact ⟨rfl, rfl, rfl, rfl⟩
  | y :: l, i + 1, x, h => by
    have := cellsF_at l i x (by simpa using h)
    rw [show (i + 1) * 4 = i * 4 + 4 by omega]
    simpa [cellsF] using this
theorem cellsF_get : ∀ (l : List Fct) (j : Nat) (u : Value), (cellsF l)[j]? = some u → ∃ i x, l[i]? = some x ∧ ((j = i * 4 ∧ u = .int .i64 x.pred) ∨ (j = i * 4 + 1 ∧ u = .int .i64 x.a) ∨ (j = i * 4 + 2 ∧ u = .int .i64 x.b) ∨ (j = i * 4 + 3 ∧ u = .int .i64 x.val))
  | [], j, u, h => by simp [cellsF] at h
  | y :: l, 0, u, h => ⟨0, y, rfl, .inl ⟨rfl, by simpa [cellsF] using h.symm⟩⟩
  | y :: l, 1, u, h => ⟨0, y, rfl, .inr (.inl ⟨rfl, by simpa [cellsF] using h.symm⟩)⟩
  | y :: l, 2, u, h => ⟨0, y, rfl, .inr (.inr (.inl ⟨rfl, by simpa [cellsF] using h.symm⟩))⟩
  | y :: l, 3, u, h => ⟨0, y, rfl, .inr (.inr (.inr ⟨rfl, by simpa [cellsF] using h.symm⟩))⟩
  | y :: l, j + 4, u, h => by
    obtain ⟨i, x, hx, hr⟩ := cellsF_get l j u (by simpa [cellsF] using h)
    refine ⟨i + 1, x, by simpa using hx, ?_⟩
    rcases hr with ⟨rfl, rfl⟩ | ⟨rfl, rfl⟩ | ⟨rfl, rfl⟩ | ⟨rfl, rfl⟩
    · exact .inl ⟨by omega, rfl⟩
    · exact .inr (.inl ⟨by omega, rfl⟩)
    · exact .inr (.inr (.inl ⟨by omega, rfl⟩))
    · exact .inr (.inr (.inr ⟨by omega, rfl⟩))
theorem add_none (b off i : Nat) : (⟨b, off, none⟩ : Addr).add i = ⟨b, off + i, none⟩ := by simp [Addr.add]

/-- v holds the facts xs somewhere in memory -/
def piece (w : World) (v : Value) (xs : List Fct) : Prop :=
  (∃ c, v = .slice none 0 c ∧ xs = []) ∨ ∃ ad c, v = .slice (some ad) xs.length c ∧ ∀ j u, (cellsF xs)[j]? = some u → w.cell? (ad.add j) = some u
theorem addr_lt {w : World} {p : Addr} {v : Value} (h : w.cell? p = some v) : p.block < w.heap.size := by
  refine Classical.byContradiction fun hn => ?_
  have : w.heap[p.block]? = none := by simp; omega
  simp [World.cell?, this] at h
theorem piece.lasts {w w' : World} {v : Value} {xs : List Fct} (h : piece w v xs) (hb : Below w.heap.size w w') : piece w' v xs := by
  rcases h with h | ⟨ad, c, h1, h2⟩
  · exact .inl h
  · exact .inr ⟨ad, c, h1, fun j u hu => (hb.cell (addr_lt (h2 j u hu))).trans (h2 j u hu)⟩
theorem facts_cells {w : World} {b off : Nat} {xs : List Fct} (h : ∀ i x, xs[i]? = some x → factAt w b (off + i * 4) x) : ∀ j u, (cellsF xs)[j]? = some u → w.cell? ((⟨b, off, none⟩ : Addr).add j) = some u := by
  intro j u hu
  obtain ⟨i, x, hx, hr⟩ := cellsF_get xs j u hu
  obtain ⟨c0, c1, c2, c3⟩ := h i x hx
  rw [add_none]
  rcases hr with ⟨rfl, rfl⟩ | ⟨rfl, rfl⟩ | ⟨rfl, rfl⟩ | ⟨rfl, rfl⟩
  · exact c0
  · exact c1
  · exact c2
  · exact c3
theorem facts_piece {w : World} {v : Value} {xs : List Fct} (h : factsAt w v xs) : piece w v xs := by
  obtain ⟨a, c, rfl, _, hx⟩ := h
  rcases hx with rfl | ⟨b, off, rfl, _, hx⟩
  · cases a with
    | none => exact .inl ⟨c, rfl, rfl⟩
    | some ad => exact .inr ⟨ad, c, rfl, fun j u hu => by simp [cellsF] at hu⟩
  · exact .inr ⟨_, c, rfl, facts_cells hx⟩
/-- a row of the call's own is a list of facts -/
theorem factsAt_of {w : World} {base : Nat} {e : TypeId} {v : Value} {l : List Fct} (h : w.ownsRow base e 4 v l.length (cellsF l)) (hl : l.length ≤ 140737488355328) : factsAt w v l := by
  obtain ⟨h0, h1⟩ := h
  rcases h1 with ⟨rfl, hn⟩ | ⟨g, cap, cur, rfl, hb, hg, hc, hm, hsz, htk⟩
  · have : l = [] := List.eq_nil_of_length_eq_zero hn
    subst this
    exact ⟨none, 0, rfl, by simp, .inl rfl⟩
  · refine ⟨_, cap, rfl, hl, .inr ⟨g, 0, rfl, (Array.getElem?_eq_some_iff.1 hg).1, ?_⟩⟩
    intro i x hi
    have hcell : ∀ j z, (cellsF l)[j]? = some z → w.cell? ⟨g, 0 + j, none⟩ = some z := by
      intro j z hz
      rw [← htk] at hz
      have hj : j < l.length * 4 := by
        have := (List.getElem?_eq_some_iff.1 hz).1
        simp at this
        omega
      rw [List.getElem?_take_of_lt hj] at hz
      simp [World.cell?, hg]
      simpa using hz
    obtain ⟨k0, k1, k2, k3⟩ := cellsF_at l i x hi
    exact ⟨hcell _ _ k0, hcell _ _ k1, hcell _ _ k2, hcell _ _ k3⟩

theorem infoFact : (Tryz.prog.info? 82).map (fun i => (i.zero, i.size, i.bytes)) = some (some (.agg #[.int .i64 0, .int .i64 0, .int .i64 0, .int .i64 0]), 4, 32) := by kernel_rfl

section
variable {P : Program}
theorem run_append_zeros (w : World) (t u ty e : TypeId) (k : IntKind) (i : TypeInfo) (z : Value) (ht : P.underlying t = some (.slice e)) (hu : P.underlying u = some (.int k)) (hi : P.info? e = some i) (hz : i.zero = some z) (hs : 0 < i.size)
    (n : Nat) (h0 : 0 < n) (h63 : (n : Int) ≤ 1000) (hb : i.bytes ≤ 1000) :
    (Builtin.append_ #[t, u] ty #[.slice none 0 0, .int .i64 n]).run P w =
      .ok (.slice (some ⟨w.heap.size, 0, none⟩) n (grownCap w n 0 e)) (w.drew.alloc (.cells (Builtin.zeroCells z.cells n ++ Builtin.zeroCells z.cells (grownCap w n 0 e - n)) e)) := by
  have hn : n ≠ 0 := by omega
  have h63' : ¬ (9223372036854775807 < (n : Int)) := by omega
  have hle : n * i.bytes ≤ 1000 * 1000 := Nat.mul_le_mul (by omega) hb
  have h48' : ¬ (281474976710656 < Builtin.nextslicecap n 0 * i.bytes) := by rw [nextslicecap_zero h0]; omega
  have hw : IntKind.i64.wrap (n : Int) = n := by rw [IntKind.wrap_i64]; omega
  have hle' : ¬ (281474976710656 < (n : Int) * (i.bytes : Int)) := by
    have : ((n * i.bytes : Nat) : Int) = (n : Int) * (i.bytes : Int) := by push_cast; rfl
    omega
  have hne : n * i.size ≠ 0 := Nat.mul_ne_zero hn (by omega)
  simp [Builtin.append_, run_underlying ht, run_underlying hu, sizeOf, typeInfo, zeroValue, hi, hz, asInt, asIntOf, hw, hn, h63', h48', hle', hne, Question.forced, run_firstCells_none, newRow, grownCap]
  intro hneg
  omega

theorem wpList_append_zeros (w : World) {ops : Array Oper} {rest : List Oper} {o : Oper} {a : Act} {Q : Exit → Act → World → Prop} (hgd : o.guard = none) (s x : Operand) (t u : TypeId)
    (ho : o.op = .call { callee := .builtin .append, args := #[s, x], argTypes := #[t, u] }) (e : TypeId) (k : IntKind) (i : TypeInfo) (z : Value) (ht : P.underlying t = some (.slice e)) (hu : P.underlying u = some (.int k)) (hi : P.info? e = some i) (hz : i.zero = some z) (hs : 0 < i.size)
    (n : Nat) (h0 : 0 < n) (h63 : (n : Int) ≤ 1000) (hb : i.bytes ≤ 1000) (hsv : a.eval s = .slice none 0 0) (hxv : a.eval x = .int .i64 n)
    (h : wpList P ops Q rest (a.put o.dst (.slice (some ⟨w.heap.size, 0, none⟩) n (grownCap w n 0 e))) (w.drew.alloc (.cells (Builtin.zeroCells z.cells n ++ Builtin.zeroCells z.cells (grownCap w n 0 e - n)) e))) : wpList P ops Q (o :: rest) a w :=
  wpList_plain hgd fun _ hK => by
    have hr := run_append_zeros (P := P) w t u o.type e k i z ht hu hi hz hs n h0 h63 hb
    unfold Oper.wp execOp
    simp only [ho, resolve, invoke, builtin, Sem.run_bind, Sem.run_pure, Result.andThen_ok, List.map_toArray, List.map_cons, List.map_nil, hsv, hxv, hr]
    exact hK _ _ h

theorem wpList_append_none (w : World) {ops : Array Oper} {rest : List Oper} {o : Oper} {a : Act} {Q : Exit → Act → World → Prop} (hgd : o.guard = none) (s x : Operand) (t : TypeId)
    (ho : o.op = .call { callee := .builtin .append, args := #[s, x], argTypes := #[t, t] }) (e : TypeId) (i : TypeInfo) (ht : P.underlying t = some (.slice e)) (hi : P.info? e = some i)
    (ad : Option Addr) (n cap c : Nat) (hn : n ≤ cap) (hsv : a.eval s = .slice ad n cap) (hxv : a.eval x = .slice none 0 c)
    (h : wpList P ops Q rest (a.put o.dst (.slice ad n cap)) w) : wpList P ops Q (o :: rest) a w :=
  wpList_plain hgd fun _ hK => by
    have hr : (Builtin.append_ #[t, t] o.type #[.slice ad n cap, .slice none 0 c]).run P w = .ok (.slice ad n cap) w := by
      cases ad <;> simp [Builtin.append_, run_underlying ht, sizeOf, typeInfo, hi, Builtin.lenOf, Builtin.firstCells, hn, storeCells]
    unfold Oper.wp execOp
    simp only [ho, resolve, invoke, builtin, Sem.run_bind, Sem.run_pure, Result.andThen_ok, List.map_toArray, List.map_cons, List.map_nil, hsv, hxv, hr]
    exact hK _ _ h
end

theorem wpList_append_piece (w : World) {ops : Array Oper} {rest : List Oper} {o : Oper} {a : Act} {Q : Exit → Act → World → Prop} (hgd : o.guard = none) (s x : Operand)
    (ho : o.op = .call { callee := .builtin .append, args := #[s, x], argTypes := #[38, 38] }) (base : Nat) (v : Value) (xs ys : List Fct) (hown : w.ownsRow base 82 4 v xs.length (cellsF xs)) (hs : a.eval s = v) (y : Value) (hy : a.eval x = y) (hp : piece w y ys)
    (hb : xs.length + ys.length ≤ 1000) (hbase : base ≤ w.heap.size)
    (h : ∀ v' w', w'.ownsRow base 82 4 v' (xs ++ ys).length (cellsF (xs ++ ys)) → w.grownBy w' v.ownBlock → wpList Tryz.prog ops Q rest (a.put o.dst v') w') : wpList Tryz.prog ops Q (o :: rest) a w := by
  obtain ⟨i, hi, hz, hsz, hby⟩ := info_parts infoFact
  rcases hp with ⟨c, rfl, rfl⟩ | ⟨ad, c, rfl, hc⟩
  · have hown' := hown
    rcases hown.2 with ⟨rfl, h0⟩ | ⟨g, cap, cur, rfl, h1, h2, h3, h4, h5, h6⟩
    · refine wpList_append_none w hgd s x 38 ho 82 i Tryz.underlying38 hi none 0 0 c (Nat.le_refl _) hs hy ?_
      exact h _ w (by rw [List.append_nil]; exact hown') ⟨rfl, rfl, rfl, Nat.le_refl _, fun _ _ _ => rfl⟩
    · refine wpList_append_none w hgd s x 38 ho 82 i Tryz.underlying38 hi (some ⟨g, 0, none⟩) xs.length cap c h3 hs hy ?_
      exact h _ w (by rw [List.append_nil]; exact hown') ⟨rfl, rfl, rfl, Nat.le_refl _, fun _ _ _ => rfl⟩
  · refine wpList_append_own_wide w hgd s x 38 ho base 82 i _ 4 32 Tryz.underlying38 hi hz hsz hby rfl (by omega) v xs.length (cellsF xs) hs hown ad ys.length c (cellsF ys) hy (cellsF_length ys) hc (cellsF_one ys) (by unfold maxLen; omega) (by omega) hbase ?_
    intro v' w' h1 h2 _
    exact h v' w' (by rw [List.length_append, cellsF_append]; exact h1) h2

set_option maxRecDepth 100000 in
set_option maxHeartbeats 4000000 in
theorem grow_c (w : World) (n : Nat) (h0 : 0 < n) (h1 : n ≤ 1000) :
    Calls Tryz.prog 148 #[.slice none 0 0, .int .i64 n] w fun e w' => ∃ v, e = .returned v ∧ w'.ownsRow w.heap.size 82 4 v 0 [] ∧ Below w.heap.size w w' := by
  obtain ⟨i, hi, hz, hsz, hby⟩ := info_parts infoFact
  have h0' : (0 : Int) < (n : Int) := by omega
  have h0'' : ¬ (n : Int) < 0 := by omega
  have hge := grownCap_ge w n 0 82
  have hcm : grownCap w n 0 82 ≤ maxLen := grownCap_le_maxLen w n 0 82 (by unfold maxLen; omega)
  go_enter Tryz.func148, Tryz.ntmps148
  go_wp2_with (at_builtin; refine wpList_append_zeros _ rfl _ _ 38 3 rfl 82 .i64 i _ Tryz.underlying38 Tryz.underlying3 hi hz (by omega) n h0 (by omega) (by omega) rfl rfl ?_)
  go_ret
  refine ⟨_, rfl, ⟨rfl, .inr ⟨w.heap.size, _, _, rfl, Nat.le_refl _, heap_alloc_new w.drew _, Nat.zero_le _, hcm, ?_, by simp⟩⟩, ((Below.refl _ _).drew).alloc (Nat.le_refl _) _⟩
  have e4 : #[Value.int .i64 0, .int .i64 0, .int .i64 0, .int .i64 0].size = 4 := rfl
  rw [Array.size_append, size_zeroCells, size_zeroCells, e4]
  omega

set_option maxRecDepth 100000 in
set_option maxHeartbeats 4000000 in
theorem clone_c (w : World) (fv : Value) (f : List Fct) (hf : factsAt w fv f) (h0 : 0 < f.length) (h1 : f.length ≤ 500) :
    Calls Tryz.prog 98 #[fv] w fun e w' => ∃ v, e = .returned v ∧ w'.ownsRow w.heap.size 82 4 v f.length (cellsF f) ∧ Below w.heap.size w w' := by
  have HP : Hid (piece w fv f) := facts_piece hf
  obtain ⟨fa, fc, rfl, hfm, hfx⟩ := hf
  obtain ⟨b, off, rfl, hbl, _⟩ := hfx.resolve_left (by rintro rfl; simp at h0)
  clear hfx
  have hnil : ∀ w', Sem.run Tryz.prog (binOp .eql 38 (.slice (some ⟨b, off, none⟩) f.length fc) (.slice none 0 0)) w' = .ok (.bool false) w' := fun w' => by
    have h : ∀ d : Nat, (Op.equalIn (d + 1) 38 (.slice (some ⟨b, off, none⟩) f.length fc) (.slice none 0 0)).run Tryz.prog w' = .ok false w' := fun d => by
      simp [Op.equalIn, run_underlying Tryz.underlying38]
    simp only [binOp]
    simp [Op.equal, Op.maxDepth, h 9999]
  go_enter Tryz.func98, Tryz.ntmps98
  have HN : Hid ((w.alloc (.cells #[] 82)).ownsRow w.heap.size 82 4 (.slice (some ⟨w.heap.size, 0, none⟩) 0 0) ([] : List Fct).length (cellsF [])) := ⟨rfl, .inr ⟨w.heap.size, 0, #[], rfl, Nat.le_refl _, heap_alloc_new w _, Nat.le_refl _, Nat.zero_le _, rfl, rfl⟩⟩
  go_wp2_with (at_builtin; refine wpList_append_piece _ rfl _ _ rfl w.heap.size (.slice (some ⟨w.heap.size, 0, none⟩) 0 0) [] f HN.out rfl _ rfl (HP.out.lasts (below_alloc _ _)) (by simp; omega) (by simp) ?_; intro v1 w1 hown1 hgr1; have hb1 : Below w.heap.size w w1 := (below_alloc _ _).grown hgr1 (by simp) (fun k hk => by cases hk; exact Nat.le_refl _); clear hgr1)
  go_ret
  exact ⟨v1, rfl, hown1, hb1⟩

theorem grown_below {w w1 w2 : World} {base : Nat} {e : TypeId} {v : Value} {n : Nat} {xs : List Value} (hb : Below base w w1) (hown : w1.ownsRow base e 4 v n xs) (hg : w1.grownBy w2 v.ownBlock) (hs : base ≤ w1.heap.size) : Below base w w2 :=
  hb.grown hg hs (fun k hk => (hown.lt k hk).1)

set_option maxRecDepth 100000 in
set_option maxHeartbeats 8000000 in
theorem concat_c (w : World) (B : Nat) (a1 a2 a3 : Option Addr) (c1 c2 c3 : Nat) (x1 x2 x3 : List Fct) (h1 : w.cell? ⟨B, 0, none⟩ = some (.slice a1 x1.length c1)) (h2 : w.cell? ⟨B, 1, none⟩ = some (.slice a2 x2.length c2)) (h3 : w.cell? ⟨B, 2, none⟩ = some (.slice a3 x3.length c3))
    (p1 : piece w (.slice a1 x1.length c1) x1) (p2 : piece w (.slice a2 x2.length c2) x2) (p3 : piece w (.slice a3 x3.length c3) x3) (hpos : 0 < x2.length) (hle : x1.length + x2.length + x3.length ≤ 500) :
    Calls Tryz.prog 117 #[.slice (some ⟨B, 0, none⟩) 3 3] w fun e w' => ∃ v, e = .returned v ∧ w'.ownsRow w.heap.size 82 4 v (x1 ++ x2 ++ x3).length (cellsF (x1 ++ x2 ++ x3)) ∧ Below w.heap.size w w' := by
  have HP1 : Hid (piece w (.slice a1 x1.length c1) x1) := p1
  have HP2 : Hid (piece w (.slice a2 x2.length c2) x2) := p2
  have HP3 : Hid (piece w (.slice a3 x3.length c3) x3) := p3
  have bB : B < w.heap.size := cell_lt h1
  clear p1 p2 p3
  go_enter Tryz.func117, Tryz.ntmps117
  go_wp2_with fail
  go_loop [3, 11] (fun s i => (s = .int .i64 0 ∧ i = .int .i64 0) ∨ (s = .int .i64 x1.length ∧ i = .int .i64 1) ∨ (s = .int .i64 ((x1.length + x2.length : Nat) : Int) ∧ i = .int .i64 2) ∨ (s = .int .i64 ((x1.length + x2.length + x3.length : Nat) : Int) ∧ i = .int .i64 3)) (fun _ i => 3 - (intOf i).toNat)
  case atStart => exact .inl ⟨rfl, rfl⟩
  case round =>
    rcases hrel with ⟨rfl, rfl⟩ | ⟨rfl, rfl⟩ | ⟨rfl, rfl⟩ | ⟨rfl, rfl⟩
    · have g1 : ¬ ((x1.length : Int) < 0) := by omega
      go_wp2_with fail
      go_round
      case rel => exact .inr (.inl ⟨by go_num, by go_num⟩)
      case measure => simp [intOf]
    · have g1 : ¬ ((x1.length : Int) + (x2.length : Int) < 0) := by omega
      go_wp2_with fail
      go_round
      case rel => exact .inr (.inr (.inl ⟨by go_num, by go_num⟩))
      case measure => simp [intOf]
    · have g1 : ¬ (((x1.length + x2.length : Nat) : Int) + (x3.length : Int) < 0) := by omega
      have g2 : ¬ ((x1.length : Int) + (x2.length : Int) + (x3.length : Int) < 0) := by omega
      go_wp2_with fail
      go_round
      case rel => exact .inr (.inr (.inr ⟨by go_num, by go_num⟩))
      case measure => simp [intOf]
    · have hg := grow_c w (x1.length + x2.length + x3.length) (by omega) (by omega)
      simp only [Int.natCast_add] at hg
      go_wp2_with (go_at_call 148; refine hg.mono ?_; rintro e w1 ⟨v0, rfl, hown0, hb0⟩)
      clear hg
      go_loopw [6, 27] (fun s i wr => ∃ (xs : List Fct) (v : Value), v = s ∧ Below w.heap.size w wr ∧ wr.ownsRow w.heap.size 82 4 v xs.length (cellsF xs) ∧ (([] = xs ∧ i = .int .i64 0) ∨ (x1 = xs ∧ i = .int .i64 1) ∨ (x1 ++ x2 = xs ∧ i = .int .i64 2) ∨ (x1 ++ x2 ++ x3 = xs ∧ i = .int .i64 3))) (fun _ i _ => 3 - (intOf i).toNat)
      case atStart => exact ⟨[], _, rfl, hb0, hown0, .inl ⟨rfl, rfl⟩⟩
      case round =>
      obtain ⟨xs, v, hvs, hbw, hown, hi⟩ := hrel
      subst hvs
      rcases hi with ⟨hx, rfl⟩ | ⟨hx, rfl⟩ | ⟨hx, rfl⟩ | ⟨hx, rfl⟩ <;> subst hx
      · have t1 := (cell_lasts hbw bB).trans h1
        have HPP : Hid (piece wr (.slice a1 x1.length c1) x1) := HP1.out.lasts hbw
        have HOW : Hid (wr.ownsRow w.heap.size 82 4 v ([]).length (cellsF ([]))) := hown
        clear hown
        go_wp2_with (at_builtin; refine wpList_append_piece _ rfl _ _ rfl w.heap.size v ([]) x1 HOW.out rfl _ rfl HPP.out (by first | omega | (simp; omega)) hbw.size ?_; intro v1 w1 hown1 hgr1; have hb1 : Below w.heap.size w w1 := grown_below hbw HOW.out hgr1 hbw.size; clear hgr1)
        go_roundw
        case rel => exact ⟨_, _, rfl, hb1, hown1, .inr (.inl ⟨rfl, by go_num⟩)⟩
        case measure => simp [intOf]
      · have t1 := (cell_lasts hbw bB).trans h2
        have HPP : Hid (piece wr (.slice a2 x2.length c2) x2) := HP2.out.lasts hbw
        have HOW : Hid (wr.ownsRow w.heap.size 82 4 v (x1).length (cellsF (x1))) := hown
        clear hown
        go_wp2_with (at_builtin; refine wpList_append_piece _ rfl _ _ rfl w.heap.size v (x1) x2 HOW.out rfl _ rfl HPP.out (by first | omega | (simp; omega)) hbw.size ?_; intro v1 w1 hown1 hgr1; have hb1 : Below w.heap.size w w1 := grown_below hbw HOW.out hgr1 hbw.size; clear hgr1)
        go_roundw
        case rel => exact ⟨_, _, rfl, hb1, hown1, .inr (.inr (.inl ⟨rfl, by go_num⟩))⟩
        case measure => simp [intOf]
      · have t1 := (cell_lasts hbw bB).trans h3
        have HPP : Hid (piece wr (.slice a3 x3.length c3) x3) := HP3.out.lasts hbw
        have HOW : Hid (wr.ownsRow w.heap.size 82 4 v (x1 ++ x2).length (cellsF (x1 ++ x2))) := hown
        clear hown
        go_wp2_with (at_builtin; refine wpList_append_piece _ rfl _ _ rfl w.heap.size v (x1 ++ x2) x3 HOW.out rfl _ rfl HPP.out (by first | omega | (simp; omega)) hbw.size ?_; intro v1 w1 hown1 hgr1; have hb1 : Below w.heap.size w w1 := grown_below hbw HOW.out hgr1 hbw.size; clear hgr1)
        go_roundw
        case rel => exact ⟨_, _, rfl, hb1, hown1, .inr (.inr (.inr ⟨rfl, by go_num⟩))⟩
        case measure => simp [intOf]
      · have HOW : Hid (wr.ownsRow w.heap.size 82 4 v (x1 ++ x2 ++ x3).length (cellsF (x1 ++ x2 ++ x3))) := hown
        clear hown
        go_wp2_with fail
        go_ret
        exact ⟨_, rfl, HOW.out, hbw⟩
end Go.Proofs.YtlfccloaoopadafGreatDoor.Base

/-
  Package base: Add.
-/
namespace Go.Proofs.YtlfccloaoopadafGreatDoor.Base
open Go.ChangeShapes Go.WideShapes Go.ChangeAt Go.RowKit
open Lat (within within_c join)
open Rule (factFine factFine_c isPred kindOf arityOf isPred_iff)

theorem pos_lt {y : Fct} {f : List Fct} {pl : Int} (h : place y < pl) : pos (y :: f) pl = pos f pl + 1 := by rw [pos_cons, if_pos h]
theorem pos_ge {y : Fct} {f : List Fct} {pl : Int} (hs : Sorted (y :: f)) (h : ¬ place y < pl) : pos (y :: f) pl = 0 := by
  rw [pos_cons, if_neg h]
  exact pos_zero (fun z hz => by have := (List.pairwise_cons.1 hs).1 z hz; omega)
theorem add_fresh {K : Int → Int} {x : Fct} {f : List Fct} (hs : Sorted f) (h : get f (place x) = none) : addF K x f = f.take (pos f (place x)) ++ [x] ++ f.drop (pos f (place x)) ∧ addC K x f = true := by
  induction f with
  | nil => exact ⟨rfl, rfl⟩
  | cons y f ih =>
    rw [get_cons] at h
    by_cases e : place y = place x
    · rw [if_pos e] at h; cases h
    · rw [if_neg e] at h
      rw [addF, addC, if_neg e, if_neg e]
      by_cases l : place x < place y
      · rw [if_pos l, if_pos l, pos_ge hs (by omega)]
        exact ⟨rfl, rfl⟩
      · rw [if_neg l, if_neg l, pos_lt (by omega)]
        obtain ⟨h1, h2⟩ := ih (List.pairwise_cons.1 hs).2 h
        rw [h1, h2]
        exact ⟨rfl, rfl⟩
theorem add_there {K : Int → Int} {x : Fct} {f : List Fct} (hs : Sorted f) (hp : pos f (place x) < f.length) (h : place f[pos f (place x)] = place x) :
    addF K x f = f.set (pos f (place x)) ⟨f[pos f (place x)].pred, f[pos f (place x)].a, f[pos f (place x)].b, join (K x.pred) f[pos f (place x)].val x.val⟩ ∧ addC K x f = (join (K x.pred) f[pos f (place x)].val x.val != f[pos f (place x)].val) := by
  induction f with
  | nil => simp at hp
  | cons y f ih =>
    by_cases l : place y < place x
    · have e := pos_lt (f := f) l
      simp only [e, List.getElem_cons_succ, List.length_cons, Nat.add_lt_add_iff_right, List.set_cons_succ] at h hp ⊢
      obtain ⟨h1, h2⟩ := ih (List.pairwise_cons.1 hs).2 hp h
      rw [addF, addC, if_neg (by omega), if_neg (by omega), if_neg (by omega), if_neg (by omega), h1, h2]
      exact ⟨rfl, rfl⟩
    · have e := pos_ge hs l
      simp only [e, List.getElem_cons_zero, List.set_cons_zero] at h hp ⊢
      rw [addF, addC, if_pos h, if_pos h]
      exact ⟨rfl, rfl⟩
theorem facts_short {ps : List Prd} {f : List Fct} (h : factsErr ps f = 0) : f.length ≤ 125 := by
  have hr := right_of h
  have h5 := (factsErr_zero h).1
  have hge : ∀ i (hi : i < f.length), (i : Int) ≤ place f[i] := by
    intro i
    induction i with
    | zero =>
      intro hi
      obtain ⟨_, _, _, _, _, _, _⟩ := hr.fine f[0] (List.getElem_mem hi)
      unfold place
      omega
    | succ i ih =>
      intro hi
      have h1 := ih (by omega)
      have h2 := good_adj (factsErr_zero h).2.2 i hi
      omega
  refine Classical.byContradiction fun hn => ?_
  have h1 := hge 125 (by omega)
  obtain ⟨_, _, _, _, _, _, _⟩ := hr.fine f[125] (List.getElem_mem (by omega))
  unfold place at h1
  omega

/-- D2 -/
def addOf (ps : List Prd) (f : List Fct) (x : Fct) : List Fct × Bool × Int := if withErr ps f x ≠ 0 then ([], false, withErr ps f x) else (addF (kindOf ps) x f, addC (kindOf ps) x f, 0)
/-- a slice within its room -/
def capOk (v : Value) : Prop := ∃ a n c, v = .slice a n c ∧ n ≤ c ∧ (a = none → c = 0)
theorem cap_own {w : World} {base : Nat} {e : TypeId} {sz n : Nat} {v : Value} {xs : List Value} (h : w.ownsRow base e sz v n xs) : capOk v := by
  rcases h.2 with ⟨rfl, _⟩ | ⟨g, cap, cur, rfl, _, _, h3, _⟩
  · exact ⟨none, 0, 0, rfl, Nat.le_refl _, fun _ => rfl⟩
  · exact ⟨_, n, cap, rfl, h3, fun h => by cases h⟩
theorem facts_nil (w : World) : factsAt w (.slice none 0 0) [] := ⟨none, 0, rfl, by simp, .inl rfl⟩
theorem cap_nil : capOk (.slice none 0 0) := ⟨none, 0, 0, rfl, Nat.le_refl _, fun _ => rfl⟩
/-- within its room, and in a block that is not older than n -/
def capNew (n : Nat) (v : Value) : Prop := capOk v ∧ ∀ b, v.ownBlock = some b → n ≤ b
/-- a row of facts that may be written: nothing, or a block of facts alone of which nothing is frozen -/
def rowW (w : World) (v : Value) : Prop := ∀ g, v.ownBlock = some g → (∃ n c, v = .slice (some ⟨g, 0, none⟩) n c) ∧ ∃ cur, w.heap[g]? = some (.cells cur 82 (0, 0))
theorem rowW_own {w : World} {base n : Nat} {v : Value} {xs : List Value} (h : w.ownsRow base 82 4 v n xs) : rowW w v := fun g hg => by
  rcases h.2 with ⟨rfl, _⟩ | ⟨g', cap, cur, rfl, _, hgc, _⟩
  · cases hg
  · cases hg
    exact ⟨⟨_, _, rfl⟩, cur, hgc⟩
theorem rowW_nil (w : World) : rowW w (.slice none 0 0) := fun g hg => by cases hg
theorem rowW.lasts {w w' : World} {v : Value} (h : rowW w v) (hb : Below w.heap.size w w') : rowW w' v := fun g hg => by
  obtain ⟨h1, cur, h2⟩ := h g hg
  exact ⟨h1, cur, (hb.block g (Array.getElem?_eq_some_iff.1 h2).1).trans h2⟩
theorem rowW.set {w : World} {v : Value} (h : rowW w v) (B o : Nat) (u : Value) : rowW (w.setCell ⟨B, o, none⟩ u) v := fun g hg => by
  obtain ⟨h1, cur, h2⟩ := h g hg
  by_cases e : B = g
  · subst e
    exact ⟨h1, _, heap_setCell_same w B o _ _ u h2⟩
  · refine ⟨h1, cur, ?_⟩
    rw [← h2]
    simp [World.setCell, Array.getElem?_modify, e]
theorem new_own {w : World} {base m : Nat} {e : TypeId} {sz n : Nat} {v : Value} {xs : List Value} (h : w.ownsRow base e sz v n xs) (hm : m ≤ base) : capNew m v := ⟨cap_own h, fun b hb => Nat.le_trans hm (h.lt b hb).1⟩
theorem new_nil (n : Nat) : capNew n (.slice none 0 0) := ⟨cap_nil, fun _ h => by cases h⟩
theorem capNew.mono {n m : Nat} {v : Value} (h : capNew n v) (hm : m ≤ n) : capNew m v := ⟨h.1, fun b hb => Nat.le_trans hm (h.2 b hb)⟩
/-- facts in a block that is not older than n -/
def factsNew (n : Nat) (w : World) (v : Value) (l : List Fct) : Prop := factsAt w v l ∧ ∀ b, v.ownBlock = some b → n ≤ b
theorem factsNew.lasts {n : Nat} {w w' : World} {v : Value} {l : List Fct} (hb : Below w.heap.size w w') (h : factsNew n w v l) : factsNew n w' v l := ⟨factsAt.lasts hb h.1, h.2⟩

theorem factsAt_set {w : World} {g cap i : Nat} {f : List Fct} (h : factsAt w (.slice (some ⟨g, 0, none⟩) f.length cap) f) (hi : i < f.length) (v : Int) :
    factsAt (w.setCell ⟨g, i * 4 + 3, none⟩ (.int .i64 v)) (.slice (some ⟨g, 0, none⟩) f.length cap) (f.set i ⟨f[i].pred, f[i].a, f[i].b, v⟩) := by
  obtain ⟨a, c, hv, hl, hx⟩ := h
  obtain ⟨b, off, rfl, hb, hx⟩ := hx.resolve_left (by rintro rfl; simp at hi)
  obtain ⟨⟨rfl, rfl⟩, rfl⟩ : (g = b ∧ 0 = off) ∧ cap = c := by simpa using hv
  refine ⟨_, cap, by rw [List.length_set], by rw [List.length_set]; exact hl, .inr ⟨g, 0, rfl, by rw [size_set]; exact hb, ?_⟩⟩
  intro k x hk
  by_cases e : i = k
  · subst e
    rw [List.getElem?_set_self hi] at hk
    obtain rfl := Option.some.inj hk
    obtain ⟨c0, c1, c2, c3⟩ := hx i f[i] (by simp [hi])
    simp only [Nat.zero_add] at c0 c1 c2 c3
    refine ⟨?_, ?_, ?_, ?_⟩
    · simp only [Nat.zero_add]; rw [cell_off (by omega)]; exact c0
    · simp only [Nat.zero_add]; rw [cell_off (by omega)]; exact c1
    · simp only [Nat.zero_add]; rw [cell_off (by omega)]; exact c2
    · simp only [Nat.zero_add]; exact cell_set c3
  · rw [List.getElem?_set_ne e] at hk
    obtain ⟨c0, c1, c2, c3⟩ := hx k x hk
    simp only [Nat.zero_add] at c0 c1 c2 c3
    refine ⟨?_, ?_, ?_, ?_⟩
    · simp only [Nat.zero_add]; rw [cell_off (by omega)]; exact c0
    · simp only [Nat.zero_add]; rw [cell_off (by omega)]; exact c1
    · simp only [Nat.zero_add]; rw [cell_off (by omega)]; exact c2
    · simp only [Nat.zero_add]; rw [cell_off (by omega)]; exact c3

theorem piece_take {w : World} {fa : Option Addr} {fc k : Nat} {f : List Fct} (h : factsAt w (.slice fa f.length fc) f) (hk : k ≤ f.length) : piece w (.slice fa k fc) (f.take k) := by
  obtain ⟨a, c, hv, _, hx⟩ := h
  simp only [Value.slice.injEq, true_and] at hv
  obtain ⟨rfl, rfl⟩ := hv
  rcases hx with rfl | ⟨b, off, rfl, _, hx⟩
  · obtain rfl : k = 0 := by simpa using hk
    cases fa with
    | none => exact .inl ⟨fc, rfl, rfl⟩
    | some ad => exact .inr ⟨ad, fc, rfl, fun j u hu => by simp [cellsF] at hu⟩
  · refine .inr ⟨_, fc, by rw [List.length_take, Nat.min_eq_left hk], facts_cells ?_⟩
    intro i x hi
    rw [List.getElem?_take] at hi
    split at hi
    · exact hx i x hi
    · cases hi
theorem piece_drop {w : World} {fa : Option Addr} {fc k : Nat} {f : List Fct} (h : factsAt w (.slice fa f.length fc) f) (hk : k ≤ f.length) (hc : f.length ≤ fc) :
    piece w (.slice (if fc = k then fa else Option.map (fun x => x.add (k * 4)) fa) (f.length - k) (fc - k)) (f.drop k) := by
  obtain ⟨a, c, hv, _, hx⟩ := h
  simp only [Value.slice.injEq, true_and] at hv
  obtain ⟨rfl, rfl⟩ := hv
  rcases hx with rfl | ⟨b, off, rfl, _, hx⟩
  · obtain rfl : k = 0 := by simpa using hk
    cases fa with
    | none => exact .inl ⟨fc - 0, by simp, rfl⟩
    | some ad =>
      by_cases e : fc = 0
      · rw [if_pos e]
        exact .inr ⟨ad, fc - 0, rfl, fun j u hu => by simp [cellsF] at hu⟩
      · rw [if_neg e]
        exact .inr ⟨_, fc - 0, rfl, fun j u hu => by simp [cellsF] at hu⟩
  · by_cases e : fc = k
    · rw [if_pos e]
      have e2 : f.drop k = [] := List.drop_eq_nil_of_le (by omega)
      rw [e2]
      exact .inr ⟨_, fc - k, by rw [show f.length - k = 0 by omega]; rfl, fun j u hu => by simp [cellsF] at hu⟩
    · rw [if_neg e]
      refine .inr ⟨⟨b, off + k * 4, none⟩, fc - k, by rw [List.length_drop]; simp [Addr.add], facts_cells ?_⟩
      intro i x hi
      rw [List.getElem?_drop] at hi
      have := hx (k + i) x hi
      rw [show off + k * 4 + i * 4 = off + (k + i) * 4 by omega]
      exact this
theorem piece_one {w : World} {B : Nat} {p a b v : Int} {t : TypeId} (h : w.heap[B]? = some (.cells #[.int .i64 p, .int .i64 a, .int .i64 b, .int .i64 v] t)) : piece w (.slice (some ⟨B, 0, none⟩) 1 1) [⟨p, a, b, v⟩] := by
  refine .inr ⟨⟨B, 0, none⟩, 1, rfl, facts_cells ?_⟩
  intro i x hi
  cases i with
  | zero =>
    obtain rfl : (⟨p, a, b, v⟩ : Fct) = x := by simpa using hi
    refine ⟨?_, ?_, ?_, ?_⟩ <;> simp [World.cell?, h]
  | succ i => simp at hi
theorem piece_new (w : World) (p a b v : Int) (t : TypeId) (B : Obj) : piece ((w.alloc (.cells #[.int .i64 p, .int .i64 a, .int .i64 b, .int .i64 v] t)).alloc B) (.slice (some ⟨w.heap.size, 0, none⟩) 1 1) [⟨p, a, b, v⟩] :=
  piece_one ((heap_alloc_old _ _ (by simp)).trans (heap_alloc_new w _))
theorem concat_is (w : World) (B : Nat) (a1 a2 a3 : Option Addr) (c1 c2 c3 n1 n2 n3 : Nat) (x1 x2 x3 : List Fct) (e1 : x1.length = n1) (e2 : x2.length = n2) (e3 : x3.length = n3) (h1 : w.cell? ⟨B, 0, none⟩ = some (.slice a1 n1 c1)) (h2 : w.cell? ⟨B, 1, none⟩ = some (.slice a2 n2 c2)) (h3 : w.cell? ⟨B, 2, none⟩ = some (.slice a3 n3 c3))
    (p1 : piece w (.slice a1 n1 c1) x1) (p2 : piece w (.slice a2 n2 c2) x2) (p3 : piece w (.slice a3 n3 c3) x3) (hpos : 0 < x2.length) (hle : x1.length + x2.length + x3.length ≤ 500) :
    Calls Tryz.prog 117 #[.slice (some ⟨B, 0, none⟩) 3 3] w fun e w' => ∃ v, e = .returned v ∧ w'.ownsRow w.heap.size 82 4 v (x1 ++ x2 ++ x3).length (cellsF (x1 ++ x2 ++ x3)) ∧ Below w.heap.size w w' := by
  subst e1 e2 e3
  exact concat_c w B a1 a2 a3 c1 c2 c3 x1 x2 x3 h1 h2 h3 p1 p2 p3 hpos hle

set_option maxRecDepth 100000 in
set_option maxHeartbeats 8000000 in
theorem Add_w (w : World) (pv fv : Value) (ps : List Prd) (f : List Fct) (p a b v : Int) (hp : predsAt w pv ps) (hf : factsAt w fv f) (hc : capOk fv) :
    Calls Tryz.prog 100 #[pv, fv, .agg #[.int .i64 p, .int .i64 a, .int .i64 b, .int .i64 v]] w fun e w' => ∃ u, e = .returned (.tuple #[u, .bool (addOf ps f ⟨p, a, b, v⟩).2.1, .int .i64 (addOf ps f ⟨p, a, b, v⟩).2.2]) ∧ factsAt w' u (addOf ps f ⟨p, a, b, v⟩).1 ∧ capNew w.heap.size u ∧ rowW w' u ∧ Below w.heap.size w w' := by
  have HP : Hid (∀ (w1 : World), Below w.heap.size w w1 → predsAt w1 pv ps) := fun w1 hb1 => predsAt.lasts hb1 hp
  have HF : Hid (∀ (w1 : World), Below w.heap.size w w1 → factsAt w1 fv f) := fun w1 hb1 => factsAt.lasts hb1 hf
  obtain ⟨fa, fc, rfl, hfm, hfx⟩ := hf
  obtain ⟨hcap, hcz⟩ : f.length ≤ fc ∧ (fa = none → fc = 0) := by
    obtain ⟨a', n', c', e, h1, h2⟩ := hc
    simp only [Value.slice.injEq] at e
    obtain ⟨rfl, rfl, rfl⟩ := e
    exact ⟨h1, h2⟩
  clear hc
  by_cases h0 : withErr ps f ⟨p, a, b, v⟩ = 0
  · obtain ⟨h1, h2⟩ := withErr_zero h0
    have HS : Hid (∀ y ∈ f, Small y) := facts_small h1
    have HX : Hid (Small ⟨p, a, b, v⟩) := fine_small (factsErr_zero h1).1 h2
    have HSO : Hid (Sorted f) := (right_of h1).sorted
    have hshort := facts_short h1
    have e : addOf ps f ⟨p, a, b, v⟩ = (addF (kindOf ps) ⟨p, a, b, v⟩ f, addC (kindOf ps) ⟨p, a, b, v⟩ f, 0) := by simp [addOf, h0]
    rw [e]
    clear e
    cases hg : get f (place ⟨p, a, b, v⟩) with
    | none =>
      obtain ⟨e1, e2⟩ := add_fresh (K := kindOf ps) HSO.out hg
      rw [e1, e2]
      have hpl := pos_le f (place ⟨p, a, b, v⟩)
      have HQ : Hid (∀ w', Below w.heap.size w w' → Calls Tryz.prog 116 #[.slice fa f.length fc, .agg #[.int .i64 p, .int .i64 a, .int .i64 b, .int .i64 v], .func (.func 72) #[] #[]] w' (fun e w1 => e = .returned (.tuple #[.int .i64 (pos f (place ⟨p, a, b, v⟩)), .bool false]) ∧ Below w'.heap.size w' w1)) := fun w' hb => by
        have := search_c w' _ f p a b v (HF.out _ hb) HS.out HX.out HSO.out
        rw [hg] at this
        exact this
      clear e1 e2 hg h1 h2 HS HX HSO
      generalize pos f (place ⟨p, a, b, v⟩) = k at *
      have hk0 : (0 : Int) ≤ (k : Int) := by omega
      have hk1 : (k : Int) ≤ (f.length : Int) := by omega
      have hk2 : (k : Int) ≤ (fc : Int) := by omega
      have hk3 : (f.length : Int) ≤ (fc : Int) := by omega
      go_enter Tryz.func100, Tryz.ntmps100
      go_wp2_with (first
        | (go_at_call 115; refine (checkWith_c _ _ _ ps f _ _ _ _ (HP.out _ (below_alloc _ _)) (HF.out _ (below_alloc _ _))).mono ?_; rintro e w1 ⟨rfl, hb1⟩; obtain ⟨c0, c1, c2, c3⟩ := four_last hb1; have hs1 : w.heap.size < w1.heap.size := Nat.lt_of_lt_of_le (by simp) hb1.size; have HB : Hid (Below w.heap.size w w1) := (below_alloc _ _).trans (hb1.mono (by simp)); clear hb1)
        | (go_at_call 116; refine (HQ.out _ HB.out).mono ?_; rintro e W0 ⟨rfl, hb2⟩; replace c0 := (cell_lasts hb2 hs1).trans c0; replace c1 := (cell_lasts hb2 hs1).trans c1; replace c2 := (cell_lasts hb2 hs1).trans c2; replace c3 := (cell_lasts hb2 hs1).trans c3; have hs2 : w.heap.size < W0.heap.size := Nat.lt_of_lt_of_le hs1 hb2.size; have HB2 : Hid (Below w.heap.size w W0) := HB.out.trans (hb2.mono HB.out.size); clear hb2))
      by_cases hfk : fc = k
      · have HT : Hid (piece W0 (.slice fa k k) (f.take k)) := by have := piece_take (k := k) (HF.out _ HB2.out) hpl; rw [hfk] at this; exact this
        have HD : Hid (piece W0 (.slice fa (f.length - k) 0) (f.drop k)) := by have := piece_drop (k := k) (HF.out _ HB2.out) hpl hcap; rw [if_pos hfk, hfk, Nat.sub_self] at this; exact this
        have HL1 : Hid ((f.take k).length = k) := by show _ = _; rw [List.length_take, Nat.min_eq_left hpl]
        have HL3 : Hid ((f.drop k).length = f.length - k) := by show _ = _; rw [List.length_drop]
        have HL4 : Hid (0 < [(⟨p, a, b, v⟩ : Fct)].length) := by show _ < _; simp
        have HL5 : Hid ((f.take k).length + [(⟨p, a, b, v⟩ : Fct)].length + (f.drop k).length ≤ 500) := by show _ ≤ _; simp; omega
        have KEEP : Hid (∀ w', Below W0.heap.size W0 w' → (fun w' => Below W0.heap.size W0 w' ∧ w'.cell? ⟨w.heap.size, 0, none⟩ = some (.int .i64 p) ∧ w'.cell? ⟨w.heap.size, 1, none⟩ = some (.int .i64 a) ∧ w'.cell? ⟨w.heap.size, 2, none⟩ = some (.int .i64 b) ∧ w'.cell? ⟨w.heap.size, 3, none⟩ = some (.int .i64 v)) w') :=
          fun w' hq => ⟨hq, (cell_lasts hq hs2).trans c0, (cell_lasts hq hs2).trans c1, (cell_lasts hq hs2).trans c2, (cell_lasts hq hs2).trans c3⟩
        go_region_held3 (fun w' => Below W0.heap.size W0 w' ∧ w'.cell? ⟨w.heap.size, 0, none⟩ = some (.int .i64 p) ∧ w'.cell? ⟨w.heap.size, 1, none⟩ = some (.int .i64 a) ∧ w'.cell? ⟨w.heap.size, 2, none⟩ = some (.int .i64 b) ∧ w'.cell? ⟨w.heap.size, 3, none⟩ = some (.int .i64 v))
          ((refine KEEP.out _ ?_; (first | exact Below.refl _ _ | exact (Below.refl _ _).drew | exact hk | exact hk.drew | exact (below_alloc _ _) | exact (below_alloc _ _).drew | exact ((Below.refl _ _).drew).alloc (Nat.le_refl _) _ | exact hk.alloc hk.size _ | exact (hk.alloc hk.size _).drew | exact hk.drew.alloc hk.size _ | exact (below_alloc _ _).alloc (by simp) _ | exact ((below_alloc _ _).alloc (by simp) _).drew | exact (((Below.refl _ _).drew).alloc (Nat.le_refl _) _).alloc (by simp) _ | exact ((below_alloc _ _).drew).alloc (by simp) _)))
          (first
            | (go_at_call 117; refine Calls.mono (concat_is _ (W0.heap.size + 1) fa (some ⟨W0.heap.size, 0, none⟩) fa k 1 0 k 1 (f.length - k) (f.take k) [⟨p, a, b, v⟩] (f.drop k) HL1.out rfl HL3.out ?g1 ?g2 ?g3 ?g4 ?g5 ?g6 HL4.out HL5.out) ?_; (case g1 => simp [go_sem]); (case g2 => simp [go_sem]); (case g3 => simp [go_sem]); (case g4 => exact HT.out.lasts (by (first | exact (below_alloc _ _).alloc (by simp) _ | exact ((below_alloc _ _).alloc (by simp) _).drew))); (case g5 => first | exact piece_new W0 p a b v 82 _ | exact (piece_new W0 p a b v 82 _).lasts ((Below.refl _ _).drew)); (case g6 => exact HD.out.lasts (by (first | exact (below_alloc _ _).alloc (by simp) _ | exact ((below_alloc _ _).alloc (by simp) _).drew))); rintro e w5 ⟨u5, rfl, hown5, hb5⟩; have hk : Below W0.heap.size W0 w5 := Below.trans (by (first | exact (below_alloc _ _).alloc (by simp) _ | exact ((below_alloc _ _).alloc (by simp) _).drew)) (hb5.mono (by first | (simp; done) | omega | (simp; omega))); have HOW : Hid (∃ base, w.heap.size ≤ base ∧ w5.ownsRow base 82 4 u5 (f.take k ++ [(⟨p, a, b, v⟩ : Fct)] ++ f.drop k).length (cellsF (f.take k ++ [(⟨p, a, b, v⟩ : Fct)] ++ f.drop k))) := ⟨_, Nat.le_trans HB2.out.size (Below.size (B := W0.heap.size) (w := W0) (by (first | exact (below_alloc _ _).alloc (by simp) _ | exact ((below_alloc _ _).alloc (by simp) _).drew))), hown5⟩; clear hb5 hown5))
        clear KEEP
        go_wp2_with fail
        go_ret3
        obtain ⟨base, hbase, hown⟩ := HOW.out
        exact ⟨_, rfl, factsAt_of hown (by simp; omega), new_own hown hbase, rowW_own hown, HB2.out.trans (hk.mono HB2.out.size)⟩
      · have HT : Hid (piece W0 (.slice fa k fc) (f.take k)) := piece_take (HF.out _ HB2.out) hpl
        have HD : Hid (piece W0 (.slice (Option.map (fun x => x.add (k * 4)) fa) (f.length - k) (fc - k)) (f.drop k)) := by have := piece_drop (k := k) (HF.out _ HB2.out) hpl hcap; rw [if_neg hfk] at this; exact this
        have HL1 : Hid ((f.take k).length = k) := by show _ = _; rw [List.length_take, Nat.min_eq_left hpl]
        have HL3 : Hid ((f.drop k).length = f.length - k) := by show _ = _; rw [List.length_drop]
        have HL4 : Hid (0 < [(⟨p, a, b, v⟩ : Fct)].length) := by show _ < _; simp
        have HL5 : Hid ((f.take k).length + [(⟨p, a, b, v⟩ : Fct)].length + (f.drop k).length ≤ 500) := by show _ ≤ _; simp; omega
        have KEEP : Hid (∀ w', Below W0.heap.size W0 w' → (fun w' => Below W0.heap.size W0 w' ∧ w'.cell? ⟨w.heap.size, 0, none⟩ = some (.int .i64 p) ∧ w'.cell? ⟨w.heap.size, 1, none⟩ = some (.int .i64 a) ∧ w'.cell? ⟨w.heap.size, 2, none⟩ = some (.int .i64 b) ∧ w'.cell? ⟨w.heap.size, 3, none⟩ = some (.int .i64 v)) w') :=
          fun w' hq => ⟨hq, (cell_lasts hq hs2).trans c0, (cell_lasts hq hs2).trans c1, (cell_lasts hq hs2).trans c2, (cell_lasts hq hs2).trans c3⟩
        go_region_held3 (fun w' => Below W0.heap.size W0 w' ∧ w'.cell? ⟨w.heap.size, 0, none⟩ = some (.int .i64 p) ∧ w'.cell? ⟨w.heap.size, 1, none⟩ = some (.int .i64 a) ∧ w'.cell? ⟨w.heap.size, 2, none⟩ = some (.int .i64 b) ∧ w'.cell? ⟨w.heap.size, 3, none⟩ = some (.int .i64 v))
          ((refine KEEP.out _ ?_; (first | exact Below.refl _ _ | exact (Below.refl _ _).drew | exact hk | exact hk.drew | exact (below_alloc _ _) | exact (below_alloc _ _).drew | exact ((Below.refl _ _).drew).alloc (Nat.le_refl _) _ | exact hk.alloc hk.size _ | exact (hk.alloc hk.size _).drew | exact hk.drew.alloc hk.size _ | exact (below_alloc _ _).alloc (by simp) _ | exact ((below_alloc _ _).alloc (by simp) _).drew | exact (((Below.refl _ _).drew).alloc (Nat.le_refl _) _).alloc (by simp) _ | exact ((below_alloc _ _).drew).alloc (by simp) _)))
          (first
            | (go_at_call 117; refine Calls.mono (concat_is _ (W0.heap.size + 1) fa (some ⟨W0.heap.size, 0, none⟩) (Option.map (fun x => x.add (k * 4)) fa) fc 1 (fc - k) k 1 (f.length - k) (f.take k) [⟨p, a, b, v⟩] (f.drop k) HL1.out rfl HL3.out ?g1 ?g2 ?g3 ?g4 ?g5 ?g6 HL4.out HL5.out) ?_; (case g1 => simp [go_sem]); (case g2 => simp [go_sem]); (case g3 => simp [go_sem]); (case g4 => exact HT.out.lasts (by (first | exact (below_alloc _ _).alloc (by simp) _ | exact ((below_alloc _ _).alloc (by simp) _).drew))); (case g5 => first | exact piece_new W0 p a b v 82 _ | exact (piece_new W0 p a b v 82 _).lasts ((Below.refl _ _).drew)); (case g6 => exact HD.out.lasts (by (first | exact (below_alloc _ _).alloc (by simp) _ | exact ((below_alloc _ _).alloc (by simp) _).drew))); rintro e w5 ⟨u5, rfl, hown5, hb5⟩; have hk : Below W0.heap.size W0 w5 := Below.trans (by (first | exact (below_alloc _ _).alloc (by simp) _ | exact ((below_alloc _ _).alloc (by simp) _).drew)) (hb5.mono (by first | (simp; done) | omega | (simp; omega))); have HOW : Hid (∃ base, w.heap.size ≤ base ∧ w5.ownsRow base 82 4 u5 (f.take k ++ [(⟨p, a, b, v⟩ : Fct)] ++ f.drop k).length (cellsF (f.take k ++ [(⟨p, a, b, v⟩ : Fct)] ++ f.drop k))) := ⟨_, Nat.le_trans HB2.out.size (Below.size (B := W0.heap.size) (w := W0) (by (first | exact (below_alloc _ _).alloc (by simp) _ | exact ((below_alloc _ _).alloc (by simp) _).drew))), hown5⟩; clear hb5 hown5))
        clear KEEP
        go_wp2_with fail
        go_ret3
        obtain ⟨base, hbase, hown⟩ := HOW.out
        exact ⟨_, rfl, factsAt_of hown (by simp; omega), new_own hown hbase, rowW_own hown, HB2.out.trans (hk.mono HB2.out.size)⟩
    | some u =>
      obtain ⟨hpos, hpp, hu⟩ := get_some_pos HSO.out hg
      obtain ⟨e1, e2⟩ := add_there (K := kindOf ps) HSO.out hpos hpp
      rw [e1, e2]
      obtain ⟨bb, off, cap, hv, hbl, hcells⟩ := fact_cells (HF.out w (Below.refl _ _)) hpos
      obtain ⟨rfl, rfl⟩ : fa = some ⟨bb, off, none⟩ ∧ fc = cap := by simpa using hv
      obtain ⟨_, _, _, t3⟩ := hcells
      obtain ⟨pk, hpk, hpe⟩ : ∃ k : Nat, k < ps.length ∧ p = (k : Int) := isPred_iff.1 (by have := h2; simp only [factFine, Bool.and_eq_true] at this; exact this.1)
      subst hpe
      obtain ⟨pa, pc, rfl, hpm, hpx⟩ := hp
      obtain ⟨pb, po, rfl, hbp, hxx⟩ := hpx.resolve_left (by rintro rfl; simp at hpk)
      obtain ⟨_, _, k2⟩ := hxx pk ps[pk] (by simp [hpk])
      have HKO : Hid (kindOf ps (pk : Int) = ps[pk].kind) := kindOf_at hpk
      have HXV : Hid (Lat.err (kindOf ps (pk : Int)) v = 0) := (fine_of h2).v
      have HUV : Hid (Lat.err (kindOf ps (pk : Int)) u = 0) := by
        have q1 := get_err (right_of h1) hg
        rw [← pred_of (fine_of h2)] at q1
        exact q1
      rw [hu] at t3
      rw [hu]
      have HJ : Hid (Lat.joinOf ps[pk].kind u v = join (kindOf ps (pk : Int)) u v) := by
        show _ = _
        rw [HKO.out, Lat.joinOf, if_pos]
        rw [Lat.err2, if_pos (by rw [← HKO.out]; exact HUV.out)]
        rw [← HKO.out]
        exact HXV.out
      rw [← HJ.out]
      have HQ : Hid (∀ w', Below w.heap.size w w' → Calls Tryz.prog 116 #[.slice (some ⟨bb, off, none⟩) f.length fc, .agg #[.int .i64 (pk : Int), .int .i64 a, .int .i64 b, .int .i64 v], .func (.func 72) #[] #[]] w' (fun e w1 => e = .returned (.tuple #[.int .i64 (pos f (place ⟨(pk : Int), a, b, v⟩)), .bool true]) ∧ Below w'.heap.size w' w1)) := fun w' hb => by
        have := search_c w' _ f (pk : Int) a b v (HF.out _ hb) HS.out HX.out HSO.out
        rw [hg] at this
        exact this
      clear e1 e2 hg h1 h2 HS HX HSO hpp HJ HXV HUV HKO hxx hpx hv hu hfx
      have hpl : (pk : Int) < (ps.length : Int) := by omega
      have hp0 : (0 : Int) ≤ (pk : Int) := by omega
      generalize ps[pk].kind = qk at *
      generalize pos f (place ⟨(pk : Int), a, b, v⟩) = k at *
      have hk0 : (0 : Int) ≤ (k : Int) := by omega
      have hk1 : (k : Int) < (f.length : Int) := by omega
      have hne : 0 < f.length := by omega
      go_enter Tryz.func100, Tryz.ntmps100
      go_wp2_with (first
        | (go_at_call 115; refine (checkWith_c _ _ _ ps f _ _ _ _ (HP.out _ (below_alloc _ _)) (HF.out _ (below_alloc _ _))).mono ?_; rintro e w1 ⟨rfl, hb1⟩; obtain ⟨c0, c1, c2, c3⟩ := four_last hb1; have hs1 : w.heap.size < w1.heap.size := Nat.lt_of_lt_of_le (by simp) hb1.size; have HB : Hid (Below w.heap.size w w1) := (below_alloc _ _).trans (hb1.mono (by simp)); clear hb1)
        | (go_at_call 116; refine (HQ.out _ HB.out).mono ?_; rintro e W0 ⟨rfl, hb2⟩; replace c0 := (cell_lasts hb2 hs1).trans c0; replace c3 := (cell_lasts hb2 hs1).trans c3; have hs2 : w.heap.size < W0.heap.size := Nat.lt_of_lt_of_le hs1 hb2.size; have HB2 : Hid (Below w.heap.size w W0) := HB.out.trans (hb2.mono HB.out.size); clear hb2))
      have sb : bb < W0.heap.size := by omega
      have sp : pb < W0.heap.size := by omega
      have L0 : ∀ x : Low W0.heap.size W0, x.wd.cell? ⟨w.heap.size, 0, none⟩ = some (.int .i64 pk) := fun x => (cell_lasts x.low hs2).trans c0
      have L3 : ∀ x : Low W0.heap.size W0, x.wd.cell? ⟨w.heap.size, 3, none⟩ = some (.int .i64 v) := fun x => (cell_lasts x.low hs2).trans c3
      have LG : ∀ x : Low W0.heap.size W0, x.wd.cell? ⟨bb, off + k * 4 + 3, none⟩ = some (.int .i64 u) := fun x => (cell_lasts x.low sb).trans ((cell_lasts HB2.out hbl).trans t3)
      have LP : ∀ x : Low W0.heap.size W0, x.wd.cell? ⟨pb, po + pk * 3 + 2, none⟩ = some (.int .i64 qk) := fun x => (cell_lasts x.low sp).trans ((cell_lasts HB2.out hbp).trans k2)
      refine wp_region_low W0.heap.size (by kernel_rfl) (by kernel_rfl) ?_
      repeat (go_big_quiet_step ((go_at_call 118; exact low_of (Lat.Join_c _ _ _ _))))
      refine wpQuiet_nil ?_
      rintro w2 ⟨⟨w2', hk⟩, hw2⟩
      obtain rfl : w2 = w2' := hw2
      clear L0 L3 LG LP
      have HB3 : Hid (Below w.heap.size w w2) := HB2.out.trans (hk.mono HB2.out.size)
      clear c0 c1 c2 c3
      go_wp2_with fail
      refine (clone_c w2 _ f (HF.out _ HB3.out) hne (by omega)).mono ?_
      rintro e w3 ⟨v3, rfl, hown3, hb3⟩
      have HB4 : Hid (Below w.heap.size w w3) := HB3.out.trans (hb3.mono HB3.out.size)
      have HF3 : Hid (factsAt w3 v3 f) := factsAt_of hown3 (by omega)
      rcases hown3.2 with ⟨_, hz⟩ | ⟨g, cap, cur, rfl, hge, hgc, hnc, _⟩
      · omega
      have hwg : w.heap.size ≤ g := Nat.le_trans HB3.out.size hge
      have hbg : g ≠ bb := by omega
      obtain ⟨bb', off', cap', hv', _, hcl⟩ := fact_cells HF3.out hpos
      obtain ⟨⟨rfl, rfl⟩, rfl⟩ : (g = bb' ∧ 0 = off') ∧ cap = cap' := by simpa using hv'
      obtain ⟨_, _, _, d3⟩ := hcl
      simp only [Nat.zero_add] at d3
      have fz : w3.frozen? ⟨g, k * 4 + 3, none⟩ = false := by simp [World.frozen?, hgc]
      have t3' := (cell_lasts HB4.out hbl).trans t3
      have HRW : Hid (rowW w3 (.slice (some ⟨g, 0, none⟩) f.length cap)) := rowW_own hown3
      clear hown3 hb3 hv' hgc
      go_wp2_with fail
      refine wp_called (fun W => Below w.heap.size w W ∧ factsAt W (.slice (some ⟨g, 0, none⟩) f.length cap) (f.set k ⟨f[k].pred, f[k].a, f[k].b, Lat.joinOf qk u v⟩) ∧ W.cell? ⟨bb, off + k * 4 + 3, none⟩ = some (.int .i64 u) ∧ Hid (rowW W (.slice (some ⟨g, 0, none⟩) f.length cap))) ⟨HB4.out.setCell (p := ⟨g, k * 4 + 3, none⟩) hwg _, factsAt_set HF3.out hpos _, by rw [cell_block hbg]; exact t3', HRW.out.set g (k * 4 + 3) _⟩ ?_
      rintro W5 ⟨hb5, hf5, t5, hrw5⟩
      have HF5 : Hid (∀ w', Below W5.heap.size W5 w' → factsAt w' (.slice (some ⟨g, 0, none⟩) f.length cap) (f.set k ⟨f[k].pred, f[k].a, f[k].b, Lat.joinOf qk u v⟩)) := fun w' hb => factsAt.lasts hb hf5
      have s5 : bb < W5.heap.size := Nat.lt_of_lt_of_le hbl hb5.size
      clear hf5 HF3 d3 fz t3'
      have LG : ∀ x : Low W5.heap.size W5, x.wd.cell? ⟨bb, off + k * 4 + 3, none⟩ = some (.int .i64 u) := fun x => (cell_lasts x.low s5).trans t5
      refine wp_region_low W5.heap.size (by kernel_rfl) (by kernel_rfl) ?_
      repeat (go_big_quiet_step (fail))
      refine wpQuiet_nil ?_
      rintro w6 ⟨⟨w6', hk6⟩, hw6⟩
      obtain rfl : w6 = w6' := hw6
      clear LG
      go_wp2_with fail
      go_ret3
      exact ⟨_, rfl, HF5.out _ hk6, ⟨⟨_, _, cap, rfl, hnc, fun h => by cases h⟩, fun b hb => by cases hb; exact hwg⟩, hrw5.out.lasts hk6, hb5.trans (hk6.mono hb5.size)⟩
  · have e : addOf ps f ⟨p, a, b, v⟩ = ([], false, withErr ps f ⟨p, a, b, v⟩) := by simp [addOf, h0]
    rw [e]
    have h0' : (withErr ps f ⟨p, a, b, v⟩ == 0) = false := by simpa using h0
    go_enter Tryz.func100, Tryz.ntmps100
    go_wp2_with (go_at_call 115; refine (checkWith_c _ _ _ ps f _ _ _ _ (HP.out _ (below_alloc _ _)) (HF.out _ (below_alloc _ _))).mono ?_; rintro e w1 ⟨rfl, hb1⟩; have HB : Hid (Below w.heap.size w w1) := (below_alloc _ _).trans (hb1.mono (by simp)); clear hb1)
    go_ret3
    exact ⟨_, rfl, facts_nil _, new_nil _, rowW_nil _, HB.out⟩
theorem Add_n (w : World) (pv fv : Value) (ps : List Prd) (f : List Fct) (p a b v : Int) (hp : predsAt w pv ps) (hf : factsAt w fv f) (hc : capOk fv) :
    Calls Tryz.prog 100 #[pv, fv, .agg #[.int .i64 p, .int .i64 a, .int .i64 b, .int .i64 v]] w fun e w' => ∃ u, e = .returned (.tuple #[u, .bool (addOf ps f ⟨p, a, b, v⟩).2.1, .int .i64 (addOf ps f ⟨p, a, b, v⟩).2.2]) ∧ factsAt w' u (addOf ps f ⟨p, a, b, v⟩).1 ∧ capNew w.heap.size u ∧ Below w.heap.size w w' :=
  (Add_w w pv fv ps f p a b v hp hf hc).mono fun _ _ ⟨u, h1, h2, h3, _, h4⟩ => ⟨u, h1, h2, h3, h4⟩

theorem Add_c (w : World) (pv fv : Value) (ps : List Prd) (f : List Fct) (p a b v : Int) (hp : predsAt w pv ps) (hf : factsAt w fv f) (hc : capOk fv) :
    Calls Tryz.prog 100 #[pv, fv, .agg #[.int .i64 p, .int .i64 a, .int .i64 b, .int .i64 v]] w fun e w' => ∃ u, e = .returned (.tuple #[u, .bool (addOf ps f ⟨p, a, b, v⟩).2.1, .int .i64 (addOf ps f ⟨p, a, b, v⟩).2.2]) ∧ factsAt w' u (addOf ps f ⟨p, a, b, v⟩).1 ∧ capOk u ∧ Below w.heap.size w w' :=
  (Add_n w pv fv ps f p a b v hp hf hc).mono fun _ _ ⟨u, h1, h2, h3, h4⟩ => ⟨u, h1, h2, h3.1, h4⟩
end Go.Proofs.YtlfccloaoopadafGreatDoor.Base

/-
  What must be in any case of package base.
-/
namespace Go.Proofs.YtlfccloaoopadafGreatDoor.Base
open Go.ChangeShapes Go.WideShapes Go.ChangeAt Go.RowKit
open Lat (within within_c join)
open Rule (factFine factFine_c isPred kindOf arityOf isPred_iff)

def pathsL : List Fct := [⟨0, 0, 1, 0⟩, ⟨0, 1, 2, 0⟩, ⟨1, 0, 1, 4⟩]
def pathsM : List Fct := [⟨0, 0, 1, 0⟩, ⟨0, 1, 2, 0⟩, ⟨1, 0, 1, 2⟩]
theorem paths_c (w : World) : Calls Tryz.prog 36 #[] w fun e w' => ∃ v, e = .returned v ∧ factsAt w' v pathsL ∧ capOk v ∧ Below w.heap.size w w' := by
  go_enter Tryz.func36, Tryz.ntmps36
  go_wp2_with fail
  go_ret
  refine ⟨_, rfl, ⟨_, 3, rfl, by decide, .inr ⟨w.heap.size, 0, rfl, by simp, ?_⟩⟩, ⟨_, _, 3, rfl, Nat.le_refl _, fun h => by cases h⟩, below_alloc _ _⟩
  intro i x hi
  match i, hi with
  | 0, hi =>
    obtain rfl : (⟨0, 0, 1, 0⟩ : Fct) = x := by simpa [pathsL] using hi
    refine ⟨?_, ?_, ?_, ?_⟩ <;> simp [go_sem]
  | 1, hi =>
    obtain rfl : (⟨0, 1, 2, 0⟩ : Fct) = x := by simpa [pathsL] using hi
    refine ⟨?_, ?_, ?_, ?_⟩ <;> simp [go_sem]
  | 2, hi =>
    obtain rfl : (⟨1, 0, 1, 4⟩ : Fct) = x := by simpa [pathsL] using hi
    refine ⟨?_, ?_, ?_, ?_⟩ <;> simp [go_sem]
  | i + 3, hi => simp [pathsL] at hi

theorem b1 : findOf Roads.preds pathsL ⟨1, 0, 1, 0⟩ = (4, true, 0) := by decide
theorem b2 : addOf Roads.preds pathsL ⟨1, 0, 1, 2⟩ = (pathsM, true, 0) := rfl
theorem b3 : (addOf Roads.preds pathsL ⟨1, 0, 1, 9⟩).2 = (false, 0) := by decide
theorem b4 : underOf Roads.preds pathsL pathsM = (true, 0) := by decide
theorem b5 : underOf Roads.preds pathsM pathsL = (false, 0) := by decide
theorem b6 : (addOf Roads.preds pathsL ⟨2, 0, 1, 0⟩).2.2 = 1 := by decide
theorem b7 : factsErr Roads.preds pathsL = 0 := by decide

end Go.Proofs.YtlfccloaoopadafGreatDoor.Base

/-
  What the document's own 'add' and 'AddOf' answer.
-/
namespace Go.Proofs.YtlfccloaoopadafGreatDoor.Base
open Go.ChangeShapes Go.WideShapes Go.ChangeAt Go.RowKit
open Lat (within within_c join)
open Rule (factFine factFine_c isPred kindOf arityOf isPred_iff)

/-- does one stand at x's place, or behind it? -/
def hit (x : Fct) (f : List Fct) : Bool := f.any fun y => decide (place x ≤ place y)
theorem hit_cons (x y : Fct) (f : List Fct) : hit x (y :: f) = (decide (place x ≤ place y) || hit x f) := rfl
theorem add_hit {K : Int → Int} {x : Fct} : ∀ {f : List Fct} (g : List Fct), hit x f = true → addF K x (f ++ g) = addF K x f ++ g ∧ addC K x (f ++ g) = addC K x f
  | [], g, h => by cases h
  | y :: f, g, h => by
    rw [List.cons_append, addF, addF, addC, addC]
    by_cases e : place y = place x
    · rw [if_pos e, if_pos e, if_pos e, if_pos e]
      exact ⟨rfl, rfl⟩
    · rw [if_neg e, if_neg e, if_neg e, if_neg e]
      by_cases l : place x < place y
      · rw [if_pos l, if_pos l, if_pos l, if_pos l]
        exact ⟨rfl, rfl⟩
      · rw [if_neg l, if_neg l, if_neg l, if_neg l]
        have h' : hit x f = true := by
          rw [hit_cons] at h
          have : decide (place x ≤ place y) = false := by simp; omega
          rw [this, Bool.false_or] at h
          exact h
        obtain ⟨h1, h2⟩ := add_hit g h'
        rw [h1, h2]
        exact ⟨rfl, rfl⟩
theorem add_miss {K : Int → Int} {x : Fct} : ∀ {f : List Fct} (g : List Fct), hit x f = false → addF K x (f ++ g) = f ++ addF K x g ∧ addC K x (f ++ g) = addC K x g
  | [], g, _ => ⟨rfl, rfl⟩
  | y :: f, g, h => by
    rw [hit_cons, Bool.or_eq_false_iff] at h
    have hy : ¬ place x ≤ place y := by simpa using h.1
    obtain ⟨h1, h2⟩ := add_miss (K := K) g h.2
    rw [List.cons_append, addF, addC, if_neg (by omega), if_neg (by omega), if_neg (by omega), if_neg (by omega), h1, h2]
    exact ⟨rfl, rfl⟩
def outTo (K : Int → Int) (x : Fct) (f : List Fct) : List Fct := if hit x f then addF K x f else f
def chgTo (K : Int → Int) (x : Fct) (f : List Fct) : Bool := if hit x f then addC K x f else false
theorem hit_app (x y : Fct) (f : List Fct) : hit x (f ++ [y]) = (hit x f || decide (place x ≤ place y)) := by simp [hit]
theorem stepA {K : Int → Int} {x y : Fct} {f : List Fct} (h : hit x f = true) : hit x (f ++ [y]) = true ∧ outTo K x (f ++ [y]) = outTo K x f ++ [y] ∧ chgTo K x (f ++ [y]) = chgTo K x f := by
  have h1 : hit x (f ++ [y]) = true := by rw [hit_app, h]; rfl
  obtain ⟨h2, h3⟩ := add_hit (K := K) [y] h
  refine ⟨h1, ?_, ?_⟩
  · unfold outTo; rw [if_pos h1, if_pos h, h2]
  · unfold chgTo; rw [if_pos h1, if_pos h, h3]
theorem stepB {K : Int → Int} {x y : Fct} {f : List Fct} (h : hit x f = false) (hy : place y < place x) : hit x (f ++ [y]) = false ∧ outTo K x (f ++ [y]) = outTo K x f ++ [y] ∧ chgTo K x (f ++ [y]) = chgTo K x f := by
  have h1 : hit x (f ++ [y]) = false := by rw [hit_app, h]; simp; omega
  refine ⟨h1, ?_, ?_⟩
  · unfold outTo; rw [if_neg (by rw [h1]; simp), if_neg (by rw [h]; simp)]
  · unfold chgTo; rw [if_neg (by rw [h1]; simp), if_neg (by rw [h]; simp)]
theorem stepC {K : Int → Int} {x y : Fct} {f : List Fct} (h : hit x f = false) (hy : place y = place x) : hit x (f ++ [y]) = true ∧ outTo K x (f ++ [y]) = outTo K x f ++ [⟨y.pred, y.a, y.b, join (K x.pred) y.val x.val⟩] ∧ chgTo K x (f ++ [y]) = (join (K x.pred) y.val x.val != y.val) := by
  have h1 : hit x (f ++ [y]) = true := by rw [hit_app, h]; simp; omega
  obtain ⟨h2, h3⟩ := add_miss (K := K) [y] h
  refine ⟨h1, ?_, ?_⟩
  · unfold outTo; rw [if_pos h1, if_neg (by rw [h]; simp), h2, addF, if_pos hy]
  · unfold chgTo; rw [if_pos h1, h3, addC, if_pos hy]
theorem stepD {K : Int → Int} {x y : Fct} {f : List Fct} (h : hit x f = false) (hy : place x < place y) : hit x (f ++ [y]) = true ∧ outTo K x (f ++ [y]) = outTo K x f ++ [x] ++ [y] ∧ chgTo K x (f ++ [y]) = true := by
  have h1 : hit x (f ++ [y]) = true := by rw [hit_app, h]; simp; omega
  obtain ⟨h2, h3⟩ := add_miss (K := K) [y] h
  refine ⟨h1, ?_, ?_⟩
  · unfold outTo; rw [if_pos h1, if_neg (by rw [h]; simp), h2, addF, if_neg (by omega), if_pos hy]; simp
  · unfold chgTo; rw [if_pos h1, h3, addC, if_neg (by omega), if_pos hy]
theorem endHit {K : Int → Int} {x : Fct} {f : List Fct} (h : hit x f = true) : outTo K x f = addF K x f ∧ chgTo K x f = addC K x f := by
  unfold outTo chgTo; rw [if_pos h, if_pos h]; exact ⟨rfl, rfl⟩
theorem endMiss {K : Int → Int} {x : Fct} {f : List Fct} (h : hit x f = false) : addF K x f = outTo K x f ++ [x] ∧ addC K x f = true := by
  obtain ⟨h1, h2⟩ := add_miss (K := K) [] h
  rw [List.append_nil] at h1 h2
  unfold outTo; rw [if_neg (by rw [h]; simp), h1, h2]; exact ⟨rfl, rfl⟩
theorem hit_ne {f : List Fct} {x : Fct} (hs : Sorted f) {k : Nat} (hk : k < f.length) (h : hit x (f.take k) = true) : place f[k] ≠ place x := by
  obtain ⟨y, hy, hp⟩ := List.any_eq_true.1 h
  obtain ⟨i, hi, rfl⟩ := List.mem_iff_getElem.1 hy
  rw [List.getElem_take] at hp
  have hik : i < k := by simp at hi; omega
  have := List.pairwise_iff_getElem.1 hs i k (by omega) hk hik
  have hp' : place x ≤ place f[i] := by simpa using hp
  omega
theorem out_length (K : Int → Int) (x : Fct) (f : List Fct) : (outTo K x f).length ≤ f.length + 1 := by
  have : ∀ g : List Fct, (addF K x g).length ≤ g.length + 1 := by
    intro g
    induction g with
    | nil => simp [addF]
    | cons y g ih =>
      rw [addF]
      split
      · simp
      · split
        · simp
        · simp; exact ih
  unfold outTo
  split
  · exact this f
  · omega
theorem own_lasts {w w' : World} {base : Nat} {e : TypeId} {sz n : Nat} {v : Value} {xs : List Value} (h : w.ownsRow base e sz v n xs) (hb : Below w.heap.size w w') : w'.ownsRow base e sz v n xs := by
  obtain ⟨h0, h1⟩ := h
  refine ⟨h0, ?_⟩
  rcases h1 with h1 | ⟨g, cap, cur, h1, h2, h3, h4⟩
  · exact .inl h1
  · exact .inr ⟨g, cap, cur, h1, h2, (hb.block g (Array.getElem?_eq_some_iff.1 h3).1).trans h3, h4⟩
theorem own_set {w : World} {base : Nat} {e : TypeId} {sz n : Nat} {v : Value} {xs : List Value} (h : w.ownsRow base e sz v n xs) {b o : Nat} {u : Value} (hb : ∀ g, v.ownBlock = some g → g ≠ b) : (w.setCell ⟨b, o, none⟩ u).ownsRow base e sz v n xs := by
  obtain ⟨h0, h1⟩ := h
  refine ⟨h0, ?_⟩
  rcases h1 with h1 | ⟨g, cap, cur, h1, h2, h3, h4⟩
  · exact .inl h1
  · refine .inr ⟨g, cap, cur, h1, h2, ?_, h4⟩
    have : g ≠ b := hb g (by rw [h1]; rfl)
    rw [Below.heap_setCell _ _ _ _ this]
    exact h3
theorem own_lt {w : World} {base : Nat} {e : TypeId} {sz n : Nat} {v : Value} {xs : List Value} (h : w.ownsRow base e sz v n xs) : ∀ g, v.ownBlock = some g → g < w.heap.size := fun g hg => (h.lt g hg).2

end Go.Proofs.YtlfccloaoopadafGreatDoor.Base

/-
  Lists of steps: all at which a rule's body holds, and how such a list grows in memory.
-/
namespace Go.Proofs.YtlfccloaoopadafGreatDoor.Fire
open Go.ChangeShapes Go.WideShapes Go.ChangeAt Go.RowKit
open Base (cellsF cellsF_length cellsF_append cellsF_one piece piece_one factsAt_of wpList_append_none own_lasts)
open Rule (Vars asked)

def toF (s : Stp) : Fct := ⟨s.rule, s.x, s.y, s.z⟩
theorem steps_of_facts {w : World} {v : Value} {l : List Stp} (h : factsAt w v (l.map toF)) : stepsAt w v l := by
  obtain ⟨a, cap, rfl, hm, hx⟩ := h
  refine ⟨a, cap, by rw [List.length_map], by rwa [List.length_map] at hm, ?_⟩
  rcases hx with hx | ⟨b, off, rfl, hb, hx⟩
  · exact .inl (by simpa using hx)
  · exact .inr ⟨b, off, rfl, hb, fun i x hi => hx i (toF x) (by rw [List.getElem?_map, hi]; rfl)⟩
def cellsS (l : List Stp) : List Value := cellsF (l.map toF)
theorem stepsAt_of {w : World} {base : Nat} {e : TypeId} {v : Value} {l : List Stp} (h : w.ownsRow base e 4 v l.length (cellsS l)) (hl : l.length ≤ 140737488355328) : stepsAt w v l :=
  steps_of_facts (factsAt_of (base := base) (e := e) (by rw [List.length_map]; exact h) (by rw [List.length_map]; exact hl))
theorem infoStep : (Tryz.prog.info? 160).map (fun i => (i.zero, i.size, i.bytes)) = some (some (.agg #[.int .i64 0, .int .i64 0, .int .i64 0, .int .i64 0]), 4, 32) := by kernel_rfl

theorem wpList_append_step (w : World) {ops : Array Oper} {rest : List Oper} {o : Oper} {a : Act} {Q : Exit → Act → World → Prop} (hgd : o.guard = none) (s x : Operand)
    (ho : o.op = .call { callee := .builtin .append, args := #[s, x], argTypes := #[155, 155] }) (base : Nat) (v : Value) (xs : List Stp) (t : Stp) (hown : w.ownsRow base 160 4 v xs.length (cellsS xs)) (hs : a.eval s = v) (B : Nat) (hy : a.eval x = .slice (some ⟨B, 0, none⟩) 1 1) (u : TypeId) (hp : w.heap[B]? = some (.cells #[.int .i64 t.rule, .int .i64 t.x, .int .i64 t.y, .int .i64 t.z] u))
    (hb : xs.length ≤ 500) (hbase : base ≤ w.heap.size)
    (h : ∀ v' w', w'.ownsRow base 160 4 v' (xs ++ [t]).length (cellsS (xs ++ [t])) → w.grownBy w' v.ownBlock → wpList Tryz.prog ops Q rest (a.put o.dst v') w') : wpList Tryz.prog ops Q (o :: rest) a w := by
  obtain ⟨i, hi, hz, hsz, hby⟩ := info_parts infoStep
  rcases piece_one hp with ⟨c, hc, _⟩ | ⟨ad, c, he, hc⟩
  · simp at hc
  · obtain ⟨rfl, rfl⟩ : (⟨B, 0, none⟩ : Addr) = ad ∧ 1 = c := by simpa using he
    refine wpList_append_own_wide w hgd s x 155 ho base 160 i _ 4 32 Tryz.underlying155 hi hz hsz hby rfl (by omega) v xs.length (cellsS xs) hs hown ⟨B, 0, none⟩ 1 1 (cellsF [⟨t.rule, t.x, t.y, t.z⟩]) hy (cellsF_length _) hc (cellsF_one _) (by unfold maxLen; omega) (by omega) hbase ?_
    intro v' w' h1 h2 _
    refine h v' w' ?_ h2
    rw [List.length_append, cellsS, List.map_append, cellsF_append]
    exact h1

/-- does the body hold, and does each variable that does not stand in the rule stand for 0? -/
def okAt (f : List Fct) (r : Rul) (a b c : Nat) : Bool := (decide (a = 0) || asked r 0) && (decide (b = 0) || asked r 1) && (decide (c = 0) || asked r 2) && bodyOk f ⟨a, b, c⟩ r.body
def stepsC (f : List Fct) (r : Rul) (n : Int) (a b k : Nat) : List Stp := ((List.range k).filter (okAt f r a b)).map fun c => ⟨n, a, b, (c : Nat)⟩
def stepsB (f : List Fct) (r : Rul) (n : Int) (a k : Nat) : List Stp := (List.range k).flatMap fun b => stepsC f r n a b 5
def stepsA (f : List Fct) (r : Rul) (n : Int) (k : Nat) : List Stp := (List.range k).flatMap fun a => stepsB f r n a 5
/-- all steps of a rule, in their order -/
def allL (f : List Fct) (r : Rul) (n : Int) : List Stp := stepsA f r n 5
theorem stepsC_succ (f : List Fct) (r : Rul) (n : Int) (a b k : Nat) : stepsC f r n a b (k + 1) = stepsC f r n a b k ++ if okAt f r a b k then [⟨n, a, b, k⟩] else [] := by
  unfold stepsC
  rw [List.range_succ, List.filter_append, List.map_append]
  congr 1
  rw [List.filter_cons]
  split <;> rfl
theorem stepsB_succ (f : List Fct) (r : Rul) (n : Int) (a k : Nat) : stepsB f r n a (k + 1) = stepsB f r n a k ++ stepsC f r n a k 5 := by
  unfold stepsB
  rw [List.range_succ, List.flatMap_append, List.flatMap_singleton]
theorem stepsA_succ (f : List Fct) (r : Rul) (n : Int) (k : Nat) : stepsA f r n (k + 1) = stepsA f r n k ++ stepsB f r n k 5 := by
  unfold stepsA
  rw [List.range_succ, List.flatMap_append, List.flatMap_singleton]
theorem stepsC_len (f : List Fct) (r : Rul) (n : Int) (a b : Nat) : ∀ k, (stepsC f r n a b k).length ≤ k
  | 0 => by simp [stepsC]
  | k + 1 => by
    rw [stepsC_succ, List.length_append]
    have := stepsC_len f r n a b k
    split <;> simp <;> omega
theorem stepsB_len (f : List Fct) (r : Rul) (n : Int) (a : Nat) : ∀ k, (stepsB f r n a k).length ≤ 5 * k
  | 0 => by simp [stepsB]
  | k + 1 => by
    rw [stepsB_succ, List.length_append]
    have := stepsB_len f r n a k
    have := stepsC_len f r n a k 5
    omega
theorem stepsA_len (f : List Fct) (r : Rul) (n : Int) : ∀ k, (stepsA f r n k).length ≤ 25 * k
  | 0 => by simp [stepsA]
  | k + 1 => by
    rw [stepsA_succ, List.length_append]
    have := stepsA_len f r n k
    have := stepsB_len f r n k 5
    omega
end Go.Proofs.YtlfccloaoopadafGreatDoor.Fire

/-
  A rule's steps stand in their order, and are just those at which it holds; so whatever list has just these, each once, is theirs when it is put in order.
-/
namespace Go.Proofs.YtlfccloaoopadafGreatDoor.Fire
open Lat (within)
open Rule (Vars asked ruleErr)
open Base (factsErr)

def Stp.vars (s : Stp) : Vars := ⟨s.x, s.y, s.z⟩
def toStp (n : Int) (v : Vars) : Stp := ⟨n, v.x, v.y, v.z⟩
/-- the order of steps: by what their variables stand for -/
def ltS (s t : Stp) : Bool := decide (s.x < t.x) || (decide (s.x = t.x) && (decide (s.y < t.y) || (decide (s.y = t.y) && decide (s.z < t.z))))
theorem ltS_iff {s t : Stp} : ltS s t = true ↔ s.x < t.x ∨ s.x = t.x ∧ (s.y < t.y ∨ s.y = t.y ∧ s.z < t.z) := by unfold ltS; simp
theorem ltS_not {s t : Stp} : ltS s t = false ↔ ¬ (s.x < t.x ∨ s.x = t.x ∧ (s.y < t.y ∨ s.y = t.y ∧ s.z < t.z)) := by rw [← ltS_iff]; simp
theorem okAt_iff {f : List Fct} {r : Rul} {a b c : Nat} : okAt f r a b c = true ↔ bodyOk f ⟨a, b, c⟩ r.body = true ∧ ∀ m, (m = 0 ∨ m = 1 ∨ m = 2) → asked r m = false → (⟨a, b, c⟩ : Vars).at m = 0 := by
  unfold okAt
  simp only [Bool.and_eq_true, Bool.or_eq_true, decide_eq_true_eq]
  constructor
  · rintro ⟨⟨⟨h0, h1⟩, h2⟩, h3⟩
    refine ⟨h3, fun m hm ha => ?_⟩
    rcases hm with rfl | rfl | rfl
    · rcases h0 with h | h
      · subst h; rfl
      · rw [h] at ha; cases ha
    · rcases h1 with h | h
      · subst h; rfl
      · rw [h] at ha; cases ha
    · rcases h2 with h | h
      · subst h; rfl
      · rw [h] at ha; cases ha
  · rintro ⟨h, hz⟩
    refine ⟨⟨⟨?_, ?_⟩, ?_⟩, h⟩
    · cases e : asked r 0
      · have := hz 0 (.inl rfl) e
        simp [Vars.at] at this
        exact .inl this
      · exact .inr rfl
    · cases e : asked r 1
      · have := hz 1 (.inr (.inl rfl)) e
        simp [Vars.at] at this
        exact .inl this
      · exact .inr rfl
    · cases e : asked r 2
      · have := hz 2 (.inr (.inr rfl)) e
        simp [Vars.at] at this
        exact .inl this
      · exact .inr rfl
theorem mem_all {f : List Fct} {r : Rul} {n : Int} {s : Stp} : s ∈ allL f r n ↔ s.rule = n ∧ StepOk f r s.vars := by
  unfold allL stepsA stepsB stepsC
  simp only [List.mem_flatMap, List.mem_map, List.mem_filter, List.mem_range]
  constructor
  · rintro ⟨a, ha, b, hb, c, ⟨hc, hok⟩, rfl⟩
    obtain ⟨h1, h2⟩ := okAt_iff.1 hok
    refine ⟨rfl, ?_, h1, h2⟩
    unfold consts
    rw [Bool.and_eq_true, Bool.and_eq_true]
    exact ⟨within_iff.2 ⟨by show (0 : Int) ≤ (a : Int); omega, by show (a : Int) ≤ 4; omega⟩, within_iff.2 ⟨by show (0 : Int) ≤ (b : Int); omega, by show (b : Int) ≤ 4; omega⟩, within_iff.2 ⟨by show (0 : Int) ≤ (c : Int); omega, by show (c : Int) ≤ 4; omega⟩⟩
  · obtain ⟨k, x, y, z⟩ := s
    rintro ⟨rfl, hc, hb, hz⟩
    unfold consts at hc
    rw [Bool.and_eq_true, Bool.and_eq_true, within_iff, within_iff, within_iff] at hc
    simp only [Stp.vars] at hc hb hz
    obtain ⟨a, rfl⟩ : ∃ a : Nat, x = (a : Int) := ⟨x.toNat, by omega⟩
    obtain ⟨b, rfl⟩ : ∃ b : Nat, y = (b : Int) := ⟨y.toNat, by omega⟩
    obtain ⟨c, rfl⟩ : ∃ c : Nat, z = (c : Int) := ⟨z.toNat, by omega⟩
    exact ⟨a, by omega, b, by omega, c, ⟨by omega, okAt_iff.2 ⟨hb, hz⟩⟩, rfl⟩
theorem range_lt (k : Nat) : (List.range k).Pairwise (· < ·) := List.pairwise_lt_range
theorem all_sorted (f : List Fct) (r : Rul) (n : Int) : (allL f r n).Pairwise fun s t => ltS s t = true := by
  unfold allL stepsA
  rw [List.pairwise_flatMap]
  refine ⟨fun a _ => ?_, ?_⟩
  · unfold stepsB
    rw [List.pairwise_flatMap]
    refine ⟨fun b _ => ?_, ?_⟩
    · unfold stepsC
      rw [List.pairwise_map]
      refine List.Pairwise.imp ?_ ((range_lt 5).filter _)
      intro c d hcd
      rw [ltS_iff]
      exact .inr ⟨rfl, .inr ⟨rfl, by show (c : Int) < (d : Int); omega⟩⟩
    · refine List.Pairwise.imp ?_ (range_lt 5)
      intro b c hbc s hs t ht
      unfold stepsC at hs ht
      rw [List.mem_map] at hs ht
      obtain ⟨_, _, rfl⟩ := hs
      obtain ⟨_, _, rfl⟩ := ht
      rw [ltS_iff]
      exact .inr ⟨rfl, .inl (by show (b : Int) < (c : Int); omega)⟩
  · refine List.Pairwise.imp ?_ (range_lt 5)
    intro a b hab s hs t ht
    unfold stepsB stepsC at hs ht
    simp only [List.mem_flatMap, List.mem_map] at hs ht
    obtain ⟨_, _, _, _, rfl⟩ := hs
    obtain ⟨_, _, _, _, rfl⟩ := ht
    rw [ltS_iff]
    exact .inl (by show (a : Int) < (b : Int); omega)
theorem ltS_irrefl (s : Stp) : ltS s s = false := by rw [ltS_not]; omega
theorem ltS_trans {s t u : Stp} (h : ltS s t = true) (k : ltS t u = true) : ltS s u = true := by rw [ltS_iff] at *; omega
/-- two lists in order that have the same are the same -/
theorem sorted_same : ∀ {l k : List Stp}, (l.Pairwise fun s t => ltS s t = true) → (k.Pairwise fun s t => ltS s t = true) → (∀ s, s ∈ l ↔ s ∈ k) → l = k
  | [], [], _, _, _ => rfl
  | [], t :: k, _, _, h => absurd ((h t).2 (by simp)) (by simp)
  | s :: l, [], _, _, h => absurd ((h s).1 (by simp)) (by simp)
  | s :: l, t :: k, hl, hk, h => by
    have hl' := List.pairwise_cons.1 hl
    have hk' := List.pairwise_cons.1 hk
    have e : s = t := by
      rcases List.mem_cons.1 ((h s).1 (by simp)) with e | hs
      · exact e
      · rcases List.mem_cons.1 ((h t).2 (by simp)) with e | ht
        · exact e.symm
        · have := ltS_trans (hl'.1 t ht) (hk'.1 s hs)
          rw [ltS_irrefl] at this
          cases this
    subst e
    congr 1
    refine sorted_same hl'.2 hk'.2 fun u => ?_
    constructor
    · intro hu
      rcases List.mem_cons.1 ((h u).1 (by simp [hu])) with e | hu'
      · subst e
        have := hl'.1 u hu
        rw [ltS_irrefl] at this
        cases this
      · exact hu'
    · intro hu
      rcases List.mem_cons.1 ((h u).2 (by simp [hu])) with e | hu'
      · subst e
        have := hk'.1 u hu
        rw [ltS_irrefl] at this
        cases this
      · exact hu'
/-- what is gathered, put in order, is the document's list -/
theorem lay_sorted {ps : List Prd} {f : List Fct} {r : Rul} {n : Int} {l : List Stp} (hr : ruleErr ps r = 0) (hf : factsErr ps f = 0) (hp : l.Perm ((layL f r.body r.body std0).map (toStp n))) (hs : l.Pairwise fun s t => ltS t s = false) : l = allL f r n := by
  have hnd : ((layL f r.body r.body std0).map (toStp n)).Nodup := by
    rw [List.Nodup, List.pairwise_map]
    refine List.Pairwise.imp ?_ (lay_nodup hf std0_zero (rule_parts hr).2.1)
    intro u v huv e
    apply huv
    cases u
    cases v
    simpa [toStp] using e
  have hnd' : l.Nodup := hp.nodup_iff.2 hnd
  have hrule : ∀ s ∈ l, s.rule = n := fun s hs => by
    obtain ⟨v, _, rfl⟩ := List.mem_map.1 (hp.mem_iff.1 hs)
    rfl
  refine sorted_same ?_ (all_sorted f r n) fun s => ?_
  · have := List.Pairwise.and hs hnd'
    refine List.Pairwise.imp_of_mem ?_ this
    rintro s t hs ht ⟨h1, h2⟩
    have e1 := hrule s hs
    have e2 := hrule t ht
    cases e : ltS s t
    · exfalso
      rw [ltS_not] at h1 e
      apply h2
      cases s
      cases t
      simp at *
      omega
    · rfl
  · rw [mem_all, hp.mem_iff, List.mem_map]
    constructor
    · rintro ⟨v, hv, rfl⟩
      exact ⟨rfl, (lay_ok hr hf v).1 hv⟩
    · rintro ⟨e, hok⟩
      exact ⟨s.vars, (lay_ok hr hf _).2 hok, by cases s; simp [toStp, Stp.vars] at *; exact e.symm⟩
theorem lay_len {ps : List Prd} {f : List Fct} {r : Rul} (hr : ruleErr ps r = 0) (hf : factsErr ps f = 0) : (layL f r.body r.body std0).length ≤ 125 := by
  have hnd : ((layL f r.body r.body std0).map (toStp 0)).Nodup := by
    rw [List.Nodup, List.pairwise_map]
    refine List.Pairwise.imp ?_ (lay_nodup hf std0_zero (rule_parts hr).2.1)
    intro u v huv e
    apply huv
    cases u
    cases v
    simpa [toStp] using e
  have hsub : (layL f r.body r.body std0).map (toStp 0) ⊆ allL f r 0 := fun s hs => by
    obtain ⟨v, hv, rfl⟩ := List.mem_map.1 hs
    exact mem_all.2 ⟨rfl, (lay_ok hr hf v).1 hv⟩
  have := hnd.length_le_of_subset hsub
  rw [List.length_map] at this
  have := stepsA_len f r 0 5
  unfold allL at *
  omega
end Go.Proofs.YtlfccloaoopadafGreatDoor.Fire

/-
  Rounds in plain words: what rules tell of facts is right; facts with all that is told added, and whether that changes something.
-/
namespace Go.Proofs.YtlfccloaoopadafGreatDoor.Round
open Lat (within lift err)
open Rule (Vars asked ruleErr atomErr kindOf factFine isPred arityOf)
open Base (place get findTo factsErr predsOk addF addC under underOne Right Fine)
open Fire (consts atomF bodyOk valTo valueAt headF holdsF StepOk allL Stp mem_all)

theorem value_parts {ps : List Prd} {r : Rul} (h : ruleErr ps r = 0) : (kindOf ps r.head.pred = 0 → r.src = -1 ∧ r.n = 0) ∧ 0 ≤ r.n ∧ r.n ≤ 15 := by
  rw [ruleErr] at h
  split at h
  · contradiction
  · split at h
    · contradiction
    · split at h
      · contradiction
      · split at h
        · contradiction
        · unfold Rule.valueErr at h
          split at h
          · contradiction
          · split at h
            · contradiction
            · rename_i h4
              split at h
              · contradiction
              · split at h
                · contradiction
                · refine ⟨fun hk => ?_, by omega, by omega⟩
                  constructor
                  · exact Classical.byContradiction fun e => h4 ⟨hk, .inl e⟩
                  · exact Classical.byContradiction fun e => h4 ⟨hk, .inr e⟩
/-- what a rule tells of right facts is right -/
theorem head_fine {ps : List Prd} {f : List Fct} {r : Rul} {v : Vars} (hr : ruleErr ps r = 0) (hf : factsErr ps f = 0) (hv : consts v = true) : factFine ps (headF ps f r v) = true := by
  have hp := (Base.factsErr_zero hf).2.1
  have hg := (Fire.atom_ground (Fire.rule_parts hr).1 hp hv).2
  obtain ⟨h1, h2, h3⟩ := value_parts hr
  have hpred : isPred ps r.head.pred = true := (Rule.atom_right (Fire.rule_parts hr).1).1
  have hk := Fire.within_iff.1 (Fire.pred_ok hp hpred).1
  have he : err (kindOf ps r.head.pred) (valTo ps f r v r.body.length) = 0 := by
    by_cases h0 : kindOf ps r.head.pred = 0
    · obtain ⟨e1, e2⟩ := h1 h0
      rw [valTo, if_neg (by omega), e2, h0]
      rfl
    · have hk' : kindOf ps r.head.pred = 1 ∨ kindOf ps r.head.pred = 2 ∨ kindOf ps r.head.pred = 3 := by omega
      have hn := Lat.err_of hk' h2 h3
      rw [valTo]
      split
      · rw [valueAt]
        have := Fire.find_range hf (place (atomF v ((r.body[r.src.toNat]?.map Ltr.atom).getD ⟨0, []⟩)))
        exact Lat.err_lift (Lat.err_of hk' this.1 this.2) hn
      · exact hn
  unfold factFine at hg ⊢
  simp only [Bool.and_eq_true, beq_iff_eq] at hg ⊢
  exact ⟨hg.1, hg.2.1, hg.2.2.1, hg.2.2.2.1, hg.2.2.2.2.1, he⟩

/-- facts with all of a list added -/
def addAll (K : Int → Int) : List Fct → List Fct → List Fct
  | f, [] => f
  | f, x :: xs => addAll K (addF K x f) xs
/-- does that change something? -/
def chgAll (K : Int → Int) : List Fct → List Fct → Bool
  | _, [] => false
  | f, x :: xs => addC K x f || chgAll K (addF K x f) xs
theorem addAll_append (K : Int → Int) : ∀ (xs ys f : List Fct), addAll K f (xs ++ ys) = addAll K (addAll K f xs) ys
  | [], _, _ => rfl
  | x :: xs, ys, f => by rw [List.cons_append, addAll, addAll, addAll_append K xs ys]
theorem chgAll_append (K : Int → Int) : ∀ (xs ys f : List Fct), chgAll K f (xs ++ ys) = (chgAll K f xs || chgAll K (addAll K f xs) ys)
  | [], _, _ => by simp [chgAll, addAll]
  | x :: xs, ys, f => by rw [List.cons_append, chgAll, chgAll, addAll, chgAll_append K xs ys, Bool.or_assoc]
/-- what a rule tells of f -/
def toldR (ps : List Prd) (f : List Fct) (r : Rul) : List Fct := (allL f r 0).map fun s => headF ps f r s.vars
theorem toldR_any (ps : List Prd) (f : List Fct) (r : Rul) (n : Int) : toldR ps f r = (allL f r n).map fun s => headF ps f r s.vars := by
  unfold toldR allL Fire.stepsA Fire.stepsB Fire.stepsC
  rw [List.map_flatMap, List.map_flatMap]
  congr 1
  funext a
  rw [List.map_flatMap, List.map_flatMap]
  congr 1
  funext b
  rw [List.map_map, List.map_map]
  rfl
theorem told_fine {ps : List Prd} {f : List Fct} {r : Rul} (hr : ruleErr ps r = 0) (hf : factsErr ps f = 0) : ∀ x ∈ toldR ps f r, factFine ps x = true := fun x hx => by
  obtain ⟨s, hs, rfl⟩ := List.mem_map.1 hx
  exact head_fine hr hf (mem_all.1 hs).2.1
/-- right facts, as the document checks them, out of what is known of them -/
theorem factsErr_of {ps : List Prd} {f : List Fct} (h5 : ps.length ≤ 5) (hp : predsOk ps = true) (hs : Base.Sorted f) (hf : ∀ x ∈ f, factFine ps x = true) : factsErr ps f = 0 := by
  unfold factsErr
  rw [if_neg (by omega), if_neg (by rw [hp]; simp), if_pos]
  unfold Base.goodTo
  rw [List.all_eq_true]
  intro i hi
  have hi := List.mem_range.1 hi
  unfold Base.goodAt
  rw [Base.nth_eq hi, hf _ (List.getElem_mem hi), Bool.true_and]
  cases i with
  | zero => rfl
  | succ i =>
    rw [Base.nth_eq (show i + 1 - 1 < f.length by omega)]
    have := (List.pairwise_iff_getElem.1 hs) i (i + 1) (by omega) hi (by omega)
    simp [this]
theorem fine_join {ps : List Prd} {x y : Fct} (hx : factFine ps x = true) (hy : factFine ps y = true) (h : place y = place x) : factFine ps ⟨y.pred, y.a, y.b, Lat.join (kindOf ps x.pred) y.val x.val⟩ = true := by
  obtain ⟨e1, _, _⟩ := Base.place_inj (Base.fine_of hy) (Base.fine_of hx) h
  unfold factFine at *
  simp only [Bool.and_eq_true, beq_iff_eq] at *
  refine ⟨hy.1, hy.2.1, hy.2.2.1, hy.2.2.2.1, hy.2.2.2.2.1, ?_⟩
  rw [e1] at hy ⊢
  exact Lat.err_join hy.2.2.2.2.2 hx.2.2.2.2.2
theorem fine_added {ps : List Prd} {x : Fct} (hx : factFine ps x = true) : ∀ {f : List Fct}, (∀ y ∈ f, factFine ps y = true) → ∀ z ∈ addF (kindOf ps) x f, factFine ps z = true
  | [], _, z, hz => by
    rw [addF] at hz
    rcases List.mem_singleton.1 hz with rfl
    exact hx
  | y :: f, hf, z, hz => by
    rw [addF] at hz
    split at hz
    · rename_i e
      rcases List.mem_cons.1 hz with rfl | hz
      · exact fine_join hx (hf y (by simp)) e
      · exact hf z (by simp [hz])
    · split at hz
      · rcases List.mem_cons.1 hz with rfl | hz
        · exact hx
        · exact hf z hz
      · rcases List.mem_cons.1 hz with rfl | hz
        · exact hf z (by simp)
        · exact fine_added hx (fun y hy => hf y (by simp [hy])) z hz
theorem add_right {ps : List Prd} {f : List Fct} {x : Fct} (hf : factsErr ps f = 0) (hx : factFine ps x = true) : factsErr ps (addF (kindOf ps) x f) = 0 :=
  factsErr_of (Base.factsErr_zero hf).1 (Base.factsErr_zero hf).2.1 (Base.sorted_add (Base.right_of hf).sorted) (fine_added hx (Base.facts_fine hf))
theorem addAll_right {ps : List Prd} : ∀ {xs f : List Fct}, factsErr ps f = 0 → (∀ x ∈ xs, factFine ps x = true) → factsErr ps (addAll (kindOf ps) f xs) = 0
  | [], _, hf, _ => hf
  | x :: xs, f, hf, hx => by
    rw [addAll]
    exact addAll_right (add_right hf (hx x (by simp))) fun y hy => hx y (by simp [hy])
theorem one_right {ps : List Prd} {f : List Fct} {x : Fct} (hf : factsErr ps f = 0) (hx : factFine ps x = true) : factsErr ps [x] = 0 :=
  factsErr_of (Base.factsErr_zero hf).1 (Base.factsErr_zero hf).2.1 (List.pairwise_singleton _ _) fun y hy => by rw [List.mem_singleton.1 hy]; exact hx
theorem addOf_right {ps : List Prd} {f : List Fct} {x : Fct} (hf : factsErr ps f = 0) (hx : factFine ps x = true) : Base.addOf ps f x = (addF (kindOf ps) x f, addC (kindOf ps) x f, 0) := by
  simp [Base.addOf, Base.withErr, hf, hx]
theorem underOf_right {ps : List Prd} {f g : List Fct} (hf : factsErr ps f = 0) (hg : factsErr ps g = 0) : Base.underOf ps f g = (under (kindOf ps) f g, 0) := by
  unfold Base.underOf
  rw [if_neg (by rw [hf]; simp), if_neg (by rw [hg]; simp)]
/-- what all rules of which S holds tell of f -/
def toldS (ps : List Prd) (S : Rul → Bool) (f : List Fct) (rs : List Rul) : List Fct := rs.flatMap fun r => if S r then toldR ps f r else []
theorem toldS_fine {ps : List Prd} {S : Rul → Bool} {f : List Fct} {rs : List Rul} (hr : ∀ r ∈ rs, ruleErr ps r = 0) (hf : factsErr ps f = 0) : ∀ x ∈ toldS ps S f rs, factFine ps x = true := fun x hx => by
  obtain ⟨r, hrm, hx⟩ := List.mem_flatMap.1 hx
  split at hx
  · exact told_fine (hr r hrm) hf x hx
  · cases hx
end Go.Proofs.YtlfccloaoopadafGreatDoor.Round

/-
  What the document's own 'AllOf' answers.
-/
namespace Go.Proofs.YtlfccloaoopadafGreatDoor.Fire
open Go.ChangeShapes Go.WideShapes Go.ChangeAt Go.RowKit
open Base (factsErr own_lasts own_lt)
open Rule (Vars asked ruleErr)
open Prog (slice_cells)
open Base (grown_below)

end Go.Proofs.YtlfccloaoopadafGreatDoor.Fire

/-
  What the document's own 'OnceOf' answers.
-/
namespace Go.Proofs.YtlfccloaoopadafGreatDoor.Round
open Go.ChangeShapes Go.WideShapes Go.ChangeAt Go.RowKit
open Rule (Vars ruleErr kindOf factFine)
open Base (factsNew factsNew.lasts factsErr addF addC own_lasts piece facts_piece wpList_append_piece cellsF factsAt_of grown_below)
open Fire (consts bodyOk headF holdsF allL Stp stepsAt stepAt step_cells mem_all rules_right)
open Prog (progErr slice_cells intsAt edges)
open Strata (strataL at_)

/-- is a rule of that stratum? -/
def ofS (L : List Nat) (s : Int) (r : Rul) : Bool := decide ((at_ L r.head.pred.toNat : Int) = s)
theorem toldS_succ {ps : List Prd} {S : Rul → Bool} {f : List Fct} {rs : List Rul} {n : Nat} (h : n < rs.length) : toldS ps S f (rs.take (n + 1)) = toldS ps S f (rs.take n) ++ if S rs[n] then toldR ps f rs[n] else [] := by
  unfold toldS
  rw [List.take_add_one, List.getElem?_eq_getElem h, List.flatMap_append]
  simp
theorem toldR_at {ps : List Prd} {f : List Fct} {r : Rul} {n : Int} {k : Nat} (h : k < (allL f r n).length) : (toldR ps f r).take (k + 1) = (toldR ps f r).take k ++ [headF ps f r (allL f r n)[k].vars] := by
  rw [toldR_any ps f r n, List.take_add_one, List.getElem?_map, List.getElem?_eq_getElem h]
  rfl
theorem told_holds {ps : List Prd} {f : List Fct} {r : Rul} {n : Int} {k : Nat} (h : k < (allL f r n).length) : bodyOk f (allL f r n)[k].vars r.body = true ∧ consts (allL f r n)[k].vars = true ∧ holdsF ps f r (allL f r n)[k].vars = headF ps f r (allL f r n)[k].vars := by
  have hm := (mem_all.1 (List.getElem_mem h)).2
  refine ⟨hm.2.1, hm.1, ?_⟩
  rw [holdsF, if_pos hm.2.1]
theorem addAll_one (K : Int → Int) (f xs : List Fct) (x : Fct) : addAll K f (xs ++ [x]) = addF K x (addAll K f xs) := by rw [addAll_append]; rfl
theorem chgAll_one (K : Int → Int) (f xs : List Fct) (x : Fct) : chgAll K f (xs ++ [x]) = (chgAll K f xs || addC K x (addAll K f xs)) := by rw [chgAll_append]; simp [chgAll]

end Go.Proofs.YtlfccloaoopadafGreatDoor.Round

/-
  The small parts of the developers' package round: which rules are wanted, the iterator's making, and a copy of facts.
-/
namespace Go.Proofs.YtlfccloaoopadafGreatDoor.Round
open Go.ChangeShapes Go.WideShapes Go.ChangeAt Go.RowKit
open Rule (Vars ruleErr kindOf factFine)
open Base (factsErr piece facts_piece wpList_append_piece cellsF factsAt_of)
open Prog (slice_cells intsAt)
open Strata (at_)

set_option maxRecDepth 100000 in
set_option maxHeartbeats 2000000 in
theorem once1_c (x : World) (Bs Bt e : Nat) (vs : Value) (L : List Nat) (s : Int) (r : Rul) (ha : Option Addr) (hn hc : Nat) (ba : Option Addr) (bn bc : Nat) (he : r.head.pred = (e : Int)) (hel : e < L.length) (h1 : x.cell? ⟨Bs, 0, none⟩ = some vs) (h2 : x.cell? ⟨Bt, 0, none⟩ = some (.int .i64 s)) (h3 : intsAt x vs L) (h4 : Bs < x.heap.size) (h5 : Bt < x.heap.size) :
    Calls Tryz.prog 97 #[.agg #[.int .i64 r.head.pred, .slice ha hn hc, .int .i64 r.src, .int .i64 r.n, .slice ba bn bc], .pointer (some ⟨Bs, 0, none⟩), .pointer (some ⟨Bt, 0, none⟩)] x fun e w' => e = .returned (.bool (ofS L s r)) ∧ Below x.heap.size x w' := by
  obtain ⟨lb, lo, lc, rfl, hlb, l0⟩ := slice_cells h3 hel
  have l0' : x.cell? ⟨lb, lo + e, none⟩ = some (.int .i64 (L[e] : Int)) := by have := l0; rwa [Nat.mul_one] at this
  have HE : Hid (ofS L s r = ((L[e] : Int) == s)) := by
    show _ = _
    unfold ofS at_
    rw [he, Int.toNat_natCast]
    simp [hel]
    rfl
  rw [he]
  obtain ⟨W1, hW1⟩ : ∃ W1, x.alloc (.cells #[.int .i64 (e : Int), .slice ha hn hc, .int .i64 r.src, .int .i64 r.n, .slice ba bn bc] 54) = W1 := ⟨_, rfl⟩
  have b1 : Below x.heap.size x W1 := by rw [← hW1]; exact below_alloc _ _
  have d0 : W1.cell? ⟨x.heap.size, 0, none⟩ = some (.int .i64 (e : Int)) := by rw [← hW1]; simp [go_sem]
  have c1 := (cell_lasts (o := 0) b1 h4).trans h1
  have c2 := (cell_lasts (o := 0) b1 h5).trans h2
  have c3 := (cell_lasts (o := lo + e) b1 hlb).trans l0'
  have hel' : (e : Int) < (L.length : Int) := by omega
  generalize L[e] = le at *
  clear h1 h2 h3 l0 l0' h4 h5 hlb
  go_enter Tryz.func97, Tryz.ntmps97
  go_wp2_with fail
  clear hW1
  go_quiet (fail)
  go_wp2_with fail
  go_ret
  refine ⟨?_, b1.trans ⟨rfl, rfl, rfl, Nat.le_refl _, fun _ _ => rfl⟩⟩
  rw [HE.out]
  rfl

theorem told_c (w : World) (pa : Option Addr) (pn pc : Nat) (ra : Option Addr) (rn rc : Nat) (fa : Option Addr) (fn fc : Nat) (g : Nat) (lb : Array Value) : Calls Tryz.prog 99 #[.agg #[.slice pa pn pc, .slice ra rn rc], .slice fa fn fc, .func (.func g) #[] lb] w fun e w' => e = .returned (.func (.func 112) #[] #[.pointer (some ⟨w.heap.size, 0, none⟩), .pointer (some ⟨w.heap.size + 1 + 1, 0, none⟩), .pointer (some ⟨w.heap.size + 1, 0, none⟩)]) ∧
    w' = ((w.alloc (.cells #[.slice pa pn pc, .slice ra rn rc] 25)).alloc (.cells #[.slice fa fn fc] 38)).alloc (.cells #[.func (.func g) #[] lb] 140) := by
  go_enter Tryz.func99, Tryz.ntmps99
  go_wp2_with fail
  go_ret
  exact ⟨rfl, rfl⟩

set_option maxRecDepth 100000 in
set_option maxHeartbeats 4000000 in
theorem cloneF_w (w : World) (fv : Value) (f : List Fct) (hf : factsAt w fv f) (h1 : f.length ≤ 500) :
    Calls Tryz.prog 98 #[fv] w fun e w' => ∃ v, e = .returned v ∧ factsAt w' v f ∧ Base.capNew w.heap.size v ∧ Base.rowW w' v ∧ Below w.heap.size w w' := by
  have HP : Hid (piece w fv f) := facts_piece hf
  obtain ⟨fa, fc, rfl, hfm, hfx⟩ := hf
  cases fa with
  | none =>
    have hf0 : f = [] := by
      rcases hfx with h | ⟨b, off, h, _⟩
      · exact h
      · cases h
    subst hf0
    have hnil : ∀ w', Sem.run Tryz.prog (binOp .eql 38 (.slice none 0 fc) (.slice none 0 0)) w' = .ok (.bool true) w' := fun w' => by
      have h : ∀ d : Nat, (Op.equalIn (d + 1) 38 (.slice none 0 fc) (.slice none 0 0)).run Tryz.prog w' = .ok true w' := fun d => by
        simp [Op.equalIn, run_underlying Tryz.underlying38]
      simp only [binOp]
      simp [Op.equal, Op.maxDepth, h 9999]
    clear h1 hfm HP hfx
    simp only [List.length_nil]
    go_enter Tryz.func98, Tryz.ntmps98
    go_wp2_with fail
    go_ret
    exact ⟨.slice none 0 0, rfl, Base.facts_nil _, Base.new_nil _, Base.rowW_nil _, Below.refl _ _⟩
  | some ad =>
    clear hfx
    have hnil : ∀ w', Sem.run Tryz.prog (binOp .eql 38 (.slice (some ad) f.length fc) (.slice none 0 0)) w' = .ok (.bool false) w' := fun w' => by
      have h : ∀ d : Nat, (Op.equalIn (d + 1) 38 (.slice (some ad) f.length fc) (.slice none 0 0)).run Tryz.prog w' = .ok false w' := fun d => by
        simp [Op.equalIn, run_underlying Tryz.underlying38]
      simp only [binOp]
      simp [Op.equal, Op.maxDepth, h 9999]
    go_enter Tryz.func98, Tryz.ntmps98
    have HN : Hid ((w.alloc (.cells #[] 82)).ownsRow w.heap.size 82 4 (.slice (some ⟨w.heap.size, 0, none⟩) 0 0) ([] : List Fct).length (cellsF [])) := ⟨rfl, .inr ⟨w.heap.size, 0, #[], rfl, Nat.le_refl _, heap_alloc_new w _, Nat.le_refl _, Nat.zero_le _, rfl, rfl⟩⟩
    go_wp2_with (at_builtin; refine wpList_append_piece _ rfl _ _ rfl w.heap.size (.slice (some ⟨w.heap.size, 0, none⟩) 0 0) [] f HN.out rfl _ rfl (HP.out.lasts (below_alloc _ _)) (by simp; omega) (by simp) ?_; intro v1 w1 hown1 hgr1; have hb1 : Below w.heap.size w w1 := (below_alloc _ _).grown hgr1 (by simp) (fun k hk => by cases hk; exact Nat.le_refl _); clear hgr1)
    go_ret
    exact ⟨v1, rfl, factsAt_of hown1 (by show f.length ≤ _; omega), Base.new_own hown1 (Nat.le_refl _), Base.rowW_own hown1, hb1⟩
theorem cloneF_n (w : World) (fv : Value) (f : List Fct) (hf : factsAt w fv f) (h1 : f.length ≤ 500) :
    Calls Tryz.prog 98 #[fv] w fun e w' => ∃ v, e = .returned v ∧ factsAt w' v f ∧ Base.capNew w.heap.size v ∧ Below w.heap.size w w' :=
  (cloneF_w w fv f hf h1).mono fun _ _ ⟨v, h1, h2, h3, _, h4⟩ => ⟨v, h1, h2, h3, h4⟩
end Go.Proofs.YtlfccloaoopadafGreatDoor.Round

/-
  What the document's own 'ClosedOf' answers.
-/
namespace Go.Proofs.YtlfccloaoopadafGreatDoor.Round
open Go.ChangeShapes Go.WideShapes Go.ChangeAt Go.RowKit
open Rule (Vars ruleErr kindOf factFine)
open Base (factsErr under underOne)
open Fire (consts bodyOk headF holdsF allL Stp stepsAt stepAt step_cells mem_all rules_right)
open Prog (progErr slice_cells)

theorem under_append (K : Int → Int) (xs ys f : List Fct) : under K (xs ++ ys) f = (under K xs f && under K ys f) := by unfold under; rw [List.all_append]
theorem under_one (K : Int → Int) (x : Fct) (f : List Fct) : under K [x] f = underOne K f x := by unfold under; simp
theorem facts_new (w : World) (x : Fct) : factsAt (w.alloc (.cells #[.int .i64 x.pred, .int .i64 x.a, .int .i64 x.b, .int .i64 x.val] 82)) (.slice (some ⟨w.heap.size, 0, none⟩) 1 1) [x] := by
  refine ⟨_, 1, rfl, by simp, .inr ⟨w.heap.size, 0, rfl, by simp, fun i y hi => ?_⟩⟩
  match i, hi with
  | 0, hi =>
    obtain rfl : x = y := by simpa using hi
    refine ⟨?_, ?_, ?_, ?_⟩ <;> simp [go_sem]
  | i + 1, hi => simp at hi

end Go.Proofs.YtlfccloaoopadafGreatDoor.Round
