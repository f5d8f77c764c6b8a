/-
  The developers' package sum: copies of atoms and bodies; the library's Clone at predicates, terms and literals.
-/
import Derived.Deep.RegionHeld3
import Derived.Test.YtlfccloaoopadagGreatG5
namespace Go.Proofs.YtlfccloaoopadagGreat.Sum
open Go.ChangeShapes Go.WideShapes Go.ChangeAt Go.RowKit

section
variable {P : Program}
theorem wpList_append_none (w : World) {ops : Array Oper} {rest : List Oper} {o : Oper} {a : Act} {Q : Exit → Act → World → Prop} (hgd : o.guard = none) (s x : Operand) (t : TypeId)
    (ho : o.op = .call { callee := .builtin .append, args := #[s, x], argTypes := #[t, t] }) (e : TypeId) (i : TypeInfo) (ht : P.underlying t = some (.slice e)) (hi : P.info? e = some i)
    (ad : Option Addr) (n cap c : Nat) (hn : n ≤ cap) (hsv : a.eval s = .slice ad n cap) (hxv : a.eval x = .slice none 0 c)
    (h : wpList P ops Q rest (a.put o.dst (.slice ad n cap)) w) : wpList P ops Q (o :: rest) a w :=
  wpList_plain hgd fun _ hK => by
    have hr : (Builtin.append_ #[t, t] o.type #[.slice ad n cap, .slice none 0 c]).run P w = .ok (.slice ad n cap) w := by
      cases ad <;> simp [Builtin.append_, run_underlying ht, sizeOf, typeInfo, hi, Builtin.lenOf, Builtin.firstCells, hn, storeCells]
    unfold Oper.wp execOp
    simp only [ho, resolve, invoke, builtin, Sem.run_bind, Sem.run_pure, Result.andThen_ok, List.map_toArray, List.map_cons, List.map_nil, hsv, hxv, hr]
    exact hK _ _ h
/-- a piece is put behind a row of the call's own -/
theorem wpList_append_cells (w : World) {ops : Array Oper} {rest : List Oper} {o : Oper} {a : Act} {Q : Exit → Act → World → Prop} (hgd : o.guard = none) (s x : Operand) (t : TypeId)
    (ho : o.op = .call { callee := .builtin .append, args := #[s, x], argTypes := #[t, t] }) (e : TypeId) {z : Value} {size bytes : Nat} (ht : P.underlying t = some (.slice e)) (hinfo : (P.info? e).map (fun i => (i.zero, i.size, i.bytes)) = some (some z, size, bytes)) (hzs : z.cells.size = size) (hsz : 0 < size) (hby : bytes ≤ 1000)
    (base : Nat) (v : Value) (n : Nat) (xs : List Value) (hown : w.ownsRow base e size v n xs) (hs : a.eval s = v) (y : Value) (hy : a.eval x = y) (m : Nat) (ys : List Value) (hp : pieceC w y m ys) (hl : ys.length = m * size) (h1 : ∀ u ∈ ys, u.oneCell' = true)
    (hb : n + m ≤ 1000) (hbase : base ≤ w.heap.size)
    (h : ∀ v' w', w'.ownsRow base e size v' (n + m) (xs ++ ys) → w.grownBy w' v.ownBlock → wpList P ops Q rest (a.put o.dst v') w') : wpList P ops Q (o :: rest) a w := by
  obtain ⟨i, hi, hz, hsz', hby'⟩ := info_parts hinfo
  rcases hp with ⟨c, rfl, rfl, rfl⟩ | ⟨ad, c, rfl, hc⟩
  · have hown' := hown
    rcases hown.2 with ⟨rfl, h0⟩ | ⟨g, cap, cur, rfl, h1, h2, h3, h4, h5, h6⟩
    · refine wpList_append_none w hgd s x t ho e i ht hi none 0 0 c (Nat.le_refl _) hs hy ?_
      exact h _ w (by rw [List.append_nil]; exact hown') ⟨rfl, rfl, rfl, Nat.le_refl _, fun _ _ _ => rfl⟩
    · refine wpList_append_none w hgd s x t ho e i ht hi (some ⟨g, 0, none⟩) n cap c h3 hs hy ?_
      exact h _ w (by rw [List.append_nil]; exact hown') ⟨rfl, rfl, rfl, Nat.le_refl _, fun _ _ _ => rfl⟩
  · have hmul : (n + m + (n + m) / 4 + 192) * bytes ≤ 2000 * 1000 := Nat.mul_le_mul (by omega) hby
    refine wpList_append_own_wide w hgd s x t ho base e i z size bytes ht hi hz hsz' hby' hzs hsz v n xs hs hown ad m c ys hy hl hc h1 (by unfold maxLen; omega) (by omega) hbase ?_
    intro v' w' h1 h2 _
    exact h v' w' h1 h2
end

set_option maxRecDepth 100000 in
set_option maxHeartbeats 4000000 in
theorem clonePreds_c (w : World) (v : Value) (n : Nat) (cs : List Value) (hp : pieceC w v n cs) (hl : cs.length = n * 3) (h1 : ∀ u ∈ cs, u.oneCell' = true) (hn : n ≤ 500) :
    Calls Tryz.prog 56 #[v] w fun e w' => ∃ v', e = .returned v' ∧ w'.ownsRow w.heap.size 52 3 v' n cs ∧ Below w.heap.size w w' := by
  rcases id hp with ⟨fc, rfl, rfl, rfl⟩ | ⟨ad, fc, rfl, hc⟩
  · have hnil : ∀ w', Sem.run Tryz.prog (binOp .eql 22 (.slice none 0 fc) (.slice none 0 0)) w' = .ok (.bool true) w' := fun w' => by
      have h : ∀ d : Nat, (Op.equalIn (d + 1) 22 (.slice none 0 fc) (.slice none 0 0)).run Tryz.prog w' = .ok true w' := fun d => by
        simp [Op.equalIn, run_underlying Tryz.underlying22]
      simp only [binOp]
      simp [Op.equal, Op.maxDepth, h 9999]
    clear hp hl h1
    go_enter Tryz.func56, Tryz.ntmps56
    go_wp2_with fail
    go_ret
    exact ⟨_, rfl, ⟨rfl, .inl ⟨rfl, rfl⟩⟩, Below.refl _ _⟩
  · have hnil : ∀ w', Sem.run Tryz.prog (binOp .eql 22 (.slice (some ad) n fc) (.slice none 0 0)) w' = .ok (.bool false) w' := fun w' => by
      have h : ∀ d : Nat, (Op.equalIn (d + 1) 22 (.slice (some ad) n fc) (.slice none 0 0)).run Tryz.prog w' = .ok false w' := fun d => by
        simp [Op.equalIn, run_underlying Tryz.underlying22]
      simp only [binOp]
      simp [Op.equal, Op.maxDepth, h 9999]
    have HP : Hid (pieceC w (.slice (some ad) n fc) n cs) := hp
    have HL : Hid (cs.length = n * 3) := hl
    have H1 : Hid (∀ u ∈ cs, u.oneCell' = true) := h1
    clear hp hl h1 hc
    have HN : Hid ((w.alloc (.cells #[] 52)).ownsRow w.heap.size 52 3 (.slice (some ⟨w.heap.size, 0, none⟩) 0 0) 0 []) := ⟨rfl, .inr ⟨w.heap.size, 0, #[], rfl, Nat.le_refl _, heap_alloc_new w _, Nat.le_refl _, Nat.zero_le _, rfl, rfl⟩⟩
    go_enter Tryz.func56, Tryz.ntmps56
    go_wp2_with (at_builtin; refine wpList_append_cells _ rfl _ _ 22 rfl 52 Tryz.underlying22 infoPred rfl (by omega) (by omega) w.heap.size (.slice (some ⟨w.heap.size, 0, none⟩) 0 0) 0 [] HN.out rfl _ rfl n cs (HP.out.lasts (below_alloc _ _)) HL.out H1.out (by omega) (by simp) ?_; intro v1 w1 hown1 hgr1; have hb1 : Below w.heap.size w w1 := (below_alloc _ _).grown hgr1 (by simp) (fun k hk => by cases hk; exact Nat.le_refl _); clear hgr1)
    go_ret
    refine ⟨v1, rfl, ?_, hb1⟩
    rw [Nat.zero_add, List.nil_append] at hown1
    exact hown1

set_option maxRecDepth 100000 in
set_option maxHeartbeats 4000000 in
theorem cloneTerms_c (w : World) (v : Value) (n : Nat) (cs : List Value) (hp : pieceC w v n cs) (hl : cs.length = n * 2) (h1 : ∀ u ∈ cs, u.oneCell' = true) (hn : n ≤ 500) :
    Calls Tryz.prog 94 #[v] w fun e w' => ∃ v', e = .returned v' ∧ w'.ownsRow w.heap.size 111 2 v' n cs ∧ Below w.heap.size w w' := by
  rcases id hp with ⟨fc, rfl, rfl, rfl⟩ | ⟨ad, fc, rfl, hc⟩
  · have hnil : ∀ w', Sem.run Tryz.prog (binOp .eql 53 (.slice none 0 fc) (.slice none 0 0)) w' = .ok (.bool true) w' := fun w' => by
      have h : ∀ d : Nat, (Op.equalIn (d + 1) 53 (.slice none 0 fc) (.slice none 0 0)).run Tryz.prog w' = .ok true w' := fun d => by
        simp [Op.equalIn, run_underlying Tryz.underlying53]
      simp only [binOp]
      simp [Op.equal, Op.maxDepth, h 9999]
    clear hp hl h1
    go_enter Tryz.func94, Tryz.ntmps94
    go_wp2_with fail
    go_ret
    exact ⟨_, rfl, ⟨rfl, .inl ⟨rfl, rfl⟩⟩, Below.refl _ _⟩
  · have hnil : ∀ w', Sem.run Tryz.prog (binOp .eql 53 (.slice (some ad) n fc) (.slice none 0 0)) w' = .ok (.bool false) w' := fun w' => by
      have h : ∀ d : Nat, (Op.equalIn (d + 1) 53 (.slice (some ad) n fc) (.slice none 0 0)).run Tryz.prog w' = .ok false w' := fun d => by
        simp [Op.equalIn, run_underlying Tryz.underlying53]
      simp only [binOp]
      simp [Op.equal, Op.maxDepth, h 9999]
    have HP : Hid (pieceC w (.slice (some ad) n fc) n cs) := hp
    have HL : Hid (cs.length = n * 2) := hl
    have H1 : Hid (∀ u ∈ cs, u.oneCell' = true) := h1
    clear hp hl h1 hc
    have HN : Hid ((w.alloc (.cells #[] 111)).ownsRow w.heap.size 111 2 (.slice (some ⟨w.heap.size, 0, none⟩) 0 0) 0 []) := ⟨rfl, .inr ⟨w.heap.size, 0, #[], rfl, Nat.le_refl _, heap_alloc_new w _, Nat.le_refl _, Nat.zero_le _, rfl, rfl⟩⟩
    go_enter Tryz.func94, Tryz.ntmps94
    go_wp2_with (at_builtin; refine wpList_append_cells _ rfl _ _ 53 rfl 111 Tryz.underlying53 infoTerm rfl (by omega) (by omega) w.heap.size (.slice (some ⟨w.heap.size, 0, none⟩) 0 0) 0 [] HN.out rfl _ rfl n cs (HP.out.lasts (below_alloc _ _)) HL.out H1.out (by omega) (by simp) ?_; intro v1 w1 hown1 hgr1; have hb1 : Below w.heap.size w w1 := (below_alloc _ _).grown hgr1 (by simp) (fun k hk => by cases hk; exact Nat.le_refl _); clear hgr1)
    go_ret
    refine ⟨v1, rfl, ?_, hb1⟩
    rw [Nat.zero_add, List.nil_append] at hown1
    exact hown1

set_option maxRecDepth 100000 in
set_option maxHeartbeats 4000000 in
theorem cloneLits_c (w : World) (v : Value) (n : Nat) (cs : List Value) (hp : pieceC w v n cs) (hl : cs.length = n * 3) (h1 : ∀ u ∈ cs, u.oneCell' = true) (hn : n ≤ 500) :
    Calls Tryz.prog 95 #[v] w fun e w' => ∃ v', e = .returned v' ∧ w'.ownsRow w.heap.size 79 3 v' n cs ∧ Below w.heap.size w w' := by
  rcases id hp with ⟨fc, rfl, rfl, rfl⟩ | ⟨ad, fc, rfl, hc⟩
  · have hnil : ∀ w', Sem.run Tryz.prog (binOp .eql 56 (.slice none 0 fc) (.slice none 0 0)) w' = .ok (.bool true) w' := fun w' => by
      have h : ∀ d : Nat, (Op.equalIn (d + 1) 56 (.slice none 0 fc) (.slice none 0 0)).run Tryz.prog w' = .ok true w' := fun d => by
        simp [Op.equalIn, run_underlying Tryz.underlying56]
      simp only [binOp]
      simp [Op.equal, Op.maxDepth, h 9999]
    clear hp hl h1
    go_enter Tryz.func95, Tryz.ntmps95
    go_wp2_with fail
    go_ret
    exact ⟨_, rfl, ⟨rfl, .inl ⟨rfl, rfl⟩⟩, Below.refl _ _⟩
  · have hnil : ∀ w', Sem.run Tryz.prog (binOp .eql 56 (.slice (some ad) n fc) (.slice none 0 0)) w' = .ok (.bool false) w' := fun w' => by
      have h : ∀ d : Nat, (Op.equalIn (d + 1) 56 (.slice (some ad) n fc) (.slice none 0 0)).run Tryz.prog w' = .ok false w' := fun d => by
        simp [Op.equalIn, run_underlying Tryz.underlying56]
      simp only [binOp]
      simp [Op.equal, Op.maxDepth, h 9999]
    have HP : Hid (pieceC w (.slice (some ad) n fc) n cs) := hp
    have HL : Hid (cs.length = n * 3) := hl
    have H1 : Hid (∀ u ∈ cs, u.oneCell' = true) := h1
    clear hp hl h1 hc
    have HN : Hid ((w.alloc (.cells #[] 79)).ownsRow w.heap.size 79 3 (.slice (some ⟨w.heap.size, 0, none⟩) 0 0) 0 []) := ⟨rfl, .inr ⟨w.heap.size, 0, #[], rfl, Nat.le_refl _, heap_alloc_new w _, Nat.le_refl _, Nat.zero_le _, rfl, rfl⟩⟩
    go_enter Tryz.func95, Tryz.ntmps95
    go_wp2_with (at_builtin; refine wpList_append_cells _ rfl _ _ 56 rfl 79 Tryz.underlying56 infoLit rfl (by omega) (by omega) w.heap.size (.slice (some ⟨w.heap.size, 0, none⟩) 0 0) 0 [] HN.out rfl _ rfl n cs (HP.out.lasts (below_alloc _ _)) HL.out H1.out (by omega) (by simp) ?_; intro v1 w1 hown1 hgr1; have hb1 : Below w.heap.size w w1 := (below_alloc _ _).grown hgr1 (by simp) (fun k hk => by cases hk; exact Nat.le_refl _); clear hgr1)
    go_ret
    refine ⟨v1, rfl, ?_, hb1⟩
    rw [Nat.zero_add, List.nil_append] at hown1
    exact hown1

theorem own_slice {w : World} {base sz n : Nat} {e : TypeId} {v : Value} {xs : List Value} (h : w.ownsRow base e sz v n xs) : ∃ a c, v = .slice a n c := by
  rcases h.2 with ⟨rfl, h0⟩ | ⟨g, cap, cur, rfl, _⟩
  · exact ⟨none, 0, by rw [h0]⟩
  · exact ⟨_, _, rfl⟩
set_option maxRecDepth 100000 in
set_option maxHeartbeats 4000000 in
theorem ownAtom_c (w : World) (k : Int) (av : Value) (ts : List Tm) (ht : termsAt w av ts) (hn : ts.length ≤ 500) :
    Calls Tryz.prog 58 #[.agg #[.int .i64 k, av]] w fun e w' => ∃ a' c', e = .returned (.agg #[.int .i64 k, .slice a' ts.length c']) ∧ Fresh w.heap.size (fun x => termsAt x (.slice a' ts.length c') ts) w' ∧ Below w.heap.size w w' := by
  have HC : Hid (∀ x, Below w.heap.size w x → Calls Tryz.prog 94 #[av] x fun e w' => ∃ v', e = .returned v' ∧ w'.ownsRow x.heap.size 111 2 v' ts.length (cellsT ts) ∧ Below x.heap.size x w') := fun x hx => cloneTerms_c x av ts.length (cellsT ts) (terms_piece (termsAt.lasts hx ht)) (cellsT_length ts) (cellsT_one ts) hn
  obtain ⟨aa, ac, rfl, hlt, _⟩ := ht
  obtain ⟨W2, hW2⟩ : ∃ W2, (w.alloc (.cells #[.int .i64 k, .slice aa ts.length ac] 55)).alloc (.cells #[.int .i64 0, .slice none 0 0] 55) = W2 := ⟨_, rfl⟩
  have b2 : Below w.heap.size w W2 := by rw [← hW2]; exact (below_alloc _ _).alloc (by simp) _
  have hs2 : W2.heap.size = w.heap.size + 2 := by rw [← hW2]; simp
  have C2 : W2.cell? ⟨w.heap.size, 0, none⟩ = some (.int .i64 k) ∧ W2.cell? ⟨w.heap.size, 1, none⟩ = some (.slice aa ts.length ac) := by rw [← hW2]; simp [go_sem]
  have D2 : W2.cell? ⟨w.heap.size + 1, 0, none⟩ = some (.int .i64 0) ∧ W2.cell? ⟨w.heap.size + 1, 1, none⟩ = some (.slice none 0 0) ∧ W2.frozen? ⟨w.heap.size + 1, 0, none⟩ = false ∧ W2.frozen? ⟨w.heap.size + 1, 1, none⟩ = false := by rw [← hW2]; simp [go_sem]
  have KEEP : Hid (∀ x, Below W2.heap.size W2 x → (fun x : World => x.cell? ⟨w.heap.size, 0, none⟩ = some (.int .i64 k) ∧ x.cell? ⟨w.heap.size, 1, none⟩ = some (.slice aa ts.length ac)) x) := fun x hx => ⟨(cell_lasts hx (by omega)).trans C2.1, (cell_lasts hx (by omega)).trans C2.2⟩
  have KEEP2 : Hid (∀ x, Below W2.heap.size W2 x → ∀ u v, (fun x : World => x.cell? ⟨w.heap.size, 0, none⟩ = some (.int .i64 k) ∧ x.cell? ⟨w.heap.size, 1, none⟩ = some (.slice aa ts.length ac)) ((x.setCell ⟨w.heap.size + 1, 0, none⟩ u).setCell ⟨w.heap.size + 1, 1, none⟩ v)) := fun x hx u v => ⟨(cell_block (by omega)).trans ((cell_block (by omega)).trans (KEEP.out x hx).1), (cell_block (by omega)).trans ((cell_block (by omega)).trans (KEEP.out x hx).2)⟩
  have KX : Hid (∀ x, Below W2.heap.size W2 x → x.cell? ⟨w.heap.size + 1, 0, none⟩ = some (.int .i64 0) ∧ x.cell? ⟨w.heap.size + 1, 1, none⟩ = some (.slice none 0 0) ∧ x.frozen? ⟨w.heap.size + 1, 0, none⟩ = false ∧ x.frozen? ⟨w.heap.size + 1, 1, none⟩ = false) := fun x hx => ⟨(cell_lasts hx (by omega)).trans D2.1, (cell_lasts hx (by omega)).trans D2.2.1, ((bcell hx).2 _ _ (by omega)).trans D2.2.2.1, ((bcell hx).2 _ _ (by omega)).trans D2.2.2.2⟩
  go_enter Tryz.func58, Tryz.ntmps58
  go_wp2_with fail
  clear hW2
  go_region_held3 (fun x : World => x.cell? ⟨w.heap.size, 0, none⟩ = some (.int .i64 k) ∧ x.cell? ⟨w.heap.size, 1, none⟩ = some (.slice aa ts.length ac))
    (first | (refine KEEP.out _ ?_; (first | exact Below.refl _ _ | exact (Below.refl _ _).drew | exact hk)) | exact KEEP2.out _ hk _ _)
    (first | (go_at_call 94; refine (HC.out _ b2.drew).mono ?_; rintro e w5 ⟨v5, rfl, hown5, hb5⟩; obtain ⟨a5, c5, rfl⟩ := own_slice hown5; have hk : Below W2.heap.size W2 w5 := ((Below.refl _ _).drew).trans hb5; obtain ⟨z0, z1, z0f, z1f⟩ := KX.out _ hk))
  have hk5 : Below w.heap.size w w5 := b2.trans (hk.mono b2.size)
  have hown6 : w5.ownsRow W2.heap.size 111 2 (.slice a5 ts.length c5) ts.length (cellsT ts) := hown5
  go_wp2_with fail
  refine bodyPost_ret (v := .agg #[.int .i64 k, .slice a5 ts.length c5]) (by simp [results, Tryz.results58, go_sem, z0, z1]) rfl ⟨a5, c5, rfl, ?_, (hk5.setCell (p := ⟨w.heap.size + 1, 0, none⟩) (show w.heap.size ≤ w.heap.size + 1 by omega) _).setCell (p := ⟨w.heap.size + 1, 1, none⟩) (show w.heap.size ≤ w.heap.size + 1 by omega) _⟩
  exact ((((fresh_terms hown6 hlt).keeps (KeepsFrom.set (n := W2.heap.size) (by omega)) (Nat.le_refl _)).keeps (KeepsFrom.set (n := W2.heap.size) (by omega)) (Nat.le_refl _))).mono (by omega)

theorem get_map {α β : Type} {f : α → β} {us : List α} {ls : List β} (h : us.map f = ls) {j : Nat} {x : α} (hx : us[j]? = some x) : ls[j]? = some (f x) := by rw [← h, List.getElem?_map, hx]; rfl
theorem map_set {α β : Type} {f : α → β} {us : List α} {ls : List β} (h : us.map f = ls) {j : Nat} {x y : α} (hx : us[j]? = some x) (hy : f y = f x) : (us.set j y).map f = ls := by
  rw [List.map_set, h, hy]
  refine List.ext_getElem? fun q => ?_
  by_cases hq : j = q
  · subst hq
    have := (List.getElem?_eq_some_iff.1 (get_map h hx)).1
    rw [List.getElem?_set_self this, get_map h hx]
  · rw [List.getElem?_set_ne hq]

set_option maxRecDepth 100000 in
set_option maxHeartbeats 4000000 in
theorem ownBody_c (w : World) (bv : Value) (ls : List Ltr) (hb : litsAt w bv ls) (hn : ls.length ≤ 500) (hts : ∀ l ∈ ls, l.atom.args.length ≤ 500) :
    Calls Tryz.prog 59 #[bv] w fun e w' => ∃ a' c', e = .returned (.slice a' ls.length c') ∧ Fresh w.heap.size (fun x => litsAt x (.slice a' ls.length c') ls) w' ∧ Below w.heap.size w w' := by
  obtain ⟨vs, hvs, hok, hpc⟩ := lits_open hb
  have hlen : vs.length = ls.length := by rw [← hvs, List.length_map]
  have HC := cloneLits_c w bv vs.length (cellsL vs) hpc (cellsL_length vs) (cellsL_one hok) (by omega)
  obtain ⟨ba, bc, rfl, hlb, _⟩ := hb
  have HOK : Hid (∀ x, Below w.heap.size w x → ∀ v ∈ vs, LVok x v) := fun x hx v hv => LVok.lasts hx (hok v hv)
  have HTS : Hid (∀ v ∈ vs, v.l.atom.args.length ≤ 500) := fun v hv => hts _ (by rw [← hvs]; exact List.mem_map.2 ⟨v, hv, rfl⟩)
  have HVS : Hid (vs.map LV.l = ls) := hvs
  have HLEN : Hid (vs.length = ls.length) := hlen
  have hlv : vs.length ≤ 500 := by omega
  rw [← hlen] at *
  clear hvs hok hpc hlen hts hn
  go_enter Tryz.func59, Tryz.ntmps59
  go_wp2_with (go_at_call 95; refine HC.mono ?_; rintro e W1 ⟨v1, rfl, hown1, hb1⟩; obtain ⟨a1, c1, rfl⟩ := own_slice hown1)
  clear HC
  go_loopw [10] (fun i wr => ∃ (j : Nat) (us : List LV), j ≤ vs.length ∧ i = .int .i64 j ∧ Hid (us.map LV.l = ls ∧ wr.ownsRow w.heap.size 79 3 (.slice a1 vs.length c1) vs.length (cellsL us) ∧ (∀ q x, us[q]? = some x → q < j → Fresh W1.heap.size (fun y => LVok y x) wr) ∧ (∀ q, j ≤ q → us[q]? = vs[q]?) ∧ Below w.heap.size w wr ∧ W1.heap.size ≤ wr.heap.size)) (fun i _ => vs.length - (intOf i).toNat)
  case atStart => exact ⟨0, vs, Nat.zero_le _, rfl, HVS.out, hown1, fun q x _ h => by omega, fun _ _ => rfl, hb1, Nat.le_refl _⟩
  case round =>
    obtain ⟨j, us, hj, rfl, hin⟩ := hrel
    have hbr := hin.out.2.2.2.2.1
    by_cases hjl : j < vs.length
    · have hj1 : (j : Int) < (vs.length : Int) := by omega
      obtain ⟨y, hy⟩ : ∃ y, us[j]? = some y := ⟨vs[j], by rw [hin.out.2.2.2.1 j (Nat.le_refl _)]; exact List.getElem?_eq_getElem hjl⟩
      have hyv : y ∈ vs := List.mem_of_getElem? ((hin.out.2.2.2.1 j (Nat.le_refl _)).symm.trans hy)
      have hul : us.length = vs.length := by have h1 := congrArg List.length hin.out.1; have h2 := congrArg List.length HVS.out; simp only [List.length_map] at h1 h2; omega
      have hown := hin.out.2.1
      obtain ⟨g, cap, hg1, hg2, hg3, hgf, hgc⟩ := (own_cell hown (by rw [cellsL_length, hul])).resolve_left (by rintro ⟨_, h⟩; omega)
      obtain ⟨rfl, rfl⟩ : a1 = some ⟨g, 0, none⟩ ∧ c1 = cap := by simpa using hg1
      obtain ⟨t0, t1, t2⟩ := cellsL_at us j y hy
      obtain ⟨ya, yc, hya, _⟩ := HOK.out wr hbr y hyv
      have HTA : Hid (∀ x, Below w.heap.size w x → termsAt x (.slice ya y.l.atom.args.length yc) y.l.atom.args) := fun x hx => by rw [← hya]; exact HOK.out x hx y hyv
      have m0 : wr.cell? ⟨g, j * 3, none⟩ = some (.bool y.l.neg) := by have := hgc _ _ t0; rwa [Nat.zero_add] at this
      have m1 : wr.cell? ⟨g, j * 3 + 1, none⟩ = some (.int .i64 y.l.atom.pred) := by have := hgc _ _ t1; rwa [Nat.zero_add] at this
      have m2 : wr.cell? ⟨g, j * 3 + 2, none⟩ = some (.slice ya y.l.atom.args.length yc) := by have := hgc _ _ t2; rwa [Nat.zero_add, hya] at this
      have hgW : g < W1.heap.size := by
        rcases hown1.2 with ⟨h, _⟩ | ⟨g', _, cur, h, _, hh, _⟩
        · cases h
        · cases h; exact (Array.getElem?_eq_some_iff.1 hh).1
      have HY : Hid (us[j]? = some y ∧ y ∈ vs ∧ us.length = vs.length ∧ y.av = .slice ya y.l.atom.args.length yc) := ⟨hy, hyv, hul, hya⟩
      have hyn : y.l.atom.args.length ≤ 500 := HTS.out y hyv
      have HOA : Hid (∀ x, Below w.heap.size w x → Calls Tryz.prog 58 #[.agg #[.int .i64 y.l.atom.pred, .slice ya y.l.atom.args.length yc]] x fun e w' => ∃ a' c', e = .returned (.agg #[.int .i64 y.l.atom.pred, .slice a' y.l.atom.args.length c']) ∧ Fresh x.heap.size (fun z => termsAt z (.slice a' y.l.atom.args.length c') y.l.atom.args) w' ∧ Below x.heap.size x w') := fun x hx => ownAtom_c x _ _ _ (HTA.out x hx) hyn
      obtain ⟨W2, hW2⟩ : ∃ W2, wr.alloc (.cells #[.bool y.l.neg, .int .i64 y.l.atom.pred, .slice ya y.l.atom.args.length yc] 79) = W2 := ⟨_, rfl⟩
      have b2 : Below wr.heap.size wr W2 := by rw [← hW2]; exact below_alloc _ _
      have hgw : g < wr.heap.size := hg3
      have kW : W1.heap.size ≤ wr.heap.size := hin.out.2.2.2.2.2
      have c2 : W2.cell? ⟨wr.heap.size, 1, none⟩ = some (.int .i64 y.l.atom.pred) ∧ W2.cell? ⟨wr.heap.size, 2, none⟩ = some (.slice ya y.l.atom.args.length yc) := by rw [← hW2]; simp [go_sem]
      obtain ⟨c21, c22⟩ := c2
      have k2 : Below w.heap.size w W2 := hbr.trans (b2.mono hbr.size)
      have m1' : ∀ x, Below W2.heap.size W2 x → x.cell? ⟨g, j * 3 + 1, none⟩ = some (.int .i64 y.l.atom.pred) ∧ x.cell? ⟨g, j * 3 + 2, none⟩ = some (.slice ya y.l.atom.args.length yc) ∧ x.frozen? ⟨g, j * 3 + 1, none⟩ = false ∧ x.frozen? ⟨g, j * 3 + 2, none⟩ = false := fun x hx => by
        have hx' : Below wr.heap.size wr x := b2.trans (hx.mono b2.size)
        exact ⟨(cell_lasts hx' hgw).trans m1, (cell_lasts hx' hgw).trans m2, ((bcell hx').2 _ _ hgw).trans (hgf _), ((bcell hx').2 _ _ hgw).trans (hgf _)⟩
      have HM : Hid (∀ x, Below W2.heap.size W2 x → x.cell? ⟨g, j * 3 + 1, none⟩ = some (.int .i64 y.l.atom.pred) ∧ x.cell? ⟨g, j * 3 + 1 + 1, none⟩ = some (.slice ya y.l.atom.args.length yc) ∧ x.frozen? ⟨g, j * 3 + 1, none⟩ = false ∧ x.frozen? ⟨g, j * 3 + 1 + 1, none⟩ = false) := m1'
      clear hown hg1 hgc t0 t1 t2 hya hy hyv hul hgf m1'
      go_wp2_with (go_at_call 58; refine (HOA.out _ k2).mono ?_; rintro e W3 ⟨a3, c3, rfl, hf3, hb3⟩; obtain ⟨z1, z2, z1f, z2f⟩ := HM.out _ hb3)
      go_roundw
      case rel =>
        have k3 : Below w.heap.size w W3 := k2.trans (hb3.mono k2.size)
        have q3 : Below wr.heap.size wr W3 := b2.trans (hb3.mono b2.size)
        have hy := HY.out.1
        refine ⟨j + 1, us.set j ⟨y.l, .slice a3 y.l.atom.args.length c3⟩, by omega, by go_num, map_set hin.out.1 hy rfl, ?_, ?_, ?_, (k3.setCell (p := ⟨g, j * 3 + 1, none⟩) hg2 _).setCell (p := ⟨g, j * 3 + 2, none⟩) hg2 _, ?_⟩
        · have h := own_store (k := j * 3 + 2) (v := .slice a3 y.l.atom.args.length c3) (own_store (k := j * 3 + 1) (v := .int .i64 y.l.atom.pred) (own_lasts hin.out.2.1 q3))
          have e : cellsL (us.set j ⟨y.l, .slice a3 y.l.atom.args.length c3⟩) = ((cellsL us).set (j * 3 + 1) (.int .i64 y.l.atom.pred)).set (j * 3 + 2) (.slice a3 y.l.atom.args.length c3) := by
            rw [cellsL_set]
            congr 2
            refine List.ext_getElem? fun q => ?_
            by_cases hq : j * 3 = q
            · subst hq
              have hlt := (List.getElem?_eq_some_iff.1 (cellsL_at us j y hy).1).1
              rw [List.getElem?_set_self hlt, (cellsL_at us j y hy).1]
            · rw [List.getElem?_set_ne hq]
          rw [e]
          exact h
        · intro q x hx hq
          by_cases hqj : j = q
          · subst hqj
            have hlt : j < us.length := (List.getElem?_eq_some_iff.1 hy).1
            rw [List.getElem?_set_self hlt] at hx
            cases hx
            exact ((hf3.keeps (KeepsFrom.set (n := W2.heap.size) (by have := b2.size; omega)) (Nat.le_refl _)).keeps (KeepsFrom.set (n := W2.heap.size) (by have := b2.size; omega)) (Nat.le_refl _)).mono (by have := b2.size; omega)
          · rw [List.getElem?_set_ne hqj] at hx
            exact (((hin.out.2.2.1 q x hx (by omega)).keeps (KeepsFrom.below (n := W1.heap.size) q3) (Nat.le_refl _)).keeps (KeepsFrom.set (n := W1.heap.size) hgW) (Nat.le_refl _)).keeps (KeepsFrom.set (n := W1.heap.size) hgW) (Nat.le_refl _)
        · intro q hq
          rw [List.getElem?_set_ne (by omega)]
          exact hin.out.2.2.2.1 q (by omega)
        · rw [size_set, size_set]
          have := q3.size
          omega
      case measure => simp [intOf]; omega
    · obtain rfl : j = vs.length := by omega
      go_wp2_with fail
      go_ret
      refine ⟨_, _, rfl, ?_, hbr⟩
      have hul : us.length = vs.length := by have h1 := congrArg List.length hin.out.1; have h2 := congrArg List.length HVS.out; simp only [List.length_map] at h1 h2; omega
      have h := fresh_lits (l := us) (by rw [hul]; exact hin.out.2.1) (by omega) fun x hx => by
        obtain ⟨q, hq, he⟩ := List.getElem_of_mem hx
        exact (hin.out.2.2.1 q x (by rw [← he]; exact List.getElem?_eq_getElem hq) (by omega)).mono hb1.size
      rw [hin.out.1] at h
      exact h
end Go.Proofs.YtlfccloaoopadagGreat.Sum

/-
  The developers' package sum: a program of its own memory out of predicates and rules; the library's Grow and Concat at rules.
-/
namespace Go.Proofs.YtlfccloaoopadagGreat.Sum
open Go.ChangeShapes Go.WideShapes Go.ChangeAt Go.RowKit

section
variable {P : Program}
theorem run_append_zeros (w : World) (t u ty e : TypeId) (k : IntKind) (i : TypeInfo) (z : Value) (ht : P.underlying t = some (.slice e)) (hu : P.underlying u = some (.int k)) (hi : P.info? e = some i) (hz : i.zero = some z) (hs : 0 < i.size)
    (n : Nat) (h0 : 0 < n) (h63 : (n : Int) ≤ 1000) (hb : i.bytes ≤ 1000) :
    (Builtin.append_ #[t, u] ty #[.slice none 0 0, .int .i64 n]).run P w =
      .ok (.slice (some ⟨w.heap.size, 0, none⟩) n (grownCap w n 0 e)) (w.drew.alloc (.cells (Builtin.zeroCells z.cells n ++ Builtin.zeroCells z.cells (grownCap w n 0 e - n)) e)) := by
  have hn : n ≠ 0 := by omega
  have h63' : ¬ (9223372036854775807 < (n : Int)) := by omega
  have hle : n * i.bytes ≤ 1000 * 1000 := Nat.mul_le_mul (by omega) hb
  have h48' : ¬ (281474976710656 < Builtin.nextslicecap n 0 * i.bytes) := by rw [nextslicecap_zero h0]; omega
  have hw : IntKind.i64.wrap (n : Int) = n := by rw [IntKind.wrap_i64]; omega
  have hle' : ¬ (281474976710656 < (n : Int) * (i.bytes : Int)) := by
    have : ((n * i.bytes : Nat) : Int) = (n : Int) * (i.bytes : Int) := by push_cast; rfl
    omega
  have hne : n * i.size ≠ 0 := Nat.mul_ne_zero hn (by omega)
  simp [Builtin.append_, run_underlying ht, run_underlying hu, sizeOf, typeInfo, zeroValue, hi, hz, asInt, asIntOf, hw, hn, h63', h48', hle', hne, Question.forced, run_firstCells_none, newRow, grownCap]
  intro hneg
  omega

theorem wpList_append_zeros (w : World) {ops : Array Oper} {rest : List Oper} {o : Oper} {a : Act} {Q : Exit → Act → World → Prop} (hgd : o.guard = none) (s x : Operand) (t u : TypeId)
    (ho : o.op = .call { callee := .builtin .append, args := #[s, x], argTypes := #[t, u] }) (e : TypeId) (k : IntKind) (i : TypeInfo) (z : Value) (ht : P.underlying t = some (.slice e)) (hu : P.underlying u = some (.int k)) (hi : P.info? e = some i) (hz : i.zero = some z) (hs : 0 < i.size)
    (n : Nat) (h0 : 0 < n) (h63 : (n : Int) ≤ 1000) (hb : i.bytes ≤ 1000) (hsv : a.eval s = .slice none 0 0) (hxv : a.eval x = .int .i64 n)
    (h : wpList P ops Q rest (a.put o.dst (.slice (some ⟨w.heap.size, 0, none⟩) n (grownCap w n 0 e))) (w.drew.alloc (.cells (Builtin.zeroCells z.cells n ++ Builtin.zeroCells z.cells (grownCap w n 0 e - n)) e))) : wpList P ops Q (o :: rest) a w :=
  wpList_plain hgd fun _ hK => by
    have hr := run_append_zeros (P := P) w t u o.type e k i z ht hu hi hz hs n h0 h63 hb
    unfold Oper.wp execOp
    simp only [ho, resolve, invoke, builtin, Sem.run_bind, Sem.run_pure, Result.andThen_ok, List.map_toArray, List.map_cons, List.map_nil, hsv, hxv, hr]
    exact hK _ _ h
end

set_option maxRecDepth 100000 in
set_option maxHeartbeats 4000000 in
theorem grow_c (w : World) (n : Nat) (h1 : n ≤ 1000) :
    Calls Tryz.prog 93 #[.slice none 0 0, .int .i64 n] w fun e w' => ∃ v, e = .returned v ∧ w'.ownsRow w.heap.size 58 5 v 0 [] ∧ Below w.heap.size w w' := by
  obtain ⟨i, hi, hz, hsz, hby⟩ := info_parts infoRule
  by_cases h0 : 0 < n
  · have h0' : (0 : Int) < (n : Int) := by omega
    have h0'' : ¬ (n : Int) < 0 := by omega
    have hge := grownCap_ge w n 0 58
    have hcm : grownCap w n 0 58 ≤ maxLen := grownCap_le_maxLen w n 0 58 (by unfold maxLen; omega)
    go_enter Tryz.func93, Tryz.ntmps93
    go_wp2_with (at_builtin; refine wpList_append_zeros _ rfl _ _ 23 3 rfl 58 .i64 i _ Tryz.underlying23 Tryz.underlying3 hi hz (by omega) n h0 (by omega) (by omega) rfl rfl ?_)
    go_ret
    refine ⟨_, rfl, ⟨rfl, .inr ⟨w.heap.size, _, _, rfl, Nat.le_refl _, heap_alloc_new w.drew _, Nat.zero_le _, hcm, ?_, by simp⟩⟩, ((Below.refl _ _).drew).alloc (Nat.le_refl _) _⟩
    have e4 : #[Value.int .i64 0, .slice none 0 0, .int .i64 0, .int .i64 0, .slice none 0 0].size = 5 := rfl
    rw [Array.size_append, size_zeroCells, size_zeroCells, e4]
    omega
  · obtain rfl : n = 0 := by omega
    have e0 : (Value.int .i64 ((0 : Nat) : Int)) = .int .i64 0 := rfl
    rw [e0]
    go_enter Tryz.func93, Tryz.ntmps93
    go_wp2_with fail
    go_ret
    exact ⟨_, rfl, ⟨rfl, .inl ⟨rfl, rfl⟩⟩, Below.refl _ _⟩

theorem grown_below {w w1 w2 : World} {base sz : Nat} {e : TypeId} {v : Value} {n : Nat} {xs : List Value} (hb : Below base w w1) (hown : w1.ownsRow base e sz v n xs) (hg : w1.grownBy w2 v.ownBlock) (hs : base ≤ w1.heap.size) : Below base w w2 :=
  hb.grown hg hs (fun k hk => (hown.lt k hk).1)

set_option maxRecDepth 100000 in
set_option maxHeartbeats 8000000 in
theorem concat_c (w : World) (B : Nat) (a1 a2 : Option Addr) (c1 c2 n1 n2 : Nat) (x1 x2 : List Value) (h1 : w.cell? ⟨B, 0, none⟩ = some (.slice a1 n1 c1)) (h2 : w.cell? ⟨B, 1, none⟩ = some (.slice a2 n2 c2))
    (p1 : pieceC w (.slice a1 n1 c1) n1 x1) (p2 : pieceC w (.slice a2 n2 c2) n2 x2) (l1 : x1.length = n1 * 5) (l2 : x2.length = n2 * 5) (o1 : ∀ u ∈ x1, u.oneCell' = true) (o2 : ∀ u ∈ x2, u.oneCell' = true) (hle : n1 + n2 ≤ 500) :
    Calls Tryz.prog 57 #[.slice (some ⟨B, 0, none⟩) 2 2] w fun e w' => ∃ v, e = .returned v ∧ w'.ownsRow w.heap.size 58 5 v (n1 + n2) (x1 ++ x2) ∧ Below w.heap.size w w' := by
  have HP1 : Hid (pieceC w (.slice a1 n1 c1) n1 x1) := p1
  have HP2 : Hid (pieceC w (.slice a2 n2 c2) n2 x2) := p2
  have L1 : Hid (x1.length = n1 * 5) := l1
  have L2 : Hid (x2.length = n2 * 5) := l2
  have O1 : Hid (∀ u ∈ x1, u.oneCell' = true) := o1
  have O2 : Hid (∀ u ∈ x2, u.oneCell' = true) := o2
  have bB : B < w.heap.size := addr_lt h1
  clear p1 p2 l1 l2 o1 o2
  go_enter Tryz.func57, Tryz.ntmps57
  go_wp2_with fail
  go_loop [3, 11] (fun s i => (s = .int .i64 0 ∧ i = .int .i64 0) ∨ (s = .int .i64 n1 ∧ i = .int .i64 1) ∨ (s = .int .i64 ((n1 + n2 : Nat) : Int) ∧ i = .int .i64 2)) (fun _ i => 2 - (intOf i).toNat)
  case atStart => exact .inl ⟨rfl, rfl⟩
  case round =>
    rcases hrel with ⟨rfl, rfl⟩ | ⟨rfl, rfl⟩ | ⟨rfl, rfl⟩
    · have g1 : ¬ ((n1 : Int) < 0) := by omega
      go_wp2_with fail
      go_round
      case rel => exact .inr (.inl ⟨by go_num, by go_num⟩)
      case measure => simp [intOf]
    · have g1 : ¬ ((n1 : Int) + (n2 : Int) < 0) := by omega
      go_wp2_with fail
      go_round
      case rel => exact .inr (.inr ⟨by go_num, by go_num⟩)
      case measure => simp [intOf]
    · have hg := grow_c w (n1 + n2) (by omega)
      simp only [Int.natCast_add] at hg
      go_wp2_with (go_at_call 93; refine hg.mono ?_; rintro e w1 ⟨v0, rfl, hown0, hb0⟩)
      clear hg
      go_loopw [6, 27] (fun s i wr => ∃ (n : Nat) (xs : List Value) (v : Value), v = s ∧ Below w.heap.size w wr ∧ wr.ownsRow w.heap.size 58 5 v n xs ∧ ((n = 0 ∧ [] = xs ∧ i = .int .i64 0) ∨ (n = n1 ∧ x1 = xs ∧ i = .int .i64 1) ∨ (n = n1 + n2 ∧ x1 ++ x2 = xs ∧ i = .int .i64 2))) (fun _ i _ => 2 - (intOf i).toNat)
      case atStart => exact ⟨0, [], _, rfl, hb0, hown0, .inl ⟨rfl, rfl, rfl⟩⟩
      case round =>
      obtain ⟨n, xs, v, hvs, hbw, hown, hi⟩ := hrel
      subst hvs
      rcases hi with ⟨hn, hx, rfl⟩ | ⟨hn, hx, rfl⟩ | ⟨hn, hx, rfl⟩ <;> subst hn <;> subst hx
      · have t1 := (cell_lasts hbw bB).trans h1
        have HPP : Hid (pieceC wr (.slice a1 n1 c1) n1 x1) := (HP1.out.lasts hbw)
        have HOW : Hid (wr.ownsRow w.heap.size 58 5 v 0 []) := hown
        clear hown
        go_wp2_with (at_builtin; refine wpList_append_cells _ rfl _ _ 23 rfl 58 Tryz.underlying23 infoRule rfl (by omega) (by omega) w.heap.size v 0 [] HOW.out rfl _ rfl n1 x1 HPP.out L1.out O1.out (by omega) hbw.size ?_; intro v1 w1 hown1 hgr1; have hb1 : Below w.heap.size w w1 := grown_below hbw HOW.out hgr1 hbw.size; clear hgr1)
        go_roundw
        case rel => exact ⟨_, _, _, rfl, hb1, by rw [Nat.zero_add, List.nil_append] at hown1; exact hown1, .inr (.inl ⟨rfl, rfl, by go_num⟩)⟩
        case measure => simp [intOf]
      · have t1 := (cell_lasts hbw bB).trans h2
        have HPP : Hid (pieceC wr (.slice a2 n2 c2) n2 x2) := (HP2.out.lasts hbw)
        have HOW : Hid (wr.ownsRow w.heap.size 58 5 v n x1) := hown
        clear hown
        go_wp2_with (at_builtin; refine wpList_append_cells _ rfl _ _ 23 rfl 58 Tryz.underlying23 infoRule rfl (by omega) (by omega) w.heap.size v n x1 HOW.out rfl _ rfl n2 x2 HPP.out L2.out O2.out (by omega) hbw.size ?_; intro v1 w1 hown1 hgr1; have hb1 : Below w.heap.size w w1 := grown_below hbw HOW.out hgr1 hbw.size; clear hgr1)
        go_roundw
        case rel => exact ⟨_, _, _, rfl, hb1, hown1, .inr (.inr ⟨rfl, rfl, by go_num⟩)⟩
        case measure => simp [intOf]
      · have HOW : Hid (wr.ownsRow w.heap.size 58 5 v (n1 + n2) (x1 ++ x2)) := hown
        clear hown
        go_wp2_with fail
        go_ret
        exact ⟨_, rfl, HOW.out, hbw⟩

/-- two slices in a box -/
def boxAt (x : World) (B : Nat) (u v : Value) : Prop := x.heap[B]? = some (.cells #[u, v] 25 (0, 0))
theorem box_cells {x : World} {B : Nat} {u v : Value} (h : boxAt x B u v) : x.cell? ⟨B, 0, none⟩ = some u ∧ x.cell? ⟨B, 1, none⟩ = some v ∧ x.frozen? ⟨B, 0, none⟩ = false ∧ x.frozen? ⟨B, 1, none⟩ = false ∧ B < x.heap.size := by
  refine ⟨?_, ?_, ?_, ?_, (Array.getElem?_eq_some_iff.1 h).1⟩ <;> simp [World.cell?, World.frozen?, show x.heap[B]? = _ from h]
theorem set_same {α : Type} {l : List α} {i : Nat} {x : α} (h : l[i]? = some x) : l.set i x = l := by
  refine List.ext_getElem? fun q => ?_
  by_cases hq : i = q
  · subst hq
    rw [List.getElem?_set_self (List.getElem?_eq_some_iff.1 h).1, h]
  · rw [List.getElem?_set_ne hq]
theorem cellsR_set3 {us : List RV} {j : Nat} {y : RV} (hy : us[j]? = some y) (hv bv : Value) : cellsR (us.set j ⟨y.r, hv, bv⟩) = (((cellsR us).set (j * 5) (.int .i64 y.r.head.pred)).set (j * 5 + 1) hv).set (j * 5 + 4) bv := by
  obtain ⟨t0, t1, t2, t3, t4⟩ := cellsR_at us j y hy
  rw [cellsR_set]
  congr 1
  rw [set_same (l := ((cellsR us).set (j * 5) _).set (j * 5 + 1) hv) (i := j * 5 + 2), set_same]
  · rw [List.getElem?_set_ne (by omega), List.getElem?_set_ne (by omega)]
    exact t3
  · rw [List.getElem?_set_ne (by omega), List.getElem?_set_ne (by omega)]
    exact t2

set_option maxRecDepth 100000 in
set_option maxHeartbeats 8000000 in
theorem program_c (w : World) (pv : Value) (ps : List Prd) (B : Nat) (a1 a2 : Option Addr) (c1 c2 : Nat) (x1 x2 : List RV) (hp : predsAt w pv ps) (hpn : ps.length ≤ 500) (h1 : w.cell? ⟨B, 0, none⟩ = some (.slice a1 x1.length c1)) (h2 : w.cell? ⟨B, 1, none⟩ = some (.slice a2 x2.length c2))
    (p1 : pieceC w (.slice a1 x1.length c1) x1.length (cellsR x1)) (p2 : pieceC w (.slice a2 x2.length c2) x2.length (cellsR x2)) (k1 : ∀ x ∈ x1, RVok w x) (k2 : ∀ x ∈ x2, RVok w x) (hle : x1.length + x2.length ≤ 500)
    (hh : ∀ x ∈ x1 ++ x2, x.r.head.args.length ≤ 500) (hbd : ∀ x ∈ x1 ++ x2, x.r.body.length ≤ 500) (hba : ∀ x ∈ x1 ++ x2, ∀ l ∈ x.r.body, l.atom.args.length ≤ 500) :
    Calls Tryz.prog 25 #[pv, .slice (some ⟨B, 0, none⟩) 2 2] w fun e w' => ∃ pa pc ra rc us, e = .returned (.agg #[.slice pa ps.length pc, .slice ra us.length rc]) ∧ w'.ownsRow w.heap.size 52 3 (.slice pa ps.length pc) ps.length (cellsP ps) ∧ w'.ownsRow w.heap.size 58 5 (.slice ra us.length rc) us.length (cellsR us) ∧ us.map RV.r = (x1 ++ x2).map RV.r ∧ (∀ x ∈ us, Fresh w.heap.size (fun y => RVok y x) w') ∧ Below w.heap.size w w' := by
  have HCP := fun x (hx : Below w.heap.size w x) => clonePreds_c x pv ps.length (cellsP ps) (preds_piece (predsAt.lasts hx hp)) (cellsP_length ps) (cellsP_one ps) hpn
  have HCC := fun x (hx : Below w.heap.size w x) => concat_c x B a1 a2 c1 c2 x1.length x2.length (cellsR x1) (cellsR x2) ((cell_lasts hx (addr_lt h1)).trans h1) ((cell_lasts hx (addr_lt h1)).trans h2) (p1.lasts hx) (p2.lasts hx) (cellsR_length x1) (cellsR_length x2) (cellsR_one k1) (cellsR_one k2) hle
  have H1 : Hid (∀ x, Below w.heap.size w x → Calls Tryz.prog 56 #[pv] x fun e w' => ∃ v', e = .returned v' ∧ w'.ownsRow x.heap.size 52 3 v' ps.length (cellsP ps) ∧ Below x.heap.size x w') := HCP
  have H2 : Hid (∀ x, Below w.heap.size w x → Calls Tryz.prog 57 #[.slice (some ⟨B, 0, none⟩) 2 2] x fun e w' => ∃ v, e = .returned v ∧ w'.ownsRow x.heap.size 58 5 v (x1.length + x2.length) (cellsR x1 ++ cellsR x2) ∧ Below x.heap.size x w') := HCC
  have HOK : Hid (∀ x, Below w.heap.size w x → ∀ v ∈ x1 ++ x2, RVok x v) := fun x hx v hv => RVok.lasts hx (by rcases List.mem_append.1 hv with h | h; exact k1 v h; exact k2 v h)
  have HH : Hid (∀ x ∈ x1 ++ x2, x.r.head.args.length ≤ 500 ∧ x.r.body.length ≤ 500 ∧ ∀ l ∈ x.r.body, l.atom.args.length ≤ 500) := fun x hx => ⟨hh x hx, hbd x hx, hba x hx⟩
  obtain ⟨pa0, pc0, rfl, hpl, _⟩ := hp
  clear HCP HCC h1 h2 p1 p2 k1 k2 hh hbd hba
  go_enter Tryz.func25, Tryz.ntmps25
  go_wp2_with fail
  refine (H1.out _ (below_alloc _ _)).mono ?_
  rintro e W1 ⟨v1, rfl, hown1, hb1⟩
  have b01 : Below w.heap.size w W1 := below_trans (below_alloc _ _) hb1
  obtain ⟨pa, pc, rfl⟩ := own_slice hown1
  have hB0 : boxAt W1 w.heap.size (.slice none 0 0) (.slice none 0 0) := (hb1.block w.heap.size (by simp)).trans (heap_alloc_new w _)
  have hs1 : w.heap.size < W1.heap.size := Nat.lt_of_lt_of_le (by simp) hb1.size
  go_wp2_with fail
  refine (H2.out _ b01).mono ?_
  rintro e W2 ⟨v2, rfl, hown2, hb2⟩
  obtain ⟨ra, rc, rfl⟩ := own_slice hown2
  have HP1 : Hid (W1.ownsRow (w.heap.size + 1) 52 3 (.slice pa ps.length pc) ps.length (cellsP ps)) := own_base hown1 (by simp)
  have hsx : (x1 ++ x2).length = x1.length + x2.length := List.length_append
  rw [← cellsR_append, ← hsx] at hown2
  rw [← hsx] at *
  clear hsx hown1
  generalize hxs : x1 ++ x2 = xs at hown2 hle HOK HH ⊢
  have HXS : Hid (x1 ++ x2 = xs) := hxs
  have hxl : xs.length ≤ 500 := by rw [← hxs, List.length_append]; omega
  clear hxs
  obtain ⟨W3, hW3⟩ : ∃ W3, W2.alloc (.cells #[.slice pa ps.length pc, .slice ra xs.length rc] 25) = W3 := ⟨_, rfl⟩
  have b23 : Below W2.heap.size W2 W3 := by rw [← hW3]; exact below_alloc _ _
  have hB3 : boxAt W3 W2.heap.size (.slice pa ps.length pc) (.slice ra xs.length rc) := by rw [← hW3]; exact heap_alloc_new W2 _
  have hs3 : W3.heap.size = W2.heap.size + 1 := by rw [← hW3]; simp
  have b13 : Below W1.heap.size W1 W3 := hb2.trans (b23.mono hb2.size)
  have HO3 : Hid (W3.ownsRow W1.heap.size 58 5 (.slice ra xs.length rc) xs.length (cellsR xs)) := own_lasts hown2 b23
  have hgW : ∀ g, ra = some ⟨g, 0, none⟩ → g < W2.heap.size := by
    rintro g rfl
    rcases hown2.2 with ⟨h, _⟩ | ⟨g', _, cur, h, _, hh, _⟩
    · cases h
    · cases h; exact (Array.getElem?_eq_some_iff.1 hh).1
  have HGW : Hid (∀ g, ra = some ⟨g, 0, none⟩ → g < W2.heap.size) := hgW
  obtain ⟨c30, c31, _, _, _⟩ := box_cells hB3
  clear hown2 hgW
  go_wp2_with fail
  clear hW3
  go_loopw [16] (fun i wr => ∃ (j : Nat) (us : List RV), j ≤ xs.length ∧ i = .int .i64 j ∧ Hid (us.map RV.r = xs.map RV.r ∧ wr.ownsRow W1.heap.size 58 5 (.slice ra xs.length rc) xs.length (cellsR us) ∧ (∀ q x, us[q]? = some x → q < j → Fresh W3.heap.size (fun y => RVok y x) wr) ∧ (∀ q, j ≤ q → us[q]? = xs[q]?) ∧ boxAt wr W2.heap.size (.slice pa ps.length pc) (.slice ra xs.length rc) ∧ Below W1.heap.size W1 wr ∧ W3.heap.size ≤ wr.heap.size)) (fun i _ => xs.length - (intOf i).toNat)
  case atStart => exact ⟨0, xs, Nat.zero_le _, rfl, rfl, HO3.out, fun q x _ h => by omega, fun _ _ => rfl, hB3, b13, Nat.le_refl _⟩
  case round =>
    obtain ⟨j, us, hj, rfl, hin⟩ := hrel
    have hbr : Below W1.heap.size W1 wr := hin.out.2.2.2.2.2.1
    have k01 : Below w.heap.size w wr := b01.trans (hbr.mono b01.size)
    have k3r : W3.heap.size ≤ wr.heap.size := hin.out.2.2.2.2.2.2
    have hul : us.length = xs.length := by have h1 := congrArg List.length hin.out.1; simp only [List.length_map] at h1; exact h1
    have HUL : Hid (us.length = xs.length) := hul
    obtain ⟨c0, c1, _, _, hbW⟩ := box_cells hin.out.2.2.2.2.1
    by_cases hjl : j < xs.length
    · have hj1 : (j : Int) < (xs.length : Int) := by omega
      have HJ : Hid (j < xs.length) := hjl
      obtain ⟨y, hy⟩ : ∃ y, us[j]? = some y := ⟨xs[j], by rw [hin.out.2.2.2.1 j (Nat.le_refl _)]; exact List.getElem?_eq_getElem hjl⟩
      have hyv : y ∈ xs := List.mem_of_getElem? ((hin.out.2.2.2.1 j (Nat.le_refl _)).symm.trans hy)
      obtain ⟨g, cap, hg1, hg2, hg3, hgf, hgc⟩ := (own_cell hin.out.2.1 (by rw [cellsR_length, hul])).resolve_left (by rintro ⟨_, h⟩; omega)
      obtain ⟨rfl, rfl⟩ : ra = some ⟨g, 0, none⟩ ∧ rc = cap := by simpa using hg1
      have hg4 : g < W2.heap.size := HGW.out g rfl
      obtain ⟨t0, t1, t2, t3, t4⟩ := cellsR_at us j y hy
      obtain ⟨⟨ha, hc, hhv, _⟩, ⟨ba, bc, hbv, _⟩⟩ := HOK.out wr k01 y hyv
      have HTA : Hid (∀ x, Below w.heap.size w x → termsAt x (.slice ha y.r.head.args.length hc) y.r.head.args) := fun x hx => by rw [← hhv]; exact (HOK.out x hx y hyv).1
      have HLA : Hid (∀ x, Below w.heap.size w x → litsAt x (.slice ba y.r.body.length bc) y.r.body) := fun x hx => by rw [← hbv]; exact (HOK.out x hx y hyv).2
      have m0 : wr.cell? ⟨g, j * 5, none⟩ = some (.int .i64 y.r.head.pred) := by have := hgc _ _ t0; rwa [Nat.zero_add] at this
      have m1 : wr.cell? ⟨g, j * 5 + 1, none⟩ = some (.slice ha y.r.head.args.length hc) := by have := hgc _ _ t1; rwa [Nat.zero_add, hhv] at this
      have m2 : wr.cell? ⟨g, j * 5 + 2, none⟩ = some (.int .i64 y.r.src) := by have := hgc _ _ t2; rwa [Nat.zero_add] at this
      have m3 : wr.cell? ⟨g, j * 5 + 3, none⟩ = some (.int .i64 y.r.n) := by have := hgc _ _ t3; rwa [Nat.zero_add] at this
      have m4 : wr.cell? ⟨g, j * 5 + 4, none⟩ = some (.slice ba y.r.body.length bc) := by have := hgc _ _ t4; rwa [Nat.zero_add, hbv] at this
      obtain ⟨hn1, hn2, hn3⟩ := HH.out y hyv
      have HOA : Hid (∀ x, Below w.heap.size w x → Calls Tryz.prog 58 #[.agg #[.int .i64 y.r.head.pred, .slice ha y.r.head.args.length hc]] x fun e w' => ∃ a' c', e = .returned (.agg #[.int .i64 y.r.head.pred, .slice a' y.r.head.args.length c']) ∧ Fresh x.heap.size (fun z => termsAt z (.slice a' y.r.head.args.length c') y.r.head.args) w' ∧ Below x.heap.size x w') := fun x hx => ownAtom_c x _ _ _ (HTA.out x hx) hn1
      have HOB : Hid (∀ x, Below w.heap.size w x → Calls Tryz.prog 59 #[.slice ba y.r.body.length bc] x fun e w' => ∃ a' c', e = .returned (.slice a' y.r.body.length c') ∧ Fresh x.heap.size (fun z => litsAt z (.slice a' y.r.body.length c') y.r.body) w' ∧ Below x.heap.size x w') := fun x hx => ownBody_c x _ _ (HLA.out x hx) hn2 hn3
      have HY : Hid (us[j]? = some y) := hy
      obtain ⟨R1, hR1⟩ : ∃ R1, wr.alloc (.cells #[.int .i64 y.r.head.pred, .slice ha y.r.head.args.length hc, .int .i64 y.r.src, .int .i64 y.r.n, .slice ba y.r.body.length bc] 58) = R1 := ⟨_, rfl⟩
      have br1 : Below wr.heap.size wr R1 := by rw [← hR1]; exact below_alloc _ _
      have hsr : R1.heap.size = wr.heap.size + 1 := by rw [← hR1]; simp
      have kR1 : Below w.heap.size w R1 := k01.trans (br1.mono k01.size)
      have d0 : R1.cell? ⟨wr.heap.size, 0, none⟩ = some (.int .i64 y.r.head.pred) ∧ R1.cell? ⟨wr.heap.size, 1, none⟩ = some (.slice ha y.r.head.args.length hc) ∧ R1.cell? ⟨wr.heap.size, 4, none⟩ = some (.slice ba y.r.body.length bc) := by rw [← hR1]; simp [go_sem]
      have KEEP5 : Hid (∀ x, Below R1.heap.size R1 x → (fun x : World => x.cell? ⟨W2.heap.size, 1, none⟩ = some (.slice (some ⟨g, 0, none⟩) xs.length rc) ∧ x.cell? ⟨wr.heap.size, 0, none⟩ = some (.int .i64 y.r.head.pred) ∧ x.cell? ⟨wr.heap.size, 1, none⟩ = some (.slice ha y.r.head.args.length hc)) x) := fun x hx => ⟨(cell_lasts (br1.trans (hx.mono br1.size)) hbW).trans c1, (cell_lasts hx (by omega)).trans d0.1, (cell_lasts hx (by omega)).trans d0.2.1⟩
      have KEEP5b : Hid (∀ x, Below R1.heap.size R1 x → ∀ u v, (fun x : World => x.cell? ⟨W2.heap.size, 1, none⟩ = some (.slice (some ⟨g, 0, none⟩) xs.length rc) ∧ x.cell? ⟨wr.heap.size, 0, none⟩ = some (.int .i64 y.r.head.pred) ∧ x.cell? ⟨wr.heap.size, 1, none⟩ = some (.slice ha y.r.head.args.length hc)) ((x.setCell ⟨g, j * 5, none⟩ u).setCell ⟨g, j * 5 + 1, none⟩ v)) := fun x hx u v => ⟨(cell_block (by omega)).trans ((cell_block (by omega)).trans (KEEP5.out x hx).1), (cell_block (by omega)).trans ((cell_block (by omega)).trans (KEEP5.out x hx).2.1), (cell_block (by omega)).trans ((cell_block (by omega)).trans (KEEP5.out x hx).2.2)⟩
      have KX5 : Hid (∀ x, Below R1.heap.size R1 x → x.cell? ⟨g, j * 5, none⟩ = some (.int .i64 y.r.head.pred) ∧ x.cell? ⟨g, j * 5 + 1, none⟩ = some (.slice ha y.r.head.args.length hc) ∧ x.frozen? ⟨g, j * 5, none⟩ = false ∧ x.frozen? ⟨g, j * 5 + 1, none⟩ = false) := fun x hx => by
        have hx' : Below wr.heap.size wr x := br1.trans (hx.mono br1.size)
        exact ⟨(cell_lasts hx' hg3).trans m0, (cell_lasts hx' hg3).trans m1, ((bcell hx').2 _ _ hg3).trans (hgf _), ((bcell hx').2 _ _ hg3).trans (hgf _)⟩
      have HM4 : Hid (wr.cell? ⟨g, j * 5 + 4, none⟩ = some (.slice ba y.r.body.length bc) ∧ wr.frozen? ⟨g, j * 5 + 4, none⟩ = false) := ⟨m4, hgf _⟩
      have HD : Hid (R1.cell? ⟨wr.heap.size, 4, none⟩ = some (.slice ba y.r.body.length bc)) := d0.2.2
      clear hg1 hgc t0 t1 t2 t3 t4 hhv hbv hy hyv hul hgf d0 c0
      go_wp2_with fail
      clear hR1 m0 m1 m2 m3 m4 c1
      go_region_held3 (fun x : World => x.cell? ⟨W2.heap.size, 1, none⟩ = some (.slice (some ⟨g, 0, none⟩) xs.length rc) ∧ x.cell? ⟨wr.heap.size, 0, none⟩ = some (.int .i64 y.r.head.pred) ∧ x.cell? ⟨wr.heap.size, 1, none⟩ = some (.slice ha y.r.head.args.length hc))
        (first | (refine KEEP5.out _ ?_; (first | exact Below.refl _ _ | exact (Below.refl _ _).drew | exact hk)) | exact KEEP5b.out _ hk _ _)
        (first | (go_at_call 58; refine (HOA.out _ kR1.drew).mono ?_; rintro e w5 ⟨a5, c5, rfl, hf5, hb5⟩; have hk : Below R1.heap.size R1 w5 := ((Below.refl _ _).drew).trans hb5; obtain ⟨z0, z1, z0f, z1f⟩ := KX5.out _ hk))
      have hf5' : Fresh R1.heap.size (fun z => termsAt z (.slice a5 y.r.head.args.length c5) y.r.head.args) w5 := hf5
      obtain ⟨W5, hW5⟩ : ∃ W5, (w5.setCell ⟨g, j * 5, none⟩ (.int .i64 y.r.head.pred)).setCell ⟨g, j * 5 + 1, none⟩ (.slice a5 y.r.head.args.length c5) = W5 := ⟨_, rfl⟩
      have hW1g : W1.heap.size ≤ g := hg2
      have k15 : Below W1.heap.size W1 W5 := by
        rw [← hW5]
        have h := (hbr.trans (br1.mono hbr.size)).trans (hk.mono (hbr.trans (br1.mono hbr.size)).size)
        exact (h.setCell (p := ⟨g, j * 5, none⟩) hg2 _).setCell (p := ⟨g, j * 5 + 1, none⟩) hg2 _
      have k05 : Below w.heap.size w W5 := b01.trans (k15.mono b01.size)
      have hs5 : R1.heap.size ≤ W5.heap.size := by rw [← hW5, size_set, size_set]; exact hk.size
      have HO5 : Hid (W5.ownsRow W1.heap.size 58 5 (.slice (some ⟨g, 0, none⟩) xs.length rc) xs.length (((cellsR us).set (j * 5) (.int .i64 y.r.head.pred)).set (j * 5 + 1) (.slice a5 y.r.head.args.length c5))) := by
        rw [← hW5]
        exact own_store (own_store (own_lasts (own_lasts hin.out.2.1 br1) hk))
      have HF5 : Hid (Fresh R1.heap.size (fun z => termsAt z (.slice a5 y.r.head.args.length c5) y.r.head.args) W5) := by
        rw [← hW5]
        exact (hf5'.keeps (KeepsFrom.set (n := R1.heap.size) (by omega)) (Nat.le_refl _)).keeps (KeepsFrom.set (n := R1.heap.size) (by omega)) (Nat.le_refl _)
      have HK5 : Hid (KeepsFrom W3.heap.size wr W5) := by
        rw [← hW5]
        exact (((KeepsFrom.below br1).trans (KeepsFrom.below hk)).trans (KeepsFrom.set (by omega))).trans (KeepsFrom.set (by omega))
      have HB5 : Hid (boxAt W5 W2.heap.size (.slice pa ps.length pc) (.slice (some ⟨g, 0, none⟩) xs.length rc)) := by
        show boxAt _ _ _ _
        rw [← hW5]
        unfold boxAt
        rw [heap_other (by omega), heap_other (by omega), hk.block _ (by omega), br1.block _ (by omega)]
        exact hin.out.2.2.2.2.1
      have e1 := (box_cells HB5.out).2.1
      have e4 : W5.cell? ⟨wr.heap.size, 4, none⟩ = some (.slice ba y.r.body.length bc) := by
        rw [← hW5, cell_block (by omega), cell_block (by omega), cell_lasts hk (by omega)]
        exact HD.out
      have e5 : W5.cell? ⟨g, j * 5 + 4, none⟩ = some (.slice ba y.r.body.length bc) := by
        rw [← hW5, cell_off (by omega), cell_off (by omega), cell_lasts hk (by omega), cell_lasts br1 hg3]
        exact HM4.out.1
      have e5f : W5.frozen? ⟨g, j * 5 + 4, none⟩ = false := by
        rw [← hW5, frozen_set, frozen_set, (bcell hk).2 _ _ (by omega), (bcell br1).2 _ _ hg3]
        exact HM4.out.2
      have KEEP6 : Hid (∀ x, Below W5.heap.size W5 x → (fun x : World => x.cell? ⟨W2.heap.size, 1, none⟩ = some (.slice (some ⟨g, 0, none⟩) xs.length rc) ∧ x.cell? ⟨wr.heap.size, 4, none⟩ = some (.slice ba y.r.body.length bc)) x) := fun x hx => ⟨(cell_lasts hx (by omega)).trans e1, (cell_lasts hx (by omega)).trans e4⟩
      have KEEP6b : Hid (∀ x, Below W5.heap.size W5 x → ∀ u, (fun x : World => x.cell? ⟨W2.heap.size, 1, none⟩ = some (.slice (some ⟨g, 0, none⟩) xs.length rc) ∧ x.cell? ⟨wr.heap.size, 4, none⟩ = some (.slice ba y.r.body.length bc)) (x.setCell ⟨g, j * 5 + 4, none⟩ u)) := fun x hx u => ⟨(cell_block (by omega)).trans (KEEP6.out x hx).1, (cell_block (by omega)).trans (KEEP6.out x hx).2⟩
      have KX6 : Hid (∀ x, Below W5.heap.size W5 x → x.cell? ⟨g, j * 5 + 4, none⟩ = some (.slice ba y.r.body.length bc) ∧ x.frozen? ⟨g, j * 5 + 4, none⟩ = false) := fun x hx => ⟨(cell_lasts hx (by omega)).trans e5, ((bcell hx).2 _ _ (by omega)).trans e5f⟩
      rw [hW5]
      clear hW5 z0 z1 z0f z1f hf5 hf5' e1 e4 e5 e5f hb5
      go_wp2_with fail
      go_region_held3 (fun x : World => x.cell? ⟨W2.heap.size, 1, none⟩ = some (.slice (some ⟨g, 0, none⟩) xs.length rc) ∧ x.cell? ⟨wr.heap.size, 4, none⟩ = some (.slice ba y.r.body.length bc))
        (first | (refine KEEP6.out _ ?_; (first | exact Below.refl _ _ | exact (Below.refl _ _).drew | exact hk6)) | exact KEEP6b.out _ hk6 _)
        (first | (go_at_call 59; refine (HOB.out _ k05.drew).mono ?_; rintro e w6 ⟨a6, c6, rfl, hf6, hb6⟩; have hk6 : Below W5.heap.size W5 w6 := ((Below.refl _ _).drew).trans hb6; obtain ⟨z4, z4f⟩ := KX6.out _ hk6))
      have hf6' : Fresh W5.heap.size (fun z => litsAt z (.slice a6 y.r.body.length c6) y.r.body) w6 := hf6
      have HIN : Hid ((us.set j ⟨y.r, .slice a5 y.r.head.args.length c5, .slice a6 y.r.body.length c6⟩).map RV.r = xs.map RV.r ∧ (w6.setCell ⟨g, j * 5 + 4, none⟩ (.slice a6 y.r.body.length c6)).ownsRow W1.heap.size 58 5 (.slice (some ⟨g, 0, none⟩) xs.length rc) xs.length (cellsR (us.set j ⟨y.r, .slice a5 y.r.head.args.length c5, .slice a6 y.r.body.length c6⟩)) ∧ (∀ q x, (us.set j ⟨y.r, .slice a5 y.r.head.args.length c5, .slice a6 y.r.body.length c6⟩)[q]? = some x → q < j + 1 → Fresh W3.heap.size (fun y => RVok y x) (w6.setCell ⟨g, j * 5 + 4, none⟩ (.slice a6 y.r.body.length c6))) ∧ (∀ q, j + 1 ≤ q → (us.set j ⟨y.r, .slice a5 y.r.head.args.length c5, .slice a6 y.r.body.length c6⟩)[q]? = xs[q]?) ∧ boxAt (w6.setCell ⟨g, j * 5 + 4, none⟩ (.slice a6 y.r.body.length c6)) W2.heap.size (.slice pa ps.length pc) (.slice (some ⟨g, 0, none⟩) xs.length rc) ∧ Below W1.heap.size W1 (w6.setCell ⟨g, j * 5 + 4, none⟩ (.slice a6 y.r.body.length c6)) ∧ W3.heap.size ≤ (w6.setCell ⟨g, j * 5 + 4, none⟩ (.slice a6 y.r.body.length c6)).heap.size) := by
        refine ⟨map_set hin.out.1 HY.out rfl, ?_, ?_, ?_, ?_, ?_, ?_⟩
        · rw [cellsR_set3 HY.out]
          exact own_store (own_lasts HO5.out hk6)
        · intro q x hx hq
          by_cases hqj : j = q
          · subst hqj
            have hlt : j < us.length := (List.getElem?_eq_some_iff.1 HY.out).1
            rw [List.getElem?_set_self hlt] at hx
            cases hx
            intro z hz
            have h1 : Fresh R1.heap.size (fun z => termsAt z (.slice a5 y.r.head.args.length c5) y.r.head.args) (w6.setCell ⟨g, j * 5 + 4, none⟩ (.slice a6 y.r.body.length c6)) := (HF5.out.keeps (KeepsFrom.below (n := R1.heap.size) hk6) (Nat.le_refl _)).keeps (KeepsFrom.set (n := R1.heap.size) (by omega)) (Nat.le_refl _)
            have h2 : Fresh W5.heap.size (fun z => litsAt z (.slice a6 y.r.body.length c6) y.r.body) (w6.setCell ⟨g, j * 5 + 4, none⟩ (.slice a6 y.r.body.length c6)) := hf6'.keeps (KeepsFrom.set (n := W5.heap.size) (by omega)) (Nat.le_refl _)
            exact ⟨h1 z (hz.mono (by omega)), h2 z (hz.mono (by omega))⟩
          · rw [List.getElem?_set_ne hqj] at hx
            exact (((hin.out.2.2.1 q x hx (by omega)).keeps HK5.out (Nat.le_refl _)).keeps (KeepsFrom.below (n := W3.heap.size) hk6) (Nat.le_refl _)).keeps (KeepsFrom.set (n := W3.heap.size) (by omega)) (Nat.le_refl _)
        · intro q hq
          rw [List.getElem?_set_ne (by omega)]
          exact hin.out.2.2.2.1 q (by omega)
        · unfold boxAt
          rw [heap_other (by omega), hk6.block _ (by omega)]
          exact HB5.out
        · exact (k15.trans (hk6.mono k15.size)).setCell (p := ⟨g, j * 5 + 4, none⟩) hg2 _
        · rw [size_set]
          have := hk6.size
          omega
      clear z4 z4f hf6 hf6' hb6
      go_wp2_with fail
      go_roundw
      case rel => exact ⟨j + 1, _, HJ.out, by go_num, HIN⟩
      case measure => have := HJ.out; simp [intOf]; omega
    · obtain rfl : j = xs.length := by omega
      obtain ⟨e0, e1, e0f, e1f, _⟩ := box_cells ((hbr.block w.heap.size hs1).trans hB0)
      have HB0 : Hid (Below w.heap.size w wr) := k01
      go_wp2_with fail
      refine bodyPost_ret (v := .agg #[.slice pa ps.length pc, .slice ra xs.length rc]) (by simp [results, Tryz.results25, go_sem, e0, e1]) rfl ⟨pa, pc, ra, rc, us, by rw [HUL.out], ?_, ?_, by rw [HXS.out]; exact hin.out.1, ?_, (k01.setCell (p := ⟨w.heap.size, 0, none⟩) (Nat.le_refl _) _).setCell (p := ⟨w.heap.size, 1, none⟩) (Nat.le_refl _) _⟩
      · have h : wr.ownsRow (w.heap.size + 1) 52 3 (.slice pa ps.length pc) ps.length (cellsP ps) := own_lasts HP1.out hbr
        exact own_base (own_away (own_away h (by omega)) (by omega)) (by omega)
      · rw [HUL.out]
        exact own_base (own_away (own_away hin.out.2.1 (by omega)) (by omega)) (by omega)
      · intro x hx
        obtain ⟨q, hq, he⟩ := List.getElem_of_mem hx
        have hq' : q < xs.length := by have := HUL.out; omega
        have h := hin.out.2.2.1 q x (by rw [← he]; exact List.getElem?_eq_getElem hq) hq'
        exact ((h.keeps (KeepsFrom.set (n := W3.heap.size) (by have := hb2.size; omega)) (Nat.le_refl _)).keeps (KeepsFrom.set (n := W3.heap.size) (by have := hb2.size; omega)) (Nat.le_refl _)).mono (by have := hb2.size; omega)
theorem program_is (w : World) (pv : Value) (ps : List Prd) (B : Nat) (a1 a2 : Option Addr) (c1 c2 n1 n2 : Nat) (x1 x2 : List RV) (l1 : x1.length = n1) (l2 : x2.length = n2) (hp : predsAt w pv ps) (hpn : ps.length ≤ 500) (h1 : w.cell? ⟨B, 0, none⟩ = some (.slice a1 n1 c1)) (h2 : w.cell? ⟨B, 1, none⟩ = some (.slice a2 n2 c2))
    (p1 : pieceC w (.slice a1 n1 c1) n1 (cellsR x1)) (p2 : pieceC w (.slice a2 n2 c2) n2 (cellsR x2)) (k1 : ∀ x ∈ x1, RVok w x) (k2 : ∀ x ∈ x2, RVok w x) (hle : n1 + n2 ≤ 500)
    (hh : ∀ x ∈ x1 ++ x2, x.r.head.args.length ≤ 500) (hbd : ∀ x ∈ x1 ++ x2, x.r.body.length ≤ 500) (hba : ∀ x ∈ x1 ++ x2, ∀ l ∈ x.r.body, l.atom.args.length ≤ 500) :
    Calls Tryz.prog 25 #[pv, .slice (some ⟨B, 0, none⟩) 2 2] w fun e w' => ∃ pa pc ra rc us, e = .returned (.agg #[.slice pa ps.length pc, .slice ra us.length rc]) ∧ w'.ownsRow w.heap.size 52 3 (.slice pa ps.length pc) ps.length (cellsP ps) ∧ w'.ownsRow w.heap.size 58 5 (.slice ra us.length rc) us.length (cellsR us) ∧ us.map RV.r = (x1 ++ x2).map RV.r ∧ (∀ x ∈ us, Fresh w.heap.size (fun y => RVok y x) w') ∧ Below w.heap.size w w' := by
  subst l1 l2
  exact program_c w pv ps B a1 a2 c1 c2 x1 x2 hp hpn h1 h2 p1 p2 k1 k2 hle hh hbd hba
theorem cellsR_take (l : List RV) (k : Nat) : cellsR (l.take k) = (cellsR l).take (k * 5) := by
  induction l generalizing k with
  | nil => simp [cellsR]
  | cons x l ih =>
    cases k with
    | zero => simp [cellsR]
    | succ k => rw [List.take_succ_cons, cellsR, cellsR, ih, show (k + 1) * 5 = k * 5 + 5 by omega]; rfl
theorem cellsR_drop (l : List RV) (k : Nat) : cellsR (l.drop k) = (cellsR l).drop (k * 5) := by
  induction l generalizing k with
  | nil => simp [cellsR]
  | cons x l ih =>
    cases k with
    | zero => simp [cellsR]
    | succ k => rw [List.drop_succ_cons, cellsR, ih, show (k + 1) * 5 = k * 5 + 5 by omega]; rfl
theorem piece_take {w : World} {b o n c k : Nat} {vs : List RV} (h : pieceC w (.slice (some ⟨b, o, none⟩) n c) n (cellsR vs)) : pieceC w (.slice (some ⟨b, o, none⟩) k c) k (cellsR (vs.take k)) := by
  rcases h with ⟨c', h, _⟩ | ⟨ad, c', h, hc⟩
  · cases h
  · obtain ⟨rfl, rfl⟩ : (⟨b, o, none⟩ : Addr) = ad ∧ c = c' := by simpa using h
    refine .inr ⟨_, _, rfl, fun j u hu => hc j u ?_⟩
    rw [cellsR_take, List.getElem?_take] at hu
    split at hu
    · exact hu
    · cases hu
theorem piece_drop {w : World} {b o n c k m c2 : Nat} {vs : List RV} (h : pieceC w (.slice (some ⟨b, o, none⟩) n c) n (cellsR vs)) : pieceC w (.slice (some ⟨b, o + k * 5, none⟩) m c2) m (cellsR (vs.drop k)) := by
  rcases h with ⟨c', h, _⟩ | ⟨ad, c', h, hc⟩
  · cases h
  · obtain ⟨rfl, rfl⟩ : (⟨b, o, none⟩ : Addr) = ad ∧ c = c' := by simpa using h
    refine .inr ⟨_, _, rfl, fun j u hu => ?_⟩
    rw [cellsR_drop, List.getElem?_drop] at hu
    have := hc _ u hu
    rw [add_none] at this ⊢
    rw [Nat.add_assoc]
    exact this
end Go.Proofs.YtlfccloaoopadagGreat.Sum
