/-
  From what the rows say of arguments that can be read, to how the program's data lie in memory.
-/
import Derived.Deep.Slices
import Derived.Lib.SmallJoins
import Derived.Test.YtlfccloaoopadafGreatDoorG1
import Derived.Test.YtlfccloaoopadafGreatDoorRows
namespace Go.Proofs.YtlfccloaoopadafGreatDoor.Open
open Go.ChangeShapes Go.WideShapes Go.ChangeAt Go.RowKit Go.Deep Go.Joins

section
variable {H : Type} {enc : TypeId × Value → H}

theorem weights_mem {P : Program} {e : TypeId} : ∀ {l : List (DataW H)} {d : DataW H}, d ∈ l → ∀ n ∈ d.weights P e, n ∈ DataW.weightsAll P e l
  | [], d, h, _, _ => by cases h
  | x :: l, d, h, n, hn => by
    rw [DataW.weightsAll]
    rcases List.mem_cons.1 h with rfl | h
    · exact List.mem_append.2 (.inl hn)
    · exact List.mem_append.2 (.inr (weights_mem h n hn))

/-- every weight is within the reach -/
def Light (l : List Nat) : Prop := ∀ n ∈ l, n ≤ 140737488351232
theorem light_all {l : List Nat} (h : (l.all (· ≤ reachBytes)) = true) : Light l := by
  intro n hn
  have := List.all_eq_true.1 h n hn
  exact of_decide_eq_true this

theorem at_none (b off i : Nat) : (⟨b, off, none⟩ : Addr).add i = ⟨b, off + i, none⟩ := by
  unfold Addr.add
  split
  · rename_i h; subst h; rfl
  · rfl

theorem open_sliceAt {P : Program} {w : World} {t e : TypeId} {sz bytes : Nat} {α : Type} {At : World → Nat → Nat → α → Prop} (z : α) (ht : P.underlying t = some (.slice e)) (hc : P.cellsOf e = sz) (hsz : 0 < sz) (hby : P.bytesOf e = bytes) (hb1 : 1 ≤ bytes)
    {fuel : Nat} {cs : List Value} {x : DataW H × List MemPlace} (h : DataW.trod enc P w 0 (fun _ => true) true fuel t cs = some x) (hw : Light (x.1.weights P t))
    (elem : ∀ (n b off : Nat) (cs' : List Value) (y : DataW H × List MemPlace), b < w.heap.size → cs'.length = sz → (∀ j, j < sz → w.cell? ⟨b, off + j, none⟩ = cs'[j]?) → DataW.trod enc P w 0 (fun _ => true) true n e cs' = some y → Light (y.1.weights P e) → ∃ a, At w b off a) :
    ∃ v xs, cs = [v] ∧ sliceAt sz At w v xs := by
  rcases open_slice ht h with ⟨rfl, rfl⟩ | ⟨a, len, cap, m, n, D, Pl, rfl, _, hl, hm, hmm, rfl, hel⟩
  · exact ⟨_, [], rfl, none, 0, rfl, by simp, .inl rfl⟩
  · simp only [if_true] at hmm
    subst hmm
    simp only [DataW.weights, ht] at hw
    have hlen : len ≤ 140737488355328 := by
      have h1 := hw _ (List.mem_cons_self ..)
      rw [hby] at h1
      simp only [List.length_map, List.length_range] at h1
      have h2 : len ≤ (len + (m - len)) * bytes := by
        have := Nat.le_mul_of_pos_right (len + (m - len)) (show 0 < bytes by omega)
        omega
      omega
    by_cases h0 : len = 0
    · subst h0
      exact ⟨_, [], rfl, some a, m, rfl, by simp, .inl rfl⟩
    · obtain ⟨b, off, spot⟩ := a
      have hfirst : spot = none ∧ b < w.heap.size := by
        obtain ⟨cs', h1, _⟩ := hel 0 (by omega)
        have hb := World.cells?_block h1 (by rw [hc]; exact hsz)
        obtain ⟨_, hlen', hcell⟩ := World.cells?_some h1
        have h3 := hcell 0 (by rw [hc]; exact hsz)
        have hlt : 0 < cs'.length := by rw [hlen', hc]; exact hsz
        rw [List.getElem?_eq_getElem hlt] at h3
        refine ⟨by simpa [Addr.add] using World.cell?_spot h3, ?_⟩
        simpa [Addr.add] using hb
      obtain ⟨rfl, hblt⟩ := hfirst
      have hex : ∀ i, i < len → ∃ y, At w b (off + i * sz) y := by
        intro i hi
        obtain ⟨cs', h1, h2⟩ := hel i (by omega)
        obtain ⟨_, hlen', hcell⟩ := World.cells?_some h1
        refine elem n b (off + i * sz) cs' (D i, Pl i) hblt (by rw [hlen', hc]) ?_ h2 ?_
        · intro j hj
          rw [← hcell j (by rw [hc]; exact hj), hc, at_none, at_none]
        · intro q hq
          refine hw q (List.mem_cons_of_mem _ (List.mem_append.2 (.inl (weights_mem (d := D i) ?_ q hq))))
          exact List.mem_map.2 ⟨i, List.mem_range.2 hi, rfl⟩
      have hfun : ∃ f : Nat → α, ∀ i, i < len → At w b (off + i * sz) (f i) := by
        classical
        refine ⟨fun i => if hi : i < len then Classical.choose (hex i hi) else z, fun i hi => ?_⟩
        simp only [dif_pos hi]
        exact Classical.choose_spec (hex i hi)
      obtain ⟨f, hf⟩ := hfun
      refine ⟨_, (List.range len).map f, rfl, some ⟨b, off, none⟩, m, by simp, by simpa using hlen, .inr ⟨b, off, rfl, hblt, ?_⟩⟩
      intro i y hi
      simp only [List.getElem?_map] at hi
      obtain ⟨k, hk, rfl⟩ := Option.map_eq_some_iff.1 hi
      obtain ⟨hlt, rfl⟩ := List.getElem?_eq_some_iff.1 hk
      simp only [List.length_range] at hlt
      simpa using hf i hlt

theorem light_left {a b : List Nat} (h : Light (a ++ b)) : Light a := fun n hn => h n (List.mem_append.2 (.inl hn))
theorem light_right {a b : List Nat} (h : Light (a ++ b)) : Light b := fun n hn => h n (List.mem_append.2 (.inr hn))

theorem cellsTerm : Tryz.prog.cellsOf 94 = 2 := by kernel_rfl
theorem cellsAtom : Tryz.prog.cellsOf 51 = 2 := by kernel_rfl
theorem cellsLit : Tryz.prog.cellsOf 66 = 3 := by kernel_rfl
theorem cellsPred : Tryz.prog.cellsOf 47 = 3 := by kernel_rfl
theorem cellsRule : Tryz.prog.cellsOf 54 = 5 := by kernel_rfl
theorem cellsInt : Tryz.prog.cellsOf 3 = 1 := by kernel_rfl
theorem cellsBool : Tryz.prog.cellsOf 4 = 1 := by kernel_rfl
theorem cellsString : Tryz.prog.cellsOf 9 = 1 := by kernel_rfl
theorem cellsTerms : Tryz.prog.cellsOf 49 = 1 := by kernel_rfl
theorem cellsLits : Tryz.prog.cellsOf 52 = 1 := by kernel_rfl
theorem cellsVars : Tryz.prog.cellsOf 158 = 3 := by kernel_rfl

variable {w : World}

theorem struct3 {P : Program} {t : TypeId} {f0 f1 f2 : Field} {fuel : Nat} {cs : List Value} {x : DataW H × List MemPlace} (ht : P.underlying t = some (.struct #[f0, f1, f2])) (h : DataW.trod enc P w 0 (fun _ => true) true fuel t cs = some x) :
    ∃ y0 y1 y2 n, DataW.trod enc P w 0 (fun _ => true) true n f0.type ((cs.drop f0.offset).take (P.cellsOf f0.type)) = some y0 ∧ DataW.trod enc P w 0 (fun _ => true) true n f1.type ((cs.drop f1.offset).take (P.cellsOf f1.type)) = some y1 ∧
      DataW.trod enc P w 0 (fun _ => true) true n f2.type ((cs.drop f2.offset).take (P.cellsOf f2.type)) = some y2 := by
  obtain ⟨xs, n, _, rfl, hl, hlen, hf⟩ := DataW.trod_struct ht h
  match xs, hlen with
  | [y0, y1, y2], _ => exact ⟨y0, y1, y2, n, by simpa using hf 0 f0 rfl, by simpa using hf 1 f1 rfl, by simpa using hf 2 f2 rfl⟩

set_option maxRecDepth 100000 in
theorem term_of {n : Nat} {cs : List Value} {y : DataW H × List MemPlace} (h : DataW.trod enc Tryz.prog w 0 (fun _ => true) true n 94 cs = some y) : ∃ t : Tm, cs = [.bool t.var, .int .i64 t.n] := by
  obtain ⟨y0, y1, m, _, hl, h0, h1⟩ := trod_struct2 Tryz.underlying94 h
  rw [cellsTerm] at hl
  match cs, hl with
  | [c0, c1], _ =>
    rw [cellsBool] at h0
    rw [cellsInt] at h1
    obtain ⟨b, e0, _⟩ := DataW.trod_bool Tryz.underlying4 h0
    obtain ⟨k, e1, _⟩ := DataW.trod_int Tryz.underlying3 h1
    simp at e0 e1
    exact ⟨⟨b, k⟩, by rw [e0, e1]⟩
theorem terms_of {n : Nat} {cs : List Value} {y : DataW H × List MemPlace} (h : DataW.trod enc Tryz.prog w 0 (fun _ => true) true n 49 cs = some y) (hw : Light (y.1.weights Tryz.prog 49)) : ∃ v ts, cs = [v] ∧ termsAt w v ts := by
  refine open_sliceAt (bytes := 16) ⟨false, 0⟩ Tryz.underlying49 cellsTerm (by omega) (by kernel_rfl) (by omega) h hw ?_
  intro n b off cs' y _ hlen hcell ht _
  obtain ⟨t, rfl⟩ := term_of ht
  exact ⟨t, hcell 0 (by omega), hcell 1 (by omega)⟩
set_option maxRecDepth 100000 in
theorem atom_of {n : Nat} {cs : List Value} {y : DataW H × List MemPlace} (h : DataW.trod enc Tryz.prog w 0 (fun _ => true) true n 51 cs = some y) (hw : Light (y.1.weights Tryz.prog 51)) :
    ∃ (a : Atm) (v : Value), cs = [.int .i64 a.pred, v] ∧ termsAt w v a.args := by
  obtain ⟨y0, y1, m, rfl, hl, h0, h1⟩ := trod_struct2 Tryz.underlying51 h
  rw [cellsAtom] at hl
  simp only [DataW.weights, Tryz.underlying51, DataW.weightsEach, List.map_cons, List.map_nil] at hw
  match cs, hl with
  | [c0, c1], _ =>
    rw [cellsInt] at h0
    rw [cellsTerms] at h1
    obtain ⟨k, e0, _⟩ := DataW.trod_int Tryz.underlying3 h0
    obtain ⟨v, ts, e1, hts⟩ := terms_of h1 (light_left (light_right hw))
    simp at e0 e1
    exact ⟨⟨k, ts⟩, v, by rw [e0, e1], hts⟩
set_option maxRecDepth 100000 in
theorem lits_of {n : Nat} {cs : List Value} {y : DataW H × List MemPlace} (h : DataW.trod enc Tryz.prog w 0 (fun _ => true) true n 52 cs = some y) (hw : Light (y.1.weights Tryz.prog 52)) : ∃ v ls, cs = [v] ∧ litsAt w v ls := by
  refine open_sliceAt (bytes := 40) ⟨false, ⟨0, []⟩⟩ Tryz.underlying52 cellsLit (by omega) (by kernel_rfl) (by omega) h hw ?_
  intro n b off cs' y _ hlen hcell ht hw'
  obtain ⟨y0, y1, m, rfl, hl, h0, h1⟩ := trod_struct2 Tryz.underlying66 ht
  simp only [DataW.weights, Tryz.underlying66, DataW.weightsEach, List.map_cons, List.map_nil] at hw'
  match cs', hlen with
  | [c0, c1, c2], _ =>
    rw [cellsBool] at h0
    rw [cellsAtom] at h1
    obtain ⟨k, e0, _⟩ := DataW.trod_bool Tryz.underlying4 h0
    obtain ⟨a, v, e1, hts⟩ := atom_of h1 (light_left (light_right hw'))
    simp at e0 e1
    obtain ⟨e1, e2⟩ := e1
    exact ⟨⟨k, a⟩, (hcell 0 (by omega)).trans (by rw [e0]; rfl), (hcell 1 (by omega)).trans (by rw [e1]; rfl), v, (hcell 2 (by omega)).trans (by rw [e2]; rfl), hts⟩
set_option maxRecDepth 100000 in
theorem preds_of {n : Nat} {cs : List Value} {y : DataW H × List MemPlace} (h : DataW.trod enc Tryz.prog w 0 (fun _ => true) true n 22 cs = some y) (hw : Light (y.1.weights Tryz.prog 22)) : ∃ v ps, cs = [v] ∧ predsAt w v ps := by
  refine open_sliceAt (bytes := 32) ⟨ByteArray.empty, 0, 0⟩ Tryz.underlying22 cellsPred (by omega) (by kernel_rfl) (by omega) h hw ?_
  intro n b off cs' y _ hlen hcell ht _
  obtain ⟨x0, x1, x2, m, h0, h1, h2⟩ := struct3 Tryz.underlying47 ht
  match cs', hlen with
  | [c0, c1, c2], _ =>
    simp only [cellsString, cellsInt] at h0 h1 h2
    obtain ⟨s, e0, _⟩ := DataW.trod_string Tryz.underlying9 h0
    obtain ⟨k, e1, _⟩ := DataW.trod_int Tryz.underlying3 h1
    obtain ⟨l, e2, _⟩ := DataW.trod_int Tryz.underlying3 h2
    simp at e0 e1 e2
    exact ⟨⟨s, k, l⟩, (hcell 0 (by omega)).trans (by rw [e0]; rfl), (hcell 1 (by omega)).trans (by rw [e1]; rfl), (hcell 2 (by omega)).trans (by rw [e2]; rfl)⟩
set_option maxRecDepth 100000 in
theorem rule_of {n : Nat} {cs : List Value} {y : DataW H × List MemPlace} (h : DataW.trod enc Tryz.prog w 0 (fun _ => true) true n 54 cs = some y) (hw : Light (y.1.weights Tryz.prog 54)) :
    ∃ (r : Rul) (hv bv : Value), cs = [.int .i64 r.head.pred, hv, .int .i64 r.src, .int .i64 r.n, bv] ∧ termsAt w hv r.head.args ∧ litsAt w bv r.body := by
  obtain ⟨x0, x1, x2, x3, m, rfl, hl, h0, h1, h2, h3⟩ := trod_struct4 Tryz.underlying54 h
  rw [cellsRule] at hl
  match cs, hl with
  | [c0, c1, c2, c3, c4], _ =>
    simp only [DataW.weights, Tryz.underlying54, DataW.weightsEach, List.map_cons, List.map_nil] at hw
    simp only [cellsAtom, cellsInt, cellsLits] at h0 h1 h2 h3
    obtain ⟨a, v, e0, hts⟩ := atom_of h0 (light_left hw)
    obtain ⟨k, e1, _⟩ := DataW.trod_int Tryz.underlying3 h1
    obtain ⟨l, e2, _⟩ := DataW.trod_int Tryz.underlying3 h2
    obtain ⟨bv, ls, e3, hls⟩ := lits_of h3 (light_left (light_right (light_right (light_right hw))))
    simp at e0 e1 e2 e3
    obtain ⟨e0, e4⟩ := e0
    exact ⟨⟨a, k, l, ls⟩, v, bv, by rw [e0, e1, e2, e3, e4], hts, hls⟩
set_option maxRecDepth 100000 in
theorem vars_of {n : Nat} {cs : List Value} {y : DataW H × List MemPlace} (h : DataW.trod enc Tryz.prog w 0 (fun _ => true) true n 158 cs = some y) : ∃ a b c : Int, cs = [.int .i64 a, .int .i64 b, .int .i64 c] := by
  obtain ⟨xs, m, _, rfl, hl, hxs, hf⟩ := DataW.trod_array Tryz.underlying158 h
  rw [cellsVars] at hl
  match cs, hl, xs, hxs with
  | [c0, c1, c2], _, [x0, x1, x2], _ =>
    have h0 := hf 0 (by omega)
    have h1 := hf 1 (by omega)
    have h2 := hf 2 (by omega)
    simp only [cellsInt] at h0 h1 h2
    obtain ⟨a, e0, _⟩ := DataW.trod_int Tryz.underlying3 h0
    obtain ⟨b, e1, _⟩ := DataW.trod_int Tryz.underlying3 h1
    obtain ⟨c, e2, _⟩ := DataW.trod_int Tryz.underlying3 h2
    simp at e0 e1 e2
    exact ⟨a, b, c, by rw [e0, e1, e2]⟩

theorem agg_of {P : Program} {r : Reach} {base : Nat} {t : TypeId} {fs : Array Field} {v : Value} {l : List Value} (ht : P.underlying t = some (.struct fs)) (hv : Value.okWide P w r base t v) (he : v.cells.toList = l) : v = .agg l.toArray := by
  obtain ⟨cs, rfl, _⟩ := okWide_struct ht hv
  subst he
  simp [Value.cells]
theorem arr_of {P : Program} {r : Reach} {base n : Nat} {t e : TypeId} {v : Value} {l : List Value} (ht : P.underlying t = some (.array n e)) (hv : Value.okWide P w r base t v) (he : v.cells.toList = l) : v = .agg l.toArray := by
  unfold Value.okWide at hv
  rw [ht] at hv
  obtain ⟨cs, rfl, _⟩ := hv
  subst he
  simp [Value.cells]
theorem slice_of {P : Program} {r : Reach} {base : Nat} {t e : TypeId} {v u : Value} (ht : P.underlying t = some (.slice e)) (hv : Value.okWide P w r base t v) (he : v.cells.toList = [u]) : v = u := by
  obtain ⟨a, l, c, rfl⟩ := okWide_slice ht hv
  simpa [Value.cells] using he
theorem trod_one {P : Program} {t : TypeId} {v : Value} {d : DataW H} {p : List MemPlace} (h : DataW.Trod enc P w 0 (fun _ => true) true t v d p) : ∃ n, DataW.trod enc P w 0 (fun _ => true) true n t v.cells.toList = some (d, p) := h
end
end Go.Proofs.YtlfccloaoopadafGreatDoor.Open
