/-
  What came, and was changed, changes nothing that was handed in, nor what comes next.
-/
import Derived.Test.YtlfccloaoopadagGreatG18
import Derived.Test.YtlfccloaoopadagGreatG21
import Derived.Test.YtlfccloaoopadagGreatG28
import Derived.Test.YtlfccloaoopadagGreatG23
import Derived.Test.YtlfccloaoopadagGreatG24
import Derived.Test.YtlfccloaoopadagGreatG22
namespace Go.Proofs.YtlfccloaoopadagGreat.Sum
open Go.ChangeShapes Go.WideShapes Go.ChangeAt Go.RowKit
open Prog (progErr small slice_cells)
open Base (factsErr capOk capNew rowW)
open Fire (roundErr)

/-- a right program can be told as a text -/
theorem atom_okT {ps : List Prd} {a : Atm} (h : Rule.atomErr ps a = 0) (ha : ∀ q ∈ ps, q.arity ≤ 2) : Text.AtomOk ps a := by
  obtain ⟨h1, h2⟩ := Rule.atom_right h
  obtain ⟨k, hk, e⟩ := Rule.isPred_iff.1 h1
  refine ⟨⟨k, e, hk⟩, fun t ht => ?_, atom_args h ha⟩
  have h3 := List.all_eq_true.1 h2 t ht
  unfold Rule.termOk Lat.within at h3
  split at h3 <;> simp only [Bool.and_eq_true, decide_eq_true_eq] at h3 <;> exact ⟨h3.1, by omega⟩
theorem text_ok {ps : List Prd} {rs : List Rul} (h : progErr ps rs = 0) : Text.TextOk ps rs := by
  have h1 := (Prog.prog_zero h).1
  have hb := prog_bounds h
  have hrr := Fire.rules_right h
  rw [Prog.partsErr] at h1
  split at h1
  · contradiction
  · split at h1
    · contradiction
    · rename_i hnm
      split at h1
      · contradiction
      · split at h1
        · contradiction
        · rename_i har
          split at h1
          · contradiction
          · rename_i hki
            have n1 : ∀ q ∈ ps, q.name.size ≤ 8 := fun q hq => by
              have : ¬ (!Prog.isName q.name) = true := fun e => hnm (List.any_eq_true.2 ⟨q, hq, e⟩)
              simp [Prog.isName, Lat.within] at this
              omega
            have n2 : ∀ q ∈ ps, 0 ≤ q.arity ∧ q.arity ≤ 2 := fun q hq => by
              have : ¬ (!Lat.within q.arity 0 2) = true := fun e => har (List.any_eq_true.2 ⟨q, hq, e⟩)
              simpa [Lat.within] using this
            have n3 : ∀ q ∈ ps, 0 ≤ q.kind ∧ q.kind ≤ 3 := fun q hq => by
              have : ¬ (!Lat.within q.kind 0 3) = true := fun e => hki (List.any_eq_true.2 ⟨q, hq, e⟩)
              simpa [Lat.within] using this
            exact ⟨by have := hb.preds; omega, by have := hb.rules; omega, n1, fun q hq => ⟨(n2 q hq).1, by have := (n2 q hq).2; omega⟩, fun q hq => ⟨(n3 q hq).1, by have := (n3 q hq).2; omega⟩, fun r hr => atom_okT (Fire.rule_parts (hrr r hr)).1 (fun q hq => (n2 q hq).2), fun r hr => by have := Fire.rule_parts (hrr r hr); omega, fun r hr => by have := Fire.rule_parts (hrr r hr); omega, fun r hr => by have := Fire.rule_parts (hrr r hr); omega, fun r hr l hl => atom_okT ((Fire.rule_parts (hrr r hr)).2.1 l hl) (fun q hq => (n2 q hq).2)⟩

/-- a row that may be written over, from base on -/
def RowE (base : Nat) (e : TypeId) (sz : Nat) (x : World) (v : Value) : Prop := ∃ a n c, v = .slice a n c ∧ (n = 0 ∨ ∃ g cur, a = some ⟨g, 0, none⟩ ∧ base ≤ g ∧ x.heap[g]? = some (.cells cur e (0, 0)) ∧ n * sz ≤ cur.size)
theorem RowE.set {base sz g k : Nat} {e : TypeId} {x : World} {v u : Value} (h : RowE base e sz x v) : RowE base e sz (x.setCell ⟨g, k, none⟩ u) v := by
  obtain ⟨a, n, c, rfl, h⟩ := h
  refine ⟨a, n, c, rfl, ?_⟩
  rcases h with h | ⟨g', cur, rfl, h1, h2, h3⟩
  · exact .inl h
  · by_cases hg : g = g'
    · subst hg
      exact .inr ⟨g, cur.setIfInBounds k u, rfl, h1, heap_setCell_same x g k _ _ u h2, by simpa using h3⟩
    · exact .inr ⟨g', cur, rfl, h1, by rw [heap_other hg]; exact h2, h3⟩
theorem RowE.lasts {base sz : Nat} {e : TypeId} {x x' : World} {v : Value} (h : RowE base e sz x v) (hb : Below x.heap.size x x') : RowE base e sz x' v := by
  obtain ⟨a, n, c, rfl, h⟩ := h
  refine ⟨a, n, c, rfl, ?_⟩
  rcases h with h | ⟨g', cur, rfl, h1, h2, h3⟩
  · exact .inl h
  · exact .inr ⟨g', cur, rfl, h1, (hb.block g' (Array.getElem?_eq_some_iff.1 h2).1).trans h2, h3⟩
theorem RowE.own {base b' sz n : Nat} {e : TypeId} {x : World} {v : Value} {xs : List Value} (h : x.ownsRow base e sz v n xs) (hb : b' ≤ base) : RowE b' e sz x v := by
  rcases h.2 with ⟨rfl, h0⟩ | ⟨g, cap, cur, rfl, h1, h2, h3, _, h5, _⟩
  · exact ⟨none, 0, 0, rfl, .inl rfl⟩
  · refine ⟨_, n, cap, rfl, .inr ⟨g, cur, rfl, by omega, h2, ?_⟩⟩
    have : n * sz ≤ cap * sz := Nat.mul_le_mul_right _ h3
    omega
/-- a row of facts that came from a call -/
theorem RowE.facts {base b' : Nat} {x : World} {v : Value} {l : List Fct} (h : factsAt x v l) (h1 : capNew base v) (h2 : rowW x v) (hb : b' ≤ base) : RowE b' 44 4 x v := by
  obtain ⟨a, c, rfl, _, hx⟩ := h
  rcases hx with rfl | ⟨g, off, rfl, hg, hx⟩
  · exact ⟨a, 0, c, rfl, .inl rfl⟩
  · by_cases h0 : l.length = 0
    · exact ⟨_, _, c, rfl, .inl h0⟩
    · obtain ⟨⟨n, c', hv⟩, cur, hc⟩ := h2 g rfl
      have hbase := h1.2 g rfl
      obtain ⟨rfl, rfl⟩ : off = 0 ∧ c = c' := by simp only [Value.slice.injEq, Option.some.injEq, Addr.mk.injEq] at hv; exact ⟨hv.1.2.1, hv.2.2⟩
      refine ⟨_, _, c, rfl, .inr ⟨g, cur, rfl, by omega, hc, ?_⟩⟩
      have hl := hx (l.length - 1) (l[l.length - 1]'(by omega)) (List.getElem?_eq_getElem (by omega))
      have h4 : x.cell? ⟨g, 0 + (l.length - 1) * 4 + 3, none⟩ = _ := hl.2.2.2
      simp [World.cell?, hc] at h4
      obtain ⟨h5, _⟩ := Array.getElem?_eq_some_iff.1 h4
      omega

theorem wo_zero {ps : List Prd} {rs : List Rul} {n : Int} (h : withoutErr ps rs n = 0) : progErr ps rs = 0 := by
  unfold withoutErr at h
  split at h
  · contradiction
  · rename_i h1; exact Classical.not_not.1 h1
theorem wo_len (ps : List Prd) (rs : List Rul) (n : Int) : (withoutP ps rs n).length ≤ 500 ∧ (withoutR ps rs n).length ≤ 500 := by
  unfold withoutP withoutR
  by_cases h : withoutErr ps rs n = 0
  · rw [if_pos h, if_pos h]
    have hb := prog_bounds (wo_zero h)
    refine ⟨by have := hb.preds; omega, ?_⟩
    rw [dropR, List.length_append, List.length_take, List.length_drop]
    have := hb.rules
    omega
  · rw [if_neg h, if_neg h]
    exact ⟨by simp, by simp⟩
theorem add_lengthR (K : Int → Int) (x : Fct) : ∀ f : List Fct, (Base.addF K x f).length ≤ f.length + 1
  | [] => by simp [Base.addF]
  | y :: f => by
    have := add_lengthR K x f
    rw [Base.addF]
    split
    · simp
    · split <;> simp <;> omega
theorem addOf_len (ps : List Prd) (f : List Fct) (x : Fct) : (Base.addOf ps f x).1.length ≤ f.length + 1 := by
  unfold Base.addOf
  split
  · simp
  · exact add_lengthR _ _ _
theorem once_len {ps : List Prd} {rs : List Rul} {f : List Fct} (hre : roundErr ps rs f = 0) (hpe : progErr ps rs = 0) (hfe : factsErr ps f = 0) : (Round.onceF ps rs f 0).length ≤ 125 := by
  rw [Round.onceF, if_neg (by rw [hre]; simp)]
  exact Base.facts_short (Round.addAll_right hfe (Round.toldS_fine (Fire.rules_right hpe) hfe))
/-- what lasts while rows of the call's own are written over -/
structure InvR (V : World) (D L : Nat) (v1 v2 v3 v4 : Value) (x : World) : Prop where
  below : Below V.heap.size V x
  r1 : RowE V.heap.size 44 4 x v1
  r2 : RowE V.heap.size 44 4 x v2
  r3 : RowE V.heap.size 52 3 x v3
  r4 : RowE V.heap.size 58 5 x v4
  d : x.heap[D]? = some (.cells #[v3, v4] 25 (0, 0))
  l : x.heap[L]? = some (.cells #[v1, v2] 30 (0, 0))
theorem InvR.set {V : World} {D L g k : Nat} {v1 v2 v3 v4 u : Value} {e : TypeId} {x : World} (he1 : e ≠ 25) (he2 : e ≠ 30) (hg : V.heap.size ≤ g) (h : InvR V D L v1 v2 v3 v4 x ∧ ∃ cur, x.heap[g]? = some (.cells cur e (0, 0))) : InvR V D L v1 v2 v3 v4 (x.setCell ⟨g, k, none⟩ u) ∧ ∃ cur, (x.setCell ⟨g, k, none⟩ u).heap[g]? = some (.cells cur e (0, 0)) := by
  obtain ⟨h, cur, hc⟩ := h
  refine ⟨⟨h.below.setCell (p := ⟨g, k, none⟩) hg _, h.r1.set, h.r2.set, h.r3.set, h.r4.set, ?_, ?_⟩, _, heap_setCell_same x g k _ _ u hc⟩
  · rw [heap_other (fun x => by subst x; have := h.d; rw [hc] at this; cases this; exact he1 rfl)]
    exact h.d
  · rw [heap_other (fun x => by subst x; have := h.l; rw [hc] at this; cases this; exact he2 rfl)]
    exact h.l
theorem row_cell {x : World} {g j : Nat} {e : TypeId} {cur : Array Value} (h : x.heap[g]? = some (.cells cur e (0, 0))) (hj : j < cur.size) : (∃ o, x.cell? ⟨g, j, none⟩ = some o) ∧ x.frozen? ⟨g, j, none⟩ = false := by
  refine ⟨⟨cur[j], ?_⟩, by simp [World.frozen?, h]⟩
  simp [World.cell?, h, hj]
theorem RowE.at {base sz n c : Nat} {e : TypeId} {x : World} {a : Option Addr} (h : RowE base e sz x (.slice a n c)) (hn : 0 < n) : ∃ g cur, a = some ⟨g, 0, none⟩ ∧ base ≤ g ∧ x.heap[g]? = some (.cells cur e (0, 0)) ∧ n * sz ≤ cur.size := by
  obtain ⟨a', n', c', hv, h⟩ := h
  simp only [Value.slice.injEq] at hv
  obtain ⟨rfl, rfl, rfl⟩ := hv
  rcases h with h | h
  · omega
  · exact h

set_option maxRecDepth 100000 in
set_option maxHeartbeats 8000000 in
theorem lawRest_walk (w : World) (pv rv fv : Value) (ps : List Prd) (rs : List Rul) (f : List Fct) (xp xa xb xv : Int) (hp : predsAt w pv ps) (hr : rulesAt w rv rs) (hn : small ps) (hcap : capLe rv) (hf : factsAt w fv f) (hfc : capOk fv) :
    Calls Tryz.prog 5 #[.agg #[pv, rv], fv, .agg #[.int .i64 xp, .int .i64 xa, .int .i64 xb, .int .i64 xv]] w fun e w' => e = .returned (.bool true) ∧ Below w.heap.size w w' := by
  have HRE : Hid (∀ x, Below w.heap.size w x → Calls Tryz.prog 14 #[.agg #[pv, rv], fv] x fun e w' => e = .returned (.int .i64 (roundErr ps rs f)) ∧ Below x.heap.size x w') := fun x hx => Fire.roundError_c x pv rv fv ps rs f (predsAt.lasts hx hp) (rulesAt.lasts hx hr) (factsAt.lasts hx hf) hn
  have HP : Hid (∀ x, Below w.heap.size w x → predsAt x pv ps) := fun x hx => predsAt.lasts hx hp
  have HR : Hid (∀ x, Below w.heap.size w x → rulesAt x rv rs) := fun x hx => rulesAt.lasts hx hr
  have HF : Hid (∀ x, Below w.heap.size w x → factsAt x fv f) := fun x hx => factsAt.lasts hx hf
  have HON : Hid (∀ x, Below w.heap.size w x → Calls Tryz.prog 17 #[.agg #[pv, rv], fv, .int .i64 0] x fun e w' => ∃ a c, e = .returned (.tuple #[.slice a (Round.onceF ps rs f 0).length c, .bool (Round.onceC ps rs f 0), .int .i64 (roundErr ps rs f)]) ∧ factsAt w' (.slice a (Round.onceF ps rs f 0).length c) (Round.onceF ps rs f 0) ∧ RowE x.heap.size 44 4 w' (.slice a (Round.onceF ps rs f 0).length c) ∧ Below x.heap.size x w') := fun x hx => by
    refine (Round.devOnce_w x pv rv fv ps rs f 0 (predsAt.lasts hx hp) (rulesAt.lasts hx hr) (factsAt.lasts hx hf) hn).mono ?_
    rintro e w' ⟨u, rfl, h1, h2, h3, hb⟩
    have hrow := RowE.facts h1 h2 h3 (Nat.le_refl _)
    obtain ⟨a, c, rfl, h4⟩ := h1
    exact ⟨a, c, rfl, ⟨a, c, rfl, h4⟩, hrow, hb⟩
  have HAD : Hid (∀ x, Below w.heap.size w x → Calls Tryz.prog 18 #[pv, fv, .agg #[.int .i64 xp, .int .i64 xa, .int .i64 xb, .int .i64 xv]] x fun e w' => ∃ a c, e = .returned (.tuple #[.slice a (Base.addOf ps f ⟨xp, xa, xb, xv⟩).1.length c, .bool (Base.addOf ps f ⟨xp, xa, xb, xv⟩).2.1, .int .i64 (Base.addOf ps f ⟨xp, xa, xb, xv⟩).2.2]) ∧ factsAt w' (.slice a (Base.addOf ps f ⟨xp, xa, xb, xv⟩).1.length c) (Base.addOf ps f ⟨xp, xa, xb, xv⟩).1 ∧ RowE x.heap.size 44 4 w' (.slice a (Base.addOf ps f ⟨xp, xa, xb, xv⟩).1.length c) ∧ Below x.heap.size x w') := fun x hx => by
    refine (Base.Add_w x pv fv ps f xp xa xb xv (predsAt.lasts hx hp) (factsAt.lasts hx hf) hfc).mono ?_
    rintro e w' ⟨u, rfl, h1, h2, h3, hb⟩
    have hrow := RowE.facts h1 h2 h3 (Nat.le_refl _)
    obtain ⟨a, c, hu, h4⟩ := h1
    subst hu
    exact ⟨a, c, rfl, ⟨a, c, rfl, h4⟩, hrow, hb⟩
  have HWO : Hid (∀ x, Below w.heap.size w x → Calls Tryz.prog 12 #[.agg #[pv, rv], .int .i64 0] x fun e w' => ∃ a c b d, e = .returned (.tuple #[.agg #[.slice a (withoutP ps rs 0).length c, .slice b (withoutR ps rs 0).length d], .int .i64 (withoutErr ps rs 0)]) ∧ (predsAt w' (.slice a (withoutP ps rs 0).length c) (withoutP ps rs 0) ∧ rulesAt w' (.slice b (withoutR ps rs 0).length d) (withoutR ps rs 0)) ∧ RowE x.heap.size 52 3 w' (.slice a (withoutP ps rs 0).length c) ∧ RowE x.heap.size 58 5 w' (.slice b (withoutR ps rs 0).length d) ∧ Below x.heap.size x w') := fun x hx => by
    refine (Without_c x pv rv ps rs 0 (by omega) (predsAt.lasts hx hp) (rulesAt.lasts hx hr) hn hcap).mono ?_
    rintro e w' ⟨v, rfl, ho, hb⟩
    have hl := wo_len ps rs 0
    obtain ⟨a, c, b, d, us, rfl, h1, h2, h3, h4⟩ := ho
    have hul : us.length = (withoutR ps rs 0).length := by rw [← h3, List.length_map]
    refine ⟨a, c, b, d, rfl, ⟨predsAt_own h1 (by have := hl.1; omega), ?_⟩, RowE.own h1 (Nat.le_refl _), RowE.own h2 (Nat.le_refl _), hb⟩
    have h := rulesAt_own (l := us) (by rw [hul]; exact h2) (by rw [hul]; have := hl.2; omega) fun x hx => (h4 x hx).here
    rw [h3] at h
    exact h
  have HAO : Hid (∀ x, Below w.heap.size w x → Calls Tryz.prog 20 #[pv, fv, .agg #[.int .i64 xp, .int .i64 xa, .int .i64 xb, .int .i64 xv]] x fun e w' => ∃ a c, e = .returned (.tuple #[.slice a (Base.addOf ps f ⟨xp, xa, xb, xv⟩).1.length c, .bool (Base.addOf ps f ⟨xp, xa, xb, xv⟩).2.1, .int .i64 (Base.addOf ps f ⟨xp, xa, xb, xv⟩).2.2]) ∧ factsAt w' (.slice a (Base.addOf ps f ⟨xp, xa, xb, xv⟩).1.length c) (Base.addOf ps f ⟨xp, xa, xb, xv⟩).1 ∧ Below x.heap.size x w') := fun x hx => by
    refine (Base.addOf_c x pv fv ps f xp xa xb xv (predsAt.lasts hx hp) (factsAt.lasts hx hf)).mono ?_
    rintro e w' ⟨u, rfl, h1, _, hb⟩
    obtain ⟨a, c, hu, h4⟩ := h1
    subst hu
    exact ⟨a, c, rfl, ⟨a, c, rfl, h4⟩, hb⟩
  have HWF : Hid (∀ x, Below w.heap.size w x → Calls Tryz.prog 21 #[.agg #[pv, rv], .int .i64 0] x fun e w' => ∃ a c b d, e = .returned (.tuple #[.agg #[.slice a (withoutP ps rs 0).length c, .slice b (withoutR ps rs 0).length d], .int .i64 (withoutErr ps rs 0)]) ∧ (predsAt w' (.slice a (withoutP ps rs 0).length c) (withoutP ps rs 0) ∧ rulesAt w' (.slice b (withoutR ps rs 0).length d) (withoutR ps rs 0)) ∧ Below x.heap.size x w') := fun x hx => by
    refine (withoutOf_c x pv rv ps rs 0 (by omega) (predsAt.lasts hx hp) (rulesAt.lasts hx hr) hn hcap).mono ?_
    rintro e w' ⟨a, c, b, d, rfl, h1, h2, hb⟩
    exact ⟨a, c, b, d, rfl, ⟨h1, h2⟩, hb⟩
  have HOO : Hid (roundErr ps rs f = 0 → ∀ x, Below w.heap.size w x → Calls Tryz.prog 19 #[.agg #[pv, rv], fv, .int .i64 0] x fun e w' => ∃ a c b, e = .returned (.tuple #[.slice a (Round.onceF ps rs f 0).length c, .bool b]) ∧ factsAt w' (.slice a (Round.onceF ps rs f 0).length c) (Round.onceF ps rs f 0) ∧ Below x.heap.size x w') := fun hre x hx => by
    have h := hre
    unfold Fire.roundErr at h
    split at h
    · contradiction
    · rename_i h1
      have hpe := Classical.not_not.1 h1
      obtain ⟨l1, l2⟩ := Round.strat_some hpe
      refine (Round.onceOf_c x pv rv fv ps rs f 0 (Round.stratOf ps rs) (predsAt.lasts hx hp) (rulesAt.lasts hx hr) (factsAt.lasts hx hf) hpe h l1 l2).mono ?_
      rintro e w' ⟨u, rfl, h2, hb⟩
      have e1 : Round.onceF ps rs f 0 = Round.addAll (Rule.kindOf ps) f (Round.toldS ps (Round.ofS (Round.stratOf ps rs) 0) f rs) := by rw [Round.onceF, if_neg (by rw [hre]; simp)]
      rw [← e1] at h2
      obtain ⟨a, c, hu, h4⟩ := h2
      subst hu
      exact ⟨a, c, _, rfl, ⟨a, c, rfl, h4⟩, hb⟩
  obtain ⟨pa, pc, rfl, _⟩ := hp
  obtain ⟨ra, rc, rfl, _⟩ := hr
  obtain ⟨fa, fc, rfl, _⟩ := hf
  obtain ⟨W0, hW0⟩ : ∃ W0, (w.alloc (.cells #[.slice pa ps.length pc, .slice ra rs.length rc] 25)).alloc (.cells #[.int .i64 xp, .int .i64 xa, .int .i64 xb, .int .i64 xv] 44) = W0 := ⟨_, rfl⟩
  have b0 : Below w.heap.size w W0 := by rw [← hW0]; exact (below_alloc _ _).alloc (by simp) _
  have hs0 : W0.heap.size = w.heap.size + 2 := by rw [← hW0]; simp
  have hc0 : W0.cell? ⟨w.heap.size, 0, none⟩ = some (.slice pa ps.length pc) ∧ W0.cell? ⟨w.heap.size, 1, none⟩ = some (.slice ra rs.length rc) ∧ W0.cell? ⟨w.heap.size + 1, 0, none⟩ = some (.int .i64 xp) ∧ W0.cell? ⟨w.heap.size + 1, 1, none⟩ = some (.int .i64 xa) ∧ W0.cell? ⟨w.heap.size + 1, 2, none⟩ = some (.int .i64 xb) ∧ W0.cell? ⟨w.heap.size + 1, 3, none⟩ = some (.int .i64 xv) := by
    rw [← hW0]
    refine ⟨?_, ?_, ?_, ?_, ?_, ?_⟩ <;> simp [go_sem]
  have HC : Hid (∀ x, Below W0.heap.size W0 x → x.cell? ⟨w.heap.size, 0, none⟩ = some (.slice pa ps.length pc) ∧ x.cell? ⟨w.heap.size, 1, none⟩ = some (.slice ra rs.length rc) ∧ x.cell? ⟨w.heap.size + 1, 0, none⟩ = some (.int .i64 xp) ∧ x.cell? ⟨w.heap.size + 1, 1, none⟩ = some (.int .i64 xa) ∧ x.cell? ⟨w.heap.size + 1, 2, none⟩ = some (.int .i64 xb) ∧ x.cell? ⟨w.heap.size + 1, 3, none⟩ = some (.int .i64 xv)) := fun x hx => ⟨(cell_lasts hx (by omega)).trans hc0.1, (cell_lasts hx (by omega)).trans hc0.2.1, (cell_lasts hx (by omega)).trans hc0.2.2.1, (cell_lasts hx (by omega)).trans hc0.2.2.2.1, (cell_lasts hx (by omega)).trans hc0.2.2.2.2.1, (cell_lasts hx (by omega)).trans hc0.2.2.2.2.2⟩
  obtain ⟨d0, d1, d2, d3, d4, d5⟩ := id hc0
  clear hc0
  go_enter Tryz.func5, Tryz.ntmps5
  go_wp2_with fail
  clear hW0
  refine (HRE.out _ b0).mono ?_
  rintro e W1 ⟨rfl, hb1⟩
  have k1 : Below w.heap.size w W1 := b0.trans (hb1.mono b0.size)
  clear d0 d1 d2 d3 d4 d5
  by_cases hre : roundErr ps rs f = 0
  · rw [hre]
    rw [hre] at HON
    obtain ⟨hpe, hfe⟩ : progErr ps rs = 0 ∧ factsErr ps f = 0 := by
      have h := hre
      unfold Fire.roundErr at h
      split at h
      · contradiction
      · rename_i h1
        exact ⟨Classical.not_not.1 h1, h⟩
    have HTX : Hid (∀ x, Below w.heap.size w x → Calls Tryz.prog 16 #[.agg #[.slice pa ps.length pc, .slice ra rs.length rc]] x fun e w' => e = .returned (.string (Text.progB ps rs)) ∧ Below x.heap.size x w') := fun x hx => Text.progText_c x _ _ ps rs (HP.out x hx) (HR.out x hx) (text_ok hpe)
    have HFL : Hid (f.length ≤ 125) := Base.facts_short hfe
    have HPI : Hid (Base.piece W1 (.slice fa f.length fc) f) := Base.facts_piece (HF.out W1 k1)
    have HNW : Hid ((W1.alloc (.cells #[] 44)).ownsRow W1.heap.size 44 4 (.slice (some ⟨W1.heap.size, 0, none⟩) 0 0) ([] : List Fct).length (Base.cellsF [])) := ⟨rfl, .inr ⟨W1.heap.size, 0, #[], rfl, Nat.le_refl _, heap_alloc_new W1 _, Nat.le_refl _, Nat.zero_le _, rfl, rfl⟩⟩
    go_wp2_with (at_builtin; refine Base.wpList_append_piece _ rfl _ _ rfl W1.heap.size (.slice (some ⟨W1.heap.size, 0, none⟩) 0 0) [] f HNW.out rfl _ rfl (HPI.out.lasts (below_alloc _ _)) (by have := HFL.out; simp; omega) (by simp) ?_; intro v2 W2 hown2 hgr2; have hb2 : Below W1.heap.size W1 W2 := (below_alloc _ _).grown hgr2 (by simp) (fun k hk => by cases hk; exact Nat.le_refl _); clear hgr2; obtain ⟨d0, d1, d2, d3, d4, d5⟩ := HC.out W2 (hb1.trans (hb2.mono hb1.size)); obtain ⟨va, vc, rfl⟩ := own_slice hown2)
    have q2 : Below W0.heap.size W0 W2 := hb1.trans (hb2.mono hb1.size)
    have k2 : Below w.heap.size w W2 := b0.trans (q2.mono b0.size)
    have HWS : Hid (∀ x, Below W2.heap.size W2 x → factsAt x (.slice va ([] ++ f).length vc) f) := fun x hx => factsAt.lasts hx (Base.factsAt_of hown2 (by have := HFL.out; simp; omega))
    clear hown2
    refine (HTX.out _ k2).mono ?_
    rintro e W3 ⟨rfl, hb3⟩
    have q3 : Below W0.heap.size W0 W3 := q2.trans (hb3.mono q2.size)
    have k3 : Below w.heap.size w W3 := b0.trans (q3.mono b0.size)
    clear d0 d1 d2 d3 d4 d5
    obtain ⟨d0, d1, d2, d3, d4, d5⟩ := HC.out W3 q3
    go_wp2_with fail
    refine (HON.out _ k3).mono ?_
    rintro e W4 ⟨a1, c1, rfl, _, hr4, hb4⟩
    have q4 : Below W0.heap.size W0 W4 := q3.trans (hb4.mono q3.size)
    have k4 : Below w.heap.size w W4 := b0.trans (q4.mono b0.size)
    clear d0 d1 d2 d3 d4 d5
    obtain ⟨d0, d1, d2, d3, d4, d5⟩ := HC.out W4 q4
    go_wp2_with fail
    refine (HAD.out _ k4).mono ?_
    rintro e W5 ⟨a2, c2, rfl, _, hr5, hb5⟩
    have q5 : Below W0.heap.size W0 W5 := q4.trans (hb5.mono q4.size)
    have k5 : Below w.heap.size w W5 := b0.trans (q5.mono b0.size)
    clear d0 d1 d2 d3 d4 d5
    obtain ⟨d0, d1, d2, d3, d4, d5⟩ := HC.out W5 q5
    go_wp2_with fail
    refine (HWO.out _ k5).mono ?_
    rintro e W6 ⟨a3, c3, a4, c4, rfl, _, hr6, hs6, hb6⟩
    have q6 : Below W0.heap.size W0 W6 := q5.trans (hb6.mono q5.size)
    clear d0 d1 d2 d3 d4 d5
    obtain ⟨N1, hN1⟩ : ∃ N1, (Round.onceF ps rs f 0).length = N1 := ⟨_, rfl⟩
    obtain ⟨N2, hN2⟩ : ∃ N2, (Base.addOf ps f ⟨xp, xa, xb, xv⟩).1.length = N2 := ⟨_, rfl⟩
    obtain ⟨N3, hN3⟩ : ∃ N3, (withoutP ps rs 0).length = N3 := ⟨_, rfl⟩
    obtain ⟨N4, hN4⟩ : ∃ N4, (withoutR ps rs 0).length = N4 := ⟨_, rfl⟩
    rw [hN1] at hr4
    rw [hN2] at hr5
    rw [hN3] at hr6
    rw [hN4] at hs6
    rw [hN1, hN2, hN3, hN4]
    have HNN : Hid ((Round.onceF ps rs f 0).length = N1 ∧ (Base.addOf ps f ⟨xp, xa, xb, xv⟩).1.length = N2 ∧ (withoutP ps rs 0).length = N3 ∧ (withoutR ps rs 0).length = N4) := ⟨hN1, hN2, hN3, hN4⟩
    have hNs : N1 ≤ 1000000 ∧ N2 ≤ 1000000 ∧ N3 ≤ 1000000 ∧ N4 ≤ 1000000 := by
      have l1 := once_len hre hpe hfe
      have l2 := addOf_len ps f ⟨xp, xa, xb, xv⟩
      have l3 := wo_len ps rs 0
      have l4 := HFL.out
      omega
    obtain ⟨hNs1, hNs2, hNs3, hNs4⟩ := hNs
    clear hN1 hN2 hN3 hN4
    obtain ⟨W8, hW8⟩ : ∃ W8, (W6.alloc (.cells #[(.slice a3 N3 c3), (.slice a4 N4 c4)] 25)).alloc (.cells #[(.slice a1 N1 c1), (.slice a2 N2 c2)] 30) = W8 := ⟨_, rfl⟩
    have hin : Hid (InvR W3 W6.heap.size (W6.heap.size + 1) (.slice a1 N1 c1) (.slice a2 N2 c2) (.slice a3 N3 c3) (.slice a4 N4 c4) W8) := by
      have b68 : Below W6.heap.size W6 W8 := by rw [← hW8]; exact (below_alloc _ _).alloc (by simp) _
      have b36 : Below W3.heap.size W3 W6 := hb4.trans ((hb5.trans (hb6.mono hb5.size)).mono hb4.size)
      have c36 := hb4.size
      have c46 := hb5.size
      refine ⟨b36.trans (b68.mono b36.size), (hr4.lasts (hb5.trans ((hb6.trans (b68.mono hb6.size)).mono hb5.size))), ?_, ?_, ?_, ?_, ?_⟩
      · obtain ⟨a, n, c, hv, h⟩ := (hr5.lasts (hb6.trans (b68.mono hb6.size)))
        exact ⟨a, n, c, hv, h.imp id fun ⟨g, cur, h1, h2, h3⟩ => ⟨g, cur, h1, by omega, h3⟩⟩
      · obtain ⟨a, n, c, hv, h⟩ := (hr6.lasts b68)
        exact ⟨a, n, c, hv, h.imp id fun ⟨g, cur, h1, h2, h3⟩ => ⟨g, cur, h1, by omega, h3⟩⟩
      · obtain ⟨a, n, c, hv, h⟩ := (hs6.lasts b68)
        exact ⟨a, n, c, hv, h.imp id fun ⟨g, cur, h1, h2, h3⟩ => ⟨g, cur, h1, by omega, h3⟩⟩
      · rw [← hW8]; exact old0 (new0 _ _)
      · rw [← hW8]; exact new1 _ _ _
    clear hr4 hr5 hr6 hs6
    go_wp2_with fail
    clear hW8
    go_loopw [18] (fun i wr => ∃ m : Nat, m ≤ 2 ∧ i = .int .i64 m ∧ Hid (InvR W3 W6.heap.size (W6.heap.size + 1) (.slice a1 N1 c1) (.slice a2 N2 c2) (.slice a3 N3 c3) (.slice a4 N4 c4) wr)) (fun i _ => 2 - (intOf i).toNat)
    case atStart => exact ⟨0, by omega, rfl, hin⟩
    case round =>
      obtain ⟨m, hm, rfl, hin⟩ := hrel
      match m, hm with
      | 0, _ =>
        go_wp2_with fail
        go_loopw [19] (fun i wr => ∃ k : Nat, k ≤ N1 ∧ i = .int .i64 k ∧ Hid (InvR W3 W6.heap.size (W6.heap.size + 1) (.slice a1 N1 c1) (.slice a2 N2 c2) (.slice a3 N3 c3) (.slice a4 N4 c4) wr)) (fun i _ => N1 - (intOf i).toNat)
        case atStart => exact ⟨0, Nat.zero_le _, rfl, hin⟩
        case round =>
          obtain ⟨k, hk, rfl, hin⟩ := hrel
          have lc : wr.cell? ⟨W6.heap.size + 1, 0, none⟩ = some (.slice a1 N1 c1) ∧ wr.cell? ⟨W6.heap.size + 1, 1, none⟩ = some (.slice a2 N2 c2) := by have := hin.out.l; simp [World.cell?, this]
          obtain ⟨lc0, lc1⟩ := lc
          by_cases hkl : k < N1
          · have hk1 : (k : Int) < (N1 : Int) := by omega
            have hk0 : (0 : Int) ≤ (k : Int) := by omega
            obtain ⟨g, cur, rfl, hgb, hcur, hcs⟩ := RowE.at hin.out.r1 (by omega)
            have hkk : k * 4 + 4 ≤ cur.size := Nat.le_trans (by have : (k + 1) * 4 ≤ N1 * 4 := Nat.mul_le_mul_right _ hkl; omega) hcs
            obtain ⟨⟨o0, p0⟩, f0⟩ := row_cell (j := k * 4) hcur (by omega)
            obtain ⟨⟨o1, p1⟩, f1⟩ := row_cell (j := k * 4 + 1) hcur (by omega)
            obtain ⟨⟨o2, p2⟩, f2⟩ := row_cell (j := k * 4 + 2) hcur (by omega)
            obtain ⟨⟨o3, p3⟩, f3⟩ := row_cell (j := k * 4 + 3) hcur (by omega)
            go_wp2_with fail
            go_roundw
            case rel => exact ⟨k + 1, by omega, by go_num, (InvR.set (by decide) (by decide) hgb (InvR.set (by decide) (by decide) hgb (InvR.set (by decide) (by decide) hgb (InvR.set (by decide) (by decide) hgb ⟨hin.out, cur, hcur⟩)))).1⟩
            case measure => simp [intOf]; omega
          · obtain rfl : N1 = k := by omega
            go_wp2_with fail
            go_roundw
            case rel => exact ⟨1, by omega, by go_num, hin⟩
            case measure => simp [intOf]
      | 1, _ =>
        go_wp2_with fail
        go_loopw [19] (fun i wr => ∃ k : Nat, k ≤ N2 ∧ i = .int .i64 k ∧ Hid (InvR W3 W6.heap.size (W6.heap.size + 1) (.slice a1 N1 c1) (.slice a2 N2 c2) (.slice a3 N3 c3) (.slice a4 N4 c4) wr)) (fun i _ => N2 - (intOf i).toNat)
        case atStart => exact ⟨0, Nat.zero_le _, rfl, hin⟩
        case round =>
          obtain ⟨k, hk, rfl, hin⟩ := hrel
          have lc : wr.cell? ⟨W6.heap.size + 1, 0, none⟩ = some (.slice a1 N1 c1) ∧ wr.cell? ⟨W6.heap.size + 1, 1, none⟩ = some (.slice a2 N2 c2) := by have := hin.out.l; simp [World.cell?, this]
          obtain ⟨lc0, lc1⟩ := lc
          by_cases hkl : k < N2
          · have hk1 : (k : Int) < (N2 : Int) := by omega
            have hk0 : (0 : Int) ≤ (k : Int) := by omega
            obtain ⟨g, cur, rfl, hgb, hcur, hcs⟩ := RowE.at hin.out.r2 (by omega)
            have hkk : k * 4 + 4 ≤ cur.size := Nat.le_trans (by have : (k + 1) * 4 ≤ N2 * 4 := Nat.mul_le_mul_right _ hkl; omega) hcs
            obtain ⟨⟨o0, p0⟩, f0⟩ := row_cell (j := k * 4) hcur (by omega)
            obtain ⟨⟨o1, p1⟩, f1⟩ := row_cell (j := k * 4 + 1) hcur (by omega)
            obtain ⟨⟨o2, p2⟩, f2⟩ := row_cell (j := k * 4 + 2) hcur (by omega)
            obtain ⟨⟨o3, p3⟩, f3⟩ := row_cell (j := k * 4 + 3) hcur (by omega)
            go_wp2_with fail
            go_roundw
            case rel => exact ⟨k + 1, by omega, by go_num, (InvR.set (by decide) (by decide) hgb (InvR.set (by decide) (by decide) hgb (InvR.set (by decide) (by decide) hgb (InvR.set (by decide) (by decide) hgb ⟨hin.out, cur, hcur⟩)))).1⟩
            case measure => simp [intOf]; omega
          · obtain rfl : N2 = k := by omega
            go_wp2_with fail
            go_roundw
            case rel => exact ⟨2, by omega, by go_num, hin⟩
            case measure => simp [intOf]
      | 2, _ =>
        go_wp2_with fail
        go_loopw [20] (fun i wr => ∃ k : Nat, k ≤ N3 ∧ i = .int .i64 k ∧ Hid (InvR W3 W6.heap.size (W6.heap.size + 1) (.slice a1 N1 c1) (.slice a2 N2 c2) (.slice a3 N3 c3) (.slice a4 N4 c4) wr)) (fun i _ => N3 - (intOf i).toNat)
        case atStart => exact ⟨0, Nat.zero_le _, rfl, hin⟩
        case round =>
          obtain ⟨k, hk, rfl, hin⟩ := hrel
          have dc : wr.cell? ⟨W6.heap.size, 0, none⟩ = some (.slice a3 N3 c3) ∧ wr.cell? ⟨W6.heap.size, 1, none⟩ = some (.slice a4 N4 c4) := by have := hin.out.d; simp [World.cell?, this]
          obtain ⟨dc0, dc1⟩ := dc
          by_cases hkl : k < N3
          · have hk1 : (k : Int) < (N3 : Int) := by omega
            have hk0 : (0 : Int) ≤ (k : Int) := by omega
            obtain ⟨g, cur, rfl, hgb, hcur, hcs⟩ := RowE.at hin.out.r3 (by omega)
            have hkk : k * 3 + 3 ≤ cur.size := Nat.le_trans (by have : (k + 1) * 3 ≤ N3 * 3 := Nat.mul_le_mul_right _ hkl; omega) hcs
            obtain ⟨⟨o0, p0⟩, f0⟩ := row_cell (j := k * 3) hcur (by omega)
            obtain ⟨⟨o1, p1⟩, f1⟩ := row_cell (j := k * 3 + 1) hcur (by omega)
            obtain ⟨⟨o2, p2⟩, f2⟩ := row_cell (j := k * 3 + 2) hcur (by omega)
            go_wp2_with fail
            go_roundw
            case rel => exact ⟨k + 1, by omega, by go_num, (InvR.set (by decide) (by decide) hgb (InvR.set (by decide) (by decide) hgb (InvR.set (by decide) (by decide) hgb ⟨hin.out, cur, hcur⟩))).1⟩
            case measure => simp [intOf]; omega
          · obtain rfl : N3 = k := by omega
            have hin : Hid (InvR W3 W6.heap.size (W6.heap.size + 1) (.slice a1 N1 c1) (.slice a2 N2 c2) (.slice a3 N3 c3) (.slice a4 N4 c4) wr) := hin
            go_wp2_with fail
            go_loopw [21] (fun i wr => ∃ k : Nat, k ≤ N4 ∧ i = .int .i64 k ∧ Hid (InvR W3 W6.heap.size (W6.heap.size + 1) (.slice a1 N1 c1) (.slice a2 N2 c2) (.slice a3 N3 c3) (.slice a4 N4 c4) wr)) (fun i _ => N4 - (intOf i).toNat)
            case atStart => exact ⟨0, Nat.zero_le _, rfl, hin⟩
            case round =>
              obtain ⟨k, hk, rfl, hin⟩ := hrel
              have dc : wr.cell? ⟨W6.heap.size, 0, none⟩ = some (.slice a3 N3 c3) ∧ wr.cell? ⟨W6.heap.size, 1, none⟩ = some (.slice a4 N4 c4) := by have := hin.out.d; simp [World.cell?, this]
              obtain ⟨dc0, dc1⟩ := dc
              by_cases hkl : k < N4
              · have hk1 : (k : Int) < (N4 : Int) := by omega
                have hk0 : (0 : Int) ≤ (k : Int) := by omega
                obtain ⟨g, cur, rfl, hgb, hcur, hcs⟩ := RowE.at hin.out.r4 (by omega)
                have hkk : k * 5 + 5 ≤ cur.size := Nat.le_trans (by have : (k + 1) * 5 ≤ N4 * 5 := Nat.mul_le_mul_right _ hkl; omega) hcs
                obtain ⟨⟨o0, p0⟩, f0⟩ := row_cell (j := k * 5) hcur (by omega)
                obtain ⟨⟨o1, p1⟩, f1⟩ := row_cell (j := k * 5 + 1) hcur (by omega)
                obtain ⟨⟨o2, p2⟩, f2⟩ := row_cell (j := k * 5 + 2) hcur (by omega)
                obtain ⟨⟨o3, p3⟩, f3⟩ := row_cell (j := k * 5 + 3) hcur (by omega)
                obtain ⟨⟨o4, p4⟩, f4⟩ := row_cell (j := k * 5 + 4) hcur (by omega)
                go_wp2_with fail
                go_roundw
                case rel => exact ⟨k + 1, by omega, by go_num, (InvR.set (by decide) (by decide) hgb (InvR.set (by decide) (by decide) hgb (InvR.set (by decide) (by decide) hgb (InvR.set (by decide) (by decide) hgb (InvR.set (by decide) (by decide) hgb ⟨hin.out, cur, hcur⟩))))).1⟩
                case measure => simp [intOf]; omega
              · obtain rfl : N4 = k := by omega
                have HIN : Hid (InvR W3 W6.heap.size (W6.heap.size + 1) (.slice a1 N1 c1) (.slice a2 N2 c2) (.slice a3 N3 c3) (.slice a4 N4 c4) wr) := hin
                have qx : Below W0.heap.size W0 wr := q3.trans (hin.out.below.mono q3.size)
                have kx : Below w.heap.size w wr := b0.trans (qx.mono b0.size)
                have px : Below W2.heap.size W2 wr := hb3.trans (hin.out.below.mono hb3.size)
                obtain ⟨d0, d1, d2, d3, d4, d5⟩ := HC.out wr qx
                go_wp2_with fail
                clear dc0 dc1
                refine (HON.out _ kx).mono ?_
                rintro e Y1 ⟨u1, g1, rfl, hy1, _, hz1⟩
                have qy1 : Below W0.heap.size W0 Y1 := qx.trans (hz1.mono qx.size)
                have ky1 : Below w.heap.size w Y1 := b0.trans (qy1.mono b0.size)
                clear d0 d1 d2 d3 d4 d5
                obtain ⟨d0, d1, d2, d3, d4, d5⟩ := HC.out Y1 qy1
                go_wp2_with fail
                refine (HAD.out _ ky1).mono ?_
                rintro e Y2 ⟨u2, g2, rfl, hy2, _, hz2⟩
                have qy2 : Below W0.heap.size W0 Y2 := qy1.trans (hz2.mono qy1.size)
                have ky2 : Below w.heap.size w Y2 := b0.trans (qy2.mono b0.size)
                clear d0 d1 d2 d3 d4 d5
                obtain ⟨d0, d1, d2, d3, d4, d5⟩ := HC.out Y2 qy2
                go_wp2_with fail
                refine (HWO.out _ ky2).mono ?_
                rintro e Y3 ⟨u3, g3, u4, g4, rfl, hy3, _, _, hz3⟩
                obtain ⟨X3, hX3⟩ : ∃ X3, Y3.alloc (.cells #[.slice u3 (withoutP ps rs 0).length g3, .slice u4 (withoutR ps rs 0).length g4] 25) = X3 := ⟨_, rfl⟩
                have bX3 : Below Y3.heap.size Y3 X3 := by rw [← hX3]; exact below_alloc _ _
                have oX3 : boxAt X3 Y3.heap.size (.slice u3 (withoutP ps rs 0).length g3) (.slice u4 (withoutR ps rs 0).length g4) := by rw [← hX3]; exact heap_alloc_new Y3 _
                have qx3 : Below W0.heap.size W0 X3 := qy2.trans ((hz3.trans (bX3.mono hz3.size)).mono qy2.size)
                have kx3 : Below w.heap.size w X3 := b0.trans (qx3.mono b0.size)
                clear d0 d1 d2 d3 d4 d5
                obtain ⟨d0, d1, d2, d3, d4, d5⟩ := HC.out X3 qx3
                go_wp2_with fail
                clear hX3
                refine (HOO.out hre _ kx3).mono ?_
                rintro e Y4 ⟨u5, g5, bb, rfl, hy4, hz4⟩
                have qy4 : Below W0.heap.size W0 Y4 := qx3.trans (hz4.mono qx3.size)
                have ky4 : Below w.heap.size w Y4 := b0.trans (qy4.mono b0.size)
                clear d0 d1 d2 d3 d4 d5
                obtain ⟨d0, d1, d2, d3, d4, d5⟩ := HC.out Y4 qy4
                go_wp2_with fail
                refine (HAO.out _ ky4).mono ?_
                rintro e Y5 ⟨u6, g6, rfl, hy5, hz5⟩
                have qy5 : Below W0.heap.size W0 Y5 := qy4.trans (hz5.mono qy4.size)
                have ky5 : Below w.heap.size w Y5 := b0.trans (qy5.mono b0.size)
                clear d0 d1 d2 d3 d4 d5
                obtain ⟨d0, d1, d2, d3, d4, d5⟩ := HC.out Y5 qy5
                go_wp2_with fail
                refine (HWF.out _ ky5).mono ?_
                rintro e Y6 ⟨u7, g7, u8, g8, rfl, hy6, hz6⟩
                obtain ⟨X6, hX6⟩ : ∃ X6, Y6.alloc (.cells #[.slice u7 (withoutP ps rs 0).length g7, .slice u8 (withoutR ps rs 0).length g8] 25) = X6 := ⟨_, rfl⟩
                have bX6 : Below Y6.heap.size Y6 X6 := by rw [← hX6]; exact below_alloc _ _
                have oX6 : boxAt X6 Y6.heap.size (.slice u7 (withoutP ps rs 0).length g7) (.slice u8 (withoutR ps rs 0).length g8) := by rw [← hX6]; exact heap_alloc_new Y6 _
                have t36 : Below X3.heap.size X3 X6 := hz4.trans ((hz5.trans ((hz6.trans (bX6.mono hz6.size)).mono hz5.size)).mono hz4.size)
                have qx6 : Below W0.heap.size W0 X6 := qx3.trans (t36.mono qx3.size)
                have kx6 : Below w.heap.size w X6 := b0.trans (qx6.mono b0.size)
                clear d0 d1 d2 d3 d4 d5
                go_wp2_with fail
                clear hX6
                refine (Round.roundBegun_c _).mono ?_
                rintro e Y7 ⟨rfl, hz7⟩
                have t67 : Below X6.heap.size X6 Y7 := hz7
                have t37 : Below X3.heap.size X3 Y7 := t36.trans (t67.mono t36.size)
                have qy7 : Below W0.heap.size W0 Y7 := qx6.trans (t67.mono qx6.size)
                have ky7 : Below w.heap.size w Y7 := b0.trans (qy7.mono b0.size)
                have b3X : Below Y3.heap.size Y3 Y7 := bX3.trans (t37.mono bX3.size)
                have b2X : Below Y2.heap.size Y2 Y7 := hz3.trans (b3X.mono hz3.size)
                have b1X : Below Y1.heap.size Y1 Y7 := hz2.trans (b2X.mono hz2.size)
                have bwX : Below wr.heap.size wr Y7 := hz1.trans (b1X.mono hz1.size)
                have b6X : Below Y6.heap.size Y6 Y7 := bX6.trans (t67.mono bX6.size)
                have b5X : Below Y5.heap.size Y5 Y7 := hz6.trans (b6X.mono hz6.size)
                have b4X : Below Y4.heap.size Y4 Y7 := hz5.trans (b5X.mono hz5.size)
                have p7 : Below W2.heap.size W2 Y7 := px.trans (bwX.mono px.size)
                have SF1 : Hid (∀ x, Below Y7.heap.size Y7 x → Calls Tryz.prog 9 #[.slice fa f.length fc, .slice va f.length vc] x fun e w' => e = .returned (.bool true) ∧ Below x.heap.size x w') := fun x hx => by
                  have h := Base.sameFacts_c x (.slice fa f.length fc) (.slice va f.length vc) f f (HF.out x (ky7.trans (hx.mono ky7.size))) (HWS.out x (p7.trans (hx.mono p7.size)))
                  rw [decide_eq_true rfl] at h
                  exact h
                have SF2 : Hid (∀ x, Below Y7.heap.size Y7 x → Calls Tryz.prog 9 #[.slice u1 (Round.onceF ps rs f 0).length g1, .slice u5 (Round.onceF ps rs f 0).length g5] x fun e w' => e = .returned (.bool true) ∧ Below x.heap.size x w') := fun x hx => by
                  have h := Base.sameFacts_c x _ _ _ _ (factsAt.lasts (b1X.trans (hx.mono b1X.size)) hy1) (factsAt.lasts (b4X.trans (hx.mono b4X.size)) hy4)
                  rw [decide_eq_true rfl] at h
                  exact h
                have SF3 : Hid (∀ x, Below Y7.heap.size Y7 x → Calls Tryz.prog 9 #[.slice u2 (Base.addOf ps f ⟨xp, xa, xb, xv⟩).1.length g2, .slice u6 (Base.addOf ps f ⟨xp, xa, xb, xv⟩).1.length g6] x fun e w' => e = .returned (.bool true) ∧ Below x.heap.size x w') := fun x hx => by
                  have h := Base.sameFacts_c x _ _ _ _ (factsAt.lasts (b2X.trans (hx.mono b2X.size)) hy2) (factsAt.lasts (b5X.trans (hx.mono b5X.size)) hy5)
                  rw [decide_eq_true rfl] at h
                  exact h
                have SP1 : Hid (∀ x, Below Y7.heap.size Y7 x → Calls Tryz.prog 22 #[.agg #[.slice u3 (withoutP ps rs 0).length g3, .slice u4 (withoutR ps rs 0).length g4], .agg #[.slice u7 (withoutP ps rs 0).length g7, .slice u8 (withoutR ps rs 0).length g8]] x fun e w' => e = .returned (.bool true) ∧ Below x.heap.size x w') := fun x hx => by
                  have h := sameProgs_c x _ _ _ _ _ _ _ (predsAt.lasts (b3X.trans (hx.mono b3X.size)) hy3.1) (predsAt.lasts (b6X.trans (hx.mono b6X.size)) hy6.1) (rulesAt.lasts (b3X.trans (hx.mono b3X.size)) hy3.2) (rulesAt.lasts (b6X.trans (hx.mono b6X.size)) hy6.2)
                  rw [decide_eq_true rfl] at h
                  exact h
                have HBX : Hid (∀ x, Below Y7.heap.size Y7 x → (x.cell? ⟨w.heap.size, 0, none⟩ = some (.slice pa ps.length pc) ∧ x.cell? ⟨w.heap.size, 1, none⟩ = some (.slice ra rs.length rc)) ∧ (x.cell? ⟨Y3.heap.size, 0, none⟩ = some (.slice u3 (withoutP ps rs 0).length g3) ∧ x.cell? ⟨Y3.heap.size, 1, none⟩ = some (.slice u4 (withoutR ps rs 0).length g4)) ∧ (x.cell? ⟨Y6.heap.size, 0, none⟩ = some (.slice u7 (withoutP ps rs 0).length g7) ∧ x.cell? ⟨Y6.heap.size, 1, none⟩ = some (.slice u8 (withoutR ps rs 0).length g8))) := fun x hx => by
                  have h1 := HC.out x (qy7.trans (hx.mono qy7.size))
                  have h2 := box_cells (((t37.trans (hx.mono t37.size)).block _ (box_cells oX3).2.2.2.2).trans oX3)
                  have h3 := box_cells (((t67.trans (hx.mono t67.size)).block _ (box_cells oX6).2.2.2.2).trans oX6)
                  exact ⟨⟨h1.1, h1.2.1⟩, ⟨h2.1, h2.2.1⟩, ⟨h3.1, h3.2.1⟩⟩
                clear hy1 hy2 hy3 hy4 hy5 hy6 oX3 oX6
                obtain ⟨F1, hF1⟩ : ∃ F1, Round.onceF ps rs f 0 = F1 := ⟨_, rfl⟩
                obtain ⟨F2, hF2⟩ : ∃ F2, (Base.addOf ps f ⟨xp, xa, xb, xv⟩).1 = F2 := ⟨_, rfl⟩
                obtain ⟨F3, hF3⟩ : ∃ F3, withoutP ps rs 0 = F3 := ⟨_, rfl⟩
                obtain ⟨F4, hF4⟩ : ∃ F4, withoutR ps rs 0 = F4 := ⟨_, rfl⟩
                obtain ⟨T, hT⟩ : ∃ T, Text.progB ps rs = T := ⟨_, rfl⟩
                rw [hF1] at SF2
                rw [hF2] at SF3
                rw [hF3, hF4] at SP1 HBX
                rw [hT] at HTX
                rw [hF1, hF2, hF3, hF4, hT]
                clear hF1 hF2 hF3 hF4 hT
                obtain ⟨⟨d0, d1⟩, ⟨d2, d3⟩, d4, d5⟩ := HBX.out Y7 (Below.refl _ _)
                go_wp2_with fail
                refine (SF1.out _ (Below.refl _ _)).mono ?_
                rintro e Y8 ⟨rfl, hz8⟩
                clear d0 d1 d2 d3 d4 d5
                obtain ⟨⟨d0, d1⟩, ⟨d2, d3⟩, d4, d5⟩ := HBX.out Y8 hz8
                go_wp2_with fail
                refine (HTX.out _ (ky7.trans (hz8.mono ky7.size))).mono ?_
                rintro e Y9 ⟨rfl, hz9⟩
                have s9 : Below Y7.heap.size Y7 Y9 := hz8.trans (hz9.mono hz8.size)
                clear d0 d1 d2 d3 d4 d5
                obtain ⟨⟨d0, d1⟩, ⟨d2, d3⟩, d4, d5⟩ := HBX.out Y9 s9
                go_wp2_with fail
                refine (SF2.out _ s9).mono ?_
                rintro e Y10 ⟨rfl, hz10⟩
                have s10 : Below Y7.heap.size Y7 Y10 := s9.trans (hz10.mono s9.size)
                clear d0 d1 d2 d3 d4 d5
                obtain ⟨⟨d0, d1⟩, ⟨d2, d3⟩, d4, d5⟩ := HBX.out Y10 s10
                go_wp2_with fail
                refine (SF3.out _ s10).mono ?_
                rintro e Y11 ⟨rfl, hz11⟩
                have s11 : Below Y7.heap.size Y7 Y11 := s10.trans (hz11.mono s10.size)
                clear d0 d1 d2 d3 d4 d5
                obtain ⟨⟨d0, d1⟩, ⟨d2, d3⟩, d4, d5⟩ := HBX.out Y11 s11
                go_wp2_with fail
                refine (SP1.out _ s11).mono ?_
                rintro e Y12 ⟨rfl, hz12⟩
                have s12 : Below Y7.heap.size Y7 Y12 := s11.trans (hz12.mono s11.size)
                go_wp2_with fail
                go_ret
                exact ⟨rfl, ky7.trans (s12.mono ky7.size)⟩
  · have hre' : roundErr ps rs f ≠ 0 := hre
    go_wp2_with fail
    refine (Round.roundBegun_c _).mono ?_
    rintro e W2 ⟨rfl, hb2⟩
    go_wp2_with fail
    go_ret
    exact ⟨rfl, k1.trans (hb2.mono k1.size)⟩
end Go.Proofs.YtlfccloaoopadagGreat.Sum
