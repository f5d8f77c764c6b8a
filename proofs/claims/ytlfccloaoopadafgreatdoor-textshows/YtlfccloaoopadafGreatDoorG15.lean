/-
  The developers' reading of texts, in plain words: predicates, rules, programs; what is read as a right program is its text, and the text of a right program is read.
-/
import Derived.Test.YtlfccloaoopadafGreatDoorG10
import Derived.Test.YtlfccloaoopadafGreatDoorG14
import Derived.Deep.RegionHeld3
namespace Go.Proofs.YtlfccloaoopadafGreatDoor.Text
open Rule (kindOf arityOf atomErr ruleErr termOk)
open Prog (progErr)

def predW : List UInt8 := [112, 114, 101, 100, 32]
def isPredR (s : List UInt8) : Bool := (eatL predW s).isSome && !(eatL (predW ++ [61]) s).isSome && !(eatL (predW ++ [58]) s).isSome
def predR (s : List UInt8) : Option (Prd × List UInt8) :=
  (eatL predW s).bind fun s => (runL isLow s).bind fun x => (eatL [32] x.2).bind fun s => (numL s).bind fun y => (eatL [32] y.2).bind fun s => (numL s).bind fun z => (eatL [10] z.2).bind fun s =>
    some (⟨⟨x.1.toArray⟩, y.1, z.1⟩, s)
theorem bl_of (r : List UInt8) : bl ⟨r.toArray⟩ = r := by unfold bl; simp
theorem of_bl (b : ByteArray) : (⟨(bl b).toArray⟩ : ByteArray) = b := bl_inj (bl_of _)
theorem pred_some {s u : List UInt8} {q : Prd} (h : predR s = some (q, u)) (ha : q.arity ≤ 99) (hk : q.kind ≤ 99) : s = predL q ++ u := by
  unfold predR at h
  obtain ⟨s1, h1, h⟩ := Option.bind_eq_some_iff.1 h
  obtain ⟨⟨r, s2⟩, h2, h⟩ := Option.bind_eq_some_iff.1 h
  obtain ⟨s3, h3, h⟩ := Option.bind_eq_some_iff.1 h
  obtain ⟨⟨y, s4⟩, h4, h⟩ := Option.bind_eq_some_iff.1 h
  obtain ⟨s5, h5, h⟩ := Option.bind_eq_some_iff.1 h
  obtain ⟨⟨z, s6⟩, h6, h⟩ := Option.bind_eq_some_iff.1 h
  obtain ⟨s7, h7, h⟩ := Option.bind_eq_some_iff.1 h
  rw [Option.some.injEq, Prod.mk.injEq] at h
  obtain ⟨rfl, rfl⟩ := h
  simp only at ha hk h3 h5 h7
  obtain ⟨e2, _⟩ := runL_some h2
  obtain ⟨e4, _⟩ := num_back h4 ha
  obtain ⟨e6, _⟩ := num_back h6 hk
  rw [eat_iff.1 h1, e2, eat_iff.1 h3, e4, eat_iff.1 h5, e6, eat_iff.1 h7, predL]
  simp only [bl_of, List.append_assoc]
  rfl
theorem dig_head (n : Int) (h0 : 0 ≤ n) (h9 : n ≤ 99) : ∃ b t, bl (dig n) = b :: t ∧ isDig b = true := by
  have := num_dig h0 h9 (t := []) rfl
  rw [List.append_nil] at this
  obtain ⟨r, h1, _⟩ := num_some this
  obtain ⟨e, hne, ha, _⟩ := runL_some h1
  rw [List.append_nil] at e
  cases r with
  | nil => exact absurd rfl hne
  | cons b t => exact ⟨b, t, e, by simp only [List.all_cons, Bool.and_eq_true] at ha; exact ha.1⟩
theorem head_is {p : UInt8 → Bool} {b : UInt8} (u : List UInt8) (h : p b = false) : (([b] ++ u).head?.map p).getD false = false := h
theorem pred_of {q : Prd} (hn : bl q.name ≠ [] ∧ (bl q.name).all isLow = true) (ha : 0 ≤ q.arity ∧ q.arity ≤ 99) (hk : 0 ≤ q.kind ∧ q.kind ≤ 99) (u : List UInt8) : predR (predL q ++ u) = some (q, u) := by
  have e : predL q ++ u = predW ++ (bl q.name ++ ([32] ++ (bl (dig q.arity) ++ ([32] ++ (bl (dig q.kind) ++ ([10] ++ u)))))) := by simp [predL, predW]
  unfold predR
  rw [e, eat_of, Option.bind_some, runL_of hn.1 hn.2 (head_is _ (by decide)), Option.bind_some]
  simp only
  rw [eat_of, Option.bind_some, num_dig ha.1 ha.2 (head_is _ (by decide)), Option.bind_some]
  simp only
  rw [eat_of, Option.bind_some, num_dig hk.1 hk.2 (head_is _ (by decide)), Option.bind_some]
  simp only
  rw [eat_of, Option.bind_some, of_bl]
theorem isPred_of {q : Prd} (hn : bl q.name ≠ [] ∧ (bl q.name).all isLow = true) (u : List UInt8) : isPredR (predL q ++ u) = true := by
  obtain ⟨h1, h2⟩ := hn
  cases hb : bl q.name with
  | nil => exact absurd hb h1
  | cons b t =>
    rw [hb] at h2
    simp only [List.all_cons, Bool.and_eq_true] at h2
    have hb61 : (61 : UInt8) ≠ b := by rintro rfl; exact absurd h2.1 (by decide)
    have hb58 : (58 : UInt8) ≠ b := by rintro rfl; exact absurd h2.1 (by decide)
    simp [isPredR, predL, predW, hb, eatL, hb61, hb58]
/-- the value of a rule, whose predicate has the kind k: from where, and the number -/
def valR (k : Int) (s : List UInt8) : Option ((Int × Int) × List UInt8) :=
  if k = 0 then some ((-1, 0), s)
  else (eatL [32, 61, 32] s).bind fun s => match eatL [35] s with
    | some s => (numL s).bind fun x => (eatL [43] x.2).bind fun s => (numL s).bind fun y => some ((x.1, y.1), y.2)
    | none => (numL s).bind fun y => some ((-1, y.1), y.2)
def aheadR (j : Nat) : List UInt8 := if j = 0 then [32, 58, 45, 32] else [44, 32]
/-- literals, behind j of them, n at the most -/
def bodyR (ps : List Prd) : Nat → Nat → List UInt8 → Option (List Ltr × List UInt8)
  | 0, _, s => some ([], s)
  | n + 1, j, s => match eatL (aheadR j) s with
    | none => some ([], s)
    | some s1 => (atomR ps ((eatL [33] s1).getD s1)).bind fun x => (bodyR ps n (j + 1) x.2).bind fun y => some (⟨(eatL [33] s1).isSome, x.1⟩ :: y.1, y.2)
def ruleR (ps : List Prd) (s : List UInt8) : Option (Rul × List UInt8) :=
  (atomR ps s).bind fun x => (valR (kindOf ps x.1.pred) x.2).bind fun v => (bodyR ps v.2.length 0 v.2).bind fun y => (eatL [46, 10] y.2).bind fun s => some (⟨x.1, v.1.1, v.1.2, y.1⟩, s)
theorem eat_len {p s t : List UInt8} (h : eatL p s = some t) : s.length = p.length + t.length := by rw [eat_iff.1 h, List.length_append]
theorem ahead_len (j : Nat) : 2 ≤ (aheadR j).length := by unfold aheadR; split <;> simp
theorem bang_len (s : List UInt8) : ((eatL [33] s).getD s).length ≤ s.length := by
  cases h : eatL [33] s with
  | none => simp
  | some t => have := eat_len h; simp at this ⊢; omega
theorem atom_len {ps : List Prd} {s u : List UInt8} {a : Atm} (h : atomR ps s = some (a, u)) : u.length < s.length := by
  unfold atomR at h
  obtain ⟨⟨r, s1⟩, h1, h⟩ := Option.bind_eq_some_iff.1 h
  obtain ⟨k, h2, h⟩ := Option.bind_eq_some_iff.1 h
  obtain ⟨⟨ts, s2⟩, h3, h⟩ := Option.bind_eq_some_iff.1 h
  obtain ⟨s3, h4, h⟩ := Option.bind_eq_some_iff.1 h
  rw [Option.some.injEq, Prod.mk.injEq] at h
  obtain ⟨rfl, rfl⟩ := h
  obtain ⟨e1, n1, _⟩ := runL_some h1
  obtain ⟨e3, _⟩ := args_some h3
  have l1 : 0 < r.length := List.length_pos_iff.2 n1
  have l4 : s3.length ≤ s2.length := by
    simp only at h4
    unfold closeR at h4
    split at h4
    · rw [Option.some.injEq] at h4; rw [h4]; exact Nat.le_refl _
    · have := eat_len h4; simp at this; omega
  have l3 := congrArg List.length e3
  have l5 := congrArg List.length e1
  simp only [List.length_append] at l3 l5
  omega
/-- how many may come matters not, as long as there are enough -/
theorem body_fuel (ps : List Prd) : ∀ (n m j : Nat) (s : List UInt8), s.length ≤ n → s.length ≤ m → bodyR ps n j s = bodyR ps m j s := by
  have nil0 : ∀ (n j : Nat), bodyR ps n j [] = some ([], []) := by
    intro n j
    cases n with
    | zero => rfl
    | succ n =>
      rw [bodyR]
      have : eatL (aheadR j) [] = none := by unfold aheadR; split <;> rfl
      rw [this]
  intro n
  induction n with
  | zero =>
    intro m j s h1 h2
    have : s = [] := List.length_eq_zero_iff.1 (by omega)
    subst this
    rw [nil0, nil0]
  | succ n ih =>
    intro m j s h1 h2
    cases m with
    | zero =>
      have : s = [] := List.length_eq_zero_iff.1 (by omega)
      subst this
      rw [nil0, nil0]
    | succ m =>
      rw [bodyR, bodyR]
      cases h : eatL (aheadR j) s with
      | none => rfl
      | some s1 =>
        simp only
        cases h2' : atomR ps ((eatL [33] s1).getD s1) with
        | none => rfl
        | some x =>
          obtain ⟨a, u⟩ := x
          have l1 := eat_len h
          have l2 := ahead_len j
          have l3 := bang_len s1
          have l4 := atom_len h2'
          simp only [Option.bind_some]
          rw [ih m (j + 1) u (by omega) (by omega)]
theorem body_some {ps : List Prd} : ∀ {n j : Nat} {s u : List UInt8} {ls : List Ltr}, s.length ≤ n → bodyR ps n j s = some (ls, u) → s = litsL ps ls j ++ u ∧ (∀ l ∈ ls, AtomRead ps l.atom) ∧ eatL (aheadR (j + ls.length)) u = none
  | 0, j, s, u, ls, hn, h => by
    have : s = [] := List.length_eq_zero_iff.1 (by omega)
    subst this
    rw [bodyR, Option.some.injEq, Prod.mk.injEq] at h
    obtain ⟨rfl, rfl⟩ := h
    refine ⟨rfl, (fun l hl => by cases hl), ?_⟩
    unfold aheadR; split <;> rfl
  | n + 1, j, s, u, ls, hn, h => by
    rw [bodyR] at h
    cases h1 : eatL (aheadR j) s with
    | none =>
      rw [h1] at h
      simp only [Option.some.injEq, Prod.mk.injEq] at h
      obtain ⟨rfl, rfl⟩ := h
      exact ⟨rfl, (fun l hl => by cases hl), h1⟩
    | some s1 =>
      rw [h1] at h
      simp only at h
      obtain ⟨⟨a, s2⟩, h2, h⟩ := Option.bind_eq_some_iff.1 h
      obtain ⟨⟨ls', s3⟩, h3, h⟩ := Option.bind_eq_some_iff.1 h
      rw [Option.some.injEq, Prod.mk.injEq] at h
      obtain ⟨rfl, rfl⟩ := h
      have l1 := eat_len h1
      have l2 := ahead_len j
      have l3 := bang_len s1
      have l4 := atom_len h2
      obtain ⟨e2, o2⟩ := atom_some h2
      obtain ⟨e3, o3, f3⟩ := body_some (by simp only; omega) h3
      refine ⟨?_, ?_, ?_⟩
      · have e4 : s1 = (if (eatL [33] s1).isSome then [33] else []) ++ (eatL [33] s1).getD s1 := by
          cases hb : eatL [33] s1 with
          | none => rfl
          | some t => exact eat_iff.1 hb
        simp only at e3
        rw [e2, e3] at e4
        generalize (eatL [33] s1).isSome = b at e4 ⊢
        rw [eat_iff.1 h1, e4, litsL]
        unfold aheadR
        simp only [List.append_assoc]
      · intro l hl
        rcases List.mem_cons.1 hl with rfl | hl
        · exact o2
        · exact o3 l hl
      · rw [List.length_cons, show j + (ls'.length + 1) = j + 1 + ls'.length by omega]
        exact f3
end Go.Proofs.YtlfccloaoopadafGreatDoor.Text

/-
  The developers' reading of texts, in plain words: what is read as a right program is its text, and the text of a right program is read.
-/
namespace Go.Proofs.YtlfccloaoopadafGreatDoor.Text
open Rule (kindOf arityOf atomErr ruleErr termOk)
open Prog (progErr)

theorem atom_head {ps : List Prd} (hN : Names ps) {a : Atm} (h : AtomRead ps a) (u : List UInt8) : ∃ b t, atomL ps a ++ u = b :: t ∧ isLow b = true := by
  obtain ⟨k, hk, hp⟩ := h.there
  have hq : nameOf ps a.pred = ps[k].name := by unfold nameOf; rw [hp, Int.toNat_natCast, List.getElem?_eq_getElem hk]; rfl
  obtain ⟨l1, l2⟩ := hN.low ps[k] (List.getElem_mem hk)
  unfold atomL
  rw [hq]
  cases hb : bl ps[k].name with
  | nil => exact absurd hb l1
  | cons b t =>
    rw [hb] at l2
    simp only [List.all_cons, Bool.and_eq_true] at l2
    exact ⟨b, t ++ argsL a.args 0 ++ (if a.args = [] then [] else [41]) ++ u, by simp, l2.1⟩
theorem eat_not {a b : UInt8} (h : a ≠ b) (p t : List UInt8) : eatL (a :: p) (b :: t) = none := by rw [eatL, if_neg h]
theorem ahead_not (j : Nat) (u : List UInt8) : eatL (aheadR j) (46 :: u) = none := by
  unfold aheadR
  split <;> exact eat_not (by decide) _ _
/-- what stands behind an atom -/
theorem lits_head (ps : List Prd) (ls : List Ltr) (j : Nat) (u : List UInt8) : ∃ b t, litsL ps ls j ++ 46 :: u = b :: t ∧ isLow b = false ∧ isDig b = false := by
  cases ls with
  | nil => exact ⟨46, u, rfl, by decide, by decide⟩
  | cons l ls =>
    rw [litsL]
    split
    · exact ⟨32, _, rfl, by decide, by decide⟩
    · exact ⟨44, _, rfl, by decide, by decide⟩
theorem body_of {ps : List Prd} (hN : Names ps) (u : List UInt8) : ∀ (ls : List Ltr) (n j : Nat), (∀ l ∈ ls, AtomRead ps l.atom) → ls.length ≤ n → bodyR ps n j (litsL ps ls j ++ 46 :: u) = some (ls, 46 :: u)
  | [], 0, j, _, _ => rfl
  | [], n + 1, j, _, _ => by
    rw [bodyR]
    show (match eatL (aheadR j) (46 :: u) with | none => _ | some s1 => _) = _
    rw [ahead_not]
    rfl
  | l :: ls, 0, j, _, hn => by simp at hn
  | l :: ls, n + 1, j, h, hn => by
    obtain ⟨ng, a⟩ := l
    have ha := h _ (List.mem_cons_self ..)
    obtain ⟨b, t, e0, hb⟩ := lits_head ps ls (j + 1) u
    have e1 : litsL ps (⟨ng, a⟩ :: ls) j ++ 46 :: u = aheadR j ++ ((if ng then [33] else []) ++ (atomL ps a ++ (litsL ps ls (j + 1) ++ 46 :: u))) := by
      rw [litsL]
      unfold aheadR
      simp only [List.append_assoc]
    have e2 : eatL [33] ((if ng then [33] else []) ++ (atomL ps a ++ (litsL ps ls (j + 1) ++ 46 :: u))) = if ng then some (atomL ps a ++ (litsL ps ls (j + 1) ++ 46 :: u)) else none := by
      cases ng with
      | true => exact eat_of _ _
      | false =>
        obtain ⟨c, t', e, hc⟩ := atom_head hN ha (litsL ps ls (j + 1) ++ 46 :: u)
        simp only [Bool.false_eq_true, if_false, List.nil_append]
        rw [e]
        exact eat_not (by rintro rfl; exact absurd hc (by decide)) _ _
    rw [bodyR, e1, eat_of]
    simp only
    rw [e2]
    have e3 : (Option.getD (if ng = true then some (atomL ps a ++ (litsL ps ls (j + 1) ++ 46 :: u)) else none) ((if ng then [33] else []) ++ (atomL ps a ++ (litsL ps ls (j + 1) ++ 46 :: u)))) = atomL ps a ++ (litsL ps ls (j + 1) ++ 46 :: u) := by cases ng <;> rfl
    have e4 : (if ng = true then some (atomL ps a ++ (litsL ps ls (j + 1) ++ 46 :: u)) else none).isSome = ng := by cases ng <;> rfl
    rw [e3, e4, atom_of hN ha (by rw [e0]; simpa using hb.1), Option.bind_some]
    simp only
    rw [body_of hN u ls n (j + 1) (fun l hl => h l (List.mem_cons_of_mem _ hl)) (by simpa using hn)]
    rfl
theorem val_some {ps : List Prd} {r : Rul} {s u : List UInt8} (h : valR (kindOf ps r.head.pred) s = some ((r.src, r.n), u)) (hs : r.src ≤ 99) (hn : r.n ≤ 99) : s = valL ps r ++ u := by
  unfold valR at h
  unfold valL
  split at h
  · rename_i hk
    rw [Option.some.injEq, Prod.mk.injEq] at h
    rw [if_pos hk, h.2]
    rfl
  · rename_i hk
    rw [if_neg hk]
    obtain ⟨s1, h1, h⟩ := Option.bind_eq_some_iff.1 h
    split at h
    · rename_i s2 h2
      obtain ⟨⟨x, s3⟩, h3, h⟩ := Option.bind_eq_some_iff.1 h
      obtain ⟨s4, h4, h⟩ := Option.bind_eq_some_iff.1 h
      obtain ⟨⟨y, s5⟩, h5, h⟩ := Option.bind_eq_some_iff.1 h
      simp only [Option.some.injEq, Prod.mk.injEq] at h
      obtain ⟨⟨rfl, rfl⟩, rfl⟩ := h
      simp only at h4
      obtain ⟨e3, x0, _⟩ := num_back h3 hs
      obtain ⟨e5, _⟩ := num_back h5 hn
      rw [if_pos x0, eat_iff.1 h1, eat_iff.1 h2, e3, eat_iff.1 h4, e5]
      simp
    · obtain ⟨⟨y, s5⟩, h5, h⟩ := Option.bind_eq_some_iff.1 h
      simp only [Option.some.injEq, Prod.mk.injEq] at h
      obtain ⟨⟨e, rfl⟩, rfl⟩ := h
      obtain ⟨e5, _⟩ := num_back h5 hn
      rw [if_neg (by omega), eat_iff.1 h1, e5]
      simp
structure ValRead (ps : List Prd) (r : Rul) : Prop where
  src : -1 ≤ r.src ∧ r.src ≤ 99
  n : 0 ≤ r.n ∧ r.n ≤ 99
  plain : kindOf ps r.head.pred = 0 → r.src = -1 ∧ r.n = 0
theorem val_of {ps : List Prd} {r : Rul} (h : ValRead ps r) {u : List UInt8} (hu : (u.head?.map isDig).getD false = false) : valR (kindOf ps r.head.pred) (valL ps r ++ u) = some ((r.src, r.n), u) := by
  unfold valR valL
  by_cases hk : kindOf ps r.head.pred = 0
  · rw [if_pos hk, if_pos hk, (h.plain hk).1, (h.plain hk).2]
    rfl
  · rw [if_neg hk, if_neg hk]
    by_cases hs : 0 ≤ r.src
    · rw [if_pos hs]
      have e : [32, 61, 32, 35] ++ bl (dig r.src) ++ [43] ++ bl (dig r.n) ++ u = [32, 61, 32] ++ ([35] ++ (bl (dig r.src) ++ ([43] ++ (bl (dig r.n) ++ u)))) := by simp
      rw [e, eat_of, Option.bind_some, eat_of]
      simp only
      rw [num_dig hs h.src.2 (head_is _ (by decide)), Option.bind_some]
      simp only
      rw [eat_of, Option.bind_some, num_dig h.n.1 h.n.2 hu]
      rfl
    · rw [if_neg hs]
      have e : [32, 61, 32] ++ bl (dig r.n) ++ u = [32, 61, 32] ++ (bl (dig r.n) ++ u) := by simp
      obtain ⟨b, t, e1, hb⟩ := dig_head r.n h.n.1 h.n.2
      have e2 : eatL [35] (bl (dig r.n) ++ u) = none := by
        rw [e1]
        exact eat_not (by rintro rfl; exact absurd hb (by decide)) _ _
      rw [e, eat_of, Option.bind_some, e2]
      simp only
      rw [num_dig h.n.1 h.n.2 hu]
      have e3 : r.src = -1 := by have := h.src.1; omega
      rw [e3]
      rfl
structure RuleRead (ps : List Prd) (r : Rul) : Prop where
  head : AtomRead ps r.head
  val : ValRead ps r
  body : ∀ l ∈ r.body, AtomRead ps l.atom
theorem val_len {k : Int} {s u : List UInt8} {v : Int × Int} (h : valR k s = some (v, u)) : u.length ≤ s.length := by
  have num_len : ∀ {s t : List UInt8} {n : Int}, numL s = some (n, t) → t.length ≤ s.length := by
    intro s t n h
    obtain ⟨r, h1, _⟩ := num_some h
    rw [(runL_some h1).1, List.length_append]
    omega
  unfold valR at h
  split at h
  · rw [Option.some.injEq, Prod.mk.injEq] at h
    rw [h.2]
    exact Nat.le_refl _
  · obtain ⟨s1, h1, h⟩ := Option.bind_eq_some_iff.1 h
    have l1 := eat_len h1
    split at h
    · rename_i s2 h2
      have l2 := eat_len h2
      obtain ⟨⟨x, s3⟩, h3, h⟩ := Option.bind_eq_some_iff.1 h
      obtain ⟨s4, h4, h⟩ := Option.bind_eq_some_iff.1 h
      obtain ⟨⟨y, s5⟩, h5, h⟩ := Option.bind_eq_some_iff.1 h
      simp only [Option.some.injEq, Prod.mk.injEq] at h
      obtain ⟨_, rfl⟩ := h
      simp only at h4
      have l3 := num_len h3
      have l4 := eat_len h4
      have l5 := num_len h5
      omega
    · obtain ⟨⟨y, s5⟩, h5, h⟩ := Option.bind_eq_some_iff.1 h
      simp only [Option.some.injEq, Prod.mk.injEq] at h
      obtain ⟨_, rfl⟩ := h
      have l5 := num_len h5
      omega
theorem rule_some {ps : List Prd} {s u : List UInt8} {r : Rul} (h : ruleR ps s = some (r, u)) : u.length < s.length ∧ (r.src ≤ 99 → r.n ≤ 99 → s = ruleL ps r ++ u) := by
  unfold ruleR at h
  obtain ⟨⟨a, s1⟩, h1, h⟩ := Option.bind_eq_some_iff.1 h
  obtain ⟨⟨⟨x, y⟩, s2⟩, h2, h⟩ := Option.bind_eq_some_iff.1 h
  obtain ⟨⟨ls, s3⟩, h3, h⟩ := Option.bind_eq_some_iff.1 h
  obtain ⟨s4, h4, h⟩ := Option.bind_eq_some_iff.1 h
  rw [Option.some.injEq, Prod.mk.injEq] at h
  obtain ⟨rfl, rfl⟩ := h
  simp only at h2 h3 h4
  obtain ⟨e1, _⟩ := atom_some h1
  obtain ⟨e3, _, _⟩ := body_some (Nat.le_refl _) h3
  have e4 := eat_iff.1 h4
  have l1 := atom_len h1
  have l2 := val_len h2
  have l3 := congrArg List.length e3
  have l4 := eat_len h4
  rw [List.length_append] at l3
  refine ⟨by omega, fun hs hn => ?_⟩
  simp only at hs hn
  have e2 := val_some (r := ⟨a, x, y, ls⟩) h2 hs hn
  rw [e1, e2, e3, e4, ruleL]
  simp
theorem rule_of {ps : List Prd} (hN : Names ps) {r : Rul} (h : RuleRead ps r) (u : List UInt8) : ruleR ps (ruleL ps r ++ u) = some (r, u) := by
  have e : ruleL ps r ++ u = atomL ps r.head ++ (valL ps r ++ (litsL ps r.body 0 ++ 46 :: (10 :: u))) := by simp [ruleL]
  obtain ⟨b, t, e0, hb1, hb2⟩ := lits_head ps r.body 0 (10 :: u)
  have hv : ((valL ps r ++ (litsL ps r.body 0 ++ 46 :: (10 :: u))).head?.map isLow).getD false = false := by
    rw [e0]
    unfold valL
    split
    · simpa using hb1
    · split <;> exact (by decide : isLow 32 = false)
  unfold ruleR
  rw [e, atom_of hN h.head hv, Option.bind_some]
  simp only
  rw [val_of h.val (by rw [e0]; simpa using hb2), Option.bind_some]
  simp only
  rw [body_of hN (10 :: u) r.body _ 0 h.body ?_, Option.bind_some]
  · show (eatL [46, 10] ([46, 10] ++ u)).bind _ = _
    rw [eat_of]
    rfl
  · rw [List.length_append]
    have : ∀ (ls : List Ltr) (j : Nat), ls.length ≤ (litsL ps ls j).length := by
      intro ls
      induction ls with
      | nil => intro j; exact Nat.zero_le _
      | cons l ls ih =>
        intro j
        have := ih (j + 1)
        rw [litsL]
        simp only [List.length_append, List.length_cons]
        split <;> simp <;> omega
    have := this r.body 0
    omega
theorem rule_read {ps : List Prd} {r : Rul} (h : ruleErr ps r = 0) : RuleRead ps r := by
  have hr : ∀ a : Atm, atomErr ps a = 0 → AtomRead ps a := by
    intro a ha
    obtain ⟨h1, h2⟩ := Rule.atom_right ha
    refine ⟨Rule.isPred_iff.1 h1, ?_, h2⟩
    unfold atomErr at ha
    rw [if_pos h1] at ha
    split at ha
    · rename_i e
      omega
    · cases ha
  obtain ⟨h1, h2, h3, h4, h5, h6, h7⟩ := Fire.rule_parts h
  refine ⟨hr _ h1, ⟨⟨h3, by omega⟩, ⟨h5, by omega⟩, ?_⟩, fun l hl => hr _ (h2 l hl)⟩
  intro hk
  rw [ruleErr] at h
  split at h
  · contradiction
  · split at h
    · contradiction
    · split at h
      · contradiction
      · split at h
        · contradiction
        · unfold Rule.valueErr at h
          split at h
          · contradiction
          · split at h
            · contradiction
            · rename_i hv
              by_cases e1 : r.src = -1
              · by_cases e2 : r.n = 0
                · exact ⟨e1, e2⟩
                · exact absurd ⟨hk, .inr e2⟩ hv
              · exact absurd ⟨hk, .inl e1⟩ hv
end Go.Proofs.YtlfccloaoopadafGreatDoor.Text

/-
  The developers' reading of texts, in plain words: programs.
-/
namespace Go.Proofs.YtlfccloaoopadafGreatDoor.Text
open Rule (kindOf arityOf atomErr ruleErr termOk)
open Prog (progErr)

def predsR : Nat → List UInt8 → Option (List Prd × List UInt8)
  | 0, s => some ([], s)
  | n + 1, s => if isPredR s then (predR s).bind fun x => (predsR n x.2).bind fun y => some (x.1 :: y.1, y.2) else some ([], s)
def rulesR (ps : List Prd) : Nat → List UInt8 → Option (List Rul)
  | 0, s => if s = [] then some [] else none
  | n + 1, s => if s = [] then some [] else (ruleR ps s).bind fun x => (rulesR ps n x.2).bind fun y => some (x.1 :: y)
/-- what is read of a text, be it right or not -/
def progR (s : List UInt8) : Option (List Prd × List Rul) := (predsR s.length s).bind fun x => (rulesR x.1 x.2.length x.2).bind fun y => some (x.1, y)

theorem pred_len {s u : List UInt8} {q : Prd} (h : predR s = some (q, u)) : u.length < s.length := by
  have num_len : ∀ {s t : List UInt8} {n : Int}, numL s = some (n, t) → t.length ≤ s.length := by
    intro s t n h
    obtain ⟨r, h1, _⟩ := num_some h
    rw [(runL_some h1).1, List.length_append]
    omega
  unfold predR at h
  obtain ⟨s1, h1, h⟩ := Option.bind_eq_some_iff.1 h
  obtain ⟨⟨r, s2⟩, h2, h⟩ := Option.bind_eq_some_iff.1 h
  obtain ⟨s3, h3, h⟩ := Option.bind_eq_some_iff.1 h
  obtain ⟨⟨y, s4⟩, h4, h⟩ := Option.bind_eq_some_iff.1 h
  obtain ⟨s5, h5, h⟩ := Option.bind_eq_some_iff.1 h
  obtain ⟨⟨z, s6⟩, h6, h⟩ := Option.bind_eq_some_iff.1 h
  obtain ⟨s7, h7, h⟩ := Option.bind_eq_some_iff.1 h
  rw [Option.some.injEq, Prod.mk.injEq] at h
  obtain ⟨rfl, rfl⟩ := h
  simp only at h3 h5 h7
  have l1 := eat_len h1
  have l2 := congrArg List.length (runL_some h2).1
  have l3 := eat_len h3
  have l4 := num_len h4
  have l5 := eat_len h5
  have l6 := num_len h6
  have l7 := eat_len h7
  rw [List.length_append] at l2
  simp only [List.length_cons, List.length_nil] at l3
  omega
/-- what a predicate that is read is like -/
theorem pred_low {s u : List UInt8} {q : Prd} (h : predR s = some (q, u)) : 0 ≤ q.arity ∧ q.arity ≤ 999999 ∧ 0 ≤ q.kind ∧ q.kind ≤ 999999 ∧ q.name.size ≤ s.length := by
  have num_in : ∀ {s t : List UInt8} {n : Int}, numL s = some (n, t) → 0 ≤ n ∧ n ≤ 999999 := by
    intro s t n h
    obtain ⟨r, h1, h2, _, h4⟩ := num_some h
    obtain ⟨_, _, ha, _⟩ := runL_some h1
    refine ⟨by rw [← h4]; exact say_ge r 0 ha (Int.le_refl _), ?_⟩
    have key : ∀ (r : List UInt8) (m : Int), r.all isDig = true → sayL r m ≤ (m + 1) * 10 ^ r.length - 1 := by
      intro r
      induction r with
      | nil => intro m _; simp [sayL]
      | cons b r ih =>
        intro m hr
        simp only [List.all_cons, Bool.and_eq_true] at hr
        have hb : b.toNat ≤ 57 := by have := hr.1; unfold isDig at this; simp at this; exact this.2
        have h := ih (10 * m + ((b.toNat : Int) - 48)) hr.2
        rw [sayL, List.length_cons]
        have hp : (0 : Int) ≤ 10 ^ r.length := Int.le_of_lt (Int.pow_pos (by decide))
        have : (10 * m + ((b.toNat : Int) - 48) + 1) * 10 ^ r.length ≤ (m + 1) * 10 * 10 ^ r.length := Int.mul_le_mul_of_nonneg_right (by omega) hp
        rw [Int.pow_succ, Int.mul_comm (10 ^ r.length) 10, ← Int.mul_assoc]
        omega
    have := key r 0 ha
    rw [h4] at this
    have h6 : (10 : Int) ^ r.length ≤ 10 ^ 6 := by
      have : (10 : Nat) ^ r.length ≤ 10 ^ 6 := Nat.pow_le_pow_right (by decide) h2
      exact_mod_cast this
    omega
  unfold predR at h
  obtain ⟨s1, h1, h⟩ := Option.bind_eq_some_iff.1 h
  obtain ⟨⟨r, s2⟩, h2, h⟩ := Option.bind_eq_some_iff.1 h
  obtain ⟨s3, h3, h⟩ := Option.bind_eq_some_iff.1 h
  obtain ⟨⟨y, s4⟩, h4, h⟩ := Option.bind_eq_some_iff.1 h
  obtain ⟨s5, h5, h⟩ := Option.bind_eq_some_iff.1 h
  obtain ⟨⟨z, s6⟩, h6, h⟩ := Option.bind_eq_some_iff.1 h
  obtain ⟨s7, h7, h⟩ := Option.bind_eq_some_iff.1 h
  rw [Option.some.injEq, Prod.mk.injEq] at h
  obtain ⟨rfl, rfl⟩ := h
  have n1 := num_in h4
  have n2 := num_in h6
  refine ⟨n1.1, n1.2, n2.1, n2.2, ?_⟩
  have l1 := eat_len h1
  have l2 := congrArg List.length (runL_some h2).1
  rw [List.length_append] at l2
  have : (⟨r.toArray⟩ : ByteArray).size = r.length := by rw [← bl_size, bl_of]
  simp only [this]
  omega
theorem preds_some : ∀ {n : Nat} {s u : List UInt8} {ps : List Prd}, s.length ≤ n → predsR n s = some (ps, u) → (∀ q ∈ ps, q.arity ≤ 99 ∧ q.kind ≤ 99) → s = ps.flatMap predL ++ u
  | 0, s, u, ps, hn, h, _ => by
    rw [predsR, Option.some.injEq, Prod.mk.injEq] at h
    obtain ⟨rfl, rfl⟩ := h
    rfl
  | n + 1, s, u, ps, hn, h, hq => by
    rw [predsR] at h
    split at h
    · obtain ⟨⟨q, s1⟩, h1, h⟩ := Option.bind_eq_some_iff.1 h
      obtain ⟨⟨ps', s2⟩, h2, h⟩ := Option.bind_eq_some_iff.1 h
      rw [Option.some.injEq, Prod.mk.injEq] at h
      obtain ⟨rfl, rfl⟩ := h
      have l1 := pred_len h1
      have q1 := hq q (List.mem_cons_self ..)
      have e2 := preds_some (by simp only; omega) h2 (fun x hx => hq x (List.mem_cons_of_mem _ hx))
      simp only at e2
      rw [pred_some h1 q1.1 q1.2, e2]
      simp
    · rw [Option.some.injEq, Prod.mk.injEq] at h
      obtain ⟨rfl, rfl⟩ := h
      rfl
theorem rules_some {ps : List Prd} : ∀ {n : Nat} {s : List UInt8} {rs : List Rul}, rulesR ps n s = some rs → (∀ r ∈ rs, r.src ≤ 99 ∧ r.n ≤ 99) → s = rs.flatMap (ruleL ps)
  | 0, s, rs, h, _ => by
    rw [rulesR] at h
    split at h
    · rw [Option.some.injEq] at h
      subst h
      assumption
    · cases h
  | n + 1, s, rs, h, hr => by
    rw [rulesR] at h
    split at h
    · rw [Option.some.injEq] at h
      subst h
      assumption
    · obtain ⟨⟨r, s1⟩, h1, h⟩ := Option.bind_eq_some_iff.1 h
      obtain ⟨rs', h2, h⟩ := Option.bind_eq_some_iff.1 h
      rw [Option.some.injEq] at h
      subst h
      have q1 := hr r (List.mem_cons_self ..)
      rw [(rule_some h1).2 q1.1 q1.2]
      have := rules_some h2 (fun x hx => hr x (List.mem_cons_of_mem _ hx))
      simp only at this
      rw [this]
      simp
/-- what a right program asks of its text -/
structure ProgRead (ps : List Prd) (rs : List Rul) : Prop where
  names : Names ps
  preds : ∀ q ∈ ps, (0 ≤ q.arity ∧ q.arity ≤ 99) ∧ (0 ≤ q.kind ∧ q.kind ≤ 99)
  rules : ∀ r ∈ rs, RuleRead ps r
theorem low_prog {b : Nat} : Prog.letter b = (decide (97 ≤ b) && decide (b ≤ 122)) := rfl
theorem names_of {ps : List Prd} (h1 : ps.any (fun q => !Prog.isName q.name) = false) (h2 : Prog.twice ps = false) : Names ps := by
  refine ⟨fun q hq => ?_, fun i j hij hj hi he => ?_⟩
  · have := List.any_eq_false.1 h1 q hq
    have this : Prog.isName q.name = true := by cases e : Prog.isName q.name with | true => rfl | false => rw [e] at this; exact absurd rfl this
    rw [Prog.isName, Bool.and_eq_true] at this
    obtain ⟨n1, n2⟩ := this
    refine ⟨fun e => ?_, ?_⟩
    · have : q.name.size = 0 := by rw [← bl_size, e]; rfl
      rw [this] at n2
      exact absurd n2 (by decide)
    · unfold Prog.bytes at n1
      rw [List.all_map] at n1
      exact n1
  · have := List.any_eq_false.1 h2 j (List.mem_range.2 hj)
    apply this
    refine List.any_eq_true.2 ⟨ps[i], ?_, ?_⟩
    · rw [List.mem_take_iff_getElem]
      exact ⟨i, by omega, rfl⟩
    · rw [List.getElem?_eq_getElem hj]
      simp only [Option.map_some, Option.getD_some]
      rw [bl_inj he]
      simp
theorem prog_read {ps : List Prd} {rs : List Rul} (h : progErr ps rs = 0) : ProgRead ps rs := by
  have h1 := (Prog.prog_zero h).1
  rw [Prog.partsErr] at h1
  split at h1
  · contradiction
  · split at h1
    · contradiction
    · rename_i hnm
      split at h1
      · contradiction
      · rename_i htw
        split at h1
        · contradiction
        · rename_i har
          split at h1
          · contradiction
          · rename_i hki
            refine ⟨names_of (by simpa using hnm) (by simpa using htw), fun q hq => ?_, fun r hr => rule_read (Prog.rules_all h1 r hr)⟩
            have n2 : 0 ≤ q.arity ∧ q.arity ≤ 2 := by
              have : ¬ (!Lat.within q.arity 0 2) = true := fun e => har (List.any_eq_true.2 ⟨q, hq, e⟩)
              simpa [Lat.within] using this
            have n3 : 0 ≤ q.kind ∧ q.kind ≤ 3 := by
              have : ¬ (!Lat.within q.kind 0 3) = true := fun e => hki (List.any_eq_true.2 ⟨q, hq, e⟩)
              simpa [Lat.within] using this
            omega
/-- WHAT IS READ AS A RIGHT PROGRAM IS ITS TEXT -/
theorem prog_some {s : List UInt8} {ps : List Prd} {rs : List Rul} (h : progR s = some (ps, rs)) (hr : progErr ps rs = 0) : s = progL ps rs := by
  unfold progR at h
  obtain ⟨⟨ps', s1⟩, h1, h⟩ := Option.bind_eq_some_iff.1 h
  obtain ⟨rs', h2, h⟩ := Option.bind_eq_some_iff.1 h
  rw [Option.some.injEq, Prod.mk.injEq] at h
  obtain ⟨rfl, rfl⟩ := h
  obtain ⟨p1, p2, p3⟩ := prog_read hr
  have e1 := preds_some (Nat.le_refl _) h1 (fun q hq => ⟨(p2 q hq).1.2, (p2 q hq).2.2⟩)
  have e2 := rules_some h2 (fun r hr => ⟨(p3 r hr).val.src.2, (p3 r hr).val.n.2⟩)
  simp only at e2
  rw [e1, e2]
  rfl
theorem rule_not_pred {ps : List Prd} (hN : Names ps) {r : Rul} (h : RuleRead ps r) (u : List UInt8) : isPredR (ruleL ps r ++ u) = false := by
  cases hp : eatL predW (ruleL ps r ++ u) with
  | none => simp [isPredR, hp]
  | some t =>
    have e := eat_iff.1 hp
    obtain ⟨k, hk, hpk⟩ := h.head.there
    have hq : nameOf ps r.head.pred = ps[k].name := by unfold nameOf; rw [hpk, Int.toNat_natCast, List.getElem?_eq_getElem hk]; rfl
    obtain ⟨l1, l2⟩ := hN.low ps[k] (List.getElem_mem hk)
    have e1 : ruleL ps r ++ u = bl ps[k].name ++ (argsL r.head.args 0 ++ ((if r.head.args = [] then [] else [41]) ++ (valL ps r ++ (litsL ps r.body 0 ++ ([46, 10] ++ u))))) := by
      simp [ruleL, atomL, hq]
    obtain ⟨b, t', e0, hb1, _⟩ := lits_head ps r.body 0 (10 :: u)
    -- what stands behind the name
    have key : ∃ x : List UInt8, (argsL r.head.args 0 ++ ((if r.head.args = [] then [] else [41]) ++ (valL ps r ++ (litsL ps r.body 0 ++ ([46, 10] ++ u))))) = x ∧ ((∃ y, x = 40 :: y) ∨ (∃ y, x = 32 :: 61 :: y) ∨ (∃ y, x = 32 :: 58 :: y) ∨ ∃ y, x = 46 :: y) := by
      refine ⟨_, rfl, ?_⟩
      cases ha : r.head.args with
      | cons a ts => exact .inl ⟨_, by simp only [argsL, if_true, List.cons_append]; rfl⟩
      | nil =>
        simp only [argsL, if_true, List.nil_append]
        unfold valL
        split
        · cases hl : r.body with
          | nil => exact .inr (.inr (.inr ⟨_, rfl⟩))
          | cons l ls => exact .inr (.inr (.inl ⟨_, by simp only [litsL, if_true, List.cons_append, List.nil_append]; rfl⟩))
        · split
          · exact .inr (.inl ⟨_, by simp only [List.cons_append, List.nil_append]; rfl⟩)
          · exact .inr (.inl ⟨_, by simp only [List.cons_append, List.nil_append]; rfl⟩)
    obtain ⟨x, ex, hx⟩ := key
    rw [ex] at e1
    rw [e1] at e
    have lowS : ∀ c : UInt8, isLow c = true → c ≠ 32 := by rintro c hc rfl; exact absurd hc (by decide)
    -- the name is the word
    have hname : bl ps[k].name = [112, 114, 101, 100] ∧ ∃ y, x = 32 :: y := by
      generalize bl ps[k].name = m at *
      have step : ∀ (m w : List UInt8), m.all isLow = true → w.all isLow = true → m ++ x = w ++ 32 :: t → (∀ y, x = 40 :: y → isLow 40 = false) → m = w ∧ x = 32 :: t := by
        intro m
        induction m with
        | nil =>
          intro w _ hw he _
          cases w with
          | nil => exact ⟨rfl, he⟩
          | cons c w =>
            simp only [List.all_cons, Bool.and_eq_true] at hw
            rcases hx with ⟨y, rfl⟩ | ⟨y, rfl⟩ | ⟨y, rfl⟩ | ⟨y, rfl⟩ <;> (simp only [List.nil_append, List.cons_append, List.cons.injEq] at he; rw [← he.1] at hw; exact absurd hw.1 (by decide))
        | cons a m ih =>
          intro w hm hw he hz
          simp only [List.all_cons, Bool.and_eq_true] at hm
          cases w with
          | nil =>
            simp only [List.nil_append, List.cons_append, List.cons.injEq] at he
            exact absurd he.1 (lowS a hm.1)
          | cons c w =>
            simp only [List.all_cons, Bool.and_eq_true] at hw
            simp only [List.cons_append, List.cons.injEq] at he
            obtain ⟨rfl, he⟩ := he
            obtain ⟨rfl, hx'⟩ := ih w hm.2 hw.2 he hz
            exact ⟨rfl, hx'⟩
      obtain ⟨r1, r2⟩ := step m [112, 114, 101, 100] l2 (by decide) (by simpa [predW] using e) (fun _ _ => by decide)
      exact ⟨r1, t, r2⟩
    obtain ⟨hn, y, rfl⟩ := hname
    rcases hx with ⟨z, hz⟩ | ⟨z, hz⟩ | ⟨z, hz⟩ | ⟨z, hz⟩
    · cases hz
    · cases hz
      simp [isPredR, e1, hn, predW, eatL]
    · cases hz
      simp [isPredR, e1, hn, predW, eatL]
    · cases hz
theorem preds_of {u : List UInt8} (hu : isPredR u = false) : ∀ (ps : List Prd) (n : Nat), (∀ q ∈ ps, (bl q.name ≠ [] ∧ (bl q.name).all isLow = true) ∧ (0 ≤ q.arity ∧ q.arity ≤ 99) ∧ (0 ≤ q.kind ∧ q.kind ≤ 99)) → ps.length ≤ n → predsR n (ps.flatMap predL ++ u) = some (ps, u)
  | [], 0, _, _ => rfl
  | [], n + 1, _, _ => by
    rw [predsR]
    simp [hu]
  | q :: ps, 0, _, hn => by simp at hn
  | q :: ps, n + 1, h, hn => by
    obtain ⟨q1, q2, q3⟩ := h q (List.mem_cons_self ..)
    rw [predsR, List.flatMap_cons, List.append_assoc, isPred_of q1, if_pos rfl, pred_of q1 q2 q3, Option.bind_some]
    simp only
    rw [preds_of hu ps n (fun x hx => h x (List.mem_cons_of_mem _ hx)) (by simpa using hn)]
    rfl
theorem rule_pos (ps : List Prd) (r : Rul) (u : List UInt8) : ruleL ps r ++ u ≠ [] := by simp [ruleL]
theorem rules_of {ps : List Prd} (hN : Names ps) : ∀ (rs : List Rul) (n : Nat), (∀ r ∈ rs, RuleRead ps r) → rs.length ≤ n → rulesR ps n (rs.flatMap (ruleL ps)) = some rs
  | [], 0, _, _ => rfl
  | [], n + 1, _, _ => rfl
  | r :: rs, 0, _, hn => by simp at hn
  | r :: rs, n + 1, h, hn => by
    rw [rulesR, List.flatMap_cons, if_neg (rule_pos _ _ _), rule_of hN (h r (List.mem_cons_self ..)), Option.bind_some]
    simp only
    rw [rules_of hN rs n (fun x hx => h x (List.mem_cons_of_mem _ hx)) (by simpa using hn)]
    rfl
theorem flat_len {α : Type} (f : α → List UInt8) (hf : ∀ a, 1 ≤ (f a).length) : ∀ l : List α, l.length ≤ (l.flatMap f).length
  | [] => Nat.zero_le _
  | a :: l => by
    have := flat_len f hf l
    have := hf a
    rw [List.flatMap_cons, List.length_append, List.length_cons]
    omega
/-- THE TEXT OF A RIGHT PROGRAM IS READ AS IT -/
theorem prog_of {ps : List Prd} {rs : List Rul} (h : progErr ps rs = 0) : progR (progL ps rs) = some (ps, rs) := by
  obtain ⟨p1, p2, p3⟩ := prog_read h
  have hu : isPredR (rs.flatMap (ruleL ps)) = false := by
    cases rs with
    | nil => rfl
    | cons r rs =>
      rw [List.flatMap_cons]
      exact rule_not_pred p1 (p3 r (List.mem_cons_self ..)) _
  have l1 := flat_len predL (fun q => by simp [predL]) ps
  have l2 := flat_len (ruleL ps) (fun r => by simp [ruleL]; omega) rs
  unfold progR progL
  rw [preds_of hu ps _ (fun q hq => ⟨p1.low q hq, p2 q hq⟩) (by rw [List.length_append]; omega), Option.bind_some]
  simp only
  rw [rules_of p1 rs _ p3 l2]
  rfl
end Go.Proofs.YtlfccloaoopadafGreatDoor.Text

/-
  What a right program is, for one who tells it as a text.
-/
namespace Go.Proofs.YtlfccloaoopadafGreatDoor.Text
open Rule (kindOf arityOf atomErr ruleErr termOk)
open Prog (progErr)

structure TellA (ps : List Prd) (a : Atm) : Prop where
  there : ∃ e : Nat, a.pred = (e : Int) ∧ e < ps.length
  terms : ∀ t ∈ a.args, 0 ≤ t.n ∧ t.n ≤ 25
  few : a.args.length ≤ 2
structure Right (ps : List Prd) (rs : List Rul) : Prop where
  preds : ps.length ≤ 5
  rules : rs.length ≤ 8
  name : ∀ q ∈ ps, q.name.size ≤ 8
  arity : ∀ q ∈ ps, 0 ≤ q.arity ∧ q.arity ≤ 2
  kind : ∀ q ∈ ps, 0 ≤ q.kind ∧ q.kind ≤ 3
  head : ∀ r ∈ rs, TellA ps r.head
  src : ∀ r ∈ rs, -1 ≤ r.src ∧ r.src ≤ 99
  n : ∀ r ∈ rs, 0 ≤ r.n ∧ r.n ≤ 99
  few : ∀ r ∈ rs, r.body.length ≤ 3
  body : ∀ r ∈ rs, ∀ l ∈ r.body, TellA ps l.atom
theorem tell_of {ps : List Prd} {a : Atm} (h : AtomRead ps a) (ha : ∀ q ∈ ps, 0 ≤ q.arity ∧ q.arity ≤ 2) : TellA ps a := by
  obtain ⟨⟨k, hk, e⟩, hm, ht⟩ := h
  refine ⟨⟨k, e, hk⟩, fun t h1 => ?_, ?_⟩
  · have h3 := List.all_eq_true.1 ht t h1
    unfold termOk Lat.within at h3
    split at h3 <;> simp only [Bool.and_eq_true, decide_eq_true_eq] at h3 <;> exact ⟨h3.1, by omega⟩
  · have h4 : arityOf ps a.pred = ps[k].arity := by rw [e]; simp [arityOf, hk]
    have := ha _ (List.getElem_mem hk)
    omega
theorem right_of {ps : List Prd} {rs : List Rul} (h : progErr ps rs = 0) : Right ps rs := by
  have hr := prog_read h
  have h1 := (Prog.prog_zero h).1
  have h2 := Prog.parts_zero h1
  rw [Prog.partsErr] at h1
  split at h1
  · contradiction
  · split at h1
    · contradiction
    · rename_i hnm
      split at h1
      · contradiction
      · split at h1
        · contradiction
        · rename_i har
          split at h1
          · contradiction
          · rename_i hki
            have n1 : ∀ q ∈ ps, q.name.size ≤ 8 := fun q hq => by
              have : ¬ (!Prog.isName q.name) = true := fun e => hnm (List.any_eq_true.2 ⟨q, hq, e⟩)
              simp [Prog.isName, Lat.within] at this
              omega
            have n2 : ∀ q ∈ ps, 0 ≤ q.arity ∧ q.arity ≤ 2 := fun q hq => by
              have : ¬ (!Lat.within q.arity 0 2) = true := fun e => har (List.any_eq_true.2 ⟨q, hq, e⟩)
              simpa [Lat.within] using this
            have n3 : ∀ q ∈ ps, 0 ≤ q.kind ∧ q.kind ≤ 3 := fun q hq => by
              have : ¬ (!Lat.within q.kind 0 3) = true := fun e => hki (List.any_eq_true.2 ⟨q, hq, e⟩)
              simpa [Lat.within] using this
            exact ⟨by omega, by omega, n1, n2, n3, fun r h3 => tell_of (hr.rules r h3).head n2, fun r h3 => (hr.rules r h3).val.src, fun r h3 => (hr.rules r h3).val.n, fun r h3 => (Fire.rule_parts (Prog.rules_all h1 r h3)).2.2.2.2.2.2, fun r h3 l hl => tell_of ((hr.rules r h3).body l hl) n2⟩
theorem atom_ok {ps : List Prd} {a : Atm} (h : TellA ps a) : AtomOk ps a := ⟨h.there, fun t ht => ⟨(h.terms t ht).1, by have := (h.terms t ht).2; omega⟩, by have := h.few; omega⟩
theorem Right.text {ps : List Prd} {rs : List Rul} (h : Right ps rs) : TextOk ps rs :=
  ⟨by have := h.preds; omega, by have := h.rules; omega, h.name, fun q hq => ⟨(h.arity q hq).1, by have := (h.arity q hq).2; omega⟩, fun q hq => ⟨(h.kind q hq).1, by have := (h.kind q hq).2; omega⟩, fun r hr => atom_ok (h.head r hr), fun r hr => (h.src r hr).2, h.n, fun r hr => by have := h.few r hr; omega, fun r hr l hl => atom_ok (h.body r hr l hl)⟩
end Go.Proofs.YtlfccloaoopadafGreatDoor.Text

/-
  What the developers' reading of a text tells: the right program that is shown so.
-/
namespace Go.Proofs.YtlfccloaoopadafGreatDoor.Text
open Prog (progErr)

/-- what the developers' reading tells -/
def devL (s : List UInt8) : Option (List Prd × List Rul) := (progR s).bind fun x => if progErr x.1 x.2 = 0 then some x else none
theorem dev_iff {s : List UInt8} {ps : List Prd} {rs : List Rul} : devL s = some (ps, rs) ↔ progErr ps rs = 0 ∧ progL ps rs = s := by
  unfold devL
  constructor
  · intro h
    obtain ⟨⟨qs, ts⟩, h1, h2⟩ := Option.bind_eq_some_iff.1 h
    split at h2
    · rename_i hc
      rw [Option.some.injEq, Prod.mk.injEq] at h2
      obtain ⟨rfl, rfl⟩ := h2
      exact ⟨hc, (prog_some h1 hc).symm⟩
    · cases h2
  · rintro ⟨h, rfl⟩
    rw [prog_of h, Option.bind_some, if_pos h]
end Go.Proofs.YtlfccloaoopadafGreatDoor.Text

/-
  The document's own reading of texts, in plain words: a text is cut at the first place of another one; what may be a term, an atom, a rule, a program.
-/
namespace Go.Proofs.YtlfccloaoopadafGreatDoor.Text
open Rule (kindOf arityOf atomErr ruleErr termOk)
open Prog (progErr)

/-- a text is cut at the first place of p: what is ahead, behind; is it there? -/
def cutL (p : List UInt8) : List UInt8 → List UInt8 × List UInt8 × Bool
  | [] => ([], [], false)
  | b :: s => match eatL p (b :: s) with
    | some t => ([], t, true)
    | none => if (cutL p s).2.2 then (b :: (cutL p s).1, (cutL p s).2.1, true) else (b :: s, [], false)
theorem cut_at {p : List UInt8} (hp : p ≠ []) : ∀ {s : List UInt8} {i : Nat} {t : List UInt8}, (∀ j, j < i → eatL p (s.drop j) = none) → eatL p (s.drop i) = some t → cutL p s = (s.take i, t, true)
  | [], i, t, _, h => by
    rw [List.drop_nil] at h
    cases p with
    | nil => exact absurd rfl hp
    | cons a p => cases h
  | b :: s, 0, t, _, h => by
    rw [List.drop_zero] at h
    rw [cutL, h]
    rfl
  | b :: s, i + 1, t, hn, h => by
    have h0 := hn 0 (by omega)
    rw [List.drop_zero] at h0
    have ih := cut_at hp (s := s) (i := i) (t := t) (fun j hj => by have := hn (j + 1) (by omega); simpa using this) (by simpa using h)
    rw [cutL, h0]
    simp only
    rw [ih]
    simp
theorem cut_none {p : List UInt8} : ∀ {s : List UInt8}, (∀ j, j < s.length → eatL p (s.drop j) = none) → cutL p s = (s, [], false)
  | [], _ => rfl
  | b :: s, hn => by
    have h0 := hn 0 (by simp)
    rw [List.drop_zero] at h0
    have ih := cut_none (s := s) (fun j hj => by have := hn (j + 1) (by simp; omega); simpa using this)
    rw [cutL, h0]
    simp only
    rw [ih]
    simp
/-- how long the parts are -/
theorem cut_len {p : List UInt8} (hp : p ≠ []) : ∀ s : List UInt8, (cutL p s).1.length ≤ s.length ∧ (cutL p s).2.1.length ≤ s.length ∧ ((cutL p s).2.2 = true → (cutL p s).1.length + (cutL p s).2.1.length < s.length)
  | [] => ⟨Nat.le_refl _, Nat.le_refl _, fun h => by cases h⟩
  | b :: s => by
    obtain ⟨h1, h2, h3⟩ := cut_len hp s
    rw [cutL]
    cases h : eatL p (b :: s) with
    | some t =>
      have := eat_len h
      have l0 : 0 < p.length := List.length_pos_iff.2 hp
      simp at this ⊢
      omega
    | none =>
      simp only
      cases hc : (cutL p s).2.2 with
      | false => simp
      | true =>
        have := h3 hc
        simp
        omega
/-- one byte -/
theorem cut1_of {c : UInt8} {a b : List UInt8} (h : ∀ x ∈ a, x ≠ c) : cutL [c] (a ++ c :: b) = (a, b, true) := by
  induction a with
  | nil => simp [cutL, eatL]
  | cons y a ih =>
    have hy : c ≠ y := fun e => h y (by simp) e.symm
    rw [List.cons_append, cutL]
    have e0 : eatL [c] (y :: (a ++ c :: b)) = none := by simp [eatL, hy]
    rw [e0]
    simp only
    rw [ih fun x hx => h x (by simp [hx])]
    simp
theorem cut1_no {c : UInt8} {a : List UInt8} (h : ∀ x ∈ a, x ≠ c) : cutL [c] a = (a, [], false) := by
  induction a with
  | nil => rfl
  | cons y a ih =>
    have hy : c ≠ y := fun e => h y (by simp) e.symm
    rw [cutL]
    have e0 : eatL [c] (y :: a) = none := by simp [eatL, hy]
    rw [e0]
    simp only
    rw [ih fun x hx => h x (by simp [hx])]
    simp
def notNext (y : UInt8) : List UInt8 → Bool
  | [] => false
  | z :: _ => z != y
/-- each x is followed by something other than y -/
def np (x y : UInt8) : List UInt8 → Bool
  | [] => true
  | b :: t => (b != x || notNext y t) && np x y t
theorem np_append {x y : UInt8} : ∀ {a b : List UInt8}, np x y a = true → np x y b = true → np x y (a ++ b) = true
  | [], b, _, h => h
  | [c], b, h, k => by
    simp only [np, notNext, Bool.or_false, Bool.and_true] at h
    rw [List.cons_append, List.nil_append, np, h, k]
    rfl
  | c :: d :: a, b, h, k => by
    rw [np] at h
    simp only [Bool.and_eq_true] at h
    have ih := np_append (a := d :: a) h.2 k
    rw [List.cons_append, np]
    simp only [Bool.and_eq_true]
    exact ⟨h.1, ih⟩
theorem np_free {x y : UInt8} : ∀ {a : List UInt8}, (∀ z ∈ a, z ≠ x) → np x y a = true
  | [], _ => rfl
  | c :: a, h => by
    rw [np, np_free fun z hz => h z (by simp [hz])]
    have := h c (by simp)
    simp [this]
theorem cut2_of {x y : UInt8} {p b : List UInt8} : ∀ {a : List UInt8}, np x y a = true → cutL (x :: y :: p) (a ++ (x :: y :: p) ++ b) = (a, b, true)
  | [], _ => by
    rw [List.nil_append]
    have e : eatL (x :: y :: p) ((x :: y :: p) ++ b) = some b := eat_of _ _
    rw [List.cons_append] at e ⊢
    rw [cutL, e]
  | c :: a, h => by
    rw [np] at h
    simp only [Bool.and_eq_true] at h
    have ih := cut2_of (p := p) (b := b) h.2
    rw [List.cons_append, List.cons_append, cutL]
    have e0 : eatL (x :: y :: p) (c :: (a ++ (x :: y :: p) ++ b)) = none := by
      rw [eatL]
      split
      · rename_i hc
        subst hc
        cases a with
        | nil => simp [notNext] at h
        | cons z a =>
          have hz : y ≠ z := by rintro rfl; simp [notNext] at h
          rw [List.cons_append, List.cons_append, eatL, if_neg hz]
      · rfl
    rw [e0]
    simp only
    rw [ih]
    simp
theorem cut2_no {x y : UInt8} {p : List UInt8} : ∀ {a : List UInt8}, np x y a = true → cutL (x :: y :: p) a = (a, [], false)
  | [], _ => rfl
  | c :: a, h => by
    rw [np] at h
    simp only [Bool.and_eq_true] at h
    have ih := cut2_no (p := p) h.2
    rw [cutL]
    have e0 : eatL (x :: y :: p) (c :: a) = none := by
      rw [eatL]
      split
      · rename_i hc
        subst hc
        cases a with
        | nil => simp [notNext] at h
        | cons z a =>
          have hz : y ≠ z := by rintro rfl; simp [notNext] at h
          rw [eatL, if_neg hz]
      · rfl
    rw [e0]
    simp only
    rw [ih]
    simp
/-! ### Guesses -/
def saidL (s : List UInt8) : Int := if 1 ≤ s.length ∧ s.length ≤ 6 then sayL s 0 else 0
def termG (s : List UInt8) : Tm := if s.length = 1 ∧ 65 ≤ (s.headD 0).toNat then ⟨true, ((s.headD 0).toNat : Int) - 65⟩ else ⟨false, saidL s⟩
def argsG : Nat → List UInt8 → List Tm
  | 0, _ => []
  | n + 1, s => if (cutL [44] s).2.2 then termG (cutL [44] s).1 :: argsG n (cutL [44] s).2.1 else [termG (cutL [44] s).1.dropLast]
/-- the number of the last predicate of that name among the first k, or -1 -/
def idxG (ps : List Prd) (r : List UInt8) : Nat → Int
  | 0 => -1
  | k + 1 => if (ps[k]?.map fun q => decide (bl q.name = r)) = some true then (k : Int) else idxG ps r k
def atomG (ps : List Prd) (s : List UInt8) : Atm := ⟨idxG ps (cutL [40] s).1 ps.length, if (cutL [40] s).2.2 then argsG ((cutL [40] s).2.1.length + 1) (cutL [40] s).2.1 else []⟩
def litG (ps : List Prd) (t : List UInt8) : Ltr := if t.head? = some 33 then ⟨true, atomG ps t.tail⟩ else ⟨false, atomG ps t⟩
def litsG (ps : List Prd) : Nat → List UInt8 → List Ltr
  | 0, _ => []
  | n + 1, s => litG ps (cutL [44, 32] s).1 :: if (cutL [44, 32] s).2.2 then litsG ps n (cutL [44, 32] s).2.1 else []
/-- from where, and the number, of what stands behind the sign -/
def valG (val : List UInt8) : Int × Int :=
  if (cutL [43] val).2.2 = true ∧ (cutL [43] val).1 ≠ [] then (saidL (cutL [43] val).1.tail, saidL (cutL [43] val).2.1) else (-1, saidL val)
/-- of the head of a line: the atom, from where, the number -/
def headG (ps : List Prd) (h : List UInt8) : Atm × Int × Int :=
  if (cutL [32, 61, 32] h).2.2 then (atomG ps (cutL [32, 61, 32] h).1, valG (cutL [32, 61, 32] h).2.1) else (atomG ps h, -1, 0)
def ruleG (ps : List Prd) (s : List UInt8) : Rul :=
  ⟨(headG ps (cutL [32, 58, 45, 32] s).1).1, (headG ps (cutL [32, 58, 45, 32] s).1).2.1, (headG ps (cutL [32, 58, 45, 32] s).1).2.2, if (cutL [32, 58, 45, 32] s).2.2 then litsG ps ((cutL [32, 58, 45, 32] s).2.1.length + 1) (cutL [32, 58, 45, 32] s).2.1 else []⟩
def isPredG (line : List UInt8) : Bool := (cutL [32] line).2.2 && decide ((cutL [32] line).1 = [112, 114, 101, 100]) && decide ((cutL [32] line).2.1 ≠ []) && decide ((cutL [32] line).2.1.head? ≠ some 58) && decide ((cutL [32] line).2.1.head? ≠ some 61)
def predG (more : List UInt8) : Prd := ⟨⟨(cutL [32] more).1.toArray⟩, saidL (cutL [32] (cutL [32] more).2.1).1, saidL (cutL [32] (cutL [32] more).2.1).2.1⟩
/-- one line more -/
def lineG (x : List Prd × List Rul) (line : List UInt8) : List Prd × List Rul := if isPredG line then (x.1 ++ [predG (cutL [32] line).2.1], x.2) else (x.1, x.2 ++ [ruleG x.1 line.dropLast])
def linesG : Nat → List Prd × List Rul → List UInt8 → List Prd × List Rul
  | 0, x, _ => x
  | n + 1, x, s => if s = [] then x else linesG n (lineG x (cutL [10] s).1) (cutL [10] s).2.1
def progG (s : List UInt8) : List Prd × List Rul := linesG s.length ([], []) s
end Go.Proofs.YtlfccloaoopadafGreatDoor.Text

/-
  The document's own reading of texts, in plain words: of the text of a right program it guesses that program.
-/
namespace Go.Proofs.YtlfccloaoopadafGreatDoor.Text
open Rule (kindOf arityOf atomErr ruleErr termOk)
open Prog (progErr)

theorem not_byte {P : UInt8 → Bool} {z c : UInt8} (h : P z = true) (hc : P c = false) : z ≠ c := by
  rintro rfl
  rw [h] at hc
  cases hc
def argByte (b : UInt8) : Bool := (decide (65 ≤ b.toNat) && decide (b.toNat ≤ 67)) || (decide (48 ≤ b.toNat) && decide (b.toNat ≤ 52))
def atomByte (b : UInt8) : Bool := isLow b || argByte b || b == 40 || b == 41 || b == 44
theorem arg_one {t : Tm} (h : termOk t = true) : ∃ b, bl (argB t) = [b] ∧ argByte b = true ∧ termG [b] = t := by
  obtain ⟨v, n⟩ := t
  simp only [termOk, Lat.within, Bool.and_eq_true, decide_eq_true_eq] at h
  obtain ⟨k, rfl⟩ : ∃ k : Nat, n = (k : Int) := ⟨n.toNat, by omega⟩
  cases v with
  | true =>
    simp only [if_true] at h
    have e := var_fin ⟨k, by omega⟩
    simp only at e
    have hb : (UInt8.ofNat (65 + k)).toNat = 65 + k := by rw [UInt8.toNat_ofNat']; omega
    refine ⟨_, e, ?_, ?_⟩
    · unfold argByte; rw [hb]; simp; omega
    · have h1 : ([UInt8.ofNat (65 + k)] : List UInt8).length = 1 ∧ 65 ≤ (([UInt8.ofNat (65 + k)] : List UInt8).headD 0).toNat := ⟨rfl, by show 65 ≤ (UInt8.ofNat (65 + k)).toNat; omega⟩
      have h2 : ((([UInt8.ofNat (65 + k)] : List UInt8).headD 0).toNat : Int) - 65 = (k : Int) := by show (((UInt8.ofNat (65 + k)).toNat : Nat) : Int) - 65 = _; omega
      rw [termG, if_pos h1, h2]
  | false =>
    simp only [Bool.false_eq_true, if_false] at h
    have e := const_fin ⟨k, by omega⟩
    simp only at e
    have hb : (UInt8.ofNat (48 + k)).toNat = 48 + k := by rw [UInt8.toNat_ofNat']; omega
    refine ⟨_, e, ?_, ?_⟩
    · unfold argByte; rw [hb]; simp; omega
    · simp only [termG, List.length_singleton, List.headD_cons, hb]
      rw [if_neg (by omega)]
      simp only [saidL, List.length_singleton, sayL, hb]
      rw [if_pos ⟨by omega, by omega⟩]
      congr 1
      omega
theorem args_byte : ∀ (ts : List Tm) (k : Nat), ts.all termOk = true → ∀ z ∈ argsL ts k, atomByte z = true
  | [], k, _, z, hz => by cases hz
  | t :: ts, k, h, z, hz => by
    simp only [List.all_cons, Bool.and_eq_true] at h
    obtain ⟨b, e, hb, _⟩ := arg_one h.1
    rw [argsL, e] at hz
    simp only [List.mem_cons, List.cons_append, List.nil_append] at hz
    rcases hz with rfl | rfl | hz
    · split <;> rfl
    · simp [atomByte, hb]
    · exact args_byte ts (k + 1) h.2 z hz
theorem args_np : ∀ (ts : List Tm) (k : Nat), ts.all termOk = true → np 44 32 (argsL ts k) = true
  | [], k, _ => rfl
  | t :: ts, k, h => by
    simp only [List.all_cons, Bool.and_eq_true] at h
    obtain ⟨b, e, hb, _⟩ := arg_one h.1
    have h32 : b ≠ 32 := not_byte hb (by decide)
    have h44 : b ≠ 44 := not_byte hb (by decide)
    have ih := args_np ts (k + 1) h.2
    have e2 : argsL (t :: ts) k = [if k = 0 then 40 else 44, b] ++ argsL ts (k + 1) := by rw [argsL, e]; rfl
    rw [e2]
    refine np_append ?_ ih
    simp [np, notNext, h32, h44]
theorem args_len : ∀ (ts : List Tm) (k : Nat), ts.length ≤ (argsL ts k).length
  | [], k => Nat.le_refl _
  | t :: ts, k => by
    have := args_len ts (k + 1)
    simp [argsL]
    omega
theorem argsG_of : ∀ (ts : List Tm) (t : Tm) (n k : Nat), termOk t = true → ts.all termOk = true → ts.length < n → argsG n (bl (argB t) ++ argsL ts (k + 1) ++ [41]) = t :: ts
  | [], t, n, k, h, _, hn => by
    obtain ⟨b, e, hb, ht⟩ := arg_one h
    obtain ⟨n, rfl⟩ : ∃ m, n = m + 1 := ⟨n - 1, by simp at hn; omega⟩
    have h44 : b ≠ 44 := not_byte hb (by decide)
    have hc : cutL [44] [b, 41] = ([b, 41], [], false) := cut1_no (by
      intro x hx
      simp only [List.mem_cons, List.not_mem_nil, or_false] at hx
      rcases hx with rfl | rfl
      · exact h44
      · decide)
    have e2 : bl (argB t) ++ argsL [] (k + 1) ++ [41] = [b, 41] := by rw [e]; rfl
    rw [e2, argsG, hc]
    simp [ht]
  | t' :: ts, t, n, k, h, hs, hn => by
    obtain ⟨b, e, hb, ht⟩ := arg_one h
    simp only [List.all_cons, Bool.and_eq_true] at hs
    simp only [List.length_cons] at hn
    obtain ⟨n, rfl⟩ : ∃ m, n = m + 1 := ⟨n - 1, by omega⟩
    have ih := argsG_of ts t' n (k + 1) hs.1 hs.2 (by omega)
    have h44 : b ≠ 44 := not_byte hb (by decide)
    have e2 : bl (argB t) ++ argsL (t' :: ts) (k + 1) ++ [41] = [b] ++ 44 :: (bl (argB t') ++ argsL ts (k + 1 + 1) ++ [41]) := by
      rw [e, argsL]
      simp
    have hc : cutL [44] ([b] ++ 44 :: (bl (argB t') ++ argsL ts (k + 1 + 1) ++ [41])) = ([b], bl (argB t') ++ argsL ts (k + 1 + 1) ++ [41], true) := cut1_of (by
      intro x hx
      simp only [List.mem_singleton] at hx
      rw [hx]
      exact h44)
    rw [e2, argsG, hc]
    simp only [if_true]
    rw [ih, ht]
theorem idxG_of {ps : List Prd} (h : Names ps) {k : Nat} (hk : k < ps.length) : ∀ m, m ≤ ps.length → idxG ps (bl (nameOf ps (k : Int))) m = if k < m then (k : Int) else -1
  | 0, _ => rfl
  | m + 1, hm => by
    have ih := idxG_of h hk m (by omega)
    have e : nameOf ps (k : Int) = ps[k].name := by unfold nameOf; rw [Int.toNat_natCast, List.getElem?_eq_getElem hk]; rfl
    have hm' : m < ps.length := by omega
    rw [idxG, ih, List.getElem?_eq_getElem hm', e]
    simp only [Option.map_some, Option.some.injEq, decide_eq_true_eq]
    by_cases h1 : m = k
    · subst h1
      rw [if_pos rfl, if_pos (by omega)]
    · have : ¬ bl ps[m].name = bl ps[k].name := by
        intro hc
        rcases Nat.lt_or_gt_of_ne h1 with h2 | h2
        · exact h.one m k h2 hk hm' hc
        · exact h.one k m h2 hm' hk hc.symm
      rw [if_neg this]
      by_cases h2 : k < m
      · rw [if_pos h2, if_pos (by omega)]
      · rw [if_neg h2, if_neg (by omega)]
theorem name_low {ps : List Prd} (hN : Names ps) {a : Atm} (h : AtomRead ps a) : (bl (nameOf ps a.pred)).all isLow = true := by
  obtain ⟨k, hk, hp⟩ := h.there
  have hq : nameOf ps a.pred = ps[k].name := by unfold nameOf; rw [hp, Int.toNat_natCast, List.getElem?_eq_getElem hk]; rfl
  rw [hq]
  exact (hN.low ps[k] (List.getElem_mem hk)).2
theorem atom_byte {ps : List Prd} (hN : Names ps) {a : Atm} (h : AtomRead ps a) : ∀ z ∈ atomL ps a, atomByte z = true := by
  intro z hz
  unfold atomL at hz
  simp only [List.mem_append] at hz
  rcases hz with (hz | hz) | hz
  · have := List.all_eq_true.1 (name_low hN h) z hz
    simp [atomByte, this]
  · exact args_byte _ _ h.terms z hz
  · split at hz
    · cases hz
    · simp only [List.mem_singleton] at hz
      subst hz
      rfl
theorem atom_np {ps : List Prd} (hN : Names ps) {a : Atm} (h : AtomRead ps a) : np 44 32 (atomL ps a) = true := by
  unfold atomL
  refine np_append (np_append (np_free fun z hz => not_byte (List.all_eq_true.1 (name_low hN h) z hz) (by decide)) (args_np _ _ h.terms)) ?_
  split <;> decide
theorem atomG_of {ps : List Prd} (hN : Names ps) {a : Atm} (h : AtomRead ps a) : atomG ps (atomL ps a) = a := by
  have hlow := name_low hN h
  obtain ⟨p, ts⟩ := a
  obtain ⟨⟨k, hk, hp⟩, hm, ho⟩ := h
  simp only at hp hm ho hlow
  subst hp
  have hx : ∀ x ∈ bl (nameOf ps (k : Int)), x ≠ 40 := fun x hx => not_byte (List.all_eq_true.1 hlow x hx) (by decide)
  have hi := idxG_of hN hk ps.length (Nat.le_refl _)
  rw [if_pos hk] at hi
  cases ts with
  | nil =>
    have e : atomL ps ⟨(k : Int), []⟩ = bl (nameOf ps (k : Int)) := by simp [atomL, argsL]
    rw [e, atomG, cut1_no hx, hi]
    rfl
  | cons t ts =>
    simp only [List.all_cons, Bool.and_eq_true] at ho
    have e : atomL ps ⟨(k : Int), t :: ts⟩ = bl (nameOf ps (k : Int)) ++ 40 :: (bl (argB t) ++ argsL ts (0 + 1) ++ [41]) := by simp [atomL, argsL]
    rw [e, atomG, cut1_of hx, hi]
    simp only [if_true]
    rw [argsG_of ts t _ 0 ho.1 ho.2 (by have := args_len ts (0 + 1); simp only [List.length_append]; omega)]
def litL (ps : List Prd) (l : Ltr) : List UInt8 := (if l.neg then [33] else []) ++ atomL ps l.atom
theorem litG_of {ps : List Prd} (hN : Names ps) {l : Ltr} (h : AtomRead ps l.atom) : litG ps (litL ps l) = l := by
  obtain ⟨ng, a⟩ := l
  simp only at h
  cases ng with
  | true =>
    have e : litL ps ⟨true, a⟩ = 33 :: atomL ps a := rfl
    rw [e, litG, if_pos (by rfl), List.tail_cons, atomG_of hN h]
  | false =>
    have e : litL ps ⟨false, a⟩ = atomL ps a := rfl
    obtain ⟨b, t, e2, hb⟩ := atom_head hN h []
    rw [List.append_nil] at e2
    rw [e, litG, if_neg, atomG_of hN h]
    rw [e2, List.head?_cons, Option.some.injEq]
    exact not_byte hb (by decide)
theorem lit_np {ps : List Prd} (hN : Names ps) {l : Ltr} (h : AtomRead ps l.atom) : np 44 32 (litL ps l) = true := by
  unfold litL
  refine np_append ?_ (atom_np hN h)
  split <;> decide
theorem lits_len (ps : List Prd) : ∀ (ls : List Ltr) (j : Nat), ls.length ≤ (litsL ps ls j).length
  | [], j => Nat.le_refl _
  | l :: ls, j => by
    have := lits_len ps ls (j + 1)
    simp only [litsL, List.length_append, List.length_cons]
    have : 1 ≤ (if j = 0 then ([32, 58, 45, 32] : List UInt8) else [44, 32]).length := by split <;> simp
    omega
theorem litsG_of {ps : List Prd} (hN : Names ps) : ∀ (ls : List Ltr) (l : Ltr) (n j : Nat), AtomRead ps l.atom → (∀ x ∈ ls, AtomRead ps x.atom) → ls.length < n → litsG ps n (litL ps l ++ litsL ps ls (j + 1)) = l :: ls
  | [], l, n, j, h, _, hn => by
    obtain ⟨n, rfl⟩ : ∃ m, n = m + 1 := ⟨n - 1, by simp at hn; omega⟩
    have e : litL ps l ++ litsL ps [] (j + 1) = litL ps l := by simp [litsL]
    rw [e, litsG, cut2_no (lit_np hN h)]
    simp [litG_of hN h]
  | l' :: ls, l, n, j, h, hs, hn => by
    simp only [List.length_cons] at hn
    obtain ⟨n, rfl⟩ : ∃ m, n = m + 1 := ⟨n - 1, by omega⟩
    have ih := litsG_of hN ls l' n (j + 1) (hs l' (by simp)) (fun x hx => hs x (by simp [hx])) (by omega)
    have e : litL ps l ++ litsL ps (l' :: ls) (j + 1) = litL ps l ++ [44, 32] ++ (litL ps l' ++ litsL ps ls (j + 1 + 1)) := by simp [litsL, litL]
    rw [e, litsG, cut2_of (lit_np hN h)]
    simp only [if_true]
    rw [ih, litG_of hN h]
set_option maxRecDepth 100000 in
theorem said_fin : ∀ k : Fin 100, saidL (bl (dig (k.val : Int))) = (k.val : Int) := by decide
theorem said_dig {n : Int} (h0 : 0 ≤ n) (h9 : n ≤ 99) : saidL (bl (dig n)) = n := by
  obtain ⟨k, rfl⟩ : ∃ k : Nat, n = (k : Int) := ⟨n.toNat, by omega⟩
  exact said_fin ⟨k, by omega⟩
set_option maxRecDepth 100000 in
theorem dig_fin2 : ∀ k : Fin 100, (bl (dig (k.val : Int))).all isDig = true := by decide
theorem dig_all {n : Int} (h0 : 0 ≤ n) (h9 : n ≤ 99) : ∀ z ∈ bl (dig n), isDig z = true := by
  obtain ⟨k, rfl⟩ : ∃ k : Nat, n = (k : Int) := ⟨n.toNat, by omega⟩
  exact List.all_eq_true.1 (dig_fin2 ⟨k, by omega⟩)
theorem val_np {ps : List Prd} {r : Rul} (h : ValRead ps r) : np 32 58 (valL ps r) = true := by
  unfold valL
  split
  · rfl
  · split
    · rename_i h0
      refine np_append (np_append (np_append (by decide) (np_free fun z hz => not_byte (dig_all h0 h.src.2 z hz) (by decide))) (by decide)) (np_free fun z hz => not_byte (dig_all h.n.1 h.n.2 z hz) (by decide))
    · obtain ⟨b, t, e, hb⟩ := dig_head r.n h.n.1 h.n.2
      have ht : ∀ z ∈ t, z ≠ 32 := fun z hz => not_byte (dig_all h.n.1 h.n.2 z (by rw [e]; simp [hz])) (by decide)
      have e2 : [32, 61, 32] ++ bl (dig r.n) = [32, 61, 32, b] ++ t := by rw [e]; rfl
      have h1 : b ≠ 58 := not_byte hb (by decide)
      have h2 : b ≠ 32 := not_byte hb (by decide)
      rw [e2]
      refine np_append ?_ (np_free ht)
      simp [np, notNext, h1, h2]
theorem headG_of {ps : List Prd} (hN : Names ps) {r : Rul} (ha : AtomRead ps r.head) (h : ValRead ps r) : headG ps (atomL ps r.head ++ valL ps r) = (r.head, r.src, r.n) := by
  have hf : ∀ z ∈ atomL ps r.head, z ≠ 32 := fun z hz => not_byte (atom_byte hN ha z hz) (by decide)
  have hG := atomG_of hN ha
  unfold valL
  split
  · rename_i hk
    obtain ⟨e1, e2⟩ := h.plain hk
    rw [List.append_nil, headG, cut2_no (np_free hf), hG, e1, e2]
    rfl
  · split
    · rename_i h0
      have e : atomL ps r.head ++ ([32, 61, 32, 35] ++ bl (dig r.src) ++ [43] ++ bl (dig r.n)) = atomL ps r.head ++ [32, 61, 32] ++ ((35 :: bl (dig r.src)) ++ 43 :: bl (dig r.n)) := by simp
      have hc : cutL [43] ((35 :: bl (dig r.src)) ++ 43 :: bl (dig r.n)) = (35 :: bl (dig r.src), bl (dig r.n), true) := cut1_of (by
        intro x hx
        rcases List.mem_cons.1 hx with rfl | hx
        · decide
        · exact not_byte (dig_all h0 h.src.2 x hx) (by decide))
      rw [e, headG, cut2_of (np_free hf), hG]
      simp only [if_true]
      rw [valG, hc, if_pos ⟨rfl, by simp⟩]
      simp only [List.tail_cons]
      rw [said_dig h0 h.src.2, said_dig h.n.1 h.n.2]
    · rename_i h0
      have hs : r.src = -1 := by have := h.src.1; omega
      have e : atomL ps r.head ++ ([32, 61, 32] ++ bl (dig r.n)) = atomL ps r.head ++ [32, 61, 32] ++ bl (dig r.n) := by simp
      have hc : cutL [43] (bl (dig r.n)) = (bl (dig r.n), [], false) := cut1_no (fun x hx => not_byte (dig_all h.n.1 h.n.2 x hx) (by decide))
      rw [e, headG, cut2_of (np_free hf), hG]
      simp only [if_true]
      rw [valG, hc, if_neg (by simp), said_dig h.n.1 h.n.2, hs]
theorem ruleG_of {ps : List Prd} (hN : Names ps) {r : Rul} (h : RuleRead ps r) : ruleG ps (atomL ps r.head ++ valL ps r ++ litsL ps r.body 0) = r := by
  have hh := headG_of hN h.head h.val
  have hnp : np 32 58 (atomL ps r.head ++ valL ps r) = true := np_append (np_free fun z hz => not_byte (atom_byte hN h.head z hz) (by decide)) (val_np h.val)
  have hb := h.body
  cases hbody : r.body with
  | nil =>
    have e : atomL ps r.head ++ valL ps r ++ litsL ps [] 0 = atomL ps r.head ++ valL ps r := by simp [litsL]
    rw [e, ruleG, cut2_no hnp, hh]
    simp only [Bool.false_eq_true, if_false]
    rw [← hbody]
  | cons l ls =>
    rw [hbody] at hb
    have e : atomL ps r.head ++ valL ps r ++ litsL ps (l :: ls) 0 = atomL ps r.head ++ valL ps r ++ [32, 58, 45, 32] ++ (litL ps l ++ litsL ps ls (0 + 1)) := by simp [litsL, litL]
    rw [e, ruleG, cut2_of hnp, hh]
    simp only [if_true]
    rw [litsG_of hN ls l _ 0 (hb l (by simp)) (fun x hx => hb x (by simp [hx])) (by have := lits_len ps ls (0 + 1); simp only [List.length_append]; omega), ← hbody]
/-! ### Lines -/
theorem low_of_pred {q : Prd} (hn : (bl q.name).all isLow = true) (ha : 0 ≤ q.arity ∧ q.arity ≤ 99) (hk : 0 ≤ q.kind ∧ q.kind ≤ 99) (c : UInt8) (h1 : isLow c = false) (h2 : isDig c = false) : (∀ z ∈ bl q.name, z ≠ c) ∧ (∀ z ∈ bl (dig q.arity), z ≠ c) ∧ ∀ z ∈ bl (dig q.kind), z ≠ c :=
  ⟨fun z hz => not_byte (List.all_eq_true.1 hn z hz) h1, fun z hz => not_byte (dig_all ha.1 ha.2 z hz) h2, fun z hz => not_byte (dig_all hk.1 hk.2 z hz) h2⟩
def predLine (q : Prd) : List UInt8 := [112, 114, 101, 100] ++ 32 :: (bl q.name ++ 32 :: (bl (dig q.arity) ++ 32 :: bl (dig q.kind)))
theorem pred_line (q : Prd) (u : List UInt8) : predL q ++ u = predLine q ++ 10 :: u := by simp [predL, predLine]
theorem line_pred {q : Prd} (hn : bl q.name ≠ [] ∧ (bl q.name).all isLow = true) (ha : 0 ≤ q.arity ∧ q.arity ≤ 99) (hk : 0 ≤ q.kind ∧ q.kind ≤ 99) (x : List Prd × List Rul) : lineG x (predLine q) = (x.1 ++ [q], x.2) := by
  obtain ⟨n1, n2, n3⟩ := low_of_pred hn.2 ha hk 32 (by decide) (by decide)
  have c1 : cutL [32] (predLine q) = ([112, 114, 101, 100], bl q.name ++ 32 :: (bl (dig q.arity) ++ 32 :: bl (dig q.kind)), true) := cut1_of (by decide)
  have c2 : cutL [32] (bl q.name ++ 32 :: (bl (dig q.arity) ++ 32 :: bl (dig q.kind))) = (bl q.name, bl (dig q.arity) ++ 32 :: bl (dig q.kind), true) := cut1_of n1
  have c3 : cutL [32] (bl (dig q.arity) ++ 32 :: bl (dig q.kind)) = (bl (dig q.arity), bl (dig q.kind), true) := cut1_of n2
  have hp : isPredG (predLine q) = true := by
    unfold isPredG
    rw [c1]
    obtain ⟨b, t, hb⟩ : ∃ b t, bl q.name = b :: t := by
      cases hq : bl q.name with
      | nil => exact absurd hq hn.1
      | cons b t => exact ⟨b, t, rfl⟩
    have hl : isLow b = true := List.all_eq_true.1 hn.2 b (by rw [hb]; simp)
    have h1 : b ≠ 58 := not_byte hl (by decide)
    have h2 : b ≠ 61 := not_byte hl (by decide)
    simp [hb, h1, h2]
  have hg : predG (bl q.name ++ 32 :: (bl (dig q.arity) ++ 32 :: bl (dig q.kind))) = q := by
    unfold predG
    rw [c2]
    simp only
    rw [c3]
    simp only
    rw [said_dig ha.1 ha.2, said_dig hk.1 hk.2, of_bl]
  unfold lineG
  rw [if_pos hp, c1]
  simp only
  rw [hg]
def ruleLine (ps : List Prd) (r : Rul) : List UInt8 := atomL ps r.head ++ valL ps r ++ litsL ps r.body 0 ++ [46]
theorem rule_line (ps : List Prd) (r : Rul) (u : List UInt8) : ruleL ps r ++ u = ruleLine ps r ++ 10 :: u := by simp [ruleL, ruleLine]
theorem rule_notG {ps : List Prd} (hN : Names ps) {r : Rul} (h : RuleRead ps r) : isPredG (ruleLine ps r) = false := by
  have hf : ∀ z ∈ atomL ps r.head, z ≠ 32 := fun z hz => not_byte (atom_byte hN h.head z hz) (by decide)
  have key : ∀ (c : UInt8) (u : List UInt8), c = 58 ∨ c = 61 → isPredG (atomL ps r.head ++ 32 :: c :: u) = false := by
    intro c u hc
    unfold isPredG
    rw [cut1_of hf]
    rcases hc with rfl | rfl <;> simp
  by_cases hv : valL ps r = []
  · unfold ruleLine
    rw [hv, List.append_nil]
    cases hbody : r.body with
    | nil =>
      have e : atomL ps r.head ++ litsL ps [] 0 ++ [46] = atomL ps r.head ++ [46] := by simp [litsL]
      rw [e]
      unfold isPredG
      rw [cut1_no]
      · rfl
      · intro x hx
        rcases List.mem_append.1 hx with hx | hx
        · exact hf x hx
        · simp only [List.mem_singleton] at hx
          subst hx
          decide
    | cons l ls =>
      have e : atomL ps r.head ++ litsL ps (l :: ls) 0 ++ [46] = atomL ps r.head ++ 32 :: 58 :: ([45, 32] ++ (litL ps l ++ litsL ps ls (0 + 1)) ++ [46]) := by simp [litsL, litL]
      rw [e]
      exact key _ _ (.inl rfl)
  · obtain ⟨u, hu⟩ : ∃ u, valL ps r = 32 :: 61 :: u := by
      unfold valL at hv ⊢
      split
      · rename_i hk
        rw [if_pos hk] at hv
        exact absurd rfl hv
      · split
        · exact ⟨_, rfl⟩
        · exact ⟨_, rfl⟩
    have e : ruleLine ps r = atomL ps r.head ++ 32 :: 61 :: (u ++ litsL ps r.body 0 ++ [46]) := by
      unfold ruleLine
      rw [hu]
      simp
    rw [e]
    exact key _ _ (.inr rfl)
theorem line_rule {ps : List Prd} (hN : Names ps) {r : Rul} (h : RuleRead ps r) (rs : List Rul) : lineG (ps, rs) (ruleLine ps r) = (ps, rs ++ [r]) := by
  unfold lineG
  rw [rule_notG hN h]
  simp only [Bool.false_eq_true, if_false]
  have e : (ruleLine ps r).dropLast = atomL ps r.head ++ valL ps r ++ litsL ps r.body 0 := by unfold ruleLine; rw [List.dropLast_concat]
  rw [e, ruleG_of hN h]
theorem pred_no10 {q : Prd} (hn : bl q.name ≠ [] ∧ (bl q.name).all isLow = true) (ha : 0 ≤ q.arity ∧ q.arity ≤ 99) (hk : 0 ≤ q.kind ∧ q.kind ≤ 99) : ∀ z ∈ predLine q, z ≠ 10 := by
  obtain ⟨n1, n2, n3⟩ := low_of_pred hn.2 ha hk 10 (by decide) (by decide)
  intro z hz
  unfold predLine at hz
  simp only [List.mem_append, List.mem_cons, List.not_mem_nil, or_false] at hz
  rcases hz with (rfl | rfl | rfl | rfl) | rfl | hz | rfl | hz | rfl | hz
  · decide
  · decide
  · decide
  · decide
  · decide
  · exact n1 z hz
  · decide
  · exact n2 z hz
  · decide
  · exact n3 z hz
theorem lits_no10 {ps : List Prd} (hN : Names ps) : ∀ (ls : List Ltr) (j : Nat), (∀ l ∈ ls, AtomRead ps l.atom) → ∀ z ∈ litsL ps ls j, z ≠ 10
  | [], j, _, z, hz => by cases hz
  | l :: ls, j, h, z, hz => by
    rw [litsL] at hz
    simp only [List.mem_append] at hz
    rcases hz with ((hz | hz) | hz) | hz
    · split at hz
      · revert z; decide
      · revert z; decide
    · split at hz
      · simp only [List.mem_singleton] at hz
        subst hz
        decide
      · cases hz
    · exact not_byte (atom_byte hN (h l (by simp)) z hz) (by decide)
    · exact lits_no10 hN ls (j + 1) (fun x hx => h x (by simp [hx])) z hz
theorem val_no10 {ps : List Prd} {r : Rul} (h : ValRead ps r) : ∀ z ∈ valL ps r, z ≠ 10 := by
  intro z hz
  unfold valL at hz
  split at hz
  · cases hz
  · split at hz
    · rename_i h0
      simp only [List.mem_append] at hz
      rcases hz with ((hz | hz) | hz) | hz
      · revert z; decide
      · exact not_byte (dig_all h0 h.src.2 z hz) (by decide)
      · revert z; decide
      · exact not_byte (dig_all h.n.1 h.n.2 z hz) (by decide)
    · simp only [List.mem_append] at hz
      rcases hz with hz | hz
      · revert z; decide
      · exact not_byte (dig_all h.n.1 h.n.2 z hz) (by decide)
theorem rule_no10 {ps : List Prd} (hN : Names ps) {r : Rul} (h : RuleRead ps r) : ∀ z ∈ ruleLine ps r, z ≠ 10 := by
  intro z hz
  unfold ruleLine at hz
  simp only [List.mem_append] at hz
  rcases hz with ((hz | hz) | hz) | hz
  · exact not_byte (atom_byte hN h.head z hz) (by decide)
  · exact val_no10 h.val z hz
  · exact lits_no10 hN _ _ h.body z hz
  · revert z; decide
theorem lines_step {n : Nat} {x : List Prd × List Rul} {l u : List UInt8} (h : ∀ z ∈ l, z ≠ 10) : linesG (n + 1) x (l ++ 10 :: u) = linesG n (lineG x l) u := by
  rw [linesG, if_neg (by simp), cut1_of h]
theorem lines_preds (u : List UInt8) : ∀ (qs : List Prd) (n : Nat) (acc : List Prd), (∀ q ∈ qs, (bl q.name ≠ [] ∧ (bl q.name).all isLow = true) ∧ (0 ≤ q.arity ∧ q.arity ≤ 99) ∧ (0 ≤ q.kind ∧ q.kind ≤ 99)) → linesG (n + qs.length) (acc, []) (qs.flatMap predL ++ u) = linesG n (acc ++ qs, []) u
  | [], n, acc, _ => by simp
  | q :: qs, n, acc, h => by
    obtain ⟨h1, h2, h3⟩ := h q (by simp)
    have ih := lines_preds u qs n (acc ++ [q]) (fun x hx => h x (by simp [hx]))
    rw [List.flatMap_cons, List.append_assoc, pred_line, List.length_cons, ← Nat.add_assoc, lines_step (pred_no10 h1 h2 h3), line_pred h1 h2 h3]
    simp only
    rw [ih]
    simp
theorem lines_rules {ps : List Prd} (hN : Names ps) : ∀ (rs : List Rul) (n : Nat) (acc : List Rul), (∀ r ∈ rs, RuleRead ps r) → rs.length ≤ n → linesG n (ps, acc) (rs.flatMap (ruleL ps)) = (ps, acc ++ rs)
  | [], n, acc, _, _ => by
    cases n <;> simp [linesG]
  | r :: rs, n, acc, h, hn => by
    simp only [List.length_cons] at hn
    obtain ⟨n, rfl⟩ : ∃ m, n = m + 1 := ⟨n - 1, by omega⟩
    have ih := lines_rules hN rs n (acc ++ [r]) (fun x hx => h x (by simp [hx])) (by omega)
    rw [List.flatMap_cons, rule_line, lines_step (rule_no10 hN (h r (by simp))), line_rule hN (h r (by simp)), ih]
    simp
/-- OF THE TEXT OF A RIGHT PROGRAM THE DOCUMENT GUESSES THAT PROGRAM -/
theorem guess_of {ps : List Prd} {rs : List Rul} (h : progErr ps rs = 0) : progG (progL ps rs) = (ps, rs) := by
  have hr := prog_read h
  unfold progG
  have l1 : ps.length ≤ (ps.flatMap predL).length := flat_len _ (fun q => by simp [predL]) ps
  have l2 : rs.length ≤ (rs.flatMap (ruleL ps)).length := flat_len _ (fun q => by simp [ruleL]; omega) rs
  have hl : (progL ps rs).length = (progL ps rs).length - ps.length + ps.length := by unfold progL; rw [List.length_append]; omega
  rw [hl]
  have e : progL ps rs = ps.flatMap predL ++ rs.flatMap (ruleL ps) := rfl
  generalize hL : (progL ps rs).length - ps.length = L
  rw [e, lines_preds _ ps L [] (fun q hq => ⟨hr.names.low q hq, (hr.preds q hq).1, (hr.preds q hq).2⟩), List.nil_append, lines_rules hr.names rs L [] hr.rules, List.nil_append]
  rw [← hL, e, List.length_append]
  omega
/-- the program that is shown as s, if there is one: what the document says -/
def readL (s : List UInt8) : Option (List Prd × List Rul) := if progErr (progG s).1 (progG s).2 = 0 ∧ progL (progG s).1 (progG s).2 = s then some (progG s) else none
theorem read_iff {s : List UInt8} {ps : List Prd} {rs : List Rul} : readL s = some (ps, rs) ↔ progErr ps rs = 0 ∧ progL ps rs = s := by
  unfold readL
  constructor
  · intro h
    split at h
    · rename_i hc
      rw [Option.some.injEq] at h
      rw [h] at hc
      exact hc
    · cases h
  · rintro ⟨h, rfl⟩
    rw [guess_of h, if_pos ⟨h, rfl⟩]
/-- BOTH READ THE SAME -/
theorem dev_read (s : List UInt8) : devL s = readL s := by
  cases h : devL s with
  | none =>
    cases h2 : readL s with
    | none => rfl
    | some x =>
      obtain ⟨ps, rs⟩ := x
      rw [dev_iff.2 (read_iff.1 h2)] at h
      cases h
  | some x =>
    obtain ⟨ps, rs⟩ := x
    exact (read_iff.2 (dev_iff.1 h)).symm
end Go.Proofs.YtlfccloaoopadafGreatDoor.Text

/-
  What the document's own ProgText answers.
-/
namespace Go.Proofs.YtlfccloaoopadafGreatDoor.Text
open Go.ChangeShapes Go.WideShapes Go.ChangeAt Go.RowKit
open Prog (slice_cells)
open Rule (kindOf)

set_option maxRecDepth 100000 in
set_option maxHeartbeats 4000000 in
theorem progText_c (w : World) (pv rv : Value) (ps : List Prd) (rs : List Rul) (hp : predsAt w pv ps) (hr : rulesAt w rv rs) (ok : TextOk ps rs) :
    Calls Tryz.prog 8 #[.agg #[pv, rv]] w fun e w' => e = .returned (.string (progB ps rs)) ∧ Below w.heap.size w w' := by
  have HP : Hid (∀ x, Below w.heap.size w x → predsAt x pv ps) := fun x hx => predsAt.lasts hx hp
  have HR : Hid (∀ x, Below w.heap.size w x → rulesAt x rv rs) := fun x hx => rulesAt.lasts hx hr
  have OK : Hid (TextOk ps rs) := ok
  have HPS : Hid (∀ k, (predsTo ps k).size ≤ k * 20) := predsTo_size ok.name
  obtain ⟨pa, pc, rfl, _⟩ := hp
  obtain ⟨ra, rc, rfl, _⟩ := hr
  have hpl : ps.length ≤ 500 := ok.preds
  have hrl : rs.length ≤ 500 := ok.rules
  obtain ⟨W1, hW1⟩ : ∃ W1, w.alloc (.cells #[.slice pa ps.length pc, .slice ra rs.length rc] 25) = W1 := ⟨_, rfl⟩
  have b1 : Below w.heap.size w W1 := by rw [← hW1]; exact below_alloc _ _
  have c0 : W1.cell? ⟨w.heap.size, 0, none⟩ = some (.slice pa ps.length pc) := by rw [← hW1]; simp [go_sem]
  have c1 : W1.cell? ⟨w.heap.size, 1, none⟩ = some (.slice ra rs.length rc) := by rw [← hW1]; simp [go_sem]
  have hs : w.heap.size < W1.heap.size := by rw [← hW1]; simp
  have HC : Hid (∀ x, Below W1.heap.size W1 x → x.cell? ⟨w.heap.size, 0, none⟩ = some (.slice pa ps.length pc) ∧ x.cell? ⟨w.heap.size, 1, none⟩ = some (.slice ra rs.length rc)) := fun x hx => ⟨(cell_lasts hx hs).trans c0, (cell_lasts hx hs).trans c1⟩
  clear c0 c1
  go_enter Tryz.func8, Tryz.ntmps8
  go_wp2_with fail
  clear hW1
  go_loopw [3, 4] (fun s i wr => ∃ j : Nat, j ≤ ps.length ∧ i = .int .i64 j ∧ s = .string (predsTo ps j) ∧ Below W1.heap.size W1 wr) (fun _ i _ => ps.length - (intOf i).toNat)
  case atStart => exact ⟨0, Nat.zero_le _, rfl, rfl, Below.refl _ _⟩
  case round =>
    obtain ⟨j, hj, rfl, rfl, hbw⟩ := hrel
    obtain ⟨d0, d1⟩ := HC.out wr hbw
    have kw : Below w.heap.size w wr := b1.trans (hbw.mono b1.size)
    by_cases hlt : j < ps.length
    · obtain ⟨pb, po, pc', hv, hpb, n0, n1, n2⟩ := slice_cells (HP.out wr kw) hlt
      obtain ⟨rfl, rfl⟩ : pa = some ⟨pb, po, none⟩ ∧ pc = pc' := by simpa using hv
      have hjl : (j : Int) < (ps.length : Int) := by omega
      have hj0 : (0 : Int) ≤ (j : Int) := by omega
      have s0 : w.heap.size < wr.heap.size := Nat.lt_of_lt_of_le hs hbw.size
      have hm := List.getElem_mem hlt
      have hnm := OK.out.name _ hm
      obtain ⟨ha0, ha1⟩ := OK.out.arity _ hm
      obtain ⟨hk0, hk1⟩ := OK.out.kind _ hm
      have HS : Hid (predsTo ps (j + 1) = predPut (predsTo ps j) ps[j]) := by
        show _ = _
        rw [predsTo, List.getD, List.getElem?_eq_getElem hlt]
        rfl
      have hbs := HPS.out j
      have hz1 := dig_size ps[j].arity
      have hz2 := dig_size ps[j].kind
      have HD1 : Hid (∀ x, Calls Tryz.prog 27 #[.int .i64 ps[j].arity] x fun e w' => e = .returned (.string (dig ps[j].arity)) ∧ Below x.heap.size x w') := fun x => digits_c x _ ha0 ha1
      have HD2 : Hid (∀ x, Calls Tryz.prog 27 #[.int .i64 ps[j].kind] x fun e w' => e = .returned (.string (dig ps[j].kind)) ∧ Below x.heap.size x w') := fun x => digits_c x _ hk0 hk1
      clear hv hm ha0 ha1 hk0 hk1
      generalize ps[j] = q at *
      generalize predsTo ps j = B at *
      have lim0 : ¬ 9223372036854775807 < B.size + 5 := by omega
      have lim1 : ¬ 9223372036854775807 < B.size + 5 + q.name.size := by omega
      have lim2 : ¬ 9223372036854775807 < B.size + 5 + q.name.size + 1 := by omega
      have lim3 : ¬ 9223372036854775807 < B.size + 5 + q.name.size + 1 + (dig q.arity).size := by omega
      have lim4 : ¬ 9223372036854775807 < B.size + 5 + q.name.size + 1 + (dig q.arity).size + 1 := by omega
      have lim5 : ¬ 9223372036854775807 < B.size + 5 + q.name.size + 1 + (dig q.arity).size + 1 + (dig q.kind).size := by omega
      have lim6 : ¬ 9223372036854775807 < B.size + 5 + q.name.size + 1 + (dig q.arity).size + 1 + (dig q.kind).size + 1 := by omega
      clear hbs hz1 hz2 hnm
      go_wp2_with fail
      have L0 : ∀ x : Low wr.heap.size wr, x.wd.cell? ⟨pb, po + j * 3, none⟩ = some (.string q.name) := fun x => (cell_lasts x.low hpb).trans n0
      have L1 : ∀ x : Low wr.heap.size wr, x.wd.cell? ⟨pb, po + j * 3 + 1, none⟩ = some (.int .i64 q.arity) := fun x => (cell_lasts x.low hpb).trans n1
      have L2 : ∀ x : Low wr.heap.size wr, x.wd.cell? ⟨pb, po + j * 3 + 2, none⟩ = some (.int .i64 q.kind) := fun x => (cell_lasts x.low hpb).trans n2
      have N0 : ∀ x : Low wr.heap.size wr, x.wd.cell? ⟨w.heap.size, 0, none⟩ = some (.slice (some ⟨pb, po, none⟩) ps.length pc) := fun x => (cell_lasts x.low s0).trans d0
      refine wp_region_low wr.heap.size (by kernel_rfl) (by kernel_rfl) ?_
      repeat (go_big_quiet_step (first | (go_at_call_of 27 (Value.int .i64 q.arity); exact low_of (HD1.out _)) | (go_at_call_of 27 (Value.int .i64 q.kind); exact low_of (HD2.out _))))
      refine wpQuiet_nil ?_
      rintro _ ⟨⟨w1, hk⟩, rfl⟩
      clear L0 L1 L2 N0 d0 d1 n0 n1 n2
      go_wp2_with fail
      go_roundw
      case rel => exact ⟨j + 1, by omega, by go_num, by rw [HS.out]; rfl, hbw.trans (hk.mono hbw.size)⟩
      case measure => simp [intOf]; omega
    · obtain rfl : j = ps.length := by omega
      have HB2 : Hid (Below W1.heap.size W1 wr) := hbw
      have HPZ : Hid ((predsTo ps ps.length).size ≤ 10000) := by show _ ≤ _; have := HPS.out ps.length; omega
      have HRZ : Hid (∀ k, k ≤ rs.length → (rulesTo ps (predsTo ps ps.length) rs k).size ≤ 10000 + k * 1000000) := fun k hk => Nat.le_trans (rulesTo_size OK.out _ k hk) (by have := HPZ.out; omega)
      go_wp2_with fail
      obtain ⟨P0, hP0⟩ : ∃ P0, predsTo ps ps.length = P0 := ⟨_, rfl⟩
      rw [hP0] at HRZ
      have HPP0 : Hid (progB ps rs = rulesTo ps P0 rs rs.length) := by show _ = _; rw [progB, hP0]
      rw [hP0]
      clear hP0
      go_loopw [3, 5] (fun s i wr => ∃ j : Nat, j ≤ rs.length ∧ i = .int .i64 j ∧ s = .string (rulesTo ps P0 rs j) ∧ Below W1.heap.size W1 wr) (fun _ i _ => rs.length - (intOf i).toNat)
      case atStart => exact ⟨0, Nat.zero_le _, rfl, rfl, HB2.out⟩
      case round =>
        obtain ⟨j, hj, rfl, rfl, hbw⟩ := hrel
        rename World => Z
        obtain ⟨d0, d1⟩ := HC.out Z hbw
        have kw : Below w.heap.size w Z := b1.trans (hbw.mono b1.size)
        by_cases hlt : j < rs.length
        · obtain ⟨rb, ro, rc', hv, hrb, r0, ⟨hv1, r1, th⟩, r2, r3, bv1, r4, tb⟩ := slice_cells (HR.out Z kw) hlt
          obtain ⟨rfl, rfl⟩ : ra = some ⟨rb, ro, none⟩ ∧ rc = rc' := by simpa using hv
          have hjl : (j : Int) < (rs.length : Int) := by omega
          have hj0 : (0 : Int) ≤ (j : Int) := by omega
          have hm := List.getElem_mem hlt
          obtain ⟨⟨e, he, hel⟩, hok, hfew⟩ := OK.out.head _ hm
          have HSR : Hid (rulesTo ps P0 rs (j + 1) = bodyTo ps (headPut ps (rulesTo ps P0 rs j) rs[j]) rs[j].body rs[j].body.length ++ ⟨#[46, 10]⟩) := by
            show _ = _
            rw [rulesTo, List.getD, List.getElem?_eq_getElem hlt]
            rfl
          have hbz := HRZ.out j hj
          have HHS : Hid (∀ B : ByteArray, (headPut ps B rs[j]).size ≤ B.size + 1600) := fun B => headPut_size OK.out.name hfew
          have HBS0 : Hid (∀ (B : ByteArray) q, (bodyTo ps (headPut ps B rs[j]) rs[j].body q).size ≤ B.size + 1600 + q * 1600) := fun B q => Nat.le_trans (bodyTo_size OK.out.name (fun l hl => (OK.out.body _ hm l hl).few) q) (by have := HHS.out B; omega)
          have HBF : Hid (rs[j].body.length ≤ 500) := OK.out.few _ hm
          have HBO : Hid (∀ l ∈ rs[j].body, AtomOk ps l.atom) := OK.out.body _ hm
          have hsrc := OK.out.src _ hm
          obtain ⟨hn0, hn1⟩ := OK.out.n _ hm
          have haz := atom_sz OK.out.name hfew
          have hdz1 := dig_size rs[j].src
          have hdz2 := dig_size rs[j].n
          have HPZ2 : Hid (∀ x, Below Z.heap.size Z x → predsAt x (.slice pa ps.length pc) ps) := fun x hx => HP.out x (kw.trans (hx.mono kw.size))
          have HAT : Hid (∀ x, Below Z.heap.size Z x → Calls Tryz.prog 28 #[.slice pa ps.length pc, .agg #[.int .i64 rs[j].head.pred, hv1]] x fun e w' => e = .returned (.string (atomB ps rs[j].head)) ∧ Below x.heap.size x w') := fun x hx => atomText_c x _ _ ps _ e (HPZ2.out x hx) (termsAt.lasts hx th) he hel hok (name_size OK.out.name _) hfew
          have HTB : Hid (∀ x, Below Z.heap.size Z x → litsAt x bv1 rs[j].body) := fun x hx => litsAt.lasts hx tb
          have HDS : Hid (0 ≤ rs[j].src → ∀ x, Calls Tryz.prog 27 #[.int .i64 rs[j].src] x fun e w' => e = .returned (.string (dig rs[j].src)) ∧ Below x.heap.size x w') := fun h x => digits_c x _ h hsrc
          have HDN : Hid (∀ x, Calls Tryz.prog 27 #[.int .i64 rs[j].n] x fun e w' => e = .returned (.string (dig rs[j].n)) ∧ Below x.heap.size x w') := fun x => digits_c x _ hn0 hn1
          obtain ⟨pb, po, pc', hpv, hpb, n0, n1, n2⟩ := slice_cells (HP.out Z kw) hel
          obtain ⟨rfl, rfl⟩ : pa = some ⟨pb, po, none⟩ ∧ pc = pc' := by simpa using hpv
          have hkd : kindOf ps rs[j].head.pred = ps[e].kind := by rw [kindOf, he, Int.toNat_natCast, List.getElem?_eq_getElem hel]; rfl
          have n2' : Z.cell? ⟨pb, po + e * 3 + 2, none⟩ = some (.int .i64 (kindOf ps rs[j].head.pred)) := by rw [hkd]; exact n2
          have hel1 : (e : Int) < (ps.length : Int) := by omega
          obtain ⟨ha, hc, rfl, _⟩ := th
          obtain ⟨ba, bc, rfl, _⟩ := tb
          rw [he] at r0 HAT
          clear hv hpv hm hok hsrc hn0 hn1 n0 n1 n2 hkd
          generalize rs[j] = r at *
          have HHD : Hid (∀ B : ByteArray, headPut ps B r = if kindOf ps r.head.pred = 0 then B ++ atomB ps r.head else if 0 ≤ r.src then B ++ atomB ps r.head ++ ⟨#[32, 61, 32]⟩ ++ ⟨#[35]⟩ ++ dig r.src ++ ⟨#[43]⟩ ++ dig r.n else B ++ atomB ps r.head ++ ⟨#[32, 61, 32]⟩ ++ dig r.n) := fun B => rfl
          generalize kindOf ps r.head.pred = kd at *
          clear he
          obtain ⟨B, hB⟩ : ∃ B, rulesTo ps P0 rs j = B := ⟨_, rfl⟩
          rw [hB] at hbz HSR
          have HBS : Hid (∀ q, (bodyTo ps (headPut ps B r) r.body q).size ≤ B.size + 1600 + q * 1600) := HBS0.out B
          have hBz : B.size ≤ 600000000 := by omega
          obtain ⟨U, hU⟩ : ∃ U, Z.alloc (.cells #[.int .i64 (e : Int), .slice ha r.head.args.length hc, .int .i64 r.src, .int .i64 r.n, .slice ba r.body.length bc] 54) = U := ⟨_, rfl⟩
          have bU : Below Z.heap.size Z U := by rw [← hU]; exact below_alloc _ _
          have uc : U.cell? ⟨Z.heap.size, 0, none⟩ = some (.int .i64 (e : Int)) ∧ U.cell? ⟨Z.heap.size, 1, none⟩ = some (.slice ha r.head.args.length hc) ∧ U.cell? ⟨Z.heap.size, 2, none⟩ = some (.int .i64 r.src) ∧ U.cell? ⟨Z.heap.size, 3, none⟩ = some (.int .i64 r.n) ∧ U.cell? ⟨Z.heap.size, 4, none⟩ = some (.slice ba r.body.length bc) ∧ Z.heap.size < U.heap.size := by rw [← hU]; simp [go_sem]
          have HV : Hid (∀ x, Below U.heap.size U x → x.cell? ⟨Z.heap.size, 0, none⟩ = some (.int .i64 (e : Int)) ∧ x.cell? ⟨Z.heap.size, 2, none⟩ = some (.int .i64 r.src) ∧ x.cell? ⟨Z.heap.size, 3, none⟩ = some (.int .i64 r.n) ∧ x.cell? ⟨w.heap.size, 0, none⟩ = some (.slice (some ⟨pb, po, none⟩) ps.length pc) ∧ x.cell? ⟨pb, po + e * 3 + 2, none⟩ = some (.int .i64 kd)) := fun x hx => by
            have hx' : Below Z.heap.size Z x := bU.trans (hx.mono bU.size)
            exact ⟨(cell_lasts hx uc.2.2.2.2.2).trans uc.1, (cell_lasts hx uc.2.2.2.2.2).trans uc.2.2.1, (cell_lasts hx uc.2.2.2.2.2).trans uc.2.2.2.1, (HC.out x (hbw.trans (hx'.mono hbw.size))).1, (cell_lasts hx' hpb).trans n2'⟩
          have HU : Hid (∀ x, Below U.heap.size U x → x.cell? ⟨Z.heap.size, 4, none⟩ = some (.slice ba r.body.length bc) ∧ x.cell? ⟨w.heap.size, 0, none⟩ = some (.slice (some ⟨pb, po, none⟩) ps.length pc) ∧ x.cell? ⟨w.heap.size, 1, none⟩ = some (.slice (some ⟨rb, ro, none⟩) rs.length rc)) := fun x hx => by
            have hx' : Below W1.heap.size W1 x := hbw.trans ((bU.trans (hx.mono bU.size)).mono hbw.size)
            exact ⟨(cell_lasts hx uc.2.2.2.2.2).trans uc.2.2.2.2.1, (HC.out x hx').1, (HC.out x hx').2⟩
          obtain ⟨g0, g1, g2, g3, g4, hZU⟩ := uc
          obtain ⟨A, hA⟩ : ∃ A, atomB ps r.head = A := ⟨_, rfl⟩
          rw [hA] at HAT haz HHD
          rw [hB]
          clear hA hB HBS0 HHS
          obtain ⟨_, _, _, v3, v4⟩ := HV.out U (Below.refl _ _)
          have lm0 : ¬ 9223372036854775807 < B.size + A.size := by omega
          have lm1 : ¬ 9223372036854775807 < B.size + A.size + 3 := by omega
          have lm2 : ¬ 9223372036854775807 < B.size + A.size + 3 + 1 := by omega
          have lm3 : ¬ 9223372036854775807 < B.size + A.size + 3 + 1 + (dig r.src).size := by omega
          have lm4 : ¬ 9223372036854775807 < B.size + A.size + 3 + 1 + (dig r.src).size + 1 := by omega
          have lm5 : ¬ 9223372036854775807 < B.size + A.size + 3 + 1 + (dig r.src).size + 1 + (dig r.n).size := by omega
          have lm6 : ¬ 9223372036854775807 < B.size + A.size + 3 + (dig r.n).size := by omega
          have LM : Hid (True) := trivial
          clear haz hdz1 hdz2 hbz
          go_wp2_with fail
          clear hU r0 r1 r2 r3 r4
          refine (HAT.out _ bU).mono ?_
          rintro e' W2 ⟨rfl, hb2⟩
          clear g0 g1 g2 g3 g4 v3 v4
          obtain ⟨g0, g2, g3, v3, v4⟩ := HV.out W2 hb2
          by_cases hk0 : kd = 0
          · have HH : Hid (headPut ps B r = B ++ A) := by show _ = _; rw [HHD.out, if_pos hk0]
            rw [hk0] at v4
            go_wp2_with fail
            clear g0 g2 g3 v3 v4 lm0 lm1 lm2 lm3 lm4 lm5 lm6
            go_loopw [3, 7] (fun s i wz => ∃ q : Nat, q ≤ r.body.length ∧ i = .int .i64 q ∧ s = .string (bodyTo ps (headPut ps B r) r.body q) ∧ Below U.heap.size U wz) (fun _ i _ => r.body.length - (intOf i).toNat)
            case atStart => exact ⟨0, Nat.zero_le _, rfl, by rw [bodyTo, HH.out], hb2⟩
            case round =>
              obtain ⟨q, hq, rfl, rfl, hbz⟩ := hrel
              obtain ⟨f0, f1, f2⟩ := HU.out wr hbz
              have kz : Below Z.heap.size Z wr := bU.trans (hbz.mono bU.size)
              by_cases hql : q < r.body.length
              · obtain ⟨lb, lo, lc, hlv, hlb, t0, t1, av, t2, ta⟩ := slice_cells (HTB.out wr kz) hql
                obtain ⟨rfl, rfl⟩ : ba = some ⟨lb, lo, none⟩ ∧ bc = lc := by simpa using hlv
                have hq1 : (q : Int) < (r.body.length : Int) := by omega
                have hq0 : (0 : Int) ≤ (q : Int) := by omega
                have hml := List.getElem_mem hql
                obtain ⟨⟨e2, he2, hel2⟩, hok2, hfew2⟩ := HBO.out _ hml
                have hcz : (bodyTo ps (headPut ps B r) r.body q).size ≤ 2000000000 := by
                  have h1 := HBS.out q
                  have h2 : q * 1600 ≤ 500 * 1600 := Nat.mul_le_mul_right _ (by have := HBF.out; omega)
                  omega
                have haz := atom_sz OK.out.name hfew2
                have HAL : Hid (∀ x, Below wr.heap.size wr x → Calls Tryz.prog 28 #[.slice (some ⟨pb, po, none⟩) ps.length pc, .agg #[.int .i64 r.body[q].atom.pred, av]] x fun e w' => e = .returned (.string (atomB ps r.body[q].atom)) ∧ Below x.heap.size x w') := fun x hx => atomText_c x _ _ ps _ e2 (HPZ2.out x (kz.trans (hx.mono kz.size))) (termsAt.lasts hx ta) he2 hel2 hok2 (name_size OK.out.name _) hfew2
                obtain ⟨la, ld, rfl, _⟩ := ta
                have HSB : Hid (bodyTo ps (headPut ps B r) r.body (q + 1) = litPut ps (bodyTo ps (headPut ps B r) r.body q) q r.body[q]) := by
                  show _ = _
                  rw [bodyTo, List.getD, List.getElem?_eq_getElem hql]
                  rfl
                have sW : w.heap.size < wr.heap.size := Nat.lt_of_lt_of_le hs (Nat.le_trans hbw.size kz.size)
                have sZ : Z.heap.size < wr.heap.size := Nat.lt_of_lt_of_le hZU hbz.size
                clear hlv hml he2 hok2
                generalize r.body[q] = l at *
                generalize hA2 : atomB ps l.atom = A2 at *
                generalize bodyTo ps (headPut ps B r) r.body q = C at *
                have t2' : wr.cell? ⟨lb, lo + q * 3 + 1 + 1, none⟩ = some (.slice la l.atom.args.length ld) := t2
                by_cases h0 : q = 0
                · subst h0
                  have t0' : wr.cell? ⟨lb, lo, none⟩ = some (.bool l.neg) := by have := t0; rwa [Nat.zero_mul, Nat.add_zero] at this
                  have t1' : wr.cell? ⟨lb, lo + 1, none⟩ = some (.int .i64 l.atom.pred) := by have := t1; rwa [Nat.zero_mul, Nat.add_zero] at this
                  have t3' : wr.cell? ⟨lb, lo + 1 + 1, none⟩ = some (.slice la l.atom.args.length ld) := by have := t2'; rwa [Nat.zero_mul, Nat.add_zero] at this
                  cases hneg : l.neg
                  · rw [hneg] at t0'
                    have HS : Hid (bodyTo ps (headPut ps B r) r.body 1 = C ++ ⟨#[32, 58, 45, 32]⟩ ++ A2) := by show _ = _; rw [HSB.out, litPut, hneg, hA2]; rfl
                    have lim0 : ¬ 9223372036854775807 < C.size + 4 := by omega
                    have lim1 : ¬ 9223372036854775807 < C.size + 4 + A2.size := by omega
                    clear hcz haz hA2
                    go_wp2_with fail
                    have L1 : ∀ x : Low wr.heap.size wr, x.wd.cell? ⟨lb, lo + 1, none⟩ = some (.int .i64 l.atom.pred) := fun x => (cell_lasts x.low hlb).trans t1'
                    have L2 : ∀ x : Low wr.heap.size wr, x.wd.cell? ⟨lb, lo + 1 + 1, none⟩ = some (.slice la l.atom.args.length ld) := fun x => (cell_lasts x.low hlb).trans t3'
                    have N0 : ∀ x : Low wr.heap.size wr, x.wd.cell? ⟨w.heap.size, 0, none⟩ = some (.slice (some ⟨pb, po, none⟩) ps.length pc) := fun x => (cell_lasts x.low sW).trans f1
                    have N1 : ∀ x : Low wr.heap.size wr, x.wd.cell? ⟨Z.heap.size, 4, none⟩ = some (.slice (some ⟨lb, lo, none⟩) r.body.length bc) := fun x => (cell_lasts x.low sZ).trans f0
                    refine wp_region_low wr.heap.size (by kernel_rfl) (by kernel_rfl) ?_
                    repeat (go_big_quiet_step (first | (go_at_call 28; exact low_of (HAL.out _ (Low.low _)))))
                    refine wpQuiet_nil ?_
                    rintro _ ⟨⟨W3, hb3⟩, rfl⟩
                    clear L1 L2 N0 N1
                    go_wp2_with fail
                    go_roundw
                    case rel => exact ⟨1, by omega, by go_num, by rw [HS.out], hbz.trans (hb3.mono hbz.size)⟩
                    case measure => simp [intOf]; omega
                  · rw [hneg] at t0'
                    have HS : Hid (bodyTo ps (headPut ps B r) r.body 1 = C ++ ⟨#[32, 58, 45, 32]⟩ ++ ⟨#[33]⟩ ++ A2) := by show _ = _; rw [HSB.out, litPut, hneg, hA2]; rfl
                    have lim0 : ¬ 9223372036854775807 < C.size + 4 := by omega
                    have lim1 : ¬ 9223372036854775807 < C.size + 4 + 1 := by omega
                    have lim2 : ¬ 9223372036854775807 < C.size + 4 + 1 + A2.size := by omega
                    clear hcz haz hA2
                    go_wp2_with fail
                    have L1 : ∀ x : Low wr.heap.size wr, x.wd.cell? ⟨lb, lo + 1, none⟩ = some (.int .i64 l.atom.pred) := fun x => (cell_lasts x.low hlb).trans t1'
                    have L2 : ∀ x : Low wr.heap.size wr, x.wd.cell? ⟨lb, lo + 1 + 1, none⟩ = some (.slice la l.atom.args.length ld) := fun x => (cell_lasts x.low hlb).trans t3'
                    have N0 : ∀ x : Low wr.heap.size wr, x.wd.cell? ⟨w.heap.size, 0, none⟩ = some (.slice (some ⟨pb, po, none⟩) ps.length pc) := fun x => (cell_lasts x.low sW).trans f1
                    have N1 : ∀ x : Low wr.heap.size wr, x.wd.cell? ⟨Z.heap.size, 4, none⟩ = some (.slice (some ⟨lb, lo, none⟩) r.body.length bc) := fun x => (cell_lasts x.low sZ).trans f0
                    refine wp_region_low wr.heap.size (by kernel_rfl) (by kernel_rfl) ?_
                    repeat (go_big_quiet_step (first | (go_at_call 28; exact low_of (HAL.out _ (Low.low _)))))
                    refine wpQuiet_nil ?_
                    rintro _ ⟨⟨W3, hb3⟩, rfl⟩
                    clear L1 L2 N0 N1
                    go_wp2_with fail
                    go_roundw
                    case rel => exact ⟨1, by omega, by go_num, by rw [HS.out], hbz.trans (hb3.mono hbz.size)⟩
                    case measure => simp [intOf]; omega
                · have h0' : (q : Int) ≠ 0 := by omega
                  have h0b : ((q : Int) == 0) = false := by simpa using h0'
                  cases hneg : l.neg
                  · rw [hneg] at t0
                    have HS : Hid (bodyTo ps (headPut ps B r) r.body (q + 1) = C ++ ⟨#[44, 32]⟩ ++ A2) := by show _ = _; rw [HSB.out, litPut, hneg, if_neg (by simp), if_neg h0, hA2]
                    have lim0 : ¬ 9223372036854775807 < C.size + 2 := by omega
                    have lim1 : ¬ 9223372036854775807 < C.size + 2 + A2.size := by omega
                    clear hcz haz hA2
                    go_wp2_with fail
                    have L1 : ∀ x : Low wr.heap.size wr, x.wd.cell? ⟨lb, lo + q * 3 + 1, none⟩ = some (.int .i64 l.atom.pred) := fun x => (cell_lasts x.low hlb).trans t1
                    have L2 : ∀ x : Low wr.heap.size wr, x.wd.cell? ⟨lb, lo + q * 3 + 1 + 1, none⟩ = some (.slice la l.atom.args.length ld) := fun x => (cell_lasts x.low hlb).trans t2'
                    have N0 : ∀ x : Low wr.heap.size wr, x.wd.cell? ⟨w.heap.size, 0, none⟩ = some (.slice (some ⟨pb, po, none⟩) ps.length pc) := fun x => (cell_lasts x.low sW).trans f1
                    have N1 : ∀ x : Low wr.heap.size wr, x.wd.cell? ⟨Z.heap.size, 4, none⟩ = some (.slice (some ⟨lb, lo, none⟩) r.body.length bc) := fun x => (cell_lasts x.low sZ).trans f0
                    refine wp_region_low wr.heap.size (by kernel_rfl) (by kernel_rfl) ?_
                    repeat (go_big_quiet_step (first | (go_at_call 28; exact low_of (HAL.out _ (Low.low _)))))
                    refine wpQuiet_nil ?_
                    rintro _ ⟨⟨W3, hb3⟩, rfl⟩
                    clear L1 L2 N0 N1
                    go_wp2_with fail
                    go_roundw
                    case rel => exact ⟨q + 1, by omega, by go_num, by rw [HS.out], hbz.trans (hb3.mono hbz.size)⟩
                    case measure => simp [intOf]; omega
                  · rw [hneg] at t0
                    have HS : Hid (bodyTo ps (headPut ps B r) r.body (q + 1) = C ++ ⟨#[44, 32]⟩ ++ ⟨#[33]⟩ ++ A2) := by show _ = _; rw [HSB.out, litPut, hneg, if_pos rfl, if_neg h0, hA2]
                    have lim0 : ¬ 9223372036854775807 < C.size + 2 := by omega
                    have lim1 : ¬ 9223372036854775807 < C.size + 2 + 1 := by omega
                    have lim2 : ¬ 9223372036854775807 < C.size + 2 + 1 + A2.size := by omega
                    clear hcz haz hA2
                    go_wp2_with fail
                    have L1 : ∀ x : Low wr.heap.size wr, x.wd.cell? ⟨lb, lo + q * 3 + 1, none⟩ = some (.int .i64 l.atom.pred) := fun x => (cell_lasts x.low hlb).trans t1
                    have L2 : ∀ x : Low wr.heap.size wr, x.wd.cell? ⟨lb, lo + q * 3 + 1 + 1, none⟩ = some (.slice la l.atom.args.length ld) := fun x => (cell_lasts x.low hlb).trans t2'
                    have N0 : ∀ x : Low wr.heap.size wr, x.wd.cell? ⟨w.heap.size, 0, none⟩ = some (.slice (some ⟨pb, po, none⟩) ps.length pc) := fun x => (cell_lasts x.low sW).trans f1
                    have N1 : ∀ x : Low wr.heap.size wr, x.wd.cell? ⟨Z.heap.size, 4, none⟩ = some (.slice (some ⟨lb, lo, none⟩) r.body.length bc) := fun x => (cell_lasts x.low sZ).trans f0
                    refine wp_region_low wr.heap.size (by kernel_rfl) (by kernel_rfl) ?_
                    repeat (go_big_quiet_step (first | (go_at_call 28; exact low_of (HAL.out _ (Low.low _)))))
                    refine wpQuiet_nil ?_
                    rintro _ ⟨⟨W3, hb3⟩, rfl⟩
                    clear L1 L2 N0 N1
                    go_wp2_with fail
                    go_roundw
                    case rel => exact ⟨q + 1, by omega, by go_num, by rw [HS.out], hbz.trans (hb3.mono hbz.size)⟩
                    case measure => simp [intOf]; omega
              · obtain rfl : q = r.body.length := by omega
                have HSE : Hid (rulesTo ps P0 rs (j + 1) = bodyTo ps (headPut ps B r) r.body r.body.length ++ ⟨#[46, 10]⟩) := HSR
                have lim0 : ¬ 9223372036854775807 < (bodyTo ps (headPut ps B r) r.body r.body.length).size + 2 := by
                  have h1 := HBS.out r.body.length
                  have h2 : r.body.length * 1600 ≤ 500 * 1600 := Nat.mul_le_mul_right _ HBF.out
                  omega
                generalize bodyTo ps (headPut ps B r) r.body r.body.length = C at *
                go_wp2_with fail
                go_roundw
                case rel => exact ⟨j + 1, by omega, by go_num, by rw [HSE.out], hbw.trans ((bU.trans (hbz.mono bU.size)).mono hbw.size)⟩
                case measure => simp [intOf]; omega
          · have hk1 : kd ≠ 0 := hk0
            have hk2 : (kd == 0) = false := by simpa using hk0
            have hk3 : (kd != 0) = true := by simpa using hk0
            by_cases hs0 : 0 ≤ r.src
            · have HH : Hid (headPut ps B r = B ++ A ++ ⟨#[32, 61, 32]⟩ ++ ⟨#[35]⟩ ++ dig r.src ++ ⟨#[43]⟩ ++ dig r.n) := by show _ = _; rw [HHD.out, if_neg hk0, if_pos hs0]
              have HD1 := HDS.out hs0
              have hs1 : r.src ≥ 0 := hs0
              go_wp2_with fail
              refine (HD1 _).mono ?_
              rintro e'' W3 ⟨rfl, hb3⟩
              have q3 : Below U.heap.size U W3 := hb2.trans (hb3.mono hb2.size)
              clear g0 g2 g3 v3 v4
              obtain ⟨g0, g2, g3, v3, v4⟩ := HV.out W3 q3
              go_wp2_with fail
              refine (HDN.out _).mono ?_
              rintro e'' W4 ⟨rfl, hb4⟩
              have q4 : Below U.heap.size U W4 := q3.trans (hb4.mono q3.size)
              clear g0 g2 g3 v3 v4 HD1
              go_wp2_with fail
              clear lm0 lm1 lm2 lm3 lm4 lm5 lm6
              go_loopw [3, 7] (fun s i wz => ∃ q : Nat, q ≤ r.body.length ∧ i = .int .i64 q ∧ s = .string (bodyTo ps (headPut ps B r) r.body q) ∧ Below U.heap.size U wz) (fun _ i _ => r.body.length - (intOf i).toNat)
              case atStart => exact ⟨0, Nat.zero_le _, rfl, by rw [bodyTo, HH.out], q4⟩
              case round =>
                obtain ⟨q, hq, rfl, rfl, hbz⟩ := hrel
                obtain ⟨f0, f1, f2⟩ := HU.out wr hbz
                have kz : Below Z.heap.size Z wr := bU.trans (hbz.mono bU.size)
                by_cases hql : q < r.body.length
                · obtain ⟨lb, lo, lc, hlv, hlb, t0, t1, av, t2, ta⟩ := slice_cells (HTB.out wr kz) hql
                  obtain ⟨rfl, rfl⟩ : ba = some ⟨lb, lo, none⟩ ∧ bc = lc := by simpa using hlv
                  have hq1 : (q : Int) < (r.body.length : Int) := by omega
                  have hq0 : (0 : Int) ≤ (q : Int) := by omega
                  have hml := List.getElem_mem hql
                  obtain ⟨⟨e2, he2, hel2⟩, hok2, hfew2⟩ := HBO.out _ hml
                  have hcz : (bodyTo ps (headPut ps B r) r.body q).size ≤ 2000000000 := by
                    have h1 := HBS.out q
                    have h2 : q * 1600 ≤ 500 * 1600 := Nat.mul_le_mul_right _ (by have := HBF.out; omega)
                    omega
                  have haz := atom_sz OK.out.name hfew2
                  have HAL : Hid (∀ x, Below wr.heap.size wr x → Calls Tryz.prog 28 #[.slice (some ⟨pb, po, none⟩) ps.length pc, .agg #[.int .i64 r.body[q].atom.pred, av]] x fun e w' => e = .returned (.string (atomB ps r.body[q].atom)) ∧ Below x.heap.size x w') := fun x hx => atomText_c x _ _ ps _ e2 (HPZ2.out x (kz.trans (hx.mono kz.size))) (termsAt.lasts hx ta) he2 hel2 hok2 (name_size OK.out.name _) hfew2
                  obtain ⟨la, ld, rfl, _⟩ := ta
                  have HSB : Hid (bodyTo ps (headPut ps B r) r.body (q + 1) = litPut ps (bodyTo ps (headPut ps B r) r.body q) q r.body[q]) := by
                    show _ = _
                    rw [bodyTo, List.getD, List.getElem?_eq_getElem hql]
                    rfl
                  have sW : w.heap.size < wr.heap.size := Nat.lt_of_lt_of_le hs (Nat.le_trans hbw.size kz.size)
                  have sZ : Z.heap.size < wr.heap.size := Nat.lt_of_lt_of_le hZU hbz.size
                  clear hlv hml he2 hok2
                  generalize r.body[q] = l at *
                  generalize hA2 : atomB ps l.atom = A2 at *
                  generalize bodyTo ps (headPut ps B r) r.body q = C at *
                  have t2' : wr.cell? ⟨lb, lo + q * 3 + 1 + 1, none⟩ = some (.slice la l.atom.args.length ld) := t2
                  by_cases h0 : q = 0
                  · subst h0
                    have t0' : wr.cell? ⟨lb, lo, none⟩ = some (.bool l.neg) := by have := t0; rwa [Nat.zero_mul, Nat.add_zero] at this
                    have t1' : wr.cell? ⟨lb, lo + 1, none⟩ = some (.int .i64 l.atom.pred) := by have := t1; rwa [Nat.zero_mul, Nat.add_zero] at this
                    have t3' : wr.cell? ⟨lb, lo + 1 + 1, none⟩ = some (.slice la l.atom.args.length ld) := by have := t2'; rwa [Nat.zero_mul, Nat.add_zero] at this
                    cases hneg : l.neg
                    · rw [hneg] at t0'
                      have HS : Hid (bodyTo ps (headPut ps B r) r.body 1 = C ++ ⟨#[32, 58, 45, 32]⟩ ++ A2) := by show _ = _; rw [HSB.out, litPut, hneg, hA2]; rfl
                      have lim0 : ¬ 9223372036854775807 < C.size + 4 := by omega
                      have lim1 : ¬ 9223372036854775807 < C.size + 4 + A2.size := by omega
                      clear hcz haz hA2
                      go_wp2_with fail
                      have L1 : ∀ x : Low wr.heap.size wr, x.wd.cell? ⟨lb, lo + 1, none⟩ = some (.int .i64 l.atom.pred) := fun x => (cell_lasts x.low hlb).trans t1'
                      have L2 : ∀ x : Low wr.heap.size wr, x.wd.cell? ⟨lb, lo + 1 + 1, none⟩ = some (.slice la l.atom.args.length ld) := fun x => (cell_lasts x.low hlb).trans t3'
                      have N0 : ∀ x : Low wr.heap.size wr, x.wd.cell? ⟨w.heap.size, 0, none⟩ = some (.slice (some ⟨pb, po, none⟩) ps.length pc) := fun x => (cell_lasts x.low sW).trans f1
                      have N1 : ∀ x : Low wr.heap.size wr, x.wd.cell? ⟨Z.heap.size, 4, none⟩ = some (.slice (some ⟨lb, lo, none⟩) r.body.length bc) := fun x => (cell_lasts x.low sZ).trans f0
                      refine wp_region_low wr.heap.size (by kernel_rfl) (by kernel_rfl) ?_
                      repeat (go_big_quiet_step (first | (go_at_call 28; exact low_of (HAL.out _ (Low.low _)))))
                      refine wpQuiet_nil ?_
                      rintro _ ⟨⟨W3, hb3⟩, rfl⟩
                      clear L1 L2 N0 N1
                      go_wp2_with fail
                      go_roundw
                      case rel => exact ⟨1, by omega, by go_num, by rw [HS.out], hbz.trans (hb3.mono hbz.size)⟩
                      case measure => simp [intOf]; omega
                    · rw [hneg] at t0'
                      have HS : Hid (bodyTo ps (headPut ps B r) r.body 1 = C ++ ⟨#[32, 58, 45, 32]⟩ ++ ⟨#[33]⟩ ++ A2) := by show _ = _; rw [HSB.out, litPut, hneg, hA2]; rfl
                      have lim0 : ¬ 9223372036854775807 < C.size + 4 := by omega
                      have lim1 : ¬ 9223372036854775807 < C.size + 4 + 1 := by omega
                      have lim2 : ¬ 9223372036854775807 < C.size + 4 + 1 + A2.size := by omega
                      clear hcz haz hA2
                      go_wp2_with fail
                      have L1 : ∀ x : Low wr.heap.size wr, x.wd.cell? ⟨lb, lo + 1, none⟩ = some (.int .i64 l.atom.pred) := fun x => (cell_lasts x.low hlb).trans t1'
                      have L2 : ∀ x : Low wr.heap.size wr, x.wd.cell? ⟨lb, lo + 1 + 1, none⟩ = some (.slice la l.atom.args.length ld) := fun x => (cell_lasts x.low hlb).trans t3'
                      have N0 : ∀ x : Low wr.heap.size wr, x.wd.cell? ⟨w.heap.size, 0, none⟩ = some (.slice (some ⟨pb, po, none⟩) ps.length pc) := fun x => (cell_lasts x.low sW).trans f1
                      have N1 : ∀ x : Low wr.heap.size wr, x.wd.cell? ⟨Z.heap.size, 4, none⟩ = some (.slice (some ⟨lb, lo, none⟩) r.body.length bc) := fun x => (cell_lasts x.low sZ).trans f0
                      refine wp_region_low wr.heap.size (by kernel_rfl) (by kernel_rfl) ?_
                      repeat (go_big_quiet_step (first | (go_at_call 28; exact low_of (HAL.out _ (Low.low _)))))
                      refine wpQuiet_nil ?_
                      rintro _ ⟨⟨W3, hb3⟩, rfl⟩
                      clear L1 L2 N0 N1
                      go_wp2_with fail
                      go_roundw
                      case rel => exact ⟨1, by omega, by go_num, by rw [HS.out], hbz.trans (hb3.mono hbz.size)⟩
                      case measure => simp [intOf]; omega
                  · have h0' : (q : Int) ≠ 0 := by omega
                    have h0b : ((q : Int) == 0) = false := by simpa using h0'
                    cases hneg : l.neg
                    · rw [hneg] at t0
                      have HS : Hid (bodyTo ps (headPut ps B r) r.body (q + 1) = C ++ ⟨#[44, 32]⟩ ++ A2) := by show _ = _; rw [HSB.out, litPut, hneg, if_neg (by simp), if_neg h0, hA2]
                      have lim0 : ¬ 9223372036854775807 < C.size + 2 := by omega
                      have lim1 : ¬ 9223372036854775807 < C.size + 2 + A2.size := by omega
                      clear hcz haz hA2
                      go_wp2_with fail
                      have L1 : ∀ x : Low wr.heap.size wr, x.wd.cell? ⟨lb, lo + q * 3 + 1, none⟩ = some (.int .i64 l.atom.pred) := fun x => (cell_lasts x.low hlb).trans t1
                      have L2 : ∀ x : Low wr.heap.size wr, x.wd.cell? ⟨lb, lo + q * 3 + 1 + 1, none⟩ = some (.slice la l.atom.args.length ld) := fun x => (cell_lasts x.low hlb).trans t2'
                      have N0 : ∀ x : Low wr.heap.size wr, x.wd.cell? ⟨w.heap.size, 0, none⟩ = some (.slice (some ⟨pb, po, none⟩) ps.length pc) := fun x => (cell_lasts x.low sW).trans f1
                      have N1 : ∀ x : Low wr.heap.size wr, x.wd.cell? ⟨Z.heap.size, 4, none⟩ = some (.slice (some ⟨lb, lo, none⟩) r.body.length bc) := fun x => (cell_lasts x.low sZ).trans f0
                      refine wp_region_low wr.heap.size (by kernel_rfl) (by kernel_rfl) ?_
                      repeat (go_big_quiet_step (first | (go_at_call 28; exact low_of (HAL.out _ (Low.low _)))))
                      refine wpQuiet_nil ?_
                      rintro _ ⟨⟨W3, hb3⟩, rfl⟩
                      clear L1 L2 N0 N1
                      go_wp2_with fail
                      go_roundw
                      case rel => exact ⟨q + 1, by omega, by go_num, by rw [HS.out], hbz.trans (hb3.mono hbz.size)⟩
                      case measure => simp [intOf]; omega
                    · rw [hneg] at t0
                      have HS : Hid (bodyTo ps (headPut ps B r) r.body (q + 1) = C ++ ⟨#[44, 32]⟩ ++ ⟨#[33]⟩ ++ A2) := by show _ = _; rw [HSB.out, litPut, hneg, if_pos rfl, if_neg h0, hA2]
                      have lim0 : ¬ 9223372036854775807 < C.size + 2 := by omega
                      have lim1 : ¬ 9223372036854775807 < C.size + 2 + 1 := by omega
                      have lim2 : ¬ 9223372036854775807 < C.size + 2 + 1 + A2.size := by omega
                      clear hcz haz hA2
                      go_wp2_with fail
                      have L1 : ∀ x : Low wr.heap.size wr, x.wd.cell? ⟨lb, lo + q * 3 + 1, none⟩ = some (.int .i64 l.atom.pred) := fun x => (cell_lasts x.low hlb).trans t1
                      have L2 : ∀ x : Low wr.heap.size wr, x.wd.cell? ⟨lb, lo + q * 3 + 1 + 1, none⟩ = some (.slice la l.atom.args.length ld) := fun x => (cell_lasts x.low hlb).trans t2'
                      have N0 : ∀ x : Low wr.heap.size wr, x.wd.cell? ⟨w.heap.size, 0, none⟩ = some (.slice (some ⟨pb, po, none⟩) ps.length pc) := fun x => (cell_lasts x.low sW).trans f1
                      have N1 : ∀ x : Low wr.heap.size wr, x.wd.cell? ⟨Z.heap.size, 4, none⟩ = some (.slice (some ⟨lb, lo, none⟩) r.body.length bc) := fun x => (cell_lasts x.low sZ).trans f0
                      refine wp_region_low wr.heap.size (by kernel_rfl) (by kernel_rfl) ?_
                      repeat (go_big_quiet_step (first | (go_at_call 28; exact low_of (HAL.out _ (Low.low _)))))
                      refine wpQuiet_nil ?_
                      rintro _ ⟨⟨W3, hb3⟩, rfl⟩
                      clear L1 L2 N0 N1
                      go_wp2_with fail
                      go_roundw
                      case rel => exact ⟨q + 1, by omega, by go_num, by rw [HS.out], hbz.trans (hb3.mono hbz.size)⟩
                      case measure => simp [intOf]; omega
                · obtain rfl : q = r.body.length := by omega
                  have HSE : Hid (rulesTo ps P0 rs (j + 1) = bodyTo ps (headPut ps B r) r.body r.body.length ++ ⟨#[46, 10]⟩) := HSR
                  have lim0 : ¬ 9223372036854775807 < (bodyTo ps (headPut ps B r) r.body r.body.length).size + 2 := by
                    have h1 := HBS.out r.body.length
                    have h2 : r.body.length * 1600 ≤ 500 * 1600 := Nat.mul_le_mul_right _ HBF.out
                    omega
                  generalize bodyTo ps (headPut ps B r) r.body r.body.length = C at *
                  go_wp2_with fail
                  go_roundw
                  case rel => exact ⟨j + 1, by omega, by go_num, by rw [HSE.out], hbw.trans ((bU.trans (hbz.mono bU.size)).mono hbw.size)⟩
                  case measure => simp [intOf]; omega
            · have HH : Hid (headPut ps B r = B ++ A ++ ⟨#[32, 61, 32]⟩ ++ dig r.n) := by show _ = _; rw [HHD.out, if_neg hk0, if_neg hs0]
              have hs1 : ¬ r.src ≥ 0 := hs0
              go_wp2_with fail
              refine (HDN.out _).mono ?_
              rintro e'' W4 ⟨rfl, hb4⟩
              have q4 : Below U.heap.size U W4 := hb2.trans (hb4.mono hb2.size)
              clear g0 g2 g3 v3 v4
              go_wp2_with fail
              clear lm0 lm1 lm2 lm3 lm4 lm5 lm6
              go_loopw [3, 7] (fun s i wz => ∃ q : Nat, q ≤ r.body.length ∧ i = .int .i64 q ∧ s = .string (bodyTo ps (headPut ps B r) r.body q) ∧ Below U.heap.size U wz) (fun _ i _ => r.body.length - (intOf i).toNat)
              case atStart => exact ⟨0, Nat.zero_le _, rfl, by rw [bodyTo, HH.out], q4⟩
              case round =>
                obtain ⟨q, hq, rfl, rfl, hbz⟩ := hrel
                obtain ⟨f0, f1, f2⟩ := HU.out wr hbz
                have kz : Below Z.heap.size Z wr := bU.trans (hbz.mono bU.size)
                by_cases hql : q < r.body.length
                · obtain ⟨lb, lo, lc, hlv, hlb, t0, t1, av, t2, ta⟩ := slice_cells (HTB.out wr kz) hql
                  obtain ⟨rfl, rfl⟩ : ba = some ⟨lb, lo, none⟩ ∧ bc = lc := by simpa using hlv
                  have hq1 : (q : Int) < (r.body.length : Int) := by omega
                  have hq0 : (0 : Int) ≤ (q : Int) := by omega
                  have hml := List.getElem_mem hql
                  obtain ⟨⟨e2, he2, hel2⟩, hok2, hfew2⟩ := HBO.out _ hml
                  have hcz : (bodyTo ps (headPut ps B r) r.body q).size ≤ 2000000000 := by
                    have h1 := HBS.out q
                    have h2 : q * 1600 ≤ 500 * 1600 := Nat.mul_le_mul_right _ (by have := HBF.out; omega)
                    omega
                  have haz := atom_sz OK.out.name hfew2
                  have HAL : Hid (∀ x, Below wr.heap.size wr x → Calls Tryz.prog 28 #[.slice (some ⟨pb, po, none⟩) ps.length pc, .agg #[.int .i64 r.body[q].atom.pred, av]] x fun e w' => e = .returned (.string (atomB ps r.body[q].atom)) ∧ Below x.heap.size x w') := fun x hx => atomText_c x _ _ ps _ e2 (HPZ2.out x (kz.trans (hx.mono kz.size))) (termsAt.lasts hx ta) he2 hel2 hok2 (name_size OK.out.name _) hfew2
                  obtain ⟨la, ld, rfl, _⟩ := ta
                  have HSB : Hid (bodyTo ps (headPut ps B r) r.body (q + 1) = litPut ps (bodyTo ps (headPut ps B r) r.body q) q r.body[q]) := by
                    show _ = _
                    rw [bodyTo, List.getD, List.getElem?_eq_getElem hql]
                    rfl
                  have sW : w.heap.size < wr.heap.size := Nat.lt_of_lt_of_le hs (Nat.le_trans hbw.size kz.size)
                  have sZ : Z.heap.size < wr.heap.size := Nat.lt_of_lt_of_le hZU hbz.size
                  clear hlv hml he2 hok2
                  generalize r.body[q] = l at *
                  generalize hA2 : atomB ps l.atom = A2 at *
                  generalize bodyTo ps (headPut ps B r) r.body q = C at *
                  have t2' : wr.cell? ⟨lb, lo + q * 3 + 1 + 1, none⟩ = some (.slice la l.atom.args.length ld) := t2
                  by_cases h0 : q = 0
                  · subst h0
                    have t0' : wr.cell? ⟨lb, lo, none⟩ = some (.bool l.neg) := by have := t0; rwa [Nat.zero_mul, Nat.add_zero] at this
                    have t1' : wr.cell? ⟨lb, lo + 1, none⟩ = some (.int .i64 l.atom.pred) := by have := t1; rwa [Nat.zero_mul, Nat.add_zero] at this
                    have t3' : wr.cell? ⟨lb, lo + 1 + 1, none⟩ = some (.slice la l.atom.args.length ld) := by have := t2'; rwa [Nat.zero_mul, Nat.add_zero] at this
                    cases hneg : l.neg
                    · rw [hneg] at t0'
                      have HS : Hid (bodyTo ps (headPut ps B r) r.body 1 = C ++ ⟨#[32, 58, 45, 32]⟩ ++ A2) := by show _ = _; rw [HSB.out, litPut, hneg, hA2]; rfl
                      have lim0 : ¬ 9223372036854775807 < C.size + 4 := by omega
                      have lim1 : ¬ 9223372036854775807 < C.size + 4 + A2.size := by omega
                      clear hcz haz hA2
                      go_wp2_with fail
                      have L1 : ∀ x : Low wr.heap.size wr, x.wd.cell? ⟨lb, lo + 1, none⟩ = some (.int .i64 l.atom.pred) := fun x => (cell_lasts x.low hlb).trans t1'
                      have L2 : ∀ x : Low wr.heap.size wr, x.wd.cell? ⟨lb, lo + 1 + 1, none⟩ = some (.slice la l.atom.args.length ld) := fun x => (cell_lasts x.low hlb).trans t3'
                      have N0 : ∀ x : Low wr.heap.size wr, x.wd.cell? ⟨w.heap.size, 0, none⟩ = some (.slice (some ⟨pb, po, none⟩) ps.length pc) := fun x => (cell_lasts x.low sW).trans f1
                      have N1 : ∀ x : Low wr.heap.size wr, x.wd.cell? ⟨Z.heap.size, 4, none⟩ = some (.slice (some ⟨lb, lo, none⟩) r.body.length bc) := fun x => (cell_lasts x.low sZ).trans f0
                      refine wp_region_low wr.heap.size (by kernel_rfl) (by kernel_rfl) ?_
                      repeat (go_big_quiet_step (first | (go_at_call 28; exact low_of (HAL.out _ (Low.low _)))))
                      refine wpQuiet_nil ?_
                      rintro _ ⟨⟨W3, hb3⟩, rfl⟩
                      clear L1 L2 N0 N1
                      go_wp2_with fail
                      go_roundw
                      case rel => exact ⟨1, by omega, by go_num, by rw [HS.out], hbz.trans (hb3.mono hbz.size)⟩
                      case measure => simp [intOf]; omega
                    · rw [hneg] at t0'
                      have HS : Hid (bodyTo ps (headPut ps B r) r.body 1 = C ++ ⟨#[32, 58, 45, 32]⟩ ++ ⟨#[33]⟩ ++ A2) := by show _ = _; rw [HSB.out, litPut, hneg, hA2]; rfl
                      have lim0 : ¬ 9223372036854775807 < C.size + 4 := by omega
                      have lim1 : ¬ 9223372036854775807 < C.size + 4 + 1 := by omega
                      have lim2 : ¬ 9223372036854775807 < C.size + 4 + 1 + A2.size := by omega
                      clear hcz haz hA2
                      go_wp2_with fail
                      have L1 : ∀ x : Low wr.heap.size wr, x.wd.cell? ⟨lb, lo + 1, none⟩ = some (.int .i64 l.atom.pred) := fun x => (cell_lasts x.low hlb).trans t1'
                      have L2 : ∀ x : Low wr.heap.size wr, x.wd.cell? ⟨lb, lo + 1 + 1, none⟩ = some (.slice la l.atom.args.length ld) := fun x => (cell_lasts x.low hlb).trans t3'
                      have N0 : ∀ x : Low wr.heap.size wr, x.wd.cell? ⟨w.heap.size, 0, none⟩ = some (.slice (some ⟨pb, po, none⟩) ps.length pc) := fun x => (cell_lasts x.low sW).trans f1
                      have N1 : ∀ x : Low wr.heap.size wr, x.wd.cell? ⟨Z.heap.size, 4, none⟩ = some (.slice (some ⟨lb, lo, none⟩) r.body.length bc) := fun x => (cell_lasts x.low sZ).trans f0
                      refine wp_region_low wr.heap.size (by kernel_rfl) (by kernel_rfl) ?_
                      repeat (go_big_quiet_step (first | (go_at_call 28; exact low_of (HAL.out _ (Low.low _)))))
                      refine wpQuiet_nil ?_
                      rintro _ ⟨⟨W3, hb3⟩, rfl⟩
                      clear L1 L2 N0 N1
                      go_wp2_with fail
                      go_roundw
                      case rel => exact ⟨1, by omega, by go_num, by rw [HS.out], hbz.trans (hb3.mono hbz.size)⟩
                      case measure => simp [intOf]; omega
                  · have h0' : (q : Int) ≠ 0 := by omega
                    have h0b : ((q : Int) == 0) = false := by simpa using h0'
                    cases hneg : l.neg
                    · rw [hneg] at t0
                      have HS : Hid (bodyTo ps (headPut ps B r) r.body (q + 1) = C ++ ⟨#[44, 32]⟩ ++ A2) := by show _ = _; rw [HSB.out, litPut, hneg, if_neg (by simp), if_neg h0, hA2]
                      have lim0 : ¬ 9223372036854775807 < C.size + 2 := by omega
                      have lim1 : ¬ 9223372036854775807 < C.size + 2 + A2.size := by omega
                      clear hcz haz hA2
                      go_wp2_with fail
                      have L1 : ∀ x : Low wr.heap.size wr, x.wd.cell? ⟨lb, lo + q * 3 + 1, none⟩ = some (.int .i64 l.atom.pred) := fun x => (cell_lasts x.low hlb).trans t1
                      have L2 : ∀ x : Low wr.heap.size wr, x.wd.cell? ⟨lb, lo + q * 3 + 1 + 1, none⟩ = some (.slice la l.atom.args.length ld) := fun x => (cell_lasts x.low hlb).trans t2'
                      have N0 : ∀ x : Low wr.heap.size wr, x.wd.cell? ⟨w.heap.size, 0, none⟩ = some (.slice (some ⟨pb, po, none⟩) ps.length pc) := fun x => (cell_lasts x.low sW).trans f1
                      have N1 : ∀ x : Low wr.heap.size wr, x.wd.cell? ⟨Z.heap.size, 4, none⟩ = some (.slice (some ⟨lb, lo, none⟩) r.body.length bc) := fun x => (cell_lasts x.low sZ).trans f0
                      refine wp_region_low wr.heap.size (by kernel_rfl) (by kernel_rfl) ?_
                      repeat (go_big_quiet_step (first | (go_at_call 28; exact low_of (HAL.out _ (Low.low _)))))
                      refine wpQuiet_nil ?_
                      rintro _ ⟨⟨W3, hb3⟩, rfl⟩
                      clear L1 L2 N0 N1
                      go_wp2_with fail
                      go_roundw
                      case rel => exact ⟨q + 1, by omega, by go_num, by rw [HS.out], hbz.trans (hb3.mono hbz.size)⟩
                      case measure => simp [intOf]; omega
                    · rw [hneg] at t0
                      have HS : Hid (bodyTo ps (headPut ps B r) r.body (q + 1) = C ++ ⟨#[44, 32]⟩ ++ ⟨#[33]⟩ ++ A2) := by show _ = _; rw [HSB.out, litPut, hneg, if_pos rfl, if_neg h0, hA2]
                      have lim0 : ¬ 9223372036854775807 < C.size + 2 := by omega
                      have lim1 : ¬ 9223372036854775807 < C.size + 2 + 1 := by omega
                      have lim2 : ¬ 9223372036854775807 < C.size + 2 + 1 + A2.size := by omega
                      clear hcz haz hA2
                      go_wp2_with fail
                      have L1 : ∀ x : Low wr.heap.size wr, x.wd.cell? ⟨lb, lo + q * 3 + 1, none⟩ = some (.int .i64 l.atom.pred) := fun x => (cell_lasts x.low hlb).trans t1
                      have L2 : ∀ x : Low wr.heap.size wr, x.wd.cell? ⟨lb, lo + q * 3 + 1 + 1, none⟩ = some (.slice la l.atom.args.length ld) := fun x => (cell_lasts x.low hlb).trans t2'
                      have N0 : ∀ x : Low wr.heap.size wr, x.wd.cell? ⟨w.heap.size, 0, none⟩ = some (.slice (some ⟨pb, po, none⟩) ps.length pc) := fun x => (cell_lasts x.low sW).trans f1
                      have N1 : ∀ x : Low wr.heap.size wr, x.wd.cell? ⟨Z.heap.size, 4, none⟩ = some (.slice (some ⟨lb, lo, none⟩) r.body.length bc) := fun x => (cell_lasts x.low sZ).trans f0
                      refine wp_region_low wr.heap.size (by kernel_rfl) (by kernel_rfl) ?_
                      repeat (go_big_quiet_step (first | (go_at_call 28; exact low_of (HAL.out _ (Low.low _)))))
                      refine wpQuiet_nil ?_
                      rintro _ ⟨⟨W3, hb3⟩, rfl⟩
                      clear L1 L2 N0 N1
                      go_wp2_with fail
                      go_roundw
                      case rel => exact ⟨q + 1, by omega, by go_num, by rw [HS.out], hbz.trans (hb3.mono hbz.size)⟩
                      case measure => simp [intOf]; omega
                · obtain rfl : q = r.body.length := by omega
                  have HSE : Hid (rulesTo ps P0 rs (j + 1) = bodyTo ps (headPut ps B r) r.body r.body.length ++ ⟨#[46, 10]⟩) := HSR
                  have lim0 : ¬ 9223372036854775807 < (bodyTo ps (headPut ps B r) r.body r.body.length).size + 2 := by
                    have h1 := HBS.out r.body.length
                    have h2 : r.body.length * 1600 ≤ 500 * 1600 := Nat.mul_le_mul_right _ HBF.out
                    omega
                  generalize bodyTo ps (headPut ps B r) r.body r.body.length = C at *
                  go_wp2_with fail
                  go_roundw
                  case rel => exact ⟨j + 1, by omega, by go_num, by rw [HSE.out], hbw.trans ((bU.trans (hbz.mono bU.size)).mono hbw.size)⟩
                  case measure => simp [intOf]; omega
        · obtain rfl : j = rs.length := by omega
          go_wp2_with fail
          go_ret
          exact ⟨by rw [HPP0.out]; rfl, kw⟩
end Go.Proofs.YtlfccloaoopadafGreatDoor.Text
