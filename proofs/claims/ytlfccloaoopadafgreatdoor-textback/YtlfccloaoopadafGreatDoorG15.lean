/-
  The developers' reading of texts, in plain words: predicates, rules, programs; what is read as a right program is its text, and the text of a right program is read.
-/
import Derived.Test.YtlfccloaoopadafGreatDoorG10
import Derived.Test.YtlfccloaoopadafGreatDoorG14
namespace Go.Proofs.YtlfccloaoopadafGreatDoor.Text
open Rule (kindOf arityOf atomErr ruleErr termOk)
open Prog (progErr)

def predW : List UInt8 := [112, 114, 101, 100, 32]
def isPredR (s : List UInt8) : Bool := (eatL predW s).isSome && !(eatL (predW ++ [61]) s).isSome && !(eatL (predW ++ [58]) s).isSome
def predR (s : List UInt8) : Option (Prd × List UInt8) :=
  (eatL predW s).bind fun s => (runL isLow s).bind fun x => (eatL [32] x.2).bind fun s => (numL s).bind fun y => (eatL [32] y.2).bind fun s => (numL s).bind fun z => (eatL [10] z.2).bind fun s =>
    some (⟨⟨x.1.toArray⟩, y.1, z.1⟩, s)
theorem bl_of (r : List UInt8) : bl ⟨r.toArray⟩ = r := by unfold bl; simp
theorem of_bl (b : ByteArray) : (⟨(bl b).toArray⟩ : ByteArray) = b := bl_inj (bl_of _)
theorem pred_some {s u : List UInt8} {q : Prd} (h : predR s = some (q, u)) (ha : q.arity ≤ 99) (hk : q.kind ≤ 99) : s = predL q ++ u := by
  unfold predR at h
  obtain ⟨s1, h1, h⟩ := Option.bind_eq_some_iff.1 h
  obtain ⟨⟨r, s2⟩, h2, h⟩ := Option.bind_eq_some_iff.1 h
  obtain ⟨s3, h3, h⟩ := Option.bind_eq_some_iff.1 h
  obtain ⟨⟨y, s4⟩, h4, h⟩ := Option.bind_eq_some_iff.1 h
  obtain ⟨s5, h5, h⟩ := Option.bind_eq_some_iff.1 h
  obtain ⟨⟨z, s6⟩, h6, h⟩ := Option.bind_eq_some_iff.1 h
  obtain ⟨s7, h7, h⟩ := Option.bind_eq_some_iff.1 h
  rw [Option.some.injEq, Prod.mk.injEq] at h
  obtain ⟨rfl, rfl⟩ := h
  simp only at ha hk h3 h5 h7
  obtain ⟨e2, _⟩ := runL_some h2
  obtain ⟨e4, _⟩ := num_back h4 ha
  obtain ⟨e6, _⟩ := num_back h6 hk
  rw [eat_iff.1 h1, e2, eat_iff.1 h3, e4, eat_iff.1 h5, e6, eat_iff.1 h7, predL]
  simp only [bl_of, List.append_assoc]
  rfl
theorem dig_head (n : Int) (h0 : 0 ≤ n) (h9 : n ≤ 99) : ∃ b t, bl (dig n) = b :: t ∧ isDig b = true := by
  have := num_dig h0 h9 (t := []) rfl
  rw [List.append_nil] at this
  obtain ⟨r, h1, _⟩ := num_some this
  obtain ⟨e, hne, ha, _⟩ := runL_some h1
  rw [List.append_nil] at e
  cases r with
  | nil => exact absurd rfl hne
  | cons b t => exact ⟨b, t, e, by simp only [List.all_cons, Bool.and_eq_true] at ha; exact ha.1⟩
theorem head_is {p : UInt8 → Bool} {b : UInt8} (u : List UInt8) (h : p b = false) : (([b] ++ u).head?.map p).getD false = false := h
theorem pred_of {q : Prd} (hn : bl q.name ≠ [] ∧ (bl q.name).all isLow = true) (ha : 0 ≤ q.arity ∧ q.arity ≤ 99) (hk : 0 ≤ q.kind ∧ q.kind ≤ 99) (u : List UInt8) : predR (predL q ++ u) = some (q, u) := by
  have e : predL q ++ u = predW ++ (bl q.name ++ ([32] ++ (bl (dig q.arity) ++ ([32] ++ (bl (dig q.kind) ++ ([10] ++ u)))))) := by simp [predL, predW]
  unfold predR
  rw [e, eat_of, Option.bind_some, runL_of hn.1 hn.2 (head_is _ (by decide)), Option.bind_some]
  simp only
  rw [eat_of, Option.bind_some, num_dig ha.1 ha.2 (head_is _ (by decide)), Option.bind_some]
  simp only
  rw [eat_of, Option.bind_some, num_dig hk.1 hk.2 (head_is _ (by decide)), Option.bind_some]
  simp only
  rw [eat_of, Option.bind_some, of_bl]
theorem isPred_of {q : Prd} (hn : bl q.name ≠ [] ∧ (bl q.name).all isLow = true) (u : List UInt8) : isPredR (predL q ++ u) = true := by
  obtain ⟨h1, h2⟩ := hn
  cases hb : bl q.name with
  | nil => exact absurd hb h1
  | cons b t =>
    rw [hb] at h2
    simp only [List.all_cons, Bool.and_eq_true] at h2
    have hb61 : (61 : UInt8) ≠ b := by rintro rfl; exact absurd h2.1 (by decide)
    have hb58 : (58 : UInt8) ≠ b := by rintro rfl; exact absurd h2.1 (by decide)
    simp [isPredR, predL, predW, hb, eatL, hb61, hb58]
/-- the value of a rule, whose predicate has the kind k: from where, and the number -/
def valR (k : Int) (s : List UInt8) : Option ((Int × Int) × List UInt8) :=
  if k = 0 then some ((-1, 0), s)
  else (eatL [32, 61, 32] s).bind fun s => match eatL [35] s with
    | some s => (numL s).bind fun x => (eatL [43] x.2).bind fun s => (numL s).bind fun y => some ((x.1, y.1), y.2)
    | none => (numL s).bind fun y => some ((-1, y.1), y.2)
def aheadR (j : Nat) : List UInt8 := if j = 0 then [32, 58, 45, 32] else [44, 32]
/-- literals, behind j of them, n at the most -/
def bodyR (ps : List Prd) : Nat → Nat → List UInt8 → Option (List Ltr × List UInt8)
  | 0, _, s => some ([], s)
  | n + 1, j, s => match eatL (aheadR j) s with
    | none => some ([], s)
    | some s1 => (atomR ps ((eatL [33] s1).getD s1)).bind fun x => (bodyR ps n (j + 1) x.2).bind fun y => some (⟨(eatL [33] s1).isSome, x.1⟩ :: y.1, y.2)
def ruleR (ps : List Prd) (s : List UInt8) : Option (Rul × List UInt8) :=
  (atomR ps s).bind fun x => (valR (kindOf ps x.1.pred) x.2).bind fun v => (bodyR ps v.2.length 0 v.2).bind fun y => (eatL [46, 10] y.2).bind fun s => some (⟨x.1, v.1.1, v.1.2, y.1⟩, s)
theorem eat_len {p s t : List UInt8} (h : eatL p s = some t) : s.length = p.length + t.length := by rw [eat_iff.1 h, List.length_append]
theorem ahead_len (j : Nat) : 2 ≤ (aheadR j).length := by unfold aheadR; split <;> simp
theorem bang_len (s : List UInt8) : ((eatL [33] s).getD s).length ≤ s.length := by
  cases h : eatL [33] s with
  | none => simp
  | some t => have := eat_len h; simp at this ⊢; omega
theorem atom_len {ps : List Prd} {s u : List UInt8} {a : Atm} (h : atomR ps s = some (a, u)) : u.length < s.length := by
  unfold atomR at h
  obtain ⟨⟨r, s1⟩, h1, h⟩ := Option.bind_eq_some_iff.1 h
  obtain ⟨k, h2, h⟩ := Option.bind_eq_some_iff.1 h
  obtain ⟨⟨ts, s2⟩, h3, h⟩ := Option.bind_eq_some_iff.1 h
  obtain ⟨s3, h4, h⟩ := Option.bind_eq_some_iff.1 h
  rw [Option.some.injEq, Prod.mk.injEq] at h
  obtain ⟨rfl, rfl⟩ := h
  obtain ⟨e1, n1, _⟩ := runL_some h1
  obtain ⟨e3, _⟩ := args_some h3
  have l1 : 0 < r.length := List.length_pos_iff.2 n1
  have l4 : s3.length ≤ s2.length := by
    simp only at h4
    unfold closeR at h4
    split at h4
    · rw [Option.some.injEq] at h4; rw [h4]; exact Nat.le_refl _
    · have := eat_len h4; simp at this; omega
  have l3 := congrArg List.length e3
  have l5 := congrArg List.length e1
  simp only [List.length_append] at l3 l5
  omega
/-- how many may come matters not, as long as there are enough -/
theorem body_fuel (ps : List Prd) : ∀ (n m j : Nat) (s : List UInt8), s.length ≤ n → s.length ≤ m → bodyR ps n j s = bodyR ps m j s := by
  have nil0 : ∀ (n j : Nat), bodyR ps n j [] = some ([], []) := by
    intro n j
    cases n with
    | zero => rfl
    | succ n =>
      rw [bodyR]
      have : eatL (aheadR j) [] = none := by unfold aheadR; split <;> rfl
      rw [this]
  intro n
  induction n with
  | zero =>
    intro m j s h1 h2
    have : s = [] := List.length_eq_zero_iff.1 (by omega)
    subst this
    rw [nil0, nil0]
  | succ n ih =>
    intro m j s h1 h2
    cases m with
    | zero =>
      have : s = [] := List.length_eq_zero_iff.1 (by omega)
      subst this
      rw [nil0, nil0]
    | succ m =>
      rw [bodyR, bodyR]
      cases h : eatL (aheadR j) s with
      | none => rfl
      | some s1 =>
        simp only
        cases h2' : atomR ps ((eatL [33] s1).getD s1) with
        | none => rfl
        | some x =>
          obtain ⟨a, u⟩ := x
          have l1 := eat_len h
          have l2 := ahead_len j
          have l3 := bang_len s1
          have l4 := atom_len h2'
          simp only [Option.bind_some]
          rw [ih m (j + 1) u (by omega) (by omega)]
theorem body_some {ps : List Prd} : ∀ {n j : Nat} {s u : List UInt8} {ls : List Ltr}, s.length ≤ n → bodyR ps n j s = some (ls, u) → s = litsL ps ls j ++ u ∧ (∀ l ∈ ls, AtomRead ps l.atom) ∧ eatL (aheadR (j + ls.length)) u = none
  | 0, j, s, u, ls, hn, h => by
    have : s = [] := List.length_eq_zero_iff.1 (by omega)
    subst this
    rw [bodyR, Option.some.injEq, Prod.mk.injEq] at h
    obtain ⟨rfl, rfl⟩ := h
    refine ⟨rfl, (fun l hl => by cases hl), ?_⟩
    unfold aheadR; split <;> rfl
  | n + 1, j, s, u, ls, hn, h => by
    rw [bodyR] at h
    cases h1 : eatL (aheadR j) s with
    | none =>
      rw [h1] at h
      simp only [Option.some.injEq, Prod.mk.injEq] at h
      obtain ⟨rfl, rfl⟩ := h
      exact ⟨rfl, (fun l hl => by cases hl), h1⟩
    | some s1 =>
      rw [h1] at h
      simp only at h
      obtain ⟨⟨a, s2⟩, h2, h⟩ := Option.bind_eq_some_iff.1 h
      obtain ⟨⟨ls', s3⟩, h3, h⟩ := Option.bind_eq_some_iff.1 h
      rw [Option.some.injEq, Prod.mk.injEq] at h
      obtain ⟨rfl, rfl⟩ := h
      have l1 := eat_len h1
      have l2 := ahead_len j
      have l3 := bang_len s1
      have l4 := atom_len h2
      obtain ⟨e2, o2⟩ := atom_some h2
      obtain ⟨e3, o3, f3⟩ := body_some (by simp only; omega) h3
      refine ⟨?_, ?_, ?_⟩
      · have e4 : s1 = (if (eatL [33] s1).isSome then [33] else []) ++ (eatL [33] s1).getD s1 := by
          cases hb : eatL [33] s1 with
          | none => rfl
          | some t => exact eat_iff.1 hb
        simp only at e3
        rw [e2, e3] at e4
        generalize (eatL [33] s1).isSome = b at e4 ⊢
        rw [eat_iff.1 h1, e4, litsL]
        unfold aheadR
        simp only [List.append_assoc]
      · intro l hl
        rcases List.mem_cons.1 hl with rfl | hl
        · exact o2
        · exact o3 l hl
      · rw [List.length_cons, show j + (ls'.length + 1) = j + 1 + ls'.length by omega]
        exact f3
end Go.Proofs.YtlfccloaoopadafGreatDoor.Text

/-
  The developers' reading of texts, in plain words: what is read as a right program is its text, and the text of a right program is read.
-/
namespace Go.Proofs.YtlfccloaoopadafGreatDoor.Text
open Rule (kindOf arityOf atomErr ruleErr termOk)
open Prog (progErr)

theorem atom_head {ps : List Prd} (hN : Names ps) {a : Atm} (h : AtomRead ps a) (u : List UInt8) : ∃ b t, atomL ps a ++ u = b :: t ∧ isLow b = true := by
  obtain ⟨k, hk, hp⟩ := h.there
  have hq : nameOf ps a.pred = ps[k].name := by unfold nameOf; rw [hp, Int.toNat_natCast, List.getElem?_eq_getElem hk]; rfl
  obtain ⟨l1, l2⟩ := hN.low ps[k] (List.getElem_mem hk)
  unfold atomL
  rw [hq]
  cases hb : bl ps[k].name with
  | nil => exact absurd hb l1
  | cons b t =>
    rw [hb] at l2
    simp only [List.all_cons, Bool.and_eq_true] at l2
    exact ⟨b, t ++ argsL a.args 0 ++ (if a.args = [] then [] else [41]) ++ u, by simp, l2.1⟩
theorem eat_not {a b : UInt8} (h : a ≠ b) (p t : List UInt8) : eatL (a :: p) (b :: t) = none := by rw [eatL, if_neg h]
theorem ahead_not (j : Nat) (u : List UInt8) : eatL (aheadR j) (46 :: u) = none := by
  unfold aheadR
  split <;> exact eat_not (by decide) _ _
/-- what stands behind an atom -/
theorem lits_head (ps : List Prd) (ls : List Ltr) (j : Nat) (u : List UInt8) : ∃ b t, litsL ps ls j ++ 46 :: u = b :: t ∧ isLow b = false ∧ isDig b = false := by
  cases ls with
  | nil => exact ⟨46, u, rfl, by decide, by decide⟩
  | cons l ls =>
    rw [litsL]
    split
    · exact ⟨32, _, rfl, by decide, by decide⟩
    · exact ⟨44, _, rfl, by decide, by decide⟩
theorem body_of {ps : List Prd} (hN : Names ps) (u : List UInt8) : ∀ (ls : List Ltr) (n j : Nat), (∀ l ∈ ls, AtomRead ps l.atom) → ls.length ≤ n → bodyR ps n j (litsL ps ls j ++ 46 :: u) = some (ls, 46 :: u)
  | [], 0, j, _, _ => rfl
  | [], n + 1, j, _, _ => by
    rw [bodyR]
    show (match eatL (aheadR j) (46 :: u) with | none => _ | some s1 => _) = _
    rw [ahead_not]
    rfl
  | l :: ls, 0, j, _, hn => by simp at hn
  | l :: ls, n + 1, j, h, hn => by
    obtain ⟨ng, a⟩ := l
    have ha := h _ (List.mem_cons_self ..)
    obtain ⟨b, t, e0, hb⟩ := lits_head ps ls (j + 1) u
    have e1 : litsL ps (⟨ng, a⟩ :: ls) j ++ 46 :: u = aheadR j ++ ((if ng then [33] else []) ++ (atomL ps a ++ (litsL ps ls (j + 1) ++ 46 :: u))) := by
      rw [litsL]
      unfold aheadR
      simp only [List.append_assoc]
    have e2 : eatL [33] ((if ng then [33] else []) ++ (atomL ps a ++ (litsL ps ls (j + 1) ++ 46 :: u))) = if ng then some (atomL ps a ++ (litsL ps ls (j + 1) ++ 46 :: u)) else none := by
      cases ng with
      | true => exact eat_of _ _
      | false =>
        obtain ⟨c, t', e, hc⟩ := atom_head hN ha (litsL ps ls (j + 1) ++ 46 :: u)
        simp only [Bool.false_eq_true, if_false, List.nil_append]
        rw [e]
        exact eat_not (by rintro rfl; exact absurd hc (by decide)) _ _
    rw [bodyR, e1, eat_of]
    simp only
    rw [e2]
    have e3 : (Option.getD (if ng = true then some (atomL ps a ++ (litsL ps ls (j + 1) ++ 46 :: u)) else none) ((if ng then [33] else []) ++ (atomL ps a ++ (litsL ps ls (j + 1) ++ 46 :: u)))) = atomL ps a ++ (litsL ps ls (j + 1) ++ 46 :: u) := by cases ng <;> rfl
    have e4 : (if ng = true then some (atomL ps a ++ (litsL ps ls (j + 1) ++ 46 :: u)) else none).isSome = ng := by cases ng <;> rfl
    rw [e3, e4, atom_of hN ha (by rw [e0]; simpa using hb.1), Option.bind_some]
    simp only
    rw [body_of hN u ls n (j + 1) (fun l hl => h l (List.mem_cons_of_mem _ hl)) (by simpa using hn)]
    rfl
theorem val_some {ps : List Prd} {r : Rul} {s u : List UInt8} (h : valR (kindOf ps r.head.pred) s = some ((r.src, r.n), u)) (hs : r.src ≤ 99) (hn : r.n ≤ 99) : s = valL ps r ++ u := by
  unfold valR at h
  unfold valL
  split at h
  · rename_i hk
    rw [Option.some.injEq, Prod.mk.injEq] at h
    rw [if_pos hk, h.2]
    rfl
  · rename_i hk
    rw [if_neg hk]
    obtain ⟨s1, h1, h⟩ := Option.bind_eq_some_iff.1 h
    split at h
    · rename_i s2 h2
      obtain ⟨⟨x, s3⟩, h3, h⟩ := Option.bind_eq_some_iff.1 h
      obtain ⟨s4, h4, h⟩ := Option.bind_eq_some_iff.1 h
      obtain ⟨⟨y, s5⟩, h5, h⟩ := Option.bind_eq_some_iff.1 h
      simp only [Option.some.injEq, Prod.mk.injEq] at h
      obtain ⟨⟨rfl, rfl⟩, rfl⟩ := h
      simp only at h4
      obtain ⟨e3, x0, _⟩ := num_back h3 hs
      obtain ⟨e5, _⟩ := num_back h5 hn
      rw [if_pos x0, eat_iff.1 h1, eat_iff.1 h2, e3, eat_iff.1 h4, e5]
      simp
    · obtain ⟨⟨y, s5⟩, h5, h⟩ := Option.bind_eq_some_iff.1 h
      simp only [Option.some.injEq, Prod.mk.injEq] at h
      obtain ⟨⟨e, rfl⟩, rfl⟩ := h
      obtain ⟨e5, _⟩ := num_back h5 hn
      rw [if_neg (by omega), eat_iff.1 h1, e5]
      simp
structure ValRead (ps : List Prd) (r : Rul) : Prop where
  src : -1 ≤ r.src ∧ r.src ≤ 99
  n : 0 ≤ r.n ∧ r.n ≤ 99
  plain : kindOf ps r.head.pred = 0 → r.src = -1 ∧ r.n = 0
theorem val_of {ps : List Prd} {r : Rul} (h : ValRead ps r) {u : List UInt8} (hu : (u.head?.map isDig).getD false = false) : valR (kindOf ps r.head.pred) (valL ps r ++ u) = some ((r.src, r.n), u) := by
  unfold valR valL
  by_cases hk : kindOf ps r.head.pred = 0
  · rw [if_pos hk, if_pos hk, (h.plain hk).1, (h.plain hk).2]
    rfl
  · rw [if_neg hk, if_neg hk]
    by_cases hs : 0 ≤ r.src
    · rw [if_pos hs]
      have e : [32, 61, 32, 35] ++ bl (dig r.src) ++ [43] ++ bl (dig r.n) ++ u = [32, 61, 32] ++ ([35] ++ (bl (dig r.src) ++ ([43] ++ (bl (dig r.n) ++ u)))) := by simp
      rw [e, eat_of, Option.bind_some, eat_of]
      simp only
      rw [num_dig hs h.src.2 (head_is _ (by decide)), Option.bind_some]
      simp only
      rw [eat_of, Option.bind_some, num_dig h.n.1 h.n.2 hu]
      rfl
    · rw [if_neg hs]
      have e : [32, 61, 32] ++ bl (dig r.n) ++ u = [32, 61, 32] ++ (bl (dig r.n) ++ u) := by simp
      obtain ⟨b, t, e1, hb⟩ := dig_head r.n h.n.1 h.n.2
      have e2 : eatL [35] (bl (dig r.n) ++ u) = none := by
        rw [e1]
        exact eat_not (by rintro rfl; exact absurd hb (by decide)) _ _
      rw [e, eat_of, Option.bind_some, e2]
      simp only
      rw [num_dig h.n.1 h.n.2 hu]
      have e3 : r.src = -1 := by have := h.src.1; omega
      rw [e3]
      rfl
structure RuleRead (ps : List Prd) (r : Rul) : Prop where
  head : AtomRead ps r.head
  val : ValRead ps r
  body : ∀ l ∈ r.body, AtomRead ps l.atom
theorem val_len {k : Int} {s u : List UInt8} {v : Int × Int} (h : valR k s = some (v, u)) : u.length ≤ s.length := by
  have num_len : ∀ {s t : List UInt8} {n : Int}, numL s = some (n, t) → t.length ≤ s.length := by
    intro s t n h
    obtain ⟨r, h1, _⟩ := num_some h
    rw [(runL_some h1).1, List.length_append]
    omega
  unfold valR at h
  split at h
  · rw [Option.some.injEq, Prod.mk.injEq] at h
    rw [h.2]
    exact Nat.le_refl _
  · obtain ⟨s1, h1, h⟩ := Option.bind_eq_some_iff.1 h
    have l1 := eat_len h1
    split at h
    · rename_i s2 h2
      have l2 := eat_len h2
      obtain ⟨⟨x, s3⟩, h3, h⟩ := Option.bind_eq_some_iff.1 h
      obtain ⟨s4, h4, h⟩ := Option.bind_eq_some_iff.1 h
      obtain ⟨⟨y, s5⟩, h5, h⟩ := Option.bind_eq_some_iff.1 h
      simp only [Option.some.injEq, Prod.mk.injEq] at h
      obtain ⟨_, rfl⟩ := h
      simp only at h4
      have l3 := num_len h3
      have l4 := eat_len h4
      have l5 := num_len h5
      omega
    · obtain ⟨⟨y, s5⟩, h5, h⟩ := Option.bind_eq_some_iff.1 h
      simp only [Option.some.injEq, Prod.mk.injEq] at h
      obtain ⟨_, rfl⟩ := h
      have l5 := num_len h5
      omega
theorem rule_some {ps : List Prd} {s u : List UInt8} {r : Rul} (h : ruleR ps s = some (r, u)) : u.length < s.length ∧ (r.src ≤ 99 → r.n ≤ 99 → s = ruleL ps r ++ u) := by
  unfold ruleR at h
  obtain ⟨⟨a, s1⟩, h1, h⟩ := Option.bind_eq_some_iff.1 h
  obtain ⟨⟨⟨x, y⟩, s2⟩, h2, h⟩ := Option.bind_eq_some_iff.1 h
  obtain ⟨⟨ls, s3⟩, h3, h⟩ := Option.bind_eq_some_iff.1 h
  obtain ⟨s4, h4, h⟩ := Option.bind_eq_some_iff.1 h
  rw [Option.some.injEq, Prod.mk.injEq] at h
  obtain ⟨rfl, rfl⟩ := h
  simp only at h2 h3 h4
  obtain ⟨e1, _⟩ := atom_some h1
  obtain ⟨e3, _, _⟩ := body_some (Nat.le_refl _) h3
  have e4 := eat_iff.1 h4
  have l1 := atom_len h1
  have l2 := val_len h2
  have l3 := congrArg List.length e3
  have l4 := eat_len h4
  rw [List.length_append] at l3
  refine ⟨by omega, fun hs hn => ?_⟩
  simp only at hs hn
  have e2 := val_some (r := ⟨a, x, y, ls⟩) h2 hs hn
  rw [e1, e2, e3, e4, ruleL]
  simp
theorem rule_of {ps : List Prd} (hN : Names ps) {r : Rul} (h : RuleRead ps r) (u : List UInt8) : ruleR ps (ruleL ps r ++ u) = some (r, u) := by
  have e : ruleL ps r ++ u = atomL ps r.head ++ (valL ps r ++ (litsL ps r.body 0 ++ 46 :: (10 :: u))) := by simp [ruleL]
  obtain ⟨b, t, e0, hb1, hb2⟩ := lits_head ps r.body 0 (10 :: u)
  have hv : ((valL ps r ++ (litsL ps r.body 0 ++ 46 :: (10 :: u))).head?.map isLow).getD false = false := by
    rw [e0]
    unfold valL
    split
    · simpa using hb1
    · split <;> exact (by decide : isLow 32 = false)
  unfold ruleR
  rw [e, atom_of hN h.head hv, Option.bind_some]
  simp only
  rw [val_of h.val (by rw [e0]; simpa using hb2), Option.bind_some]
  simp only
  rw [body_of hN (10 :: u) r.body _ 0 h.body ?_, Option.bind_some]
  · show (eatL [46, 10] ([46, 10] ++ u)).bind _ = _
    rw [eat_of]
    rfl
  · rw [List.length_append]
    have : ∀ (ls : List Ltr) (j : Nat), ls.length ≤ (litsL ps ls j).length := by
      intro ls
      induction ls with
      | nil => intro j; exact Nat.zero_le _
      | cons l ls ih =>
        intro j
        have := ih (j + 1)
        rw [litsL]
        simp only [List.length_append, List.length_cons]
        split <;> simp <;> omega
    have := this r.body 0
    omega
theorem rule_read {ps : List Prd} {r : Rul} (h : ruleErr ps r = 0) : RuleRead ps r := by
  have hr : ∀ a : Atm, atomErr ps a = 0 → AtomRead ps a := by
    intro a ha
    obtain ⟨h1, h2⟩ := Rule.atom_right ha
    refine ⟨Rule.isPred_iff.1 h1, ?_, h2⟩
    unfold atomErr at ha
    rw [if_pos h1] at ha
    split at ha
    · rename_i e
      omega
    · cases ha
  obtain ⟨h1, h2, h3, h4, h5, h6, h7⟩ := Fire.rule_parts h
  refine ⟨hr _ h1, ⟨⟨h3, by omega⟩, ⟨h5, by omega⟩, ?_⟩, fun l hl => hr _ (h2 l hl)⟩
  intro hk
  rw [ruleErr] at h
  split at h
  · contradiction
  · split at h
    · contradiction
    · split at h
      · contradiction
      · split at h
        · contradiction
        · unfold Rule.valueErr at h
          split at h
          · contradiction
          · split at h
            · contradiction
            · rename_i hv
              by_cases e1 : r.src = -1
              · by_cases e2 : r.n = 0
                · exact ⟨e1, e2⟩
                · exact absurd ⟨hk, .inr e2⟩ hv
              · exact absurd ⟨hk, .inl e1⟩ hv
end Go.Proofs.YtlfccloaoopadafGreatDoor.Text

/-
  The developers' reading of texts, in plain words: programs.
-/
namespace Go.Proofs.YtlfccloaoopadafGreatDoor.Text
open Rule (kindOf arityOf atomErr ruleErr termOk)
open Prog (progErr)

def predsR : Nat → List UInt8 → Option (List Prd × List UInt8)
  | 0, s => some ([], s)
  | n + 1, s => if isPredR s then (predR s).bind fun x => (predsR n x.2).bind fun y => some (x.1 :: y.1, y.2) else some ([], s)
def rulesR (ps : List Prd) : Nat → List UInt8 → Option (List Rul)
  | 0, s => if s = [] then some [] else none
  | n + 1, s => if s = [] then some [] else (ruleR ps s).bind fun x => (rulesR ps n x.2).bind fun y => some (x.1 :: y)
/-- what is read of a text, be it right or not -/
def progR (s : List UInt8) : Option (List Prd × List Rul) := (predsR s.length s).bind fun x => (rulesR x.1 x.2.length x.2).bind fun y => some (x.1, y)

theorem pred_len {s u : List UInt8} {q : Prd} (h : predR s = some (q, u)) : u.length < s.length := by
  have num_len : ∀ {s t : List UInt8} {n : Int}, numL s = some (n, t) → t.length ≤ s.length := by
    intro s t n h
    obtain ⟨r, h1, _⟩ := num_some h
    rw [(runL_some h1).1, List.length_append]
    omega
  unfold predR at h
  obtain ⟨s1, h1, h⟩ := Option.bind_eq_some_iff.1 h
  obtain ⟨⟨r, s2⟩, h2, h⟩ := Option.bind_eq_some_iff.1 h
  obtain ⟨s3, h3, h⟩ := Option.bind_eq_some_iff.1 h
  obtain ⟨⟨y, s4⟩, h4, h⟩ := Option.bind_eq_some_iff.1 h
  obtain ⟨s5, h5, h⟩ := Option.bind_eq_some_iff.1 h
  obtain ⟨⟨z, s6⟩, h6, h⟩ := Option.bind_eq_some_iff.1 h
  obtain ⟨s7, h7, h⟩ := Option.bind_eq_some_iff.1 h
  rw [Option.some.injEq, Prod.mk.injEq] at h
  obtain ⟨rfl, rfl⟩ := h
  simp only at h3 h5 h7
  have l1 := eat_len h1
  have l2 := congrArg List.length (runL_some h2).1
  have l3 := eat_len h3
  have l4 := num_len h4
  have l5 := eat_len h5
  have l6 := num_len h6
  have l7 := eat_len h7
  rw [List.length_append] at l2
  simp only [List.length_cons, List.length_nil] at l3
  omega
/-- what a predicate that is read is like -/
theorem pred_low {s u : List UInt8} {q : Prd} (h : predR s = some (q, u)) : 0 ≤ q.arity ∧ q.arity ≤ 999999 ∧ 0 ≤ q.kind ∧ q.kind ≤ 999999 ∧ q.name.size ≤ s.length := by
  have num_in : ∀ {s t : List UInt8} {n : Int}, numL s = some (n, t) → 0 ≤ n ∧ n ≤ 999999 := by
    intro s t n h
    obtain ⟨r, h1, h2, _, h4⟩ := num_some h
    obtain ⟨_, _, ha, _⟩ := runL_some h1
    refine ⟨by rw [← h4]; exact say_ge r 0 ha (Int.le_refl _), ?_⟩
    have key : ∀ (r : List UInt8) (m : Int), r.all isDig = true → sayL r m ≤ (m + 1) * 10 ^ r.length - 1 := by
      intro r
      induction r with
      | nil => intro m _; simp [sayL]
      | cons b r ih =>
        intro m hr
        simp only [List.all_cons, Bool.and_eq_true] at hr
        have hb : b.toNat ≤ 57 := by have := hr.1; unfold isDig at this; simp at this; exact this.2
        have h := ih (10 * m + ((b.toNat : Int) - 48)) hr.2
        rw [sayL, List.length_cons]
        have hp : (0 : Int) ≤ 10 ^ r.length := Int.le_of_lt (Int.pow_pos (by decide))
        have : (10 * m + ((b.toNat : Int) - 48) + 1) * 10 ^ r.length ≤ (m + 1) * 10 * 10 ^ r.length := Int.mul_le_mul_of_nonneg_right (by omega) hp
        rw [Int.pow_succ, Int.mul_comm (10 ^ r.length) 10, ← Int.mul_assoc]
        omega
    have := key r 0 ha
    rw [h4] at this
    have h6 : (10 : Int) ^ r.length ≤ 10 ^ 6 := by
      have : (10 : Nat) ^ r.length ≤ 10 ^ 6 := Nat.pow_le_pow_right (by decide) h2
      exact_mod_cast this
    omega
  unfold predR at h
  obtain ⟨s1, h1, h⟩ := Option.bind_eq_some_iff.1 h
  obtain ⟨⟨r, s2⟩, h2, h⟩ := Option.bind_eq_some_iff.1 h
  obtain ⟨s3, h3, h⟩ := Option.bind_eq_some_iff.1 h
  obtain ⟨⟨y, s4⟩, h4, h⟩ := Option.bind_eq_some_iff.1 h
  obtain ⟨s5, h5, h⟩ := Option.bind_eq_some_iff.1 h
  obtain ⟨⟨z, s6⟩, h6, h⟩ := Option.bind_eq_some_iff.1 h
  obtain ⟨s7, h7, h⟩ := Option.bind_eq_some_iff.1 h
  rw [Option.some.injEq, Prod.mk.injEq] at h
  obtain ⟨rfl, rfl⟩ := h
  have n1 := num_in h4
  have n2 := num_in h6
  refine ⟨n1.1, n1.2, n2.1, n2.2, ?_⟩
  have l1 := eat_len h1
  have l2 := congrArg List.length (runL_some h2).1
  rw [List.length_append] at l2
  have : (⟨r.toArray⟩ : ByteArray).size = r.length := by rw [← bl_size, bl_of]
  simp only [this]
  omega
theorem preds_some : ∀ {n : Nat} {s u : List UInt8} {ps : List Prd}, s.length ≤ n → predsR n s = some (ps, u) → (∀ q ∈ ps, q.arity ≤ 99 ∧ q.kind ≤ 99) → s = ps.flatMap predL ++ u
  | 0, s, u, ps, hn, h, _ => by
    rw [predsR, Option.some.injEq, Prod.mk.injEq] at h
    obtain ⟨rfl, rfl⟩ := h
    rfl
  | n + 1, s, u, ps, hn, h, hq => by
    rw [predsR] at h
    split at h
    · obtain ⟨⟨q, s1⟩, h1, h⟩ := Option.bind_eq_some_iff.1 h
      obtain ⟨⟨ps', s2⟩, h2, h⟩ := Option.bind_eq_some_iff.1 h
      rw [Option.some.injEq, Prod.mk.injEq] at h
      obtain ⟨rfl, rfl⟩ := h
      have l1 := pred_len h1
      have q1 := hq q (List.mem_cons_self ..)
      have e2 := preds_some (by simp only; omega) h2 (fun x hx => hq x (List.mem_cons_of_mem _ hx))
      simp only at e2
      rw [pred_some h1 q1.1 q1.2, e2]
      simp
    · rw [Option.some.injEq, Prod.mk.injEq] at h
      obtain ⟨rfl, rfl⟩ := h
      rfl
theorem rules_some {ps : List Prd} : ∀ {n : Nat} {s : List UInt8} {rs : List Rul}, rulesR ps n s = some rs → (∀ r ∈ rs, r.src ≤ 99 ∧ r.n ≤ 99) → s = rs.flatMap (ruleL ps)
  | 0, s, rs, h, _ => by
    rw [rulesR] at h
    split at h
    · rw [Option.some.injEq] at h
      subst h
      assumption
    · cases h
  | n + 1, s, rs, h, hr => by
    rw [rulesR] at h
    split at h
    · rw [Option.some.injEq] at h
      subst h
      assumption
    · obtain ⟨⟨r, s1⟩, h1, h⟩ := Option.bind_eq_some_iff.1 h
      obtain ⟨rs', h2, h⟩ := Option.bind_eq_some_iff.1 h
      rw [Option.some.injEq] at h
      subst h
      have q1 := hr r (List.mem_cons_self ..)
      rw [(rule_some h1).2 q1.1 q1.2]
      have := rules_some h2 (fun x hx => hr x (List.mem_cons_of_mem _ hx))
      simp only at this
      rw [this]
      simp
/-- what a right program asks of its text -/
structure ProgRead (ps : List Prd) (rs : List Rul) : Prop where
  names : Names ps
  preds : ∀ q ∈ ps, (0 ≤ q.arity ∧ q.arity ≤ 99) ∧ (0 ≤ q.kind ∧ q.kind ≤ 99)
  rules : ∀ r ∈ rs, RuleRead ps r
theorem low_prog {b : Nat} : Prog.letter b = (decide (97 ≤ b) && decide (b ≤ 122)) := rfl
theorem names_of {ps : List Prd} (h1 : ps.any (fun q => !Prog.isName q.name) = false) (h2 : Prog.twice ps = false) : Names ps := by
  refine ⟨fun q hq => ?_, fun i j hij hj hi he => ?_⟩
  · have := List.any_eq_false.1 h1 q hq
    have this : Prog.isName q.name = true := by cases e : Prog.isName q.name with | true => rfl | false => rw [e] at this; exact absurd rfl this
    rw [Prog.isName, Bool.and_eq_true] at this
    obtain ⟨n1, n2⟩ := this
    refine ⟨fun e => ?_, ?_⟩
    · have : q.name.size = 0 := by rw [← bl_size, e]; rfl
      rw [this] at n2
      exact absurd n2 (by decide)
    · unfold Prog.bytes at n1
      rw [List.all_map] at n1
      exact n1
  · have := List.any_eq_false.1 h2 j (List.mem_range.2 hj)
    apply this
    refine List.any_eq_true.2 ⟨ps[i], ?_, ?_⟩
    · rw [List.mem_take_iff_getElem]
      exact ⟨i, by omega, rfl⟩
    · rw [List.getElem?_eq_getElem hj]
      simp only [Option.map_some, Option.getD_some]
      rw [bl_inj he]
      simp
theorem prog_read {ps : List Prd} {rs : List Rul} (h : progErr ps rs = 0) : ProgRead ps rs := by
  have h1 := (Prog.prog_zero h).1
  rw [Prog.partsErr] at h1
  split at h1
  · contradiction
  · split at h1
    · contradiction
    · rename_i hnm
      split at h1
      · contradiction
      · rename_i htw
        split at h1
        · contradiction
        · rename_i har
          split at h1
          · contradiction
          · rename_i hki
            refine ⟨names_of (by simpa using hnm) (by simpa using htw), fun q hq => ?_, fun r hr => rule_read (Prog.rules_all h1 r hr)⟩
            have n2 : 0 ≤ q.arity ∧ q.arity ≤ 2 := by
              have : ¬ (!Lat.within q.arity 0 2) = true := fun e => har (List.any_eq_true.2 ⟨q, hq, e⟩)
              simpa [Lat.within] using this
            have n3 : 0 ≤ q.kind ∧ q.kind ≤ 3 := by
              have : ¬ (!Lat.within q.kind 0 3) = true := fun e => hki (List.any_eq_true.2 ⟨q, hq, e⟩)
              simpa [Lat.within] using this
            omega
/-- WHAT IS READ AS A RIGHT PROGRAM IS ITS TEXT -/
theorem prog_some {s : List UInt8} {ps : List Prd} {rs : List Rul} (h : progR s = some (ps, rs)) (hr : progErr ps rs = 0) : s = progL ps rs := by
  unfold progR at h
  obtain ⟨⟨ps', s1⟩, h1, h⟩ := Option.bind_eq_some_iff.1 h
  obtain ⟨rs', h2, h⟩ := Option.bind_eq_some_iff.1 h
  rw [Option.some.injEq, Prod.mk.injEq] at h
  obtain ⟨rfl, rfl⟩ := h
  obtain ⟨p1, p2, p3⟩ := prog_read hr
  have e1 := preds_some (Nat.le_refl _) h1 (fun q hq => ⟨(p2 q hq).1.2, (p2 q hq).2.2⟩)
  have e2 := rules_some h2 (fun r hr => ⟨(p3 r hr).val.src.2, (p3 r hr).val.n.2⟩)
  simp only at e2
  rw [e1, e2]
  rfl
theorem rule_not_pred {ps : List Prd} (hN : Names ps) {r : Rul} (h : RuleRead ps r) (u : List UInt8) : isPredR (ruleL ps r ++ u) = false := by
  cases hp : eatL predW (ruleL ps r ++ u) with
  | none => simp [isPredR, hp]
  | some t =>
    have e := eat_iff.1 hp
    obtain ⟨k, hk, hpk⟩ := h.head.there
    have hq : nameOf ps r.head.pred = ps[k].name := by unfold nameOf; rw [hpk, Int.toNat_natCast, List.getElem?_eq_getElem hk]; rfl
    obtain ⟨l1, l2⟩ := hN.low ps[k] (List.getElem_mem hk)
    have e1 : ruleL ps r ++ u = bl ps[k].name ++ (argsL r.head.args 0 ++ ((if r.head.args = [] then [] else [41]) ++ (valL ps r ++ (litsL ps r.body 0 ++ ([46, 10] ++ u))))) := by
      simp [ruleL, atomL, hq]
    obtain ⟨b, t', e0, hb1, _⟩ := lits_head ps r.body 0 (10 :: u)
    -- what stands behind the name
    have key : ∃ x : List UInt8, (argsL r.head.args 0 ++ ((if r.head.args = [] then [] else [41]) ++ (valL ps r ++ (litsL ps r.body 0 ++ ([46, 10] ++ u))))) = x ∧ ((∃ y, x = 40 :: y) ∨ (∃ y, x = 32 :: 61 :: y) ∨ (∃ y, x = 32 :: 58 :: y) ∨ ∃ y, x = 46 :: y) := by
      refine ⟨_, rfl, ?_⟩
      cases ha : r.head.args with
      | cons a ts => exact .inl ⟨_, by simp only [argsL, if_true, List.cons_append]; rfl⟩
      | nil =>
        simp only [argsL, if_true, List.nil_append]
        unfold valL
        split
        · cases hl : r.body with
          | nil => exact .inr (.inr (.inr ⟨_, rfl⟩))
          | cons l ls => exact .inr (.inr (.inl ⟨_, by simp only [litsL, if_true, List.cons_append, List.nil_append]; rfl⟩))
        · split
          · exact .inr (.inl ⟨_, by simp only [List.cons_append, List.nil_append]; rfl⟩)
          · exact .inr (.inl ⟨_, by simp only [List.cons_append, List.nil_append]; rfl⟩)
    obtain ⟨x, ex, hx⟩ := key
    rw [ex] at e1
    rw [e1] at e
    have lowS : ∀ c : UInt8, isLow c = true → c ≠ 32 := by rintro c hc rfl; exact absurd hc (by decide)
    -- the name is the word
    have hname : bl ps[k].name = [112, 114, 101, 100] ∧ ∃ y, x = 32 :: y := by
      generalize bl ps[k].name = m at *
      have step : ∀ (m w : List UInt8), m.all isLow = true → w.all isLow = true → m ++ x = w ++ 32 :: t → (∀ y, x = 40 :: y → isLow 40 = false) → m = w ∧ x = 32 :: t := by
        intro m
        induction m with
        | nil =>
          intro w _ hw he _
          cases w with
          | nil => exact ⟨rfl, he⟩
          | cons c w =>
            simp only [List.all_cons, Bool.and_eq_true] at hw
            rcases hx with ⟨y, rfl⟩ | ⟨y, rfl⟩ | ⟨y, rfl⟩ | ⟨y, rfl⟩ <;> (simp only [List.nil_append, List.cons_append, List.cons.injEq] at he; rw [← he.1] at hw; exact absurd hw.1 (by decide))
        | cons a m ih =>
          intro w hm hw he hz
          simp only [List.all_cons, Bool.and_eq_true] at hm
          cases w with
          | nil =>
            simp only [List.nil_append, List.cons_append, List.cons.injEq] at he
            exact absurd he.1 (lowS a hm.1)
          | cons c w =>
            simp only [List.all_cons, Bool.and_eq_true] at hw
            simp only [List.cons_append, List.cons.injEq] at he
            obtain ⟨rfl, he⟩ := he
            obtain ⟨rfl, hx'⟩ := ih w hm.2 hw.2 he hz
            exact ⟨rfl, hx'⟩
      obtain ⟨r1, r2⟩ := step m [112, 114, 101, 100] l2 (by decide) (by simpa [predW] using e) (fun _ _ => by decide)
      exact ⟨r1, t, r2⟩
    obtain ⟨hn, y, rfl⟩ := hname
    rcases hx with ⟨z, hz⟩ | ⟨z, hz⟩ | ⟨z, hz⟩ | ⟨z, hz⟩
    · cases hz
    · cases hz
      simp [isPredR, e1, hn, predW, eatL]
    · cases hz
      simp [isPredR, e1, hn, predW, eatL]
    · cases hz
theorem preds_of {u : List UInt8} (hu : isPredR u = false) : ∀ (ps : List Prd) (n : Nat), (∀ q ∈ ps, (bl q.name ≠ [] ∧ (bl q.name).all isLow = true) ∧ (0 ≤ q.arity ∧ q.arity ≤ 99) ∧ (0 ≤ q.kind ∧ q.kind ≤ 99)) → ps.length ≤ n → predsR n (ps.flatMap predL ++ u) = some (ps, u)
  | [], 0, _, _ => rfl
  | [], n + 1, _, _ => by
    rw [predsR]
    simp [hu]
  | q :: ps, 0, _, hn => by simp at hn
  | q :: ps, n + 1, h, hn => by
    obtain ⟨q1, q2, q3⟩ := h q (List.mem_cons_self ..)
    rw [predsR, List.flatMap_cons, List.append_assoc, isPred_of q1, if_pos rfl, pred_of q1 q2 q3, Option.bind_some]
    simp only
    rw [preds_of hu ps n (fun x hx => h x (List.mem_cons_of_mem _ hx)) (by simpa using hn)]
    rfl
theorem rule_pos (ps : List Prd) (r : Rul) (u : List UInt8) : ruleL ps r ++ u ≠ [] := by simp [ruleL]
theorem rules_of {ps : List Prd} (hN : Names ps) : ∀ (rs : List Rul) (n : Nat), (∀ r ∈ rs, RuleRead ps r) → rs.length ≤ n → rulesR ps n (rs.flatMap (ruleL ps)) = some rs
  | [], 0, _, _ => rfl
  | [], n + 1, _, _ => rfl
  | r :: rs, 0, _, hn => by simp at hn
  | r :: rs, n + 1, h, hn => by
    rw [rulesR, List.flatMap_cons, if_neg (rule_pos _ _ _), rule_of hN (h r (List.mem_cons_self ..)), Option.bind_some]
    simp only
    rw [rules_of hN rs n (fun x hx => h x (List.mem_cons_of_mem _ hx)) (by simpa using hn)]
    rfl
theorem flat_len {α : Type} (f : α → List UInt8) (hf : ∀ a, 1 ≤ (f a).length) : ∀ l : List α, l.length ≤ (l.flatMap f).length
  | [] => Nat.zero_le _
  | a :: l => by
    have := flat_len f hf l
    have := hf a
    rw [List.flatMap_cons, List.length_append, List.length_cons]
    omega
/-- THE TEXT OF A RIGHT PROGRAM IS READ AS IT -/
theorem prog_of {ps : List Prd} {rs : List Rul} (h : progErr ps rs = 0) : progR (progL ps rs) = some (ps, rs) := by
  obtain ⟨p1, p2, p3⟩ := prog_read h
  have hu : isPredR (rs.flatMap (ruleL ps)) = false := by
    cases rs with
    | nil => rfl
    | cons r rs =>
      rw [List.flatMap_cons]
      exact rule_not_pred p1 (p3 r (List.mem_cons_self ..)) _
  have l1 := flat_len predL (fun q => by simp [predL]) ps
  have l2 := flat_len (ruleL ps) (fun r => by simp [ruleL]; omega) rs
  unfold progR progL
  rw [preds_of hu ps _ (fun q hq => ⟨p1.low q hq, p2 q hq⟩) (by rw [List.length_append]; omega), Option.bind_some]
  simp only
  rw [rules_of p1 rs _ p3 l2]
  rfl
end Go.Proofs.YtlfccloaoopadafGreatDoor.Text

/-
  What a right program is, for one who tells it as a text.
-/
namespace Go.Proofs.YtlfccloaoopadafGreatDoor.Text
open Rule (kindOf arityOf atomErr ruleErr termOk)
open Prog (progErr)

structure TellA (ps : List Prd) (a : Atm) : Prop where
  there : ∃ e : Nat, a.pred = (e : Int) ∧ e < ps.length
  terms : ∀ t ∈ a.args, 0 ≤ t.n ∧ t.n ≤ 25
  few : a.args.length ≤ 2
structure Right (ps : List Prd) (rs : List Rul) : Prop where
  preds : ps.length ≤ 5
  rules : rs.length ≤ 8
  name : ∀ q ∈ ps, q.name.size ≤ 8
  arity : ∀ q ∈ ps, 0 ≤ q.arity ∧ q.arity ≤ 2
  kind : ∀ q ∈ ps, 0 ≤ q.kind ∧ q.kind ≤ 3
  head : ∀ r ∈ rs, TellA ps r.head
  src : ∀ r ∈ rs, -1 ≤ r.src ∧ r.src ≤ 99
  n : ∀ r ∈ rs, 0 ≤ r.n ∧ r.n ≤ 99
  few : ∀ r ∈ rs, r.body.length ≤ 3
  body : ∀ r ∈ rs, ∀ l ∈ r.body, TellA ps l.atom
theorem tell_of {ps : List Prd} {a : Atm} (h : AtomRead ps a) (ha : ∀ q ∈ ps, 0 ≤ q.arity ∧ q.arity ≤ 2) : TellA ps a := by
  obtain ⟨⟨k, hk, e⟩, hm, ht⟩ := h
  refine ⟨⟨k, e, hk⟩, fun t h1 => ?_, ?_⟩
  · have h3 := List.all_eq_true.1 ht t h1
    unfold termOk Lat.within at h3
    split at h3 <;> simp only [Bool.and_eq_true, decide_eq_true_eq] at h3 <;> exact ⟨h3.1, by omega⟩
  · have h4 : arityOf ps a.pred = ps[k].arity := by rw [e]; simp [arityOf, hk]
    have := ha _ (List.getElem_mem hk)
    omega
theorem right_of {ps : List Prd} {rs : List Rul} (h : progErr ps rs = 0) : Right ps rs := by
  have hr := prog_read h
  have h1 := (Prog.prog_zero h).1
  have h2 := Prog.parts_zero h1
  rw [Prog.partsErr] at h1
  split at h1
  · contradiction
  · split at h1
    · contradiction
    · rename_i hnm
      split at h1
      · contradiction
      · split at h1
        · contradiction
        · rename_i har
          split at h1
          · contradiction
          · rename_i hki
            have n1 : ∀ q ∈ ps, q.name.size ≤ 8 := fun q hq => by
              have : ¬ (!Prog.isName q.name) = true := fun e => hnm (List.any_eq_true.2 ⟨q, hq, e⟩)
              simp [Prog.isName, Lat.within] at this
              omega
            have n2 : ∀ q ∈ ps, 0 ≤ q.arity ∧ q.arity ≤ 2 := fun q hq => by
              have : ¬ (!Lat.within q.arity 0 2) = true := fun e => har (List.any_eq_true.2 ⟨q, hq, e⟩)
              simpa [Lat.within] using this
            have n3 : ∀ q ∈ ps, 0 ≤ q.kind ∧ q.kind ≤ 3 := fun q hq => by
              have : ¬ (!Lat.within q.kind 0 3) = true := fun e => hki (List.any_eq_true.2 ⟨q, hq, e⟩)
              simpa [Lat.within] using this
            exact ⟨by omega, by omega, n1, n2, n3, fun r h3 => tell_of (hr.rules r h3).head n2, fun r h3 => (hr.rules r h3).val.src, fun r h3 => (hr.rules r h3).val.n, fun r h3 => (Fire.rule_parts (Prog.rules_all h1 r h3)).2.2.2.2.2.2, fun r h3 l hl => tell_of ((hr.rules r h3).body l hl) n2⟩
theorem atom_ok {ps : List Prd} {a : Atm} (h : TellA ps a) : AtomOk ps a := ⟨h.there, fun t ht => ⟨(h.terms t ht).1, by have := (h.terms t ht).2; omega⟩, by have := h.few; omega⟩
theorem Right.text {ps : List Prd} {rs : List Rul} (h : Right ps rs) : TextOk ps rs :=
  ⟨by have := h.preds; omega, by have := h.rules; omega, h.name, fun q hq => ⟨(h.arity q hq).1, by have := (h.arity q hq).2; omega⟩, fun q hq => ⟨(h.kind q hq).1, by have := (h.kind q hq).2; omega⟩, fun r hr => atom_ok (h.head r hr), fun r hr => (h.src r hr).2, h.n, fun r hr => by have := h.few r hr; omega, fun r hr l hl => atom_ok (h.body r hr l hl)⟩
end Go.Proofs.YtlfccloaoopadafGreatDoor.Text

/-
  What the developers' reading of a text tells: the right program that is shown so.
-/
namespace Go.Proofs.YtlfccloaoopadafGreatDoor.Text
open Prog (progErr)

/-- what the developers' reading tells -/
def devL (s : List UInt8) : Option (List Prd × List Rul) := (progR s).bind fun x => if progErr x.1 x.2 = 0 then some x else none
theorem dev_iff {s : List UInt8} {ps : List Prd} {rs : List Rul} : devL s = some (ps, rs) ↔ progErr ps rs = 0 ∧ progL ps rs = s := by
  unfold devL
  constructor
  · intro h
    obtain ⟨⟨qs, ts⟩, h1, h2⟩ := Option.bind_eq_some_iff.1 h
    split at h2
    · rename_i hc
      rw [Option.some.injEq, Prod.mk.injEq] at h2
      obtain ⟨rfl, rfl⟩ := h2
      exact ⟨hc, (prog_some h1 hc).symm⟩
    · cases h2
  · rintro ⟨h, rfl⟩
    rw [prog_of h, Option.bind_some, if_pos h]
end Go.Proofs.YtlfccloaoopadafGreatDoor.Text
