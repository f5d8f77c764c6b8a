/-
  The document's own texts: atoms.
-/
import Derived.Test.YtlfccloaoopadafGreatDoorG7
import Derived.Test.YtlfccloaoopadafGreatDoorG9
import Derived.Test.YtlfccloaoopadafGreatDoorG8
namespace Go.Proofs.YtlfccloaoopadafGreatDoor.Text
open Go.ChangeShapes Go.WideShapes Go.ChangeAt Go.RowKit
open Prog (slice_cells)

def argB (t : Tm) : ByteArray := if t.var then oneB (65 + t.n) else dig t.n
def nameOf (ps : List Prd) (p : Int) : ByteArray := ((ps[p.toNat]?).map Prd.name).getD ⟨#[]⟩
def atomTo (ps : List Prd) (a : Atm) : Nat → ByteArray
  | 0 => nameOf ps a.pred
  | k + 1 => (atomTo ps a k ++ (if k = 0 then ⟨#[40]⟩ else ⟨#[44]⟩)) ++ argB (a.args.getD k ⟨false, 0⟩)
def atomB (ps : List Prd) (a : Atm) : ByteArray := if 0 < a.args.length then atomTo ps a a.args.length ++ ⟨#[41]⟩ else atomTo ps a 0
theorem argB_size (t : Tm) : (argB t).size ≤ 2 := by
  unfold argB
  split
  · rw [oneB_size]; omega
  · exact dig_size _
theorem atomTo_size {ps : List Prd} {a : Atm} (h : (nameOf ps a.pred).size ≤ 8) : ∀ k, (atomTo ps a k).size ≤ 8 + k * 3
  | 0 => by simpa [atomTo] using h
  | k + 1 => by
    have ih := atomTo_size h k
    have h2 := argB_size (a.args.getD k ⟨false, 0⟩)
    rw [atomTo, ByteArray.size_append, ByteArray.size_append]
    have h1 : (if k = 0 then (⟨#[40]⟩ : ByteArray) else ⟨#[44]⟩).size = 1 := by split <;> rfl
    omega
theorem atomB_size {ps : List Prd} {a : Atm} (h : (nameOf ps a.pred).size ≤ 8) : (atomB ps a).size ≤ 9 + a.args.length * 3 := by
  unfold atomB
  split
  · rw [ByteArray.size_append]
    have := atomTo_size h a.args.length
    have h1 : (⟨#[41]⟩ : ByteArray).size = 1 := rfl
    omega
  · have := atomTo_size h 0
    omega
def argOk (t : Tm) : Prop := 0 ≤ t.n ∧ t.n ≤ 99

set_option maxRecDepth 100000 in
set_option maxHeartbeats 2000000 in
theorem atomText_c (w : World) (pv av : Value) (ps : List Prd) (a : Atm) (e : Nat) (hp : predsAt w pv ps) (ht : termsAt w av a.args) (he : a.pred = (e : Int)) (hel : e < ps.length) (hok : ∀ t ∈ a.args, argOk t) (hnm : (nameOf ps a.pred).size ≤ 8) (han : a.args.length ≤ 500) :
    Calls Tryz.prog 28 #[pv, .agg #[.int .i64 a.pred, av]] w fun e w' => e = .returned (.string (atomB ps a)) ∧ Below w.heap.size w w' := by
  have HT : Hid (∀ x, Below w.heap.size w x → termsAt x av a.args) := fun x hx => termsAt.lasts hx ht
  have HOK : Hid (∀ t ∈ a.args, argOk t) := hok
  have HSZ : Hid (∀ k, (atomTo ps a k).size ≤ 8 + k * 3) := atomTo_size hnm
  obtain ⟨pb, po, pc, rfl, hpb, n0, n1, n2⟩ := slice_cells hp hel
  obtain ⟨aa, ac, rfl, hal, _⟩ := ht
  have HN : Hid (atomTo ps a 0 = ps[e].name) := by
    show nameOf ps a.pred = _
    rw [nameOf, he, Int.toNat_natCast, List.getElem?_eq_getElem hel]
    rfl
  have hel' : (e : Int) < (ps.length : Int) := by omega
  rw [he]
  obtain ⟨W1, hW1⟩ : ∃ W1, w.alloc (.cells #[.int .i64 (e : Int), .slice aa a.args.length ac] 51) = W1 := ⟨_, rfl⟩
  have b1 : Below w.heap.size w W1 := by rw [← hW1]; exact below_alloc _ _
  have m0 := (cell_lasts b1 hpb).trans n0
  have c0 : W1.cell? ⟨w.heap.size, 0, none⟩ = some (.int .i64 (e : Int)) := by rw [← hW1]; simp [go_sem]
  have c1 : W1.cell? ⟨w.heap.size, 1, none⟩ = some (.slice aa a.args.length ac) := by rw [← hW1]; simp [go_sem]
  have hs : w.heap.size < W1.heap.size := by rw [← hW1]; simp
  have HC : Hid (∀ x, Below W1.heap.size W1 x → x.cell? ⟨w.heap.size, 1, none⟩ = some (.slice aa a.args.length ac)) := fun x hx => (cell_lasts hx hs).trans c1
  clear n0 n1 n2
  go_enter Tryz.func28, Tryz.ntmps28
  go_wp2_with fail
  clear hW1 c0 m0
  go_loopw [5, 6] (fun s i wr => ∃ j : Nat, j ≤ a.args.length ∧ i = .int .i64 j ∧ s = .string (atomTo ps a j) ∧ Below W1.heap.size W1 wr) (fun _ i _ => a.args.length - (intOf i).toNat)
  case atStart => exact ⟨0, Nat.zero_le _, rfl, by rw [HN.out], Below.refl _ _⟩
  case round =>
    obtain ⟨j, hj, rfl, rfl, hbw⟩ := hrel
    have d1 := HC.out wr hbw
    have kw : Below w.heap.size w wr := b1.trans (hbw.mono b1.size)
    by_cases hlt : j < a.args.length
    · obtain ⟨tb, to_, tc, hv, htb, t0, t1⟩ := slice_cells (HT.out wr kw) hlt
      obtain ⟨rfl, rfl⟩ : aa = some ⟨tb, to_, none⟩ ∧ ac = tc := by simpa using hv
      have hjl : (j : Int) < (a.args.length : Int) := by omega
      have hj0 : (0 : Int) ≤ (j : Int) := by omega
      obtain ⟨o0, o1⟩ := HOK.out _ (List.getElem_mem hlt)
      have HS : Hid (atomTo ps a (j + 1) = (atomTo ps a j ++ (if j = 0 then ⟨#[40]⟩ else ⟨#[44]⟩)) ++ argB a.args[j]) := by
        show _ = _
        rw [atomTo]
        congr 2
        simp [List.getD, List.getElem?_eq_getElem hlt]
      have hd := digits_c wr a.args[j].n o0 o1
      have hcv := conv_one wr (65 + a.args[j].n)
      have hBs := HSZ.out j
      have hdz := dig_size a.args[j].n
      have hoz := oneB_size (65 + a.args[j].n)
      have hlim : ¬ 9223372036854775807 < (atomTo ps a j).size + 1 := by omega
      have hlim2 : ¬ 9223372036854775807 < (atomTo ps a j).size + 1 + (dig a.args[j].n).size := by omega
      have hlim3 : ¬ 9223372036854775807 < (atomTo ps a j).size + 1 + (oneB (65 + a.args[j].n)).size := by omega
      clear hv hBs hdz hoz
      generalize a.args[j] = y at *
      generalize atomTo ps a j = B at *
      by_cases h0 : j = 0
      · subst h0
        rw [if_pos rfl] at HS
        have t0' : wr.cell? ⟨tb, to_, none⟩ = some (.bool y.var) := by have := t0; rwa [Nat.zero_mul, Nat.add_zero] at this
        have t1' : wr.cell? ⟨tb, to_ + 1, none⟩ = some (.int .i64 y.n) := by have := t1; rwa [Nat.zero_mul, Nat.add_zero] at this
        cases hy : y.var
        · rw [argB, hy, if_neg (by simp)] at HS
          rw [hy] at t0 t0'
          go_wp2_with fail
          refine hd.mono ?_
          rintro e W2 ⟨rfl, hb2⟩
          go_wp2_with fail
          go_roundw
          case rel => exact ⟨1, by omega, by go_num, by rw [HS.out], hbw.trans (hb2.mono hbw.size)⟩
          case measure => simp [intOf]; omega
        · rw [argB, hy, if_pos rfl] at HS
          rw [hy] at t0 t0'
          go_wp2_with fail
          go_roundw
          case rel => exact ⟨1, by omega, by go_num, by rw [HS.out], hbw.alloc hbw.size _⟩
          case measure => simp [intOf]; omega
      · rw [if_neg h0] at HS
        have h0' : (j : Int) ≠ 0 := by omega
        cases hy : y.var
        · rw [argB, hy, if_neg (by simp)] at HS
          rw [hy] at t0
          go_wp2_with fail
          refine hd.mono ?_
          rintro e W2 ⟨rfl, hb2⟩
          go_wp2_with fail
          go_roundw
          case rel => exact ⟨j + 1, by omega, by go_num, by rw [HS.out], hbw.trans (hb2.mono hbw.size)⟩
          case measure => simp [intOf]; omega
        · rw [argB, hy, if_pos rfl] at HS
          rw [hy] at t0
          go_wp2_with fail
          go_roundw
          case rel => exact ⟨j + 1, by omega, by go_num, by rw [HS.out], hbw.alloc hbw.size _⟩
          case measure => simp [intOf]; omega
    · obtain rfl : j = a.args.length := by omega
      by_cases h0 : a.args.length = 0
      · have HE : Hid (atomB ps a = atomTo ps a a.args.length) := by show _ = _; rw [atomB, if_neg (by omega), h0]
        have h0' : (a.args.length : Int) = 0 := by omega
        generalize atomTo ps a a.args.length = B at *
        go_wp2_with fail
        go_ret
        exact ⟨by rw [HE.out]; rfl, kw⟩
      · have hlim : ¬ 9223372036854775807 < (atomTo ps a a.args.length).size + 1 := by have := HSZ.out a.args.length; omega
        have HE : Hid (atomB ps a = atomTo ps a a.args.length ++ ⟨#[41]⟩) := by show _ = _; rw [atomB, if_pos (by omega)]
        have h0' : (0 : Int) < (a.args.length : Int) := by omega
        have h0n : 0 < a.args.length := by omega
        generalize atomTo ps a a.args.length = B at *
        go_wp2_with fail
        go_ret
        exact ⟨by rw [HE.out]; rfl, kw⟩
end Go.Proofs.YtlfccloaoopadafGreatDoor.Text

/-
  The document's own texts: programs.
-/
namespace Go.Proofs.YtlfccloaoopadafGreatDoor.Text
open Go.ChangeShapes Go.WideShapes Go.ChangeAt Go.RowKit
open Prog (slice_cells)
open Rule (kindOf)

def predPut (B : ByteArray) (q : Prd) : ByteArray := B ++ ⟨#[112, 114, 101, 100, 32]⟩ ++ q.name ++ ⟨#[32]⟩ ++ dig q.arity ++ ⟨#[32]⟩ ++ dig q.kind ++ ⟨#[10]⟩
def predsTo (ps : List Prd) : Nat → ByteArray
  | 0 => ⟨#[]⟩
  | k + 1 => predPut (predsTo ps k) (ps.getD k ⟨⟨#[]⟩, 0, 0⟩)
def headPut (ps : List Prd) (B : ByteArray) (r : Rul) : ByteArray :=
  if kindOf ps r.head.pred = 0 then B ++ atomB ps r.head
  else if 0 ≤ r.src then B ++ atomB ps r.head ++ ⟨#[32, 61, 32]⟩ ++ ⟨#[35]⟩ ++ dig r.src ++ ⟨#[43]⟩ ++ dig r.n
  else B ++ atomB ps r.head ++ ⟨#[32, 61, 32]⟩ ++ dig r.n
def litPut (ps : List Prd) (B : ByteArray) (k : Nat) (l : Ltr) : ByteArray :=
  if l.neg then B ++ (if k = 0 then ⟨#[32, 58, 45, 32]⟩ else ⟨#[44, 32]⟩) ++ ⟨#[33]⟩ ++ atomB ps l.atom
  else B ++ (if k = 0 then ⟨#[32, 58, 45, 32]⟩ else ⟨#[44, 32]⟩) ++ atomB ps l.atom
def bodyTo (ps : List Prd) (B : ByteArray) (ls : List Ltr) : Nat → ByteArray
  | 0 => B
  | k + 1 => litPut ps (bodyTo ps B ls k) k (ls.getD k ⟨false, ⟨0, []⟩⟩)
def rulePut (ps : List Prd) (B : ByteArray) (r : Rul) : ByteArray := bodyTo ps (headPut ps B r) r.body r.body.length ++ ⟨#[46, 10]⟩
def rulesTo (ps : List Prd) (B : ByteArray) (rs : List Rul) : Nat → ByteArray
  | 0 => B
  | k + 1 => rulePut ps (rulesTo ps B rs k) (rs.getD k ⟨⟨0, []⟩, 0, 0, []⟩)
/-- the text of a program -/
def progB (ps : List Prd) (rs : List Rul) : ByteArray := rulesTo ps (predsTo ps ps.length) rs rs.length

structure AtomOk (ps : List Prd) (a : Atm) : Prop where
  there : ∃ e : Nat, a.pred = (e : Int) ∧ e < ps.length
  args : ∀ t ∈ a.args, argOk t
  few : a.args.length ≤ 500
structure TextOk (ps : List Prd) (rs : List Rul) : Prop where
  preds : ps.length ≤ 500
  rules : rs.length ≤ 500
  name : ∀ q ∈ ps, q.name.size ≤ 8
  arity : ∀ q ∈ ps, 0 ≤ q.arity ∧ q.arity ≤ 99
  kind : ∀ q ∈ ps, 0 ≤ q.kind ∧ q.kind ≤ 99
  head : ∀ r ∈ rs, AtomOk ps r.head
  src : ∀ r ∈ rs, r.src ≤ 99
  n : ∀ r ∈ rs, 0 ≤ r.n ∧ r.n ≤ 99
  few : ∀ r ∈ rs, r.body.length ≤ 500
  body : ∀ r ∈ rs, ∀ l ∈ r.body, AtomOk ps l.atom
theorem name_size {ps : List Prd} (h : ∀ q ∈ ps, q.name.size ≤ 8) (p : Int) : (nameOf ps p).size ≤ 8 := by
  unfold nameOf
  cases e : ps[p.toNat]? with
  | none => exact Nat.zero_le _
  | some q => exact h q (List.mem_of_getElem? e)
theorem atom_sz {ps : List Prd} (h : ∀ q ∈ ps, q.name.size ≤ 8) {a : Atm} (ha : a.args.length ≤ 500) : (atomB ps a).size ≤ 1509 := by
  have := atomB_size (name_size h a.pred)
  omega
theorem predPut_size {B : ByteArray} {q : Prd} (h : q.name.size ≤ 8) : (predPut B q).size ≤ B.size + 20 := by
  unfold predPut
  have h1 := dig_size q.arity
  have h2 := dig_size q.kind
  simp only [ByteArray.size_append]
  have e1 : (⟨#[112, 114, 101, 100, 32]⟩ : ByteArray).size = 5 := rfl
  have e2 : (⟨#[32]⟩ : ByteArray).size = 1 := rfl
  have e3 : (⟨#[10]⟩ : ByteArray).size = 1 := rfl
  omega
theorem predsTo_size {ps : List Prd} (h : ∀ q ∈ ps, q.name.size ≤ 8) : ∀ k, (predsTo ps k).size ≤ k * 20
  | 0 => Nat.zero_le _
  | k + 1 => by
    have ih := predsTo_size h k
    have hq : (ps.getD k ⟨⟨#[]⟩, 0, 0⟩).name.size ≤ 8 := by
      rw [List.getD]
      cases e : ps[k]? with
      | none => exact Nat.zero_le _
      | some q => exact h q (List.mem_of_getElem? e)
    have := predPut_size (B := predsTo ps k) hq
    rw [predsTo]
    omega
theorem headPut_size {ps : List Prd} (h : ∀ q ∈ ps, q.name.size ≤ 8) {B : ByteArray} {r : Rul} (ha : r.head.args.length ≤ 500) : (headPut ps B r).size ≤ B.size + 1600 := by
  have h0 := atom_sz h ha
  have h1 := dig_size r.src
  have h2 := dig_size r.n
  have e1 : (⟨#[32, 61, 32]⟩ : ByteArray).size = 3 := rfl
  have e2 : (⟨#[35]⟩ : ByteArray).size = 1 := rfl
  have e3 : (⟨#[43]⟩ : ByteArray).size = 1 := rfl
  unfold headPut
  split
  · simp only [ByteArray.size_append]; omega
  · split <;> simp only [ByteArray.size_append] <;> omega
theorem litPut_size {ps : List Prd} (h : ∀ q ∈ ps, q.name.size ≤ 8) {B : ByteArray} {k : Nat} {l : Ltr} (ha : l.atom.args.length ≤ 500) : (litPut ps B k l).size ≤ B.size + 1600 := by
  have h0 := atom_sz h ha
  have e1 : (if k = 0 then (⟨#[32, 58, 45, 32]⟩ : ByteArray) else ⟨#[44, 32]⟩).size ≤ 4 := by split <;> decide
  have e2 : (⟨#[33]⟩ : ByteArray).size = 1 := rfl
  unfold litPut
  split <;> simp only [ByteArray.size_append] <;> omega
theorem bodyTo_size {ps : List Prd} (h : ∀ q ∈ ps, q.name.size ≤ 8) {B : ByteArray} {ls : List Ltr} (ha : ∀ l ∈ ls, l.atom.args.length ≤ 500) : ∀ k, (bodyTo ps B ls k).size ≤ B.size + k * 1600
  | 0 => by simp [bodyTo]
  | k + 1 => by
    have ih := bodyTo_size (B := B) h ha k
    have hq : (ls.getD k ⟨false, ⟨0, []⟩⟩).atom.args.length ≤ 500 := by
      rw [List.getD]
      cases e : ls[k]? with
      | none => simp
      | some q => exact ha q (List.mem_of_getElem? e)
    have := litPut_size (B := bodyTo ps B ls k) (k := k) h hq
    rw [bodyTo]
    omega
theorem rulesTo_size {ps : List Prd} {rs : List Rul} (h : TextOk ps rs) (B : ByteArray) : ∀ k, k ≤ rs.length → (rulesTo ps B rs k).size ≤ B.size + k * 1000000
  | 0, _ => by simp [rulesTo]
  | k + 1, hk => by
    have ih := rulesTo_size h B k (by omega)
    have hm : rs[k]'(by omega) ∈ rs := List.getElem_mem _
    have e : rs.getD k ⟨⟨0, []⟩, 0, 0, []⟩ = rs[k]'(by omega) := by rw [List.getD, List.getElem?_eq_getElem (by omega)]; rfl
    rw [rulesTo, e, rulePut, ByteArray.size_append]
    have h1 := headPut_size (B := rulesTo ps B rs k) h.name (h.head _ hm).few
    have h2 := bodyTo_size (B := headPut ps (rulesTo ps B rs k) (rs[k]'(by omega))) h.name (ls := (rs[k]'(by omega)).body) (fun l hl => (h.body _ hm l hl).few) (rs[k]'(by omega)).body.length
    have h3 := h.few _ hm
    have e2 : (⟨#[46, 10]⟩ : ByteArray).size = 2 := rfl
    have h4 : (rs[k]'(by omega)).body.length * 1600 ≤ 500 * 1600 := Nat.mul_le_mul_right _ h3
    omega
end Go.Proofs.YtlfccloaoopadafGreatDoor.Text

/-
  Texts as lists of bytes: what the text of a program is, piece by piece.
-/
namespace Go.Proofs.YtlfccloaoopadafGreatDoor.Text
open Rule (kindOf)

/-- the bytes of a text -/
def bl (b : ByteArray) : List UInt8 := b.data.toList
theorem bl_append (a b : ByteArray) : bl (a ++ b) = bl a ++ bl b := by
  unfold bl
  rw [ByteArray.data_append, Array.toList_append]
theorem bl_inj {a b : ByteArray} (h : bl a = bl b) : a = b := ByteArray.ext (Array.toList_inj.1 h)
theorem bl_size (a : ByteArray) : (bl a).length = a.size := by unfold bl; rfl
/-- the terms of an atom, each with what stands ahead of it -/
def argsL : List Tm → Nat → List UInt8
  | [], _ => []
  | t :: ts, k => (if k = 0 then 40 else 44) :: (bl (argB t) ++ argsL ts (k + 1))
def atomL (ps : List Prd) (a : Atm) : List UInt8 := bl (nameOf ps a.pred) ++ argsL a.args 0 ++ if a.args = [] then [] else [41]
def predL (q : Prd) : List UInt8 := [112, 114, 101, 100, 32] ++ bl q.name ++ [32] ++ bl (dig q.arity) ++ [32] ++ bl (dig q.kind) ++ [10]
def valL (ps : List Prd) (r : Rul) : List UInt8 :=
  if kindOf ps r.head.pred = 0 then [] else if 0 ≤ r.src then [32, 61, 32, 35] ++ bl (dig r.src) ++ [43] ++ bl (dig r.n) else [32, 61, 32] ++ bl (dig r.n)
def litsL (ps : List Prd) : List Ltr → Nat → List UInt8
  | [], _ => []
  | l :: ls, k => (if k = 0 then [32, 58, 45, 32] else [44, 32]) ++ (if l.neg then [33] else []) ++ atomL ps l.atom ++ litsL ps ls (k + 1)
def ruleL (ps : List Prd) (r : Rul) : List UInt8 := atomL ps r.head ++ valL ps r ++ litsL ps r.body 0 ++ [46, 10]
def progL (ps : List Prd) (rs : List Rul) : List UInt8 := ps.flatMap predL ++ rs.flatMap (ruleL ps)

theorem args_to (ps : List Prd) (a : Atm) : ∀ k, k ≤ a.args.length → bl (atomTo ps a k) = bl (nameOf ps a.pred) ++ argsL (a.args.take k) 0 := by
  have key : ∀ (l : List Tm) (t : Tm) (j : Nat), argsL (l ++ [t]) j = argsL l j ++ (if j + l.length = 0 then 40 else 44) :: bl (argB t) := by
    intro l
    induction l with
    | nil => intro t j; simp [argsL]
    | cons y l ih =>
      intro t j
      simp only [List.cons_append, argsL, ih t (j + 1), List.length_cons, List.append_assoc]
      rw [show j + 1 + l.length = j + (l.length + 1) by omega]
  intro k
  induction k with
  | zero => intro _; simp [atomTo, argsL]
  | succ k ih =>
    intro hk
    have hlt : k < a.args.length := by omega
    have e : a.args.getD k ⟨false, 0⟩ = a.args[k] := by rw [List.getD, List.getElem?_eq_getElem hlt]; rfl
    rw [atomTo, bl_append, bl_append, ih (by omega), e, List.take_succ_eq_append_getElem hlt, key, List.length_take, Nat.min_eq_left (by omega), Nat.zero_add]
    have e2 : bl (if k = 0 then (⟨#[40]⟩ : ByteArray) else ⟨#[44]⟩) = [if k = 0 then 40 else 44] := by split <;> rfl
    rw [e2]
    simp only [List.append_assoc, List.cons_append, List.nil_append]
theorem bl_atom (ps : List Prd) (a : Atm) : bl (atomB ps a) = atomL ps a := by
  unfold atomB atomL
  by_cases h : a.args = []
  · rw [if_neg (by rw [h]; simp), if_pos h, args_to ps a 0 (Nat.zero_le _), h]
    simp [argsL]
  · have h0 : 0 < a.args.length := List.length_pos_iff.2 h
    rw [if_pos h0, if_neg h, bl_append, args_to ps a _ (Nat.le_refl _), List.take_length]
    rfl
theorem bl_pred (B : ByteArray) (q : Prd) : bl (predPut B q) = bl B ++ predL q := by
  unfold predPut predL
  simp only [bl_append, List.append_assoc]
  rfl
theorem bl_preds (ps : List Prd) : ∀ k, k ≤ ps.length → bl (predsTo ps k) = (ps.take k).flatMap predL := by
  intro k
  induction k with
  | zero => intro _; rfl
  | succ k ih =>
    intro hk
    have hlt : k < ps.length := by omega
    have e : ps.getD k ⟨⟨#[]⟩, 0, 0⟩ = ps[k] := by rw [List.getD, List.getElem?_eq_getElem hlt]; rfl
    rw [predsTo, bl_pred, ih (by omega), e, List.take_succ_eq_append_getElem hlt, List.flatMap_append]
    simp
theorem bl_head (ps : List Prd) (B : ByteArray) (r : Rul) : bl (headPut ps B r) = bl B ++ atomL ps r.head ++ valL ps r := by
  unfold headPut valL
  split
  · rw [bl_append, bl_atom, List.append_nil]
  · split
    · simp only [bl_append, bl_atom, List.append_assoc]
      rfl
    · simp only [bl_append, bl_atom, List.append_assoc]
      rfl
theorem lits_more (ps : List Prd) : ∀ (ls : List Ltr) (l : Ltr) (j : Nat), litsL ps (ls ++ [l]) j = litsL ps ls j ++ ((if j + ls.length = 0 then [32, 58, 45, 32] else [44, 32]) ++ (if l.neg then [33] else []) ++ atomL ps l.atom) := by
  intro ls
  induction ls with
  | nil => intro l j; simp [litsL]
  | cons y ls ih =>
    intro l j
    simp only [List.cons_append, litsL, ih l (j + 1), List.length_cons, List.append_assoc]
    rw [show j + 1 + ls.length = j + (ls.length + 1) by omega]
theorem bl_body (ps : List Prd) (B : ByteArray) (ls : List Ltr) : ∀ k, k ≤ ls.length → bl (bodyTo ps B ls k) = bl B ++ litsL ps (ls.take k) 0 := by
  intro k
  induction k with
  | zero => intro _; simp [bodyTo, litsL]
  | succ k ih =>
    intro hk
    have hlt : k < ls.length := by omega
    have e : ls.getD k ⟨false, ⟨0, []⟩⟩ = ls[k] := by rw [List.getD, List.getElem?_eq_getElem hlt]; rfl
    have e2 : bl (if k = 0 then (⟨#[32, 58, 45, 32]⟩ : ByteArray) else ⟨#[44, 32]⟩) = if k = 0 then [32, 58, 45, 32] else [44, 32] := by split <;> rfl
    have e3 : bl (⟨#[33]⟩ : ByteArray) = [33] := rfl
    rw [bodyTo, e, List.take_succ_eq_append_getElem hlt, lits_more, List.length_take, Nat.min_eq_left (by omega), Nat.zero_add, litPut]
    split
    · simp only [bl_append, bl_atom, ih (by omega), e2, e3, List.append_assoc]
    · simp only [bl_append, bl_atom, ih (by omega), e2, List.append_assoc, List.nil_append]
theorem bl_rules (ps : List Prd) (B : ByteArray) (rs : List Rul) : ∀ k, k ≤ rs.length → bl (rulesTo ps B rs k) = bl B ++ (rs.take k).flatMap (ruleL ps) := by
  intro k
  induction k with
  | zero => intro _; simp [rulesTo]
  | succ k ih =>
    intro hk
    have hlt : k < rs.length := by omega
    have e : rs.getD k ⟨⟨0, []⟩, 0, 0, []⟩ = rs[k] := by rw [List.getD, List.getElem?_eq_getElem hlt]; rfl
    have e3 : bl (⟨#[46, 10]⟩ : ByteArray) = [46, 10] := rfl
    rw [rulesTo, e, rulePut, bl_append, bl_body ps _ _ _ (Nat.le_refl _), List.take_length, bl_head, ih (by omega), List.take_succ_eq_append_getElem hlt, List.flatMap_append, e3]
    simp [ruleL]
/-- the bytes of a program's text -/
theorem bl_prog (ps : List Prd) (rs : List Rul) : bl (progB ps rs) = progL ps rs := by
  rw [progB, bl_rules ps _ rs _ (Nat.le_refl _), bl_preds ps _ (Nat.le_refl _), List.take_length, List.take_length]
  rfl
end Go.Proofs.YtlfccloaoopadafGreatDoor.Text

/-
  The developers' reading of texts, in plain words: runs of bytes, names, numbers.
-/
namespace Go.Proofs.YtlfccloaoopadafGreatDoor.Text

def isLow (b : UInt8) : Bool := decide (97 ≤ b.toNat) && decide (b.toNat ≤ 122)
def isDig (b : UInt8) : Bool := decide (48 ≤ b.toNat) && decide (b.toNat ≤ 57)
/-- bytes from first to last, as many as come next, and one at least -/
def runL (p : UInt8 → Bool) (s : List UInt8) : Option (List UInt8 × List UInt8) := match s.takeWhile p with
  | [] => none
  | r => some (r, s.dropWhile p)
theorem runL_some {p : UInt8 → Bool} {s r t : List UInt8} (h : runL p s = some (r, t)) : s = r ++ t ∧ r ≠ [] ∧ r.all p = true ∧ (t.head?.map p).getD false = false := by
  unfold runL at h
  split at h
  · cases h
  · rename_i hne
    simp only [Option.some.injEq, Prod.mk.injEq] at h
    obtain ⟨rfl, rfl⟩ := h
    refine ⟨(List.takeWhile_append_dropWhile).symm, fun e => hne e, ?_, ?_⟩
    · exact List.all_eq_true.2 fun x hx => by
        induction s with
        | nil => cases hx
        | cons y s ih =>
          rw [List.takeWhile_cons] at hx
          split at hx
          · rename_i hy
            rcases List.mem_cons.1 hx with rfl | hx
            · exact hy
            · by_cases he : s.takeWhile p = []
              · rw [he] at hx; cases hx
              · exact ih (fun e => he e) hx
          · cases hx
    · clear hne
      induction s with
      | nil => rfl
      | cons y s ih =>
        rw [List.dropWhile_cons]
        split
        · exact ih
        · rename_i hy
          simpa using hy
theorem runL_of {p : UInt8 → Bool} {r t : List UInt8} (h1 : r ≠ []) (h2 : r.all p = true) (h3 : (t.head?.map p).getD false = false) : runL p (r ++ t) = some (r, t) := by
  have key : ∀ r : List UInt8, r.all p = true → (r ++ t).takeWhile p = r ∧ (r ++ t).dropWhile p = t := by
    intro r
    induction r with
    | nil =>
      intro _
      cases t with
      | nil => exact ⟨rfl, rfl⟩
      | cons y t =>
        have hy : p y = false := by simpa using h3
        simp [hy]
    | cons y r ih =>
      intro h
      simp only [List.all_cons, Bool.and_eq_true] at h
      obtain ⟨i1, i2⟩ := ih h.2
      simp [h.1, i1, i2]
  obtain ⟨k1, k2⟩ := key r h2
  unfold runL
  rw [k1, k2]
  cases r with
  | nil => exact absurd rfl h1
  | cons y r => rfl
/-- what digits say -/
def sayL : List UInt8 → Int → Int
  | [], n => n
  | b :: s, n => sayL s (10 * n + ((b.toNat : Int) - 48))
/-- a number: one way only to tell it -/
def numL (s : List UInt8) : Option (Int × List UInt8) := match runL isDig s with
  | none => none
  | some (r, t) => if 6 < r.length ∨ (1 < r.length ∧ r.head? = some 48) then none else some (sayL r 0, t)
set_option maxRecDepth 100000 in
theorem dig_fin : ∀ k : Fin 100, numL (bl (dig (k.val : Int))) = some ((k.val : Int), []) := by decide
theorem num_some {s t : List UInt8} {n : Int} (h : numL s = some (n, t)) : ∃ r, runL isDig s = some (r, t) ∧ r.length ≤ 6 ∧ (1 < r.length → r.head? ≠ some 48) ∧ sayL r 0 = n := by
  unfold numL at h
  split at h
  · cases h
  · rename_i r t' hr
    split at h
    · cases h
    · rename_i hc
      simp only [Option.some.injEq, Prod.mk.injEq] at h
      obtain ⟨rfl, rfl⟩ := h
      exact ⟨r, hr, by omega, fun h1 h2 => hc (.inr ⟨h1, h2⟩), rfl⟩
/-- a number that is told is read -/
theorem num_dig {n : Int} (h0 : 0 ≤ n) (h9 : n ≤ 99) {t : List UInt8} (ht : (t.head?.map isDig).getD false = false) : numL (bl (dig n) ++ t) = some (n, t) := by
  obtain ⟨k, rfl⟩ : ∃ k : Nat, n = (k : Int) := ⟨n.toNat, by omega⟩
  obtain ⟨r, h1, h2, h3, h4⟩ := num_some (dig_fin ⟨k, by omega⟩)
  obtain ⟨e, e1, e2, _⟩ := runL_some h1
  rw [List.append_nil] at e
  have e' : bl (dig (k : Int)) = r := e
  have h4' : sayL r 0 = (k : Int) := h4
  rw [e']
  unfold numL
  rw [runL_of e1 e2 ht]
  show (if _ then _ else _) = _
  rw [if_neg (by rintro (h | ⟨h, h'⟩); omega; exact h3 h h'), h4']
theorem say_ge : ∀ (r : List UInt8) (n : Int), r.all isDig = true → 0 ≤ n → n ≤ sayL r n
  | [], n, _, _ => Int.le_refl _
  | b :: r, n, h, hn => by
    simp only [List.all_cons, Bool.and_eq_true] at h
    have hb : 48 ≤ b.toNat := by have := h.1; unfold isDig at this; simp at this; exact this.1
    have := say_ge r (10 * n + ((b.toNat : Int) - 48)) h.2 (by omega)
    rw [sayL]
    omega
/-- what is read as a small number was told so -/
theorem num_back {s t : List UInt8} {n : Int} (h : numL s = some (n, t)) (h9 : n ≤ 99) : s = bl (dig n) ++ t ∧ 0 ≤ n ∧ (t.head?.map isDig).getD false = false := by
  obtain ⟨r, h1, h2, h3, h4⟩ := num_some h
  obtain ⟨rfl, e1, e2, e3⟩ := runL_some h1
  have hb : ∀ b : UInt8, isDig b = true → 48 ≤ b.toNat ∧ b.toNat ≤ 57 := fun b h => by unfold isDig at h; simpa using h
  refine ⟨?_, ?_, e3⟩
  · congr 1
    match r, e1, e2, h3, h4 with
    | [b], _, e2, _, h4 =>
      have hb' := hb b (by simpa using e2)
      have hn : n = (b.toNat : Int) - 48 := by rw [← h4]; simp [sayL]
      obtain ⟨k, hk, rfl⟩ : ∃ k : Nat, k < 10 ∧ b = UInt8.ofNat (48 + k) := ⟨b.toNat - 48, by omega, by apply UInt8.toNat_inj.1; rw [UInt8.toNat_ofNat']; omega⟩
      subst hn
      have : ∀ k : Fin 10, [UInt8.ofNat (48 + k.val)] = bl (dig (((UInt8.ofNat (48 + k.val)).toNat : Int) - 48)) := by decide
      exact this ⟨k, hk⟩
    | [b, c], _, e2, h3, h4 =>
      simp only [List.all_cons, List.all_nil, Bool.and_true, Bool.and_eq_true] at e2
      have hb' := hb b e2.1
      have hc' := hb c e2.2
      have hn : n = 10 * ((b.toNat : Int) - 48) + ((c.toNat : Int) - 48) := by rw [← h4]; simp [sayL]
      obtain ⟨j, hj, rfl⟩ : ∃ k : Nat, k < 10 ∧ b = UInt8.ofNat (48 + k) := ⟨b.toNat - 48, by omega, by apply UInt8.toNat_inj.1; rw [UInt8.toNat_ofNat']; omega⟩
      obtain ⟨k, hk, rfl⟩ : ∃ k : Nat, k < 10 ∧ c = UInt8.ofNat (48 + k) := ⟨c.toNat - 48, by omega, by apply UInt8.toNat_inj.1; rw [UInt8.toNat_ofNat']; omega⟩
      have hj0 : j ≠ 0 := fun e => h3 (by simp) (by subst e; rfl)
      subst hn
      have : ∀ j k : Fin 10, j.val ≠ 0 → [UInt8.ofNat (48 + j.val), UInt8.ofNat (48 + k.val)] = bl (dig (10 * (((UInt8.ofNat (48 + j.val)).toNat : Int) - 48) + (((UInt8.ofNat (48 + k.val)).toNat : Int) - 48))) := by decide
      exact this ⟨j, hj⟩ ⟨k, hk⟩ hj0
    | b :: c :: d :: r, _, e2, h3, h4 =>
      simp only [List.all_cons, Bool.and_eq_true] at e2
      have hb' := hb b e2.1
      have hc' := hb c e2.2.1
      have hd' := hb d e2.2.2.1
      have hb0 : b.toNat ≠ 48 := fun e => h3 (by simp) (by rw [List.head?_cons]; congr 1; apply UInt8.toNat_inj.1; exact e)
      have hs := say_ge r (10 * (10 * (10 * 0 + ((b.toNat : Int) - 48)) + ((c.toNat : Int) - 48)) + ((d.toNat : Int) - 48)) e2.2.2.2 (by omega)
      simp only [sayL] at h4
      omega
  · rw [← h4]
    exact say_ge r 0 e2 (Int.le_refl _)
end Go.Proofs.YtlfccloaoopadafGreatDoor.Text

/-
  The developers' reading of texts, in plain words: terms, atoms.
-/
namespace Go.Proofs.YtlfccloaoopadafGreatDoor.Text
open Rule (kindOf arityOf atomErr termOk)

/-- what is left behind p, if it comes next -/
def eatL : List UInt8 → List UInt8 → Option (List UInt8)
  | [], s => some s
  | _ :: _, [] => none
  | a :: p, b :: s => if a = b then eatL p s else none
theorem eat_iff : ∀ {p s t : List UInt8}, eatL p s = some t ↔ s = p ++ t
  | [], s, t => by simp [eatL]
  | a :: p, [], t => by simp [eatL]
  | a :: p, b :: s, t => by
    rw [eatL]
    by_cases h : a = b
    · subst h
      rw [if_pos rfl, eat_iff]
      simp
    · rw [if_neg h]
      simp only [reduceCtorEq, List.cons_append, List.cons.injEq, false_iff]
      exact fun e => h e.1.symm
theorem eat_of (p t : List UInt8) : eatL p (p ++ t) = some t := eat_iff.2 rfl
def termR : List UInt8 → Option (Tm × List UInt8)
  | [] => none
  | b :: s => if 65 ≤ b.toNat ∧ b.toNat ≤ 67 then some (⟨true, (b.toNat : Int) - 65⟩, s) else if 48 ≤ b.toNat ∧ b.toNat ≤ 52 then some (⟨false, (b.toNat : Int) - 48⟩, s) else none
theorem var_fin : ∀ k : Fin 3, bl (argB ⟨true, (k.val : Int)⟩) = [UInt8.ofNat (65 + k.val)] := by decide
theorem const_fin : ∀ k : Fin 5, bl (argB ⟨false, (k.val : Int)⟩) = [UInt8.ofNat (48 + k.val)] := by decide
theorem byte_of {b : UInt8} {n : Nat} (h : b.toNat = n) : b = UInt8.ofNat n := by
  apply UInt8.toNat_inj.1
  have := b.toNat_lt
  rw [UInt8.toNat_ofNat', h]
  omega
theorem term_some {s u : List UInt8} {t : Tm} (h : termR s = some (t, u)) : s = bl (argB t) ++ u ∧ termOk t = true := by
  cases s with
  | nil => cases h
  | cons b s =>
    rw [termR] at h
    split at h
    · rename_i hb
      simp only [Option.some.injEq, Prod.mk.injEq] at h
      obtain ⟨rfl, rfl⟩ := h
      have e := var_fin ⟨b.toNat - 65, by omega⟩
      have e1 : ((b.toNat - 65 : Nat) : Int) = (b.toNat : Int) - 65 := by omega
      simp only [e1] at e
      rw [e, ← byte_of (b := b) (by omega)]
      exact ⟨rfl, by simp [termOk, Lat.within]; omega⟩
    · split at h
      · rename_i hb
        simp only [Option.some.injEq, Prod.mk.injEq] at h
        obtain ⟨rfl, rfl⟩ := h
        have e := const_fin ⟨b.toNat - 48, by omega⟩
        have e1 : ((b.toNat - 48 : Nat) : Int) = (b.toNat : Int) - 48 := by omega
        simp only [e1] at e
        rw [e, ← byte_of (b := b) (by omega)]
        exact ⟨rfl, by simp [termOk, Lat.within]; omega⟩
      · cases h
theorem term_of {t : Tm} (h : termOk t = true) (u : List UInt8) : termR (bl (argB t) ++ u) = some (t, u) := by
  obtain ⟨v, n⟩ := t
  simp only [termOk, Lat.within, Bool.and_eq_true, decide_eq_true_eq] at h
  obtain ⟨k, rfl⟩ : ∃ k : Nat, n = (k : Int) := ⟨n.toNat, by omega⟩
  cases v with
  | true =>
    simp only [if_true] at h
    have e := var_fin ⟨k, by omega⟩
    simp only at e
    rw [e]
    have hb : (UInt8.ofNat (65 + k)).toNat = 65 + k := by rw [UInt8.toNat_ofNat']; omega
    rw [List.cons_append, List.nil_append, termR, hb, if_pos (by omega)]
    simp
    omega
  | false =>
    simp only [Bool.false_eq_true, if_false] at h
    have e := const_fin ⟨k, by omega⟩
    simp only at e
    rw [e]
    have hb : (UInt8.ofNat (48 + k)).toNat = 48 + k := by rw [UInt8.toNat_ofNat']; omega
    rw [List.cons_append, List.nil_append, termR, hb, if_neg (by omega), if_pos (by omega)]
    simp
    omega
/-- n terms more, behind k of them -/
def argsR : Nat → Nat → List UInt8 → Option (List Tm × List UInt8)
  | 0, _, s => some ([], s)
  | n + 1, k, s => (eatL [if k = 0 then 40 else 44] s).bind fun s1 => (termR s1).bind fun x => (argsR n (k + 1) x.2).bind fun y => some (x.1 :: y.1, y.2)
theorem args_some : ∀ {n k : Nat} {s u : List UInt8} {ts : List Tm}, argsR n k s = some (ts, u) → s = argsL ts k ++ u ∧ ts.length = n ∧ ts.all termOk = true
  | 0, k, s, u, ts, h => by
    rw [argsR, Option.some.injEq, Prod.mk.injEq] at h
    obtain ⟨rfl, rfl⟩ := h
    exact ⟨rfl, rfl, rfl⟩
  | n + 1, k, s, u, ts, h => by
    rw [argsR] at h
    obtain ⟨s1, h1, h⟩ := Option.bind_eq_some_iff.1 h
    obtain ⟨⟨t, s2⟩, h2, h⟩ := Option.bind_eq_some_iff.1 h
    obtain ⟨⟨us, s3⟩, h3, h⟩ := Option.bind_eq_some_iff.1 h
    rw [Option.some.injEq, Prod.mk.injEq] at h
    obtain ⟨rfl, rfl⟩ := h
    obtain ⟨e3, l3, o3⟩ := args_some h3
    obtain ⟨e2, o2⟩ := term_some h2
    have e1 := eat_iff.1 h1
    refine ⟨?_, by simp [l3], by simp [o2, o3]⟩
    rw [e1, e2]
    simp only at e3
    rw [e3, argsL]
    simp
theorem args_of : ∀ {ts : List Tm} (k : Nat) (u : List UInt8), ts.all termOk = true → argsR ts.length k (argsL ts k ++ u) = some (ts, u)
  | [], k, u, _ => rfl
  | t :: ts, k, u, h => by
    simp only [List.all_cons, Bool.and_eq_true] at h
    have e1 : argsL (t :: ts) k ++ u = [if k = 0 then 40 else 44] ++ (bl (argB t) ++ (argsL ts (k + 1) ++ u)) := by simp [argsL]
    rw [List.length_cons, argsR, e1, eat_of, Option.bind_some, term_of h.1, Option.bind_some]
    simp only
    rw [args_of (k + 1) u h.2]
    rfl
def closeR (ts : List Tm) (s : List UInt8) : Option (List UInt8) := if ts = [] then some s else eatL [41] s
/-- the number of the first predicate of that name -/
def idxR (ps : List Prd) (r : List UInt8) : Option Nat := ps.findIdx? fun q => decide (bl q.name = r)
def atomR (ps : List Prd) (s : List UInt8) : Option (Atm × List UInt8) :=
  (runL isLow s).bind fun x => (idxR ps x.1).bind fun k => (argsR (arityOf ps k).toNat 0 x.2).bind fun y => (closeR y.1 y.2).bind fun u => some (⟨(k : Int), y.1⟩, u)
structure AtomRead (ps : List Prd) (a : Atm) : Prop where
  there : ∃ k : Nat, k < ps.length ∧ a.pred = (k : Int)
  many : a.args.length = (arityOf ps a.pred).toNat
  terms : a.args.all termOk = true
theorem idx_some {ps : List Prd} {r : List UInt8} {k : Nat} (h : idxR ps r = some k) : k < ps.length ∧ bl (nameOf ps (k : Int)) = r := by
  unfold idxR at h
  obtain ⟨hk, h1, _⟩ := List.findIdx?_eq_some_iff_getElem.1 h
  refine ⟨hk, ?_⟩
  unfold nameOf
  rw [Int.toNat_natCast, List.getElem?_eq_getElem hk]
  simpa using h1
theorem atom_some {ps : List Prd} {s u : List UInt8} {a : Atm} (h : atomR ps s = some (a, u)) : s = atomL ps a ++ u ∧ AtomRead ps a := by
  unfold atomR at h
  obtain ⟨⟨r, s1⟩, h1, h⟩ := Option.bind_eq_some_iff.1 h
  obtain ⟨k, h2, h⟩ := Option.bind_eq_some_iff.1 h
  obtain ⟨⟨ts, s2⟩, h3, h⟩ := Option.bind_eq_some_iff.1 h
  obtain ⟨s3, h4, h⟩ := Option.bind_eq_some_iff.1 h
  rw [Option.some.injEq, Prod.mk.injEq] at h
  obtain ⟨rfl, rfl⟩ := h
  obtain ⟨e1, _⟩ := runL_some h1
  obtain ⟨hk, e2⟩ := idx_some h2
  obtain ⟨e3, l3, o3⟩ := args_some h3
  refine ⟨?_, ⟨k, hk, rfl⟩, l3, o3⟩
  simp only at e2 e3 h4
  rw [e1, e3, atomL]
  simp only
  rw [e2]
  unfold closeR at h4
  split at h4
  · rename_i hn
    rw [Option.some.injEq] at h4
    rw [if_pos hn, h4]
    simp
  · rename_i hn
    rw [if_neg hn, eat_iff.1 h4]
    simp
/-- names that are as they must be, each of one predicate alone -/
structure Names (ps : List Prd) : Prop where
  low : ∀ q ∈ ps, bl q.name ≠ [] ∧ (bl q.name).all isLow = true
  one : ∀ i j : Nat, i < j → (hj : j < ps.length) → (hi : i < ps.length) → bl ps[i].name ≠ bl ps[j].name
theorem idx_of {ps : List Prd} (h : Names ps) {k : Nat} (hk : k < ps.length) : idxR ps (bl (nameOf ps (k : Int))) = some k := by
  have e : nameOf ps (k : Int) = ps[k].name := by unfold nameOf; rw [Int.toNat_natCast, List.getElem?_eq_getElem hk]; rfl
  rw [e]
  unfold idxR
  refine List.findIdx?_eq_some_iff_getElem.2 ⟨hk, by simp, fun j hj => ?_⟩
  have := h.one j k hj hk (by omega)
  simpa using this
theorem low_not : isLow 40 = false ∧ isLow 32 = false ∧ isLow 46 = false ∧ isLow 44 = false := by decide
theorem atom_of {ps : List Prd} (hN : Names ps) {a : Atm} (h : AtomRead ps a) {u : List UInt8} (hu : (u.head?.map isLow).getD false = false) : atomR ps (atomL ps a ++ u) = some (a, u) := by
  obtain ⟨p, ts⟩ := a
  obtain ⟨⟨k, hk, hp⟩, hm, ho⟩ := h
  simp only at hp hm ho
  subst hp
  have hq : nameOf ps (k : Int) = ps[k].name := by unfold nameOf; rw [Int.toNat_natCast, List.getElem?_eq_getElem hk]; rfl
  obtain ⟨l1, l2⟩ := hN.low ps[k] (List.getElem_mem hk)
  rw [← hq] at l1 l2
  have e1 : atomL ps ⟨(k : Int), ts⟩ ++ u = bl (nameOf ps (k : Int)) ++ (argsL ts 0 ++ ((if ts = [] then [] else [41]) ++ u)) := by simp [atomL]
  have e2 : runL isLow (bl (nameOf ps (k : Int)) ++ (argsL ts 0 ++ ((if ts = [] then [] else [41]) ++ u))) = some (bl (nameOf ps (k : Int)), argsL ts 0 ++ ((if ts = [] then [] else [41]) ++ u)) := by
    refine runL_of l1 l2 ?_
    cases ts with
    | nil => simpa [argsL] using hu
    | cons t ts => simp [argsL, low_not.1]
  unfold atomR
  rw [e1, e2, Option.bind_some]
  simp only
  rw [idx_of hN hk, Option.bind_some, ← hm, args_of 0 _ ho, Option.bind_some]
  simp only
  have e3 : closeR ts ((if ts = [] then [] else [41]) ++ u) = some u := by
    unfold closeR
    split
    · rfl
    · exact eat_of _ _
  rw [e3]
  rfl
end Go.Proofs.YtlfccloaoopadafGreatDoor.Text
