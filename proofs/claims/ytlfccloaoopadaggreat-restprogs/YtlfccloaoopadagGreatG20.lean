/-
  The document's own texts: atoms.
-/
import Derived.Test.YtlfccloaoopadagGreatG19
import Derived.Test.YtlfccloaoopadagGreatG9
import Derived.Test.YtlfccloaoopadagGreatG7
namespace Go.Proofs.YtlfccloaoopadagGreat.Text
open Go.ChangeShapes Go.WideShapes Go.ChangeAt Go.RowKit
open Prog (slice_cells)

def argB (t : Tm) : ByteArray := if t.var then oneB (65 + t.n) else dig t.n
def nameOf (ps : List Prd) (p : Int) : ByteArray := ((ps[p.toNat]?).map Prd.name).getD ⟨#[]⟩
def atomTo (ps : List Prd) (a : Atm) : Nat → ByteArray
  | 0 => nameOf ps a.pred
  | k + 1 => (atomTo ps a k ++ (if k = 0 then ⟨#[40]⟩ else ⟨#[44]⟩)) ++ argB (a.args.getD k ⟨false, 0⟩)
def atomB (ps : List Prd) (a : Atm) : ByteArray := if 0 < a.args.length then atomTo ps a a.args.length ++ ⟨#[41]⟩ else atomTo ps a 0
theorem argB_size (t : Tm) : (argB t).size ≤ 2 := by
  unfold argB
  split
  · rw [oneB_size]; omega
  · exact dig_size _
theorem atomTo_size {ps : List Prd} {a : Atm} (h : (nameOf ps a.pred).size ≤ 8) : ∀ k, (atomTo ps a k).size ≤ 8 + k * 3
  | 0 => by simpa [atomTo] using h
  | k + 1 => by
    have ih := atomTo_size h k
    have h2 := argB_size (a.args.getD k ⟨false, 0⟩)
    rw [atomTo, ByteArray.size_append, ByteArray.size_append]
    have h1 : (if k = 0 then (⟨#[40]⟩ : ByteArray) else ⟨#[44]⟩).size = 1 := by split <;> rfl
    omega
theorem atomB_size {ps : List Prd} {a : Atm} (h : (nameOf ps a.pred).size ≤ 8) : (atomB ps a).size ≤ 9 + a.args.length * 3 := by
  unfold atomB
  split
  · rw [ByteArray.size_append]
    have := atomTo_size h a.args.length
    have h1 : (⟨#[41]⟩ : ByteArray).size = 1 := rfl
    omega
  · have := atomTo_size h 0
    omega
def argOk (t : Tm) : Prop := 0 ≤ t.n ∧ t.n ≤ 99

set_option maxRecDepth 100000 in
set_option maxHeartbeats 2000000 in
theorem atomText_c (w : World) (pv av : Value) (ps : List Prd) (a : Atm) (e : Nat) (hp : predsAt w pv ps) (ht : termsAt w av a.args) (he : a.pred = (e : Int)) (hel : e < ps.length) (hok : ∀ t ∈ a.args, argOk t) (hnm : (nameOf ps a.pred).size ≤ 8) (han : a.args.length ≤ 500) :
    Calls Tryz.prog 42 #[pv, .agg #[.int .i64 a.pred, av]] w fun e w' => e = .returned (.string (atomB ps a)) ∧ Below w.heap.size w w' := by
  have HT : Hid (∀ x, Below w.heap.size w x → termsAt x av a.args) := fun x hx => termsAt.lasts hx ht
  have HOK : Hid (∀ t ∈ a.args, argOk t) := hok
  have HSZ : Hid (∀ k, (atomTo ps a k).size ≤ 8 + k * 3) := atomTo_size hnm
  obtain ⟨pb, po, pc, rfl, hpb, n0, n1, n2⟩ := slice_cells hp hel
  obtain ⟨aa, ac, rfl, hal, _⟩ := ht
  have HN : Hid (atomTo ps a 0 = ps[e].name) := by
    show nameOf ps a.pred = _
    rw [nameOf, he, Int.toNat_natCast, List.getElem?_eq_getElem hel]
    rfl
  have hel' : (e : Int) < (ps.length : Int) := by omega
  rw [he]
  obtain ⟨W1, hW1⟩ : ∃ W1, w.alloc (.cells #[.int .i64 (e : Int), .slice aa a.args.length ac] 55) = W1 := ⟨_, rfl⟩
  have b1 : Below w.heap.size w W1 := by rw [← hW1]; exact below_alloc _ _
  have m0 := (cell_lasts b1 hpb).trans n0
  have c0 : W1.cell? ⟨w.heap.size, 0, none⟩ = some (.int .i64 (e : Int)) := by rw [← hW1]; simp [go_sem]
  have c1 : W1.cell? ⟨w.heap.size, 1, none⟩ = some (.slice aa a.args.length ac) := by rw [← hW1]; simp [go_sem]
  have hs : w.heap.size < W1.heap.size := by rw [← hW1]; simp
  have HC : Hid (∀ x, Below W1.heap.size W1 x → x.cell? ⟨w.heap.size, 1, none⟩ = some (.slice aa a.args.length ac)) := fun x hx => (cell_lasts hx hs).trans c1
  clear n0 n1 n2
  go_enter Tryz.func42, Tryz.ntmps42
  go_wp2_with fail
  clear hW1 c0 m0
  go_loopw [5, 6] (fun s i wr => ∃ j : Nat, j ≤ a.args.length ∧ i = .int .i64 j ∧ s = .string (atomTo ps a j) ∧ Below W1.heap.size W1 wr) (fun _ i _ => a.args.length - (intOf i).toNat)
  case atStart => exact ⟨0, Nat.zero_le _, rfl, by rw [HN.out], Below.refl _ _⟩
  case round =>
    obtain ⟨j, hj, rfl, rfl, hbw⟩ := hrel
    have d1 := HC.out wr hbw
    have kw : Below w.heap.size w wr := b1.trans (hbw.mono b1.size)
    by_cases hlt : j < a.args.length
    · obtain ⟨tb, to_, tc, hv, htb, t0, t1⟩ := slice_cells (HT.out wr kw) hlt
      obtain ⟨rfl, rfl⟩ : aa = some ⟨tb, to_, none⟩ ∧ ac = tc := by simpa using hv
      have hjl : (j : Int) < (a.args.length : Int) := by omega
      have hj0 : (0 : Int) ≤ (j : Int) := by omega
      obtain ⟨o0, o1⟩ := HOK.out _ (List.getElem_mem hlt)
      have HS : Hid (atomTo ps a (j + 1) = (atomTo ps a j ++ (if j = 0 then ⟨#[40]⟩ else ⟨#[44]⟩)) ++ argB a.args[j]) := by
        show _ = _
        rw [atomTo]
        congr 2
        simp [List.getD, List.getElem?_eq_getElem hlt]
      have hd := digits_c wr a.args[j].n o0 o1
      have hcv := conv_one wr (65 + a.args[j].n)
      have hBs := HSZ.out j
      have hdz := dig_size a.args[j].n
      have hoz := oneB_size (65 + a.args[j].n)
      have hlim : ¬ 9223372036854775807 < (atomTo ps a j).size + 1 := by omega
      have hlim2 : ¬ 9223372036854775807 < (atomTo ps a j).size + 1 + (dig a.args[j].n).size := by omega
      have hlim3 : ¬ 9223372036854775807 < (atomTo ps a j).size + 1 + (oneB (65 + a.args[j].n)).size := by omega
      clear hv hBs hdz hoz
      generalize a.args[j] = y at *
      generalize atomTo ps a j = B at *
      by_cases h0 : j = 0
      · subst h0
        rw [if_pos rfl] at HS
        have t0' : wr.cell? ⟨tb, to_, none⟩ = some (.bool y.var) := by have := t0; rwa [Nat.zero_mul, Nat.add_zero] at this
        have t1' : wr.cell? ⟨tb, to_ + 1, none⟩ = some (.int .i64 y.n) := by have := t1; rwa [Nat.zero_mul, Nat.add_zero] at this
        cases hy : y.var
        · rw [argB, hy, if_neg (by simp)] at HS
          rw [hy] at t0 t0'
          go_wp2_with fail
          refine hd.mono ?_
          rintro e W2 ⟨rfl, hb2⟩
          go_wp2_with fail
          go_roundw
          case rel => exact ⟨1, by omega, by go_num, by rw [HS.out], hbw.trans (hb2.mono hbw.size)⟩
          case measure => simp [intOf]; omega
        · rw [argB, hy, if_pos rfl] at HS
          rw [hy] at t0 t0'
          go_wp2_with fail
          go_roundw
          case rel => exact ⟨1, by omega, by go_num, by rw [HS.out], hbw.alloc hbw.size _⟩
          case measure => simp [intOf]; omega
      · rw [if_neg h0] at HS
        have h0' : (j : Int) ≠ 0 := by omega
        cases hy : y.var
        · rw [argB, hy, if_neg (by simp)] at HS
          rw [hy] at t0
          go_wp2_with fail
          refine hd.mono ?_
          rintro e W2 ⟨rfl, hb2⟩
          go_wp2_with fail
          go_roundw
          case rel => exact ⟨j + 1, by omega, by go_num, by rw [HS.out], hbw.trans (hb2.mono hbw.size)⟩
          case measure => simp [intOf]; omega
        · rw [argB, hy, if_pos rfl] at HS
          rw [hy] at t0
          go_wp2_with fail
          go_roundw
          case rel => exact ⟨j + 1, by omega, by go_num, by rw [HS.out], hbw.alloc hbw.size _⟩
          case measure => simp [intOf]; omega
    · obtain rfl : j = a.args.length := by omega
      by_cases h0 : a.args.length = 0
      · have HE : Hid (atomB ps a = atomTo ps a a.args.length) := by show _ = _; rw [atomB, if_neg (by omega), h0]
        have h0' : (a.args.length : Int) = 0 := by omega
        generalize atomTo ps a a.args.length = B at *
        go_wp2_with fail
        go_ret
        exact ⟨by rw [HE.out]; rfl, kw⟩
      · have hlim : ¬ 9223372036854775807 < (atomTo ps a a.args.length).size + 1 := by have := HSZ.out a.args.length; omega
        have HE : Hid (atomB ps a = atomTo ps a a.args.length ++ ⟨#[41]⟩) := by show _ = _; rw [atomB, if_pos (by omega)]
        have h0' : (0 : Int) < (a.args.length : Int) := by omega
        have h0n : 0 < a.args.length := by omega
        generalize atomTo ps a a.args.length = B at *
        go_wp2_with fail
        go_ret
        exact ⟨by rw [HE.out]; rfl, kw⟩
end Go.Proofs.YtlfccloaoopadagGreat.Text

/-
  The document's own texts: programs.
-/
namespace Go.Proofs.YtlfccloaoopadagGreat.Text
open Go.ChangeShapes Go.WideShapes Go.ChangeAt Go.RowKit
open Prog (slice_cells)
open Rule (kindOf)

def predPut (B : ByteArray) (q : Prd) : ByteArray := B ++ ⟨#[112, 114, 101, 100, 32]⟩ ++ q.name ++ ⟨#[32]⟩ ++ dig q.arity ++ ⟨#[32]⟩ ++ dig q.kind ++ ⟨#[10]⟩
def predsTo (ps : List Prd) : Nat → ByteArray
  | 0 => ⟨#[]⟩
  | k + 1 => predPut (predsTo ps k) (ps.getD k ⟨⟨#[]⟩, 0, 0⟩)
def headPut (ps : List Prd) (B : ByteArray) (r : Rul) : ByteArray :=
  if kindOf ps r.head.pred = 0 then B ++ atomB ps r.head
  else if 0 ≤ r.src then B ++ atomB ps r.head ++ ⟨#[32, 61, 32]⟩ ++ ⟨#[35]⟩ ++ dig r.src ++ ⟨#[43]⟩ ++ dig r.n
  else B ++ atomB ps r.head ++ ⟨#[32, 61, 32]⟩ ++ dig r.n
def litPut (ps : List Prd) (B : ByteArray) (k : Nat) (l : Ltr) : ByteArray :=
  if l.neg then B ++ (if k = 0 then ⟨#[32, 58, 45, 32]⟩ else ⟨#[44, 32]⟩) ++ ⟨#[33]⟩ ++ atomB ps l.atom
  else B ++ (if k = 0 then ⟨#[32, 58, 45, 32]⟩ else ⟨#[44, 32]⟩) ++ atomB ps l.atom
def bodyTo (ps : List Prd) (B : ByteArray) (ls : List Ltr) : Nat → ByteArray
  | 0 => B
  | k + 1 => litPut ps (bodyTo ps B ls k) k (ls.getD k ⟨false, ⟨0, []⟩⟩)
def rulePut (ps : List Prd) (B : ByteArray) (r : Rul) : ByteArray := bodyTo ps (headPut ps B r) r.body r.body.length ++ ⟨#[46, 10]⟩
def rulesTo (ps : List Prd) (B : ByteArray) (rs : List Rul) : Nat → ByteArray
  | 0 => B
  | k + 1 => rulePut ps (rulesTo ps B rs k) (rs.getD k ⟨⟨0, []⟩, 0, 0, []⟩)
/-- the text of a program -/
def progB (ps : List Prd) (rs : List Rul) : ByteArray := rulesTo ps (predsTo ps ps.length) rs rs.length

structure AtomOk (ps : List Prd) (a : Atm) : Prop where
  there : ∃ e : Nat, a.pred = (e : Int) ∧ e < ps.length
  args : ∀ t ∈ a.args, argOk t
  few : a.args.length ≤ 500
structure TextOk (ps : List Prd) (rs : List Rul) : Prop where
  preds : ps.length ≤ 500
  rules : rs.length ≤ 500
  name : ∀ q ∈ ps, q.name.size ≤ 8
  arity : ∀ q ∈ ps, 0 ≤ q.arity ∧ q.arity ≤ 99
  kind : ∀ q ∈ ps, 0 ≤ q.kind ∧ q.kind ≤ 99
  head : ∀ r ∈ rs, AtomOk ps r.head
  src : ∀ r ∈ rs, r.src ≤ 99
  n : ∀ r ∈ rs, 0 ≤ r.n ∧ r.n ≤ 99
  few : ∀ r ∈ rs, r.body.length ≤ 500
  body : ∀ r ∈ rs, ∀ l ∈ r.body, AtomOk ps l.atom
theorem name_size {ps : List Prd} (h : ∀ q ∈ ps, q.name.size ≤ 8) (p : Int) : (nameOf ps p).size ≤ 8 := by
  unfold nameOf
  cases e : ps[p.toNat]? with
  | none => exact Nat.zero_le _
  | some q => exact h q (List.mem_of_getElem? e)
theorem atom_sz {ps : List Prd} (h : ∀ q ∈ ps, q.name.size ≤ 8) {a : Atm} (ha : a.args.length ≤ 500) : (atomB ps a).size ≤ 1509 := by
  have := atomB_size (name_size h a.pred)
  omega
theorem predPut_size {B : ByteArray} {q : Prd} (h : q.name.size ≤ 8) : (predPut B q).size ≤ B.size + 20 := by
  unfold predPut
  have h1 := dig_size q.arity
  have h2 := dig_size q.kind
  simp only [ByteArray.size_append]
  have e1 : (⟨#[112, 114, 101, 100, 32]⟩ : ByteArray).size = 5 := rfl
  have e2 : (⟨#[32]⟩ : ByteArray).size = 1 := rfl
  have e3 : (⟨#[10]⟩ : ByteArray).size = 1 := rfl
  omega
theorem predsTo_size {ps : List Prd} (h : ∀ q ∈ ps, q.name.size ≤ 8) : ∀ k, (predsTo ps k).size ≤ k * 20
  | 0 => Nat.zero_le _
  | k + 1 => by
    have ih := predsTo_size h k
    have hq : (ps.getD k ⟨⟨#[]⟩, 0, 0⟩).name.size ≤ 8 := by
      rw [List.getD]
      cases e : ps[k]? with
      | none => exact Nat.zero_le _
      | some q => exact h q (List.mem_of_getElem? e)
    have := predPut_size (B := predsTo ps k) hq
    rw [predsTo]
    omega
theorem headPut_size {ps : List Prd} (h : ∀ q ∈ ps, q.name.size ≤ 8) {B : ByteArray} {r : Rul} (ha : r.head.args.length ≤ 500) : (headPut ps B r).size ≤ B.size + 1600 := by
  have h0 := atom_sz h ha
  have h1 := dig_size r.src
  have h2 := dig_size r.n
  have e1 : (⟨#[32, 61, 32]⟩ : ByteArray).size = 3 := rfl
  have e2 : (⟨#[35]⟩ : ByteArray).size = 1 := rfl
  have e3 : (⟨#[43]⟩ : ByteArray).size = 1 := rfl
  unfold headPut
  split
  · simp only [ByteArray.size_append]; omega
  · split <;> simp only [ByteArray.size_append] <;> omega
theorem litPut_size {ps : List Prd} (h : ∀ q ∈ ps, q.name.size ≤ 8) {B : ByteArray} {k : Nat} {l : Ltr} (ha : l.atom.args.length ≤ 500) : (litPut ps B k l).size ≤ B.size + 1600 := by
  have h0 := atom_sz h ha
  have e1 : (if k = 0 then (⟨#[32, 58, 45, 32]⟩ : ByteArray) else ⟨#[44, 32]⟩).size ≤ 4 := by split <;> decide
  have e2 : (⟨#[33]⟩ : ByteArray).size = 1 := rfl
  unfold litPut
  split <;> simp only [ByteArray.size_append] <;> omega
theorem bodyTo_size {ps : List Prd} (h : ∀ q ∈ ps, q.name.size ≤ 8) {B : ByteArray} {ls : List Ltr} (ha : ∀ l ∈ ls, l.atom.args.length ≤ 500) : ∀ k, (bodyTo ps B ls k).size ≤ B.size + k * 1600
  | 0 => by simp [bodyTo]
  | k + 1 => by
    have ih := bodyTo_size (B := B) h ha k
    have hq : (ls.getD k ⟨false, ⟨0, []⟩⟩).atom.args.length ≤ 500 := by
      rw [List.getD]
      cases e : ls[k]? with
      | none => simp
      | some q => exact ha q (List.mem_of_getElem? e)
    have := litPut_size (B := bodyTo ps B ls k) (k := k) h hq
    rw [bodyTo]
    omega
theorem rulesTo_size {ps : List Prd} {rs : List Rul} (h : TextOk ps rs) (B : ByteArray) : ∀ k, k ≤ rs.length → (rulesTo ps B rs k).size ≤ B.size + k * 1000000
  | 0, _ => by simp [rulesTo]
  | k + 1, hk => by
    have ih := rulesTo_size h B k (by omega)
    have hm : rs[k]'(by omega) ∈ rs := List.getElem_mem _
    have e : rs.getD k ⟨⟨0, []⟩, 0, 0, []⟩ = rs[k]'(by omega) := by rw [List.getD, List.getElem?_eq_getElem (by omega)]; rfl
    rw [rulesTo, e, rulePut, ByteArray.size_append]
    have h1 := headPut_size (B := rulesTo ps B rs k) h.name (h.head _ hm).few
    have h2 := bodyTo_size (B := headPut ps (rulesTo ps B rs k) (rs[k]'(by omega))) h.name (ls := (rs[k]'(by omega)).body) (fun l hl => (h.body _ hm l hl).few) (rs[k]'(by omega)).body.length
    have h3 := h.few _ hm
    have e2 : (⟨#[46, 10]⟩ : ByteArray).size = 2 := rfl
    have h4 : (rs[k]'(by omega)).body.length * 1600 ≤ 500 * 1600 := Nat.mul_le_mul_right _ h3
    omega
end Go.Proofs.YtlfccloaoopadagGreat.Text
