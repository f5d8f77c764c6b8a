/-
  Which variables stand where: atoms, variables and hasFree of package rule.
-/
import Derived.OwnWalk
import Derived.Maps.Own
import Derived.Maps.OwnOps
import Derived.Maps.Views
import Derived.Test.YtlfccloaoopadafGreatDoorG8
namespace Go.Proofs.YtlfccloaoopadafGreatDoor.Rule
open Go.ChangeShapes Go.WideShapes Go.ChangeAt Go.RowKit
open Lat (within within_c)

theorem infoAtom : (Tryz.prog.info? 51).map (fun i => (i.zero, i.size, i.bytes)) = some (some (.agg #[.int .i64 0, .slice none 0 0]), 2, 32) := by kernel_rfl

/-- the atoms of the literals that are Not, or of those that are not -/
def picked (ls : List Ltr) (not : Bool) : List Atm := (ls.filter fun l => l.neg == not).map Ltr.atom
theorem picked_yes {ls : List Ltr} {not : Bool} {k : Nat} (h : k < ls.length) (hn : (ls[k].neg == not) = true) : picked (ls.take (k + 1)) not = picked (ls.take k) not ++ [ls[k].atom] := by
  rw [List.take_succ_eq_append_getElem h]
  simp only [picked, List.filter_append, List.filter_cons, hn, if_true, List.filter_nil, List.map_append, List.map_cons, List.map_nil]
theorem picked_no {ls : List Ltr} {not : Bool} {k : Nat} (h : k < ls.length) (hn : (ls[k].neg == not) = false) : picked (ls.take (k + 1)) not = picked (ls.take k) not := by
  rw [List.take_succ_eq_append_getElem h]
  simp only [picked, List.filter_append, List.filter_cons, hn, Bool.false_eq_true, if_false, List.filter_nil, List.append_nil]

/-- v is a row of the call's own that holds the atoms l; their arguments lie in old memory -/
def gathered (w wr : World) (base : Nat) (v : Value) (ats : List Atm) : Prop :=
  ∃ l : List (Atm × Value), l.map Prod.fst = ats ∧ (∀ x ∈ l, termsAt w x.2 x.1.args ∧ x.2.oneCell' = true) ∧ wr.ownsRow base 51 2 v l.length (cellsOf l)

set_option maxHeartbeats 1000000 in
theorem atoms_c (w0 w : World) (bv : Value) (ls : List Ltr) (not : Bool) (h : litsAt w0 bv ls) (h0 : Below w0.heap.size w0 w) (h3 : ls.length ≤ 3) :
    Calls Tryz.prog 155 #[bv, .bool not] w fun e w' => ∃ v, e = .returned v ∧ gathered w0 w' w.heap.size v (picked ls not) ∧ Below w.heap.size w w' := by
  obtain ⟨i0, hi, hz0, hz1, hz2⟩ := info_parts infoAtom
  obtain ⟨a, cap, rfl, hm, hx⟩ := h
  have HX : Hid (ls = [] ∨ ∃ b off, a = some ⟨b, off, none⟩ ∧ b < w0.heap.size ∧ ∀ i x, ls[i]? = some x → litAt w0 b (off + i * 3) x) := hx
  clear hx
  go_enter Tryz.func155, Tryz.ntmps155
  go_wp2_with fail
  go_loopw [5, 10] (fun v i wr => ∃ j : Nat, j ≤ ls.length ∧ i = .int .i64 j ∧ gathered w0 wr w.heap.size v (picked (ls.take j) not) ∧ Below w.heap.size w wr) (fun _ i _ => ls.length - (intOf i).toNat)
  case atStart => exact ⟨0, Nat.zero_le _, rfl, ⟨[], rfl, by simp, World.ownsRow_nil _ _ _ _⟩, Below.refl _ _⟩
  case round =>
    obtain ⟨j, hj, rfl, hg, hbr⟩ := hrel
    have hb0 : Below w0.heap.size w0 wr := h0.trans (hbr.mono h0.size)
    by_cases hlt : j < ls.length
    · obtain ⟨b', off', rfl, hbl', hx⟩ := HX.out.resolve_left (by intro e; rw [e] at hlt; simp at hlt)
      obtain ⟨_, _, ta0, tc0, ht3', ht4⟩ := (hx j ls[j] (by simp [hlt])).open
      obtain ⟨ht1, ht2, ta, tc, ht3, _⟩ := (litAt.lasts w0 wr b' _ _ hb0 hbl' (hx j ls[j] (by simp [hlt]))).open
      have hsame : Value.slice ta0 ls[j].atom.args.length tc0 = Value.slice ta ls[j].atom.args.length tc := by
        rw [cell_lasts hb0 hbl', ht3'] at ht3
        exact Option.some.inj ht3
      rw [hsame] at ht4
      have HT : Hid (termsAt w0 (.slice ta ls[j].atom.args.length tc) ls[j].atom.args) := ht4
      have HY : Hid ((ls[j].neg == not) = true → picked (ls.take (j + 1)) not = picked (ls.take j) not ++ [ls[j].atom]) := picked_yes hlt
      have HN : Hid ((ls[j].neg == not) = false → picked (ls.take (j + 1)) not = picked (ls.take j) not) := picked_no hlt
      clear hx HX ht3' ht4 hsame
      generalize ls[j] = l at *
      obtain ⟨ln, lp, lt⟩ := l
      cases hn : (ln == not)
      · have HN' : Hid (picked (ls.take (j + 1)) not = picked (ls.take j) not) := HN.out hn
        have HG : Hid (gathered w0 wr w.heap.size u5 (picked (ls.take j) not)) := hg
        clear HY HN hg
        go_wp2_with fail
        go_roundw
        case rel =>
          obtain ⟨l, hl1, hl2, hl3⟩ := HG.out
          exact ⟨j + 1, by omega, by go_num, by rw [HN'.out]; exact ⟨l, hl1, hl2, hl3.alloc _⟩, hbr.alloc hbr.size _⟩
        case measure => simp [intOf]; omega
      · obtain ⟨l, hl1, hl2, hl3⟩ := hg
        have HY' : Hid (picked (ls.take (j + 1)) not = picked (ls.take j) not ++ [⟨lp, lt⟩]) := HY.out hn
        have HL1 : Hid (l.map Prod.fst = picked (ls.take j) not) := hl1
        have HL2 : Hid (∀ x ∈ l, termsAt w0 x.2 x.1.args ∧ x.2.oneCell' = true) := hl2
        have hle : l.length ≤ j := by
          have := congrArg List.length hl1
          simp [picked] at this
          rw [this]
          exact Nat.le_trans (List.length_filter_le _ _) (by simp; omega)
        clear HY HN hl1 hl2
        go_wp2_with (at_builtin; refine wpList_append_own _ rfl _ _ 206 rfl w.heap.size 51 i0 (.agg #[.int .i64 0, .slice none 0 0]) 2 32 Tryz.underlying206 hi hz0 hz1 hz2 rfl (by decide) _ _ _ rfl ((hl3.alloc _).alloc _) ⟨wr.heap.size + 1, 0, none⟩ 1 1 [.int .i64 lp, .slice ta lt.length tc] rfl rfl ?c1 ?c2 ?c3 ?c4 ?c5 ?_)
        case c2 => exact ⟨rfl, rfl⟩
        case c3 => unfold maxLen; omega
        case c4 => omega
        case c5 => have := hbr.size; simp; omega
        · intro v' w1 hown' hgrow _
          have hb1 : Below w.heap.size w w1 := ((hbr.alloc hbr.size _).alloc (by have := hbr.size; simp; omega) _).grown hgrow (by have := hbr.size; simp; omega) (fun k hk => (hl3.lt k hk).1)
          have HO : Hid (w1.ownsRow w.heap.size 51 2 v' (l ++ [((⟨lp, lt⟩ : Atm), Value.slice ta lt.length tc)]).length (cellsOf (l ++ [((⟨lp, lt⟩ : Atm), Value.slice ta lt.length tc)]))) := by
            show World.ownsRow _ _ _ _ _ _ _
            rw [cellsOf_append, List.length_append]
            exact hown'
          clear hown' hgrow hl3
          go_wp2_with fail
          go_roundw
          case rel =>
            refine ⟨j + 1, by omega, by go_num, ⟨l ++ [((⟨lp, lt⟩ : Atm), Value.slice ta lt.length tc)], ?_, ?_, HO.out⟩, hb1⟩
            · rw [HY'.out, List.map_append, HL1.out]; rfl
            · intro x hx
              rcases List.mem_append.1 hx with hx | hx
              · exact HL2.out x hx
              · obtain rfl := List.mem_singleton.1 hx
                exact ⟨HT.out, rfl⟩
          case measure => simp [intOf]; omega
    · have HL : Hid (ls.take j = ls) := List.take_of_length_le (by omega)
      have HG : Hid (gathered w0 wr w.heap.size u5 (picked (ls.take j) not)) := hg
      clear hg HX
      go_wp2_with fail
      go_ret
      exact ⟨_, rfl, by rw [HL.out] at HG; exact HG.out, hbr⟩
end Go.Proofs.YtlfccloaoopadafGreatDoor.Rule
