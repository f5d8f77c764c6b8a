/-
  What the document's own 'CheckProg' answers: the first error of a program, in its order.
-/
import Derived.Test.YtgbacodellfacabProgRef2
import Derived.Test.YtgbacodellfacabCheckRule
namespace Go.Proofs.Ytgbacodellfacab.Prog
open Go.ChangeShapes Go.WideShapes Go.ChangeAt Go.RowKit
open Lat (within within_c)
open Strata
open Rule (ruleErr checkRule_c)

def badName (q : Prd) : Bool := !isName q.name
def badArity (q : Prd) : Bool := !within q.arity 0 2
def badKind (q : Prd) : Bool := !within q.kind 0 3
def nameAt (ps : List Prd) (k : Nat) : ByteArray := (ps[k]?.map Prd.name).getD ⟨#[]⟩
def sameAs (s : ByteArray) (q : Prd) : Bool := q.name.toList == s.toList
def twiceAt (ps : List Prd) (k : Nat) : Bool := (ps.take k).any (sameAs (nameAt ps k))
theorem twice_eq (ps : List Prd) : twice ps = (List.range ps.length).any (twiceAt ps) := rfl
theorem parts_many {ps : List Prd} {rs : List Rul} (h : 5 < ps.length ∨ 8 < rs.length) : partsErr ps rs = 2 := by rw [partsErr, if_pos h]
theorem parts_name {ps : List Prd} {rs : List Rul} (h : ¬ (5 < ps.length ∨ 8 < rs.length)) (h1 : ps.any badName = true) : partsErr ps rs = 5 := by rw [partsErr, if_neg h, if_pos (show ps.any (fun q => !isName q.name) = true from h1)]
theorem parts_twice {ps : List Prd} {rs : List Rul} (h : ¬ (5 < ps.length ∨ 8 < rs.length)) (h1 : ps.any badName = false) (h2 : twice ps = true) : partsErr ps rs = 6 := by
  rw [partsErr, if_neg h, if_neg (by rw [show ps.any (fun q => !isName q.name) = false from h1]; simp), if_pos h2]
theorem parts_arity {ps : List Prd} {rs : List Rul} (h : ¬ (5 < ps.length ∨ 8 < rs.length)) (h1 : ps.any badName = false) (h2 : twice ps = false) (h3 : ps.any badArity = true) : partsErr ps rs = 3 := by
  rw [partsErr, if_neg h, if_neg (by rw [show ps.any (fun q => !isName q.name) = false from h1]; simp), if_neg (by rw [h2]; simp), if_pos (show ps.any (fun q => !within q.arity 0 2) = true from h3)]
theorem parts_kind {ps : List Prd} {rs : List Rul} (h : ¬ (5 < ps.length ∨ 8 < rs.length)) (h1 : ps.any badName = false) (h2 : twice ps = false) (h3 : ps.any badArity = false) (h4 : ps.any badKind = true) : partsErr ps rs = 4 := by
  rw [partsErr, if_neg h, if_neg (by rw [show ps.any (fun q => !isName q.name) = false from h1]; simp), if_neg (by rw [h2]; simp), if_neg (by rw [show ps.any (fun q => !within q.arity 0 2) = false from h3]; simp), if_pos (show ps.any (fun q => !within q.kind 0 3) = true from h4)]
theorem parts_rules {ps : List Prd} {rs : List Rul} (h : ¬ (5 < ps.length ∨ 8 < rs.length)) (h1 : ps.any badName = false) (h2 : twice ps = false) (h3 : ps.any badArity = false) (h4 : ps.any badKind = false) : partsErr ps rs = rulesErr ps rs := by
  rw [partsErr, if_neg h, if_neg (by rw [show ps.any (fun q => !isName q.name) = false from h1]; simp), if_neg (by rw [h2]; simp), if_neg (by rw [show ps.any (fun q => !within q.arity 0 2) = false from h3]; simp), if_neg (by rw [show ps.any (fun q => !within q.kind 0 3) = false from h4]; simp)]
theorem prog_parts {ps : List Prd} {rs : List Rul} {e : Int} (h : partsErr ps rs = e) (he : e ≠ 0) : progErr ps rs = e := by rw [progErr, if_pos (by rw [h]; exact he), h]
theorem prog_round {ps : List Prd} {rs : List Rul} (h : partsErr ps rs = 0) : progErr ps rs = if (strataL (edges rs) ps.length).isSome then 0 else 8 := by rw [progErr, if_neg (by rw [h]; simp)]
theorem range_any {p : Nat → Bool} {n k : Nat} (h : k < n) (hp : p k = true) : (List.range n).any p = true := List.any_eq_true.2 ⟨k, List.mem_range.2 h, hp⟩
theorem range_succ {p : Nat → Bool} {k : Nat} : (List.range (k + 1)).any p = ((List.range k).any p || p k) := by simp [List.range_succ]
theorem name_at {ps : List Prd} {k : Nat} (h : k < ps.length) : nameAt ps k = ps[k].name := by simp [nameAt, h]
def small (ps : List Prd) : Prop := ∀ q ∈ ps, q.name.size ≤ 9223372036854775807

set_option maxRecDepth 100000 in
set_option maxHeartbeats 8000000 in
theorem checkProg_c (w : World) (pv rv : Value) (ps : List Prd) (rs : List Rul) (hp : predsAt w pv ps) (hr : rulesAt w rv rs) (hn : small ps) :
    Calls Try.prog 11 #[.agg #[pv, rv]] w fun e w' => e = .returned (.int .i64 (progErr ps rs)) ∧ Below w.heap.size w w' := by
  have HP : Hid (predsAt w pv ps) := hp
  have HR : Hid (rulesAt w rv rs) := hr
  have HN : Hid (small ps) := hn
  clear hn
  obtain ⟨pa, pc, rfl, hpm, hpx⟩ := hp
  obtain ⟨ra, rc, rfl, hrm, hrx⟩ := hr
  clear hpx hrx
  have hB : Hid (∀ x, Below (w.heap.size + 1) (w.alloc (.cells #[.slice pa ps.length pc, .slice ra rs.length rc] 25)) x → Below w.heap.size w x) := fun x h => (below_alloc _ _).trans (h.mono (by omega))
  have HBOX : Hid (∀ x, Below (w.heap.size + 1) (w.alloc (.cells #[.slice pa ps.length pc, .slice ra rs.length rc] 25)) x → x.cell? ⟨w.heap.size, 0, none⟩ = some (.slice pa ps.length pc) ∧ x.cell? ⟨w.heap.size, 1, none⟩ = some (.slice ra rs.length rc)) := fun x h =>
    ⟨by rw [h.cell (p := ⟨w.heap.size, 0, none⟩) (by simp)]; simp [go_sem], by rw [h.cell (p := ⟨w.heap.size, 1, none⟩) (by simp)]; simp [go_sem]⟩
  by_cases h5 : 5 < ps.length
  · have H : Hid (progErr ps rs = 2) := prog_parts (parts_many (.inl h5)) (by decide)
    have h5' : (5 : Int) < (ps.length : Int) := by omega
    go_enter Try.func11, Try.ntmps11
    go_wp2_with fail
    go_ret
    exact ⟨by rw [H.out]; rfl, below_alloc _ _⟩
  by_cases h8 : 8 < rs.length
  · have H : Hid (progErr ps rs = 2) := prog_parts (parts_many (.inr h8)) (by decide)
    have h5' : ¬ (5 : Int) < (ps.length : Int) := by omega
    have h8' : (8 : Int) < (rs.length : Int) := by omega
    go_enter Try.func11, Try.ntmps11
    go_wp2_with fail
    go_ret
    exact ⟨by rw [H.out]; rfl, below_alloc _ _⟩
  have HM : Hid (¬ (5 < ps.length ∨ 8 < rs.length)) := by show ¬ _; omega
  have h5' : ¬ (5 : Int) < (ps.length : Int) := by omega
  have h8' : ¬ (8 : Int) < (rs.length : Int) := by omega
  go_enter Try.func11, Try.ntmps11
  go_wp2_with fail
  go_loopw [3] (fun i wr => ∃ j : Nat, j ≤ ps.length ∧ i = .int .i64 j ∧ (ps.take j).any badName = false ∧ Below (w.heap.size + 1) (w.alloc (.cells #[.slice pa ps.length pc, .slice ra rs.length rc] 25)) wr) (fun i _ => ps.length - (intOf i).toNat)
  case atStart => exact ⟨0, Nat.zero_le _, rfl, rfl, Below.refl _ _⟩
  case round =>
    obtain ⟨j, hj, rfl, hall, hbr⟩ := hrel
    obtain ⟨c0, c1⟩ := HBOX.out _ hbr
    by_cases hlt : j < ps.length
    · obtain ⟨b, off, cap, hv, hb, hcell⟩ := slice_cells HP.out hlt
      obtain ⟨rfl, rfl⟩ : pa = some ⟨b, off, none⟩ ∧ pc = cap := by simpa using hv
      have hbw := hB.out _ hbr
      obtain ⟨t0, t1, t2⟩ := predAt.lasts w wr b _ _ hbw hb hcell
      have hnm : ps[j].name.size ≤ 9223372036854775807 := HN.out _ (List.getElem_mem hlt)
      have HT : Hid (badName ps[j] = false → (ps.take (j + 1)).any badName = false) := fun h => by rw [any_take hlt, hall, h]; rfl
      have HF : Hid (badName ps[j] = true → progErr ps rs = 5) := fun h => prog_parts (parts_name HM.out  (any_of hlt h)) (by decide)
      have hj0 : (0 : Int) ≤ (j : Int) := by omega
      have hj1 : (j : Int) < (ps.length : Int) := by omega
      clear hv hcell hall
      generalize ps[j] = q at *
      cases hq : isName q.name
      · have H : Hid (progErr ps rs = 5) := HF.out (by rw [badName, hq]; rfl)
        clear HT HF
        go_wp2_with (first | (go_at_call 13; refine (isName_c _ _ hnm).mono ?_; rintro e w1 ⟨rfl, hb1⟩; rw [hq]))
        go_ret
        exact ⟨by rw [H.out]; rfl, hB.out _ (hbr.trans (hb1.mono (by have := hbr.size; simp at this; omega)))⟩
      · have H : Hid ((ps.take (j + 1)).any badName = false) := HT.out (by rw [badName, hq]; rfl)
        clear HT HF
        go_wp2_with (first | (go_at_call 13; refine (isName_c _ _ hnm).mono ?_; rintro e w1 ⟨rfl, hb1⟩; rw [hq]))
        exact ⟨⟨j + 1, by omega, by go_num, H.out, (hbr.trans (hb1.mono (by have := hbr.size; simp at this; omega)))⟩, by simp [intOf]; omega⟩
    · have H1 : Hid (ps.any badName = false) := any_take_end hlt hall
      clear hall
      obtain rfl : j = ps.length := by omega
      go_wp2_with fail
      go_loopw [4] (fun i wr => ∃ j : Nat, j ≤ ps.length ∧ i = .int .i64 j ∧ (List.range j).any (twiceAt ps) = false ∧ Below (w.heap.size + 1) (w.alloc (.cells #[.slice pa ps.length pc, .slice ra rs.length rc] 25)) wr) (fun i _ => ps.length - (intOf i).toNat)
      case atStart => exact ⟨0, Nat.zero_le _, rfl, rfl, hbr⟩
      case round =>
        clear hbr c0 c1
        obtain ⟨j, hj, rfl, hall, hbr⟩ := hrel
        obtain ⟨c0, c1⟩ := HBOX.out _ hbr
        by_cases hlt : j < ps.length
        · go_wp2_with fail
          go_loopw [5] (fun i wr => ∃ k : Nat, k ≤ j ∧ i = .int .i64 k ∧ (ps.take k).any (sameAs (nameAt ps j)) = false ∧ Below (w.heap.size + 1) (w.alloc (.cells #[.slice pa ps.length pc, .slice ra rs.length rc] 25)) wr) (fun i _ => j - (intOf i).toNat)
          case atStart => exact ⟨0, Nat.zero_le _, rfl, rfl, hbr⟩
          case round =>
            clear hbr c0 c1
            obtain ⟨k, hk, rfl, hno, hbr⟩ := hrel
            obtain ⟨c0, c1⟩ := HBOX.out _ hbr
            have hbw := hB.out _ hbr
            by_cases hkj : k < j
            · have hkl : k < ps.length := by omega
              obtain ⟨b, off, cap, hv, hb, hcell⟩ := slice_cells HP.out hlt
              obtain ⟨rfl, rfl⟩ : pa = some ⟨b, off, none⟩ ∧ pc = cap := by simpa using hv
              obtain ⟨b', off', cap', hv', hb', hcell'⟩ := slice_cells HP.out hkl
              obtain ⟨⟨rfl, rfl⟩, rfl⟩ : (b = b' ∧ off = off') ∧ pc = cap' := by simpa using hv'
              have t0 := (predAt.lasts w wr b _ _ hbw hb hcell).1
              have u0 := (predAt.lasts w wr b _ _ hbw hb hcell').1
              have HT : Hid (sameAs ps[j].name ps[k] = false → (ps.take (k + 1)).any (sameAs (nameAt ps j)) = false) := fun h => by rw [any_take hkl, hno, name_at hlt, h]; rfl
              have HF : Hid (sameAs ps[j].name ps[k] = true → progErr ps rs = 6) := fun h => prog_parts (parts_twice HM.out H1.out (by rw [twice_eq]; exact range_any hlt (List.any_eq_true.2 ⟨ps[k], List.mem_take_iff_getElem.2 ⟨k, by omega, rfl⟩, by rw [name_at hlt]; exact h⟩))) (by decide)
              have s1 : b < wr.heap.size := Nat.lt_of_lt_of_le hb hbw.size
              have s2 : w.heap.size < wr.heap.size := by have := hbr.size; simp at this; omega
              have hk0 : (0 : Int) ≤ (k : Int) := by omega
              have hk1 : (k : Int) < (ps.length : Int) := by omega
              have hj0 : (0 : Int) ≤ (j : Int) := by omega
              have hj1 : (j : Int) < (ps.length : Int) := by omega
              have hkj' : (k : Int) < (j : Int) := by omega
              clear hv hv' hcell hcell' hno
              generalize ps[j] = y at *
              generalize ps[k] = z at *
              have L0 : ∀ x : Low wr.heap.size wr, x.wd.cell? ⟨w.heap.size, 0, none⟩ = some (.slice (some ⟨b, off, none⟩) ps.length pc) := fun x => (cell_lasts x.low s2).trans c0
              have L1 : ∀ x : Low wr.heap.size wr, x.wd.cell? ⟨b, off + j * 3, none⟩ = some (.string y.name) := fun x => (cell_lasts x.low s1).trans t0
              have L2 : ∀ x : Low wr.heap.size wr, x.wd.cell? ⟨b, off + k * 3, none⟩ = some (.string z.name) := fun x => (cell_lasts x.low s1).trans u0
              go_wp2_with fail
              refine wp_region_low wr.heap.size (by kernel_rfl) (by kernel_rfl) ?_
              repeat (go_big_quiet_step (fail))
              refine wpQuiet_nil ?_
              rintro _ ⟨⟨w1, hk2⟩, rfl⟩
              clear L0 L1 L2
              go_wp2_with fail
              case roundEnd =>
                rename_i hq
                exact ⟨⟨k + 1, by omega, by go_num, HT.out hq, hbr.trans (hk2.mono (by have := hbr.size; simp at this; omega))⟩, by simp [intOf]; omega⟩
              · rename_i hq
                go_ret
                exact ⟨by rw [HF.out hq]; rfl, hbw.trans (hk2.mono hbw.size)⟩
            · obtain rfl : k = j := by omega
              have HT : Hid ((List.range (k + 1)).any (twiceAt ps) = false) := by
                show _ = _
                rw [range_succ, hall, twiceAt, hno]
                rfl
              clear hno hall
              go_wp2_with fail
              exact ⟨⟨k + 1, by omega, by go_num, HT.out, hbr⟩, by simp [intOf]; omega⟩
        · obtain rfl : j = ps.length := by omega
          have H2 : Hid (twice ps = false) := hall
          clear hall
          go_wp2_with fail
          go_loopw [6] (fun i wr => ∃ j : Nat, j ≤ ps.length ∧ i = .int .i64 j ∧ (ps.take j).any badArity = false ∧ Below (w.heap.size + 1) (w.alloc (.cells #[.slice pa ps.length pc, .slice ra rs.length rc] 25)) wr) (fun i _ => ps.length - (intOf i).toNat)
          case atStart => exact ⟨0, Nat.zero_le _, rfl, rfl, hbr⟩
          case round =>
            clear hbr c0 c1
            obtain ⟨j, hj, rfl, hall, hbr⟩ := hrel
            obtain ⟨c0, c1⟩ := HBOX.out _ hbr
            by_cases hlt : j < ps.length
            · obtain ⟨b, off, cap, hv, hb, hcell⟩ := slice_cells HP.out hlt
              obtain ⟨rfl, rfl⟩ : pa = some ⟨b, off, none⟩ ∧ pc = cap := by simpa using hv
              have hbw := hB.out _ hbr
              obtain ⟨t0, t1, t2⟩ := predAt.lasts w wr b _ _ hbw hb hcell
              have hnm : ps[j].name.size ≤ 9223372036854775807 := HN.out _ (List.getElem_mem hlt)
              have HT : Hid (badArity ps[j] = false → (ps.take (j + 1)).any badArity = false) := fun h => by rw [any_take hlt, hall, h]; rfl
              have HF : Hid (badArity ps[j] = true → progErr ps rs = 3) := fun h => prog_parts (parts_arity HM.out H1.out H2.out (any_of hlt h)) (by decide)
              have hj0 : (0 : Int) ≤ (j : Int) := by omega
              have hj1 : (j : Int) < (ps.length : Int) := by omega
              clear hv hcell hall
              generalize ps[j] = q at *
              cases hq : within q.arity 0 2
              · have H : Hid (progErr ps rs = 3) := HF.out (by rw [badArity, hq]; rfl)
                clear HT HF
                go_wp2_with (first | (go_at_call 35; refine (within_c _ _ _ _).mono ?_; rintro e w1 ⟨rfl, rfl⟩; rw [hq]))
                go_ret
                exact ⟨by rw [H.out]; rfl, hB.out _ hbr⟩
              · have H : Hid ((ps.take (j + 1)).any badArity = false) := HT.out (by rw [badArity, hq]; rfl)
                clear HT HF
                go_wp2_with (first | (go_at_call 35; refine (within_c _ _ _ _).mono ?_; rintro e w1 ⟨rfl, rfl⟩; rw [hq]))
                exact ⟨⟨j + 1, by omega, by go_num, H.out, hbr⟩, by simp [intOf]; omega⟩
            · have H3 : Hid (ps.any badArity = false) := any_take_end hlt hall
              clear hall
              obtain rfl : j = ps.length := by omega
              go_wp2_with fail
              go_loopw [7] (fun i wr => ∃ j : Nat, j ≤ ps.length ∧ i = .int .i64 j ∧ (ps.take j).any badKind = false ∧ Below (w.heap.size + 1) (w.alloc (.cells #[.slice pa ps.length pc, .slice ra rs.length rc] 25)) wr) (fun i _ => ps.length - (intOf i).toNat)
              case atStart => exact ⟨0, Nat.zero_le _, rfl, rfl, hbr⟩
              case round =>
                clear hbr c0 c1
                obtain ⟨j, hj, rfl, hall, hbr⟩ := hrel
                obtain ⟨c0, c1⟩ := HBOX.out _ hbr
                by_cases hlt : j < ps.length
                · obtain ⟨b, off, cap, hv, hb, hcell⟩ := slice_cells HP.out hlt
                  obtain ⟨rfl, rfl⟩ : pa = some ⟨b, off, none⟩ ∧ pc = cap := by simpa using hv
                  have hbw := hB.out _ hbr
                  obtain ⟨t0, t1, t2⟩ := predAt.lasts w wr b _ _ hbw hb hcell
                  have hnm : ps[j].name.size ≤ 9223372036854775807 := HN.out _ (List.getElem_mem hlt)
                  have HT : Hid (badKind ps[j] = false → (ps.take (j + 1)).any badKind = false) := fun h => by rw [any_take hlt, hall, h]; rfl
                  have HF : Hid (badKind ps[j] = true → progErr ps rs = 4) := fun h => prog_parts (parts_kind HM.out H1.out H2.out H3.out (any_of hlt h)) (by decide)
                  have hj0 : (0 : Int) ≤ (j : Int) := by omega
                  have hj1 : (j : Int) < (ps.length : Int) := by omega
                  clear hv hcell hall
                  generalize ps[j] = q at *
                  cases hq : within q.kind 0 3
                  · have H : Hid (progErr ps rs = 4) := HF.out (by rw [badKind, hq]; rfl)
                    clear HT HF
                    go_wp2_with (first | (go_at_call 35; refine (within_c _ _ _ _).mono ?_; rintro e w1 ⟨rfl, rfl⟩; rw [hq]))
                    go_ret
                    exact ⟨by rw [H.out]; rfl, hB.out _ hbr⟩
                  · have H : Hid ((ps.take (j + 1)).any badKind = false) := HT.out (by rw [badKind, hq]; rfl)
                    clear HT HF
                    go_wp2_with (first | (go_at_call 35; refine (within_c _ _ _ _).mono ?_; rintro e w1 ⟨rfl, rfl⟩; rw [hq]))
                    exact ⟨⟨j + 1, by omega, by go_num, H.out, hbr⟩, by simp [intOf]; omega⟩
                · have H4 : Hid (ps.any badKind = false) := any_take_end hlt hall
                  clear hall
                  obtain rfl : j = ps.length := by omega
                  go_wp2_with fail
                  have H5 : Hid (partsErr ps rs = rulesErr ps rs) := parts_rules HM.out H1.out H2.out H3.out H4.out
                  go_loopw [8] (fun i wr => ∃ j : Nat, j ≤ rs.length ∧ i = .int .i64 j ∧ (rs.take j).all (fun r => ruleErr ps r == 0) = true ∧ Below (w.heap.size + 1) (w.alloc (.cells #[.slice pa ps.length pc, .slice ra rs.length rc] 25)) wr) (fun i _ => rs.length - (intOf i).toNat)
                  case atStart => exact ⟨0, Nat.zero_le _, rfl, rfl, hbr⟩
                  case round =>
                    clear hbr c0 c1
                    obtain ⟨j, hj, rfl, hall, hbr⟩ := hrel
                    obtain ⟨c0, c1⟩ := HBOX.out _ hbr
                    have hbw := hB.out _ hbr
                    by_cases hlt : j < rs.length
                    · obtain ⟨rb, ro, rc', hv, hrb, hcells⟩ := slice_cells HR.out hlt
                      obtain ⟨rfl, rfl⟩ : ra = some ⟨rb, ro, none⟩ ∧ rc = rc' := by simpa using hv
                      obtain ⟨t0, ⟨hv', t1, t1'⟩, t2, t3, bv, t4, t5⟩ := ruleAt.lasts w wr rb _ _ hbw hrb hcells
                      have s1 : rb < wr.heap.size := Nat.lt_of_lt_of_le hrb hbw.size
                      have s2 : w.heap.size < wr.heap.size := by have := hbr.size; simp at this; omega
                      have HPR : Hid (∀ x, Below wr.heap.size wr x → predsAt x (.slice pa ps.length pc) ps) := fun x hx => predsAt.lasts (hbw.trans (hx.mono hbw.size)) HP.out
                      have HTR : Hid (∀ x, Below wr.heap.size wr x → termsAt x hv' rs[j].head.args) := fun x hx => termsAt.lasts hx t1'
                      have HBR : Hid (∀ x, Below wr.heap.size wr x → litsAt x bv rs[j].body) := fun x hx => litsAt.lasts hx t5
                      have HT : Hid (ruleErr ps rs[j] = 0 → (rs.take (j + 1)).all (fun r => ruleErr ps r == 0) = true) := fun h => by rw [all_take hlt, hall, h]; rfl
                      have HF : Hid (ruleErr ps rs[j] ≠ 0 → progErr ps rs = ruleErr ps rs[j]) := fun h => prog_parts (H5.out.trans (rulesErr_at hlt hall h)) h
                      have hj0 : (0 : Int) ≤ (j : Int) := by omega
                      have hj1 : (j : Int) < (rs.length : Int) := by omega
                      clear hv hcells hall
                      obtain ⟨ba, bc, rfl, hblen, _⟩ := t5
                      obtain ⟨ha, hc, rfl, _⟩ := t1'
                      generalize rs[j] = r at *
                      have L0 : ∀ x : Low wr.heap.size wr, x.wd.cell? ⟨w.heap.size, 0, none⟩ = some (.slice pa ps.length pc) := fun x => (cell_lasts x.low s2).trans c0
                      have L1 : ∀ x : Low wr.heap.size wr, x.wd.cell? ⟨w.heap.size, 1, none⟩ = some (.slice (some ⟨rb, ro, none⟩) rs.length rc) := fun x => (cell_lasts x.low s2).trans c1
                      have R0 : ∀ x : Low wr.heap.size wr, x.wd.cell? ⟨rb, ro + j * 5, none⟩ = some (.int .i64 r.head.pred) := fun x => (cell_lasts x.low s1).trans t0
                      have R1 : ∀ x : Low wr.heap.size wr, x.wd.cell? ⟨rb, ro + j * 5 + 1, none⟩ = some (.slice ha r.head.args.length hc) := fun x => (cell_lasts x.low s1).trans t1
                      have R2 : ∀ x : Low wr.heap.size wr, x.wd.cell? ⟨rb, ro + j * 5 + 2, none⟩ = some (.int .i64 r.src) := fun x => (cell_lasts x.low s1).trans t2
                      have R3 : ∀ x : Low wr.heap.size wr, x.wd.cell? ⟨rb, ro + j * 5 + 3, none⟩ = some (.int .i64 r.n) := fun x => (cell_lasts x.low s1).trans t3
                      have R4 : ∀ x : Low wr.heap.size wr, x.wd.cell? ⟨rb, ro + j * 5 + 4, none⟩ = some (.slice ba r.body.length bc) := fun x => (cell_lasts x.low s1).trans t4
                      go_wp2_with fail
                      refine wp_region_low wr.heap.size (by kernel_rfl) (by kernel_rfl) ?_
                      repeat (go_big_quiet_step (exact low_of (checkRule_c _ _ ps r _ _ (HPR.out _ (Low.low _)) (HTR.out _ (Low.low _)) (HBR.out _ (Low.low _)))))
                      refine wpQuiet_nil ?_
                      rintro _ ⟨⟨w1, hk2⟩, rfl⟩
                      clear L0 L1 R0 R1 R2 R3 R4
                      by_cases he : ruleErr ps r = 0
                      · have H := HT.out he
                        rw [he]
                        clear HT HF he
                        go_wp2_with fail
                        exact ⟨⟨j + 1, by omega, by go_num, H, hbr.trans (hk2.mono (by have := hbr.size; simp at this; omega))⟩, by simp [intOf]; omega⟩
                      · have H := HF.out he
                        clear HT HF
                        go_wp2_with fail
                        go_ret
                        exact ⟨by rw [H]; rfl, hbw.trans (hk2.mono hbw.size)⟩
                    · obtain rfl : j = rs.length := by omega
                      have H6 : Hid (partsErr ps rs = 0) := H5.out.trans (rulesErr_none (all_take_end (by omega) hall))
                      have H7 : Hid (progErr ps rs = if (strataL (edges rs) ps.length).isSome then 0 else 8) := prog_round H6.out
                      clear hall H5
                      have HPR : Hid (predsAt wr (.slice pa ps.length pc) ps) := predsAt.lasts hbw HP.out
                      have HRR : Hid (rulesAt wr (.slice ra rs.length rc) rs) := rulesAt.lasts hbw HR.out
                      go_wp2_with (first | (go_at_call 37; refine (strata_c _ _ _ ps rs HPR.out HRR.out (by omega) (by omega) (parts_zero H6.out).2.2).mono ?_; rintro e w1 ⟨⟨v, rfl, _⟩, hb1⟩; generalize (strataL (edges rs) ps.length).isSome = sm at *; cases sm))
                      all_goals
                        go_ret
                        exact ⟨by rw [H7.out]; rfl, hbw.trans (hb1.mono hbw.size)⟩
end Go.Proofs.Ytgbacodellfacab.Prog
