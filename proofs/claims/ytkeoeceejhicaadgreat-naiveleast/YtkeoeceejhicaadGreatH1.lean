/-
  If no literal is Not, what holds of some facts holds of all that they are under, and tells no less: in plain words; and whether no literal of a program is Not.
-/
import Derived.Test.YtkeoeceejhicaadGreatG10
import Derived.Test.YtkeoeceejhicaadGreatG9
namespace Go.Proofs.YtkeoeceejhicaadGreat.Fire
open Go.ChangeShapes Go.WideShapes Go.ChangeAt Go.RowKit
open Lat (within lift err le)
open Rule (Vars ruleErr kindOf factFine atomErr handed)
open Base (place get findTo factsErr under underOne right_of fine_of)
open Prog (slice_cells)

/-- is no literal Not? -/
def posP (rs : List Rul) : Bool := rs.all fun r => r.body.all fun l => !l.neg
theorem get_under {ps : List Prd} {f g : List Fct} (hf : factsErr ps f = 0) (h : under (kindOf ps) f g = true) {pl v : Int} (hv : get f pl = some v) : ∃ u, get g pl = some u ∧ le (kindOf ps (pl / 25)) v u := (Base.under_iff (right_of hf)).1 h pl v hv
theorem body_more {ps : List Prd} {f g : List Fct} {v : Vars} (hf : factsErr ps f = 0) (hu : under (kindOf ps) f g = true) : ∀ {ls : List Ltr}, ls.all (fun l => !l.neg) = true → bodyOk f v ls = true → bodyOk g v ls = true
  | [], _, _ => rfl
  | l :: ls, hp, hb => by
    unfold bodyOk at hb ⊢
    rw [List.all_cons, Bool.and_eq_true] at hp hb
    rw [List.all_cons, Bool.and_eq_true]
    refine ⟨?_, body_more hf hu hp.2 hb.2⟩
    have hn : l.neg = false := by simpa using hp.1
    have h1 := hb.1
    unfold litOk there at h1 ⊢
    rw [hn] at h1 ⊢
    have hs : (get f (place (atomF v l.atom))).isSome = true := by simpa using h1
    obtain ⟨a, ha⟩ := Option.isSome_iff_exists.1 hs
    obtain ⟨b, hb', _⟩ := get_under hf hu ha
    rw [hb']
    rfl
theorem handed_kind {ps : List Prd} {r : Rul} (h : ruleErr ps r = 0) (hs : 0 ≤ r.src) : ∃ l, r.body[r.src.toNat]? = some l ∧ l.neg = false ∧ kindOf ps l.atom.pred = kindOf ps r.head.pred := by
  have hh : handed ps r = true := by
    rw [ruleErr] at h
    split at h
    · contradiction
    · split at h
      · contradiction
      · split at h
        · contradiction
        · split at h
          · contradiction
          · unfold Rule.valueErr at h
            split at h
            · contradiction
            · split at h
              · contradiction
              · split at h
                · contradiction
                · rename_i h5
                  cases e : handed ps r
                  · exact absurd ⟨hs, e⟩ h5
                  · rfl
  unfold handed at hh
  cases e : r.body[r.src.toNat]? with
  | none => rw [e] at hh; cases hh
  | some l =>
    rw [e] at hh
    simp only [Option.map_some, Option.getD_some, Bool.and_eq_true, beq_iff_eq, Bool.not_eq_true'] at hh
    exact ⟨l, rfl, hh.1, hh.2⟩
theorem head_more {ps : List Prd} {f g : List Fct} {r : Rul} {v : Vars} (hr : ruleErr ps r = 0) (hf : factsErr ps f = 0) (hg : factsErr ps g = 0) (hv : consts v = true) (hu : under (kindOf ps) f g = true) (hb : bodyOk f v r.body = true) : under (kindOf ps) [headF ps f r v] [headF ps g r v] = true := by
  have fx := Round.head_fine hr hf hv
  have fy := Round.head_fine hr hg hv
  have hp := (Base.factsErr_zero hf).2.1
  unfold under
  rw [List.all_cons, List.all_nil, Bool.and_true]
  unfold underOne
  have epl : place (headF ps f r v) = place (headF ps g r v) := by simp only [place, headF]
  rw [epl, Base.get_cons, if_pos rfl]
  have hle : le (kindOf ps r.head.pred) (valTo ps f r v r.body.length) (valTo ps g r v r.body.length) := by
    have ex : err (kindOf ps r.head.pred) (valTo ps f r v r.body.length) = 0 := by
      have := fx
      unfold factFine at this
      simp only [Bool.and_eq_true, beq_iff_eq] at this
      exact this.2.2.2.2.2
    by_cases hs : 0 ≤ r.src ∧ r.src < (r.body.length : Int)
    · obtain ⟨l, hl, hneg, hk⟩ := handed_kind hr hs.1
      have hkn : kindOf ps r.head.pred ≠ 0 := fun e => by have := ((Round.value_parts hr).1 e).1; omega
      have hpred := (Rule.atom_right (rule_parts hr).1).1
      have hkw := within_iff.1 (pred_ok hp hpred).1
      have hk3 : kindOf ps r.head.pred = 1 ∨ kindOf ps r.head.pred = 2 ∨ kindOf ps r.head.pred = 3 := by omega
      have hn := Lat.err_of hk3 (Round.value_parts hr).2.1 (Round.value_parts hr).2.2
      have hlm : l ∈ r.body := List.mem_of_getElem? hl
      have hlo := List.all_eq_true.1 hb l hlm
      unfold litOk there at hlo
      rw [hneg] at hlo
      have hsome : (get f (place (atomF v l.atom))).isSome = true := by simpa using hlo
      obtain ⟨a, ha⟩ := Option.isSome_iff_exists.1 hsome
      obtain ⟨b, hb', hab⟩ := get_under hf hu ha
      have hfine := (atom_ground ((rule_parts hr).2.1 l hlm) hp hv).2
      have hpl : place (atomF v l.atom) / 25 = l.atom.pred := (Base.pred_of (fine_of hfine)).symm
      rw [hpl, hk] at hab
      rw [valTo, if_pos hs, valTo, if_pos hs, valueAt, valueAt, hl]
      show le _ (lift _ (findTo f (place (atomF v l.atom))) _) (lift _ (findTo g (place (atomF v l.atom))) _)
      have r1 := find_range hf (place (atomF v l.atom))
      have r2 := find_range hg (place (atomF v l.atom))
      refine Lat.le_lift (Lat.err_of hk3 r1.1 r1.2) (Lat.err_of hk3 r2.1 r2.2) hn ?_
      unfold findTo
      rw [ha, hb']
      exact hab
    · have e1 : valTo ps f r v r.body.length = valTo ps g r v r.body.length := by rw [valTo, if_neg hs, valTo, if_neg hs]
      rw [← e1]
      exact Lat.le_self ex
  show (Lat.join (kindOf ps r.head.pred) (valTo ps f r v r.body.length) (valTo ps g r v r.body.length) == valTo ps g r v r.body.length) = true
  rw [show Lat.join (kindOf ps r.head.pred) (valTo ps f r v r.body.length) (valTo ps g r v r.body.length) = valTo ps g r v r.body.length from hle]
  simp

def posTo (rs : List Rul) (n : Nat) : Bool := posP (rs.take n)
theorem pos_no {rs : List Rul} {n : Nat} (hn : n < rs.length) {k : Nat} (hk : k < rs[n].body.length) (h : rs[n].body[k].neg = true) : posP rs = false := by
  unfold posP
  rw [List.all_eq_false]
  refine ⟨rs[n], List.getElem_mem hn, ?_⟩
  rw [Bool.not_eq_true, List.all_eq_false]
  exact ⟨rs[n].body[k], List.getElem_mem hk, by rw [h]; simp⟩
theorem pos_take {rs : List Rul} {n : Nat} (hn : n < rs.length) : posP (rs.take (n + 1)) = (posP (rs.take n) && rs[n].body.all fun l => !l.neg) := by
  unfold posP
  rw [List.take_add_one, List.getElem?_eq_getElem hn, List.all_append]
  simp

set_option maxRecDepth 100000 in
set_option maxHeartbeats 4000000 in
theorem positive_c (w : World) (pv rv : Value) (rs : List Rul) (hpv : ∃ a n c, pv = .slice a n c) (hr : rulesAt w rv rs) : Calls Tryz.prog 13 #[.agg #[pv, rv]] w fun e w' => e = .returned (.bool (posP rs)) ∧ Below w.heap.size w w' := by
  have HR : Hid (∀ x, Below w.heap.size w x → rulesAt x rv rs) := fun x hx => rulesAt.lasts hx hr
  obtain ⟨pa, pn, pc, rfl⟩ := hpv
  obtain ⟨ra, rc, rfl, _⟩ := hr
  obtain ⟨W1, hW1⟩ : ∃ W1, w.alloc (.cells #[.slice pa pn pc, .slice ra rs.length rc] 25) = W1 := ⟨_, rfl⟩
  have b1 : Below w.heap.size w W1 := by rw [← hW1]; exact below_alloc _ _
  have B1 : W1.cell? ⟨w.heap.size, 0, none⟩ = some (.slice pa pn pc) ∧ W1.cell? ⟨w.heap.size, 1, none⟩ = some (.slice ra rs.length rc) ∧ w.heap.size < W1.heap.size := by rw [← hW1]; exact ⟨by simp [go_sem], by simp [go_sem], by simp⟩
  go_enter Tryz.func13, Tryz.ntmps13
  go_wp2_with fail
  clear hW1
  go_loopw [3] (fun i wr => ∃ n : Nat, n ≤ rs.length ∧ i = .int .i64 n ∧ Hid (posP (rs.take n) = true) ∧ wr = W1) (fun i _ => rs.length - (intOf i).toNat)
  case atStart => exact ⟨0, Nat.zero_le _, rfl, rfl, rfl⟩
  case round =>
    obtain ⟨n, hn, rfl, hpo, rfl⟩ := hrel
    obtain ⟨c0, c1, _⟩ := id B1
    by_cases hlt : n < rs.length
    · obtain ⟨rb, ro, rc', hrv, hrb, hcells⟩ := slice_cells (HR.out _ b1) hlt
      obtain ⟨rfl, rfl⟩ : ra = some ⟨rb, ro, none⟩ ∧ rc = rc' := by simpa using hrv
      obtain ⟨_, _, _, _, bv, t4, t5⟩ := hcells
      have HB : Hid (litsAt wr bv rs[n].body) := t5
      obtain ⟨ba, bc, rfl, _⟩ := t5
      have hn0 : (n : Int) < (rs.length : Int) := by omega
      have HT : Hid (posP (rs.take (n + 1)) = (posP (rs.take n) && rs[n].body.all fun l => !l.neg)) := pos_take hlt
      have HNO : Hid (∀ k, (hk : k < rs[n].body.length) → rs[n].body[k].neg = true → posP rs = false) := fun k hk h => pos_no hlt hk h
      clear hrv
      generalize rs[n] = r at *
      go_wp2_with fail
      go_loopw [4] (fun i wr2 => ∃ k : Nat, k ≤ r.body.length ∧ i = .int .i64 k ∧ Hid ((r.body.take k).all (fun l => !l.neg) = true) ∧ wr2 = wr) (fun i _ => r.body.length - (intOf i).toNat)
      case atStart => exact ⟨0, Nat.zero_le _, rfl, rfl, rfl⟩
      case round =>
        obtain ⟨k, hk, rfl, hall, rfl⟩ := hrel
        by_cases hkl : k < r.body.length
        · obtain ⟨lb, lo, lc, hlv, hlb, l0, _⟩ := slice_cells HB.out hkl
          obtain ⟨rfl, rfl⟩ : ba = some ⟨lb, lo, none⟩ ∧ bc = lc := by simpa using hlv
          have hk0 : (k : Int) < (r.body.length : Int) := by omega
          cases hng : r.body[k].neg
          · have HA : Hid ((r.body.take (k + 1)).all (fun l => !l.neg) = true) := by
              show _ = _
              rw [List.take_add_one, List.getElem?_eq_getElem hkl, List.all_append, hall.out]
              simp [hng]
            rw [hng] at l0
            clear hlv hng
            go_wp2_with fail
            exact ⟨⟨k + 1, by omega, by go_num, HA, trivial⟩, by simp [intOf]; omega⟩
          · have HP : Hid (posP rs = false) := HNO.out k hkl hng
            rw [hng] at l0
            clear hlv hng
            go_wp2_with fail
            go_ret
            exact ⟨by rw [HP.out]; rfl, b1⟩
        · obtain rfl : k = r.body.length := by omega
          have HA : Hid (posP (rs.take (n + 1)) = true) := by
            have h := hall.out
            rw [List.take_length] at h
            show _ = _
            rw [HT.out, hpo.out, h]
            rfl
          go_wp2_with fail
          exact ⟨⟨n + 1, by omega, by go_num, HA, trivial⟩, by simp [intOf]; omega⟩
    · obtain rfl : n = rs.length := by omega
      rw [List.take_length] at hpo
      go_wp2_with fail
      go_ret
      exact ⟨by rw [hpo.out]; rfl, b1⟩
end Go.Proofs.YtkeoeceejhicaadGreat.Fire
