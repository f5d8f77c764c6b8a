/-
  What the document's own ProgText answers.
-/
import Derived.Deep.RegionHeld3
import Derived.Test.YtlfccloaoopadagGreatG20
namespace Go.Proofs.YtlfccloaoopadagGreat.Text
open Go.ChangeShapes Go.WideShapes Go.ChangeAt Go.RowKit
open Prog (slice_cells)
open Rule (kindOf)

set_option maxRecDepth 100000 in
set_option maxHeartbeats 4000000 in
theorem progText_c (w : World) (pv rv : Value) (ps : List Prd) (rs : List Rul) (hp : predsAt w pv ps) (hr : rulesAt w rv rs) (ok : TextOk ps rs) :
    Calls Tryz.prog 16 #[.agg #[pv, rv]] w fun e w' => e = .returned (.string (progB ps rs)) ∧ Below w.heap.size w w' := by
  have HP : Hid (∀ x, Below w.heap.size w x → predsAt x pv ps) := fun x hx => predsAt.lasts hx hp
  have HR : Hid (∀ x, Below w.heap.size w x → rulesAt x rv rs) := fun x hx => rulesAt.lasts hx hr
  have OK : Hid (TextOk ps rs) := ok
  have HPS : Hid (∀ k, (predsTo ps k).size ≤ k * 20) := predsTo_size ok.name
  obtain ⟨pa, pc, rfl, _⟩ := hp
  obtain ⟨ra, rc, rfl, _⟩ := hr
  have hpl : ps.length ≤ 500 := ok.preds
  have hrl : rs.length ≤ 500 := ok.rules
  obtain ⟨W1, hW1⟩ : ∃ W1, w.alloc (.cells #[.slice pa ps.length pc, .slice ra rs.length rc] 25) = W1 := ⟨_, rfl⟩
  have b1 : Below w.heap.size w W1 := by rw [← hW1]; exact below_alloc _ _
  have c0 : W1.cell? ⟨w.heap.size, 0, none⟩ = some (.slice pa ps.length pc) := by rw [← hW1]; simp [go_sem]
  have c1 : W1.cell? ⟨w.heap.size, 1, none⟩ = some (.slice ra rs.length rc) := by rw [← hW1]; simp [go_sem]
  have hs : w.heap.size < W1.heap.size := by rw [← hW1]; simp
  have HC : Hid (∀ x, Below W1.heap.size W1 x → x.cell? ⟨w.heap.size, 0, none⟩ = some (.slice pa ps.length pc) ∧ x.cell? ⟨w.heap.size, 1, none⟩ = some (.slice ra rs.length rc)) := fun x hx => ⟨(cell_lasts hx hs).trans c0, (cell_lasts hx hs).trans c1⟩
  clear c0 c1
  go_enter Tryz.func16, Tryz.ntmps16
  go_wp2_with fail
  clear hW1
  go_loopw [3, 4] (fun s i wr => ∃ j : Nat, j ≤ ps.length ∧ i = .int .i64 j ∧ s = .string (predsTo ps j) ∧ Below W1.heap.size W1 wr) (fun _ i _ => ps.length - (intOf i).toNat)
  case atStart => exact ⟨0, Nat.zero_le _, rfl, rfl, Below.refl _ _⟩
  case round =>
    obtain ⟨j, hj, rfl, rfl, hbw⟩ := hrel
    obtain ⟨d0, d1⟩ := HC.out wr hbw
    have kw : Below w.heap.size w wr := b1.trans (hbw.mono b1.size)
    by_cases hlt : j < ps.length
    · obtain ⟨pb, po, pc', hv, hpb, n0, n1, n2⟩ := slice_cells (HP.out wr kw) hlt
      obtain ⟨rfl, rfl⟩ : pa = some ⟨pb, po, none⟩ ∧ pc = pc' := by simpa using hv
      have hjl : (j : Int) < (ps.length : Int) := by omega
      have hj0 : (0 : Int) ≤ (j : Int) := by omega
      have s0 : w.heap.size < wr.heap.size := Nat.lt_of_lt_of_le hs hbw.size
      have hm := List.getElem_mem hlt
      have hnm := OK.out.name _ hm
      obtain ⟨ha0, ha1⟩ := OK.out.arity _ hm
      obtain ⟨hk0, hk1⟩ := OK.out.kind _ hm
      have HS : Hid (predsTo ps (j + 1) = predPut (predsTo ps j) ps[j]) := by
        show _ = _
        rw [predsTo, List.getD, List.getElem?_eq_getElem hlt]
        rfl
      have hbs := HPS.out j
      have hz1 := dig_size ps[j].arity
      have hz2 := dig_size ps[j].kind
      have HD1 : Hid (∀ x, Calls Tryz.prog 41 #[.int .i64 ps[j].arity] x fun e w' => e = .returned (.string (dig ps[j].arity)) ∧ Below x.heap.size x w') := fun x => digits_c x _ ha0 ha1
      have HD2 : Hid (∀ x, Calls Tryz.prog 41 #[.int .i64 ps[j].kind] x fun e w' => e = .returned (.string (dig ps[j].kind)) ∧ Below x.heap.size x w') := fun x => digits_c x _ hk0 hk1
      clear hv hm ha0 ha1 hk0 hk1
      generalize ps[j] = q at *
      generalize predsTo ps j = B at *
      have lim0 : ¬ 9223372036854775807 < B.size + 5 := by omega
      have lim1 : ¬ 9223372036854775807 < B.size + 5 + q.name.size := by omega
      have lim2 : ¬ 9223372036854775807 < B.size + 5 + q.name.size + 1 := by omega
      have lim3 : ¬ 9223372036854775807 < B.size + 5 + q.name.size + 1 + (dig q.arity).size := by omega
      have lim4 : ¬ 9223372036854775807 < B.size + 5 + q.name.size + 1 + (dig q.arity).size + 1 := by omega
      have lim5 : ¬ 9223372036854775807 < B.size + 5 + q.name.size + 1 + (dig q.arity).size + 1 + (dig q.kind).size := by omega
      have lim6 : ¬ 9223372036854775807 < B.size + 5 + q.name.size + 1 + (dig q.arity).size + 1 + (dig q.kind).size + 1 := by omega
      clear hbs hz1 hz2 hnm
      go_wp2_with fail
      have L0 : ∀ x : Low wr.heap.size wr, x.wd.cell? ⟨pb, po + j * 3, none⟩ = some (.string q.name) := fun x => (cell_lasts x.low hpb).trans n0
      have L1 : ∀ x : Low wr.heap.size wr, x.wd.cell? ⟨pb, po + j * 3 + 1, none⟩ = some (.int .i64 q.arity) := fun x => (cell_lasts x.low hpb).trans n1
      have L2 : ∀ x : Low wr.heap.size wr, x.wd.cell? ⟨pb, po + j * 3 + 2, none⟩ = some (.int .i64 q.kind) := fun x => (cell_lasts x.low hpb).trans n2
      have N0 : ∀ x : Low wr.heap.size wr, x.wd.cell? ⟨w.heap.size, 0, none⟩ = some (.slice (some ⟨pb, po, none⟩) ps.length pc) := fun x => (cell_lasts x.low s0).trans d0
      refine wp_region_low wr.heap.size (by kernel_rfl) (by kernel_rfl) ?_
      repeat (go_big_quiet_step (first | (go_at_call_of 41 (Value.int .i64 q.arity); exact low_of (HD1.out _)) | (go_at_call_of 41 (Value.int .i64 q.kind); exact low_of (HD2.out _))))
      refine wpQuiet_nil ?_
      rintro _ ⟨⟨w1, hk⟩, rfl⟩
      clear L0 L1 L2 N0 d0 d1 n0 n1 n2
      go_wp2_with fail
      go_roundw
      case rel => exact ⟨j + 1, by omega, by go_num, by rw [HS.out]; rfl, hbw.trans (hk.mono hbw.size)⟩
      case measure => simp [intOf]; omega
    · obtain rfl : j = ps.length := by omega
      have HB2 : Hid (Below W1.heap.size W1 wr) := hbw
      have HPZ : Hid ((predsTo ps ps.length).size ≤ 10000) := by show _ ≤ _; have := HPS.out ps.length; omega
      have HRZ : Hid (∀ k, k ≤ rs.length → (rulesTo ps (predsTo ps ps.length) rs k).size ≤ 10000 + k * 1000000) := fun k hk => Nat.le_trans (rulesTo_size OK.out _ k hk) (by have := HPZ.out; omega)
      go_wp2_with fail
      obtain ⟨P0, hP0⟩ : ∃ P0, predsTo ps ps.length = P0 := ⟨_, rfl⟩
      rw [hP0] at HRZ
      have HPP0 : Hid (progB ps rs = rulesTo ps P0 rs rs.length) := by show _ = _; rw [progB, hP0]
      rw [hP0]
      clear hP0
      go_loopw [3, 5] (fun s i wr => ∃ j : Nat, j ≤ rs.length ∧ i = .int .i64 j ∧ s = .string (rulesTo ps P0 rs j) ∧ Below W1.heap.size W1 wr) (fun _ i _ => rs.length - (intOf i).toNat)
      case atStart => exact ⟨0, Nat.zero_le _, rfl, rfl, HB2.out⟩
      case round =>
        obtain ⟨j, hj, rfl, rfl, hbw⟩ := hrel
        rename World => Z
        obtain ⟨d0, d1⟩ := HC.out Z hbw
        have kw : Below w.heap.size w Z := b1.trans (hbw.mono b1.size)
        by_cases hlt : j < rs.length
        · obtain ⟨rb, ro, rc', hv, hrb, r0, ⟨hv1, r1, th⟩, r2, r3, bv1, r4, tb⟩ := slice_cells (HR.out Z kw) hlt
          obtain ⟨rfl, rfl⟩ : ra = some ⟨rb, ro, none⟩ ∧ rc = rc' := by simpa using hv
          have hjl : (j : Int) < (rs.length : Int) := by omega
          have hj0 : (0 : Int) ≤ (j : Int) := by omega
          have hm := List.getElem_mem hlt
          obtain ⟨⟨e, he, hel⟩, hok, hfew⟩ := OK.out.head _ hm
          have HSR : Hid (rulesTo ps P0 rs (j + 1) = bodyTo ps (headPut ps (rulesTo ps P0 rs j) rs[j]) rs[j].body rs[j].body.length ++ ⟨#[46, 10]⟩) := by
            show _ = _
            rw [rulesTo, List.getD, List.getElem?_eq_getElem hlt]
            rfl
          have hbz := HRZ.out j hj
          have HHS : Hid (∀ B : ByteArray, (headPut ps B rs[j]).size ≤ B.size + 1600) := fun B => headPut_size OK.out.name hfew
          have HBS0 : Hid (∀ (B : ByteArray) q, (bodyTo ps (headPut ps B rs[j]) rs[j].body q).size ≤ B.size + 1600 + q * 1600) := fun B q => Nat.le_trans (bodyTo_size OK.out.name (fun l hl => (OK.out.body _ hm l hl).few) q) (by have := HHS.out B; omega)
          have HBF : Hid (rs[j].body.length ≤ 500) := OK.out.few _ hm
          have HBO : Hid (∀ l ∈ rs[j].body, AtomOk ps l.atom) := OK.out.body _ hm
          have hsrc := OK.out.src _ hm
          obtain ⟨hn0, hn1⟩ := OK.out.n _ hm
          have haz := atom_sz OK.out.name hfew
          have hdz1 := dig_size rs[j].src
          have hdz2 := dig_size rs[j].n
          have HPZ2 : Hid (∀ x, Below Z.heap.size Z x → predsAt x (.slice pa ps.length pc) ps) := fun x hx => HP.out x (kw.trans (hx.mono kw.size))
          have HAT : Hid (∀ x, Below Z.heap.size Z x → Calls Tryz.prog 42 #[.slice pa ps.length pc, .agg #[.int .i64 rs[j].head.pred, hv1]] x fun e w' => e = .returned (.string (atomB ps rs[j].head)) ∧ Below x.heap.size x w') := fun x hx => atomText_c x _ _ ps _ e (HPZ2.out x hx) (termsAt.lasts hx th) he hel hok (name_size OK.out.name _) hfew
          have HTB : Hid (∀ x, Below Z.heap.size Z x → litsAt x bv1 rs[j].body) := fun x hx => litsAt.lasts hx tb
          have HDS : Hid (0 ≤ rs[j].src → ∀ x, Calls Tryz.prog 41 #[.int .i64 rs[j].src] x fun e w' => e = .returned (.string (dig rs[j].src)) ∧ Below x.heap.size x w') := fun h x => digits_c x _ h hsrc
          have HDN : Hid (∀ x, Calls Tryz.prog 41 #[.int .i64 rs[j].n] x fun e w' => e = .returned (.string (dig rs[j].n)) ∧ Below x.heap.size x w') := fun x => digits_c x _ hn0 hn1
          obtain ⟨pb, po, pc', hpv, hpb, n0, n1, n2⟩ := slice_cells (HP.out Z kw) hel
          obtain ⟨rfl, rfl⟩ : pa = some ⟨pb, po, none⟩ ∧ pc = pc' := by simpa using hpv
          have hkd : kindOf ps rs[j].head.pred = ps[e].kind := by rw [kindOf, he, Int.toNat_natCast, List.getElem?_eq_getElem hel]; rfl
          have n2' : Z.cell? ⟨pb, po + e * 3 + 2, none⟩ = some (.int .i64 (kindOf ps rs[j].head.pred)) := by rw [hkd]; exact n2
          have hel1 : (e : Int) < (ps.length : Int) := by omega
          obtain ⟨ha, hc, rfl, _⟩ := th
          obtain ⟨ba, bc, rfl, _⟩ := tb
          rw [he] at r0 HAT
          clear hv hpv hm hok hsrc hn0 hn1 n0 n1 n2 hkd
          generalize rs[j] = r at *
          have HHD : Hid (∀ B : ByteArray, headPut ps B r = if kindOf ps r.head.pred = 0 then B ++ atomB ps r.head else if 0 ≤ r.src then B ++ atomB ps r.head ++ ⟨#[32, 61, 32]⟩ ++ ⟨#[35]⟩ ++ dig r.src ++ ⟨#[43]⟩ ++ dig r.n else B ++ atomB ps r.head ++ ⟨#[32, 61, 32]⟩ ++ dig r.n) := fun B => rfl
          generalize kindOf ps r.head.pred = kd at *
          clear he
          obtain ⟨B, hB⟩ : ∃ B, rulesTo ps P0 rs j = B := ⟨_, rfl⟩
          rw [hB] at hbz HSR
          have HBS : Hid (∀ q, (bodyTo ps (headPut ps B r) r.body q).size ≤ B.size + 1600 + q * 1600) := HBS0.out B
          have hBz : B.size ≤ 600000000 := by omega
          obtain ⟨U, hU⟩ : ∃ U, Z.alloc (.cells #[.int .i64 (e : Int), .slice ha r.head.args.length hc, .int .i64 r.src, .int .i64 r.n, .slice ba r.body.length bc] 58) = U := ⟨_, rfl⟩
          have bU : Below Z.heap.size Z U := by rw [← hU]; exact below_alloc _ _
          have uc : U.cell? ⟨Z.heap.size, 0, none⟩ = some (.int .i64 (e : Int)) ∧ U.cell? ⟨Z.heap.size, 1, none⟩ = some (.slice ha r.head.args.length hc) ∧ U.cell? ⟨Z.heap.size, 2, none⟩ = some (.int .i64 r.src) ∧ U.cell? ⟨Z.heap.size, 3, none⟩ = some (.int .i64 r.n) ∧ U.cell? ⟨Z.heap.size, 4, none⟩ = some (.slice ba r.body.length bc) ∧ Z.heap.size < U.heap.size := by rw [← hU]; simp [go_sem]
          have HV : Hid (∀ x, Below U.heap.size U x → x.cell? ⟨Z.heap.size, 0, none⟩ = some (.int .i64 (e : Int)) ∧ x.cell? ⟨Z.heap.size, 2, none⟩ = some (.int .i64 r.src) ∧ x.cell? ⟨Z.heap.size, 3, none⟩ = some (.int .i64 r.n) ∧ x.cell? ⟨w.heap.size, 0, none⟩ = some (.slice (some ⟨pb, po, none⟩) ps.length pc) ∧ x.cell? ⟨pb, po + e * 3 + 2, none⟩ = some (.int .i64 kd)) := fun x hx => by
            have hx' : Below Z.heap.size Z x := bU.trans (hx.mono bU.size)
            exact ⟨(cell_lasts hx uc.2.2.2.2.2).trans uc.1, (cell_lasts hx uc.2.2.2.2.2).trans uc.2.2.1, (cell_lasts hx uc.2.2.2.2.2).trans uc.2.2.2.1, (HC.out x (hbw.trans (hx'.mono hbw.size))).1, (cell_lasts hx' hpb).trans n2'⟩
          have HU : Hid (∀ x, Below U.heap.size U x → x.cell? ⟨Z.heap.size, 4, none⟩ = some (.slice ba r.body.length bc) ∧ x.cell? ⟨w.heap.size, 0, none⟩ = some (.slice (some ⟨pb, po, none⟩) ps.length pc) ∧ x.cell? ⟨w.heap.size, 1, none⟩ = some (.slice (some ⟨rb, ro, none⟩) rs.length rc)) := fun x hx => by
            have hx' : Below W1.heap.size W1 x := hbw.trans ((bU.trans (hx.mono bU.size)).mono hbw.size)
            exact ⟨(cell_lasts hx uc.2.2.2.2.2).trans uc.2.2.2.2.1, (HC.out x hx').1, (HC.out x hx').2⟩
          obtain ⟨g0, g1, g2, g3, g4, hZU⟩ := uc
          obtain ⟨A, hA⟩ : ∃ A, atomB ps r.head = A := ⟨_, rfl⟩
          rw [hA] at HAT haz HHD
          rw [hB]
          clear hA hB HBS0 HHS
          obtain ⟨_, _, _, v3, v4⟩ := HV.out U (Below.refl _ _)
          have lm0 : ¬ 9223372036854775807 < B.size + A.size := by omega
          have lm1 : ¬ 9223372036854775807 < B.size + A.size + 3 := by omega
          have lm2 : ¬ 9223372036854775807 < B.size + A.size + 3 + 1 := by omega
          have lm3 : ¬ 9223372036854775807 < B.size + A.size + 3 + 1 + (dig r.src).size := by omega
          have lm4 : ¬ 9223372036854775807 < B.size + A.size + 3 + 1 + (dig r.src).size + 1 := by omega
          have lm5 : ¬ 9223372036854775807 < B.size + A.size + 3 + 1 + (dig r.src).size + 1 + (dig r.n).size := by omega
          have lm6 : ¬ 9223372036854775807 < B.size + A.size + 3 + (dig r.n).size := by omega
          have LM : Hid (True) := trivial
          clear haz hdz1 hdz2 hbz
          go_wp2_with fail
          clear hU r0 r1 r2 r3 r4
          refine (HAT.out _ bU).mono ?_
          rintro e' W2 ⟨rfl, hb2⟩
          clear g0 g1 g2 g3 g4 v3 v4
          obtain ⟨g0, g2, g3, v3, v4⟩ := HV.out W2 hb2
          by_cases hk0 : kd = 0
          · have HH : Hid (headPut ps B r = B ++ A) := by show _ = _; rw [HHD.out, if_pos hk0]
            rw [hk0] at v4
            go_wp2_with fail
            clear g0 g2 g3 v3 v4 lm0 lm1 lm2 lm3 lm4 lm5 lm6
            go_loopw [3, 7] (fun s i wz => ∃ q : Nat, q ≤ r.body.length ∧ i = .int .i64 q ∧ s = .string (bodyTo ps (headPut ps B r) r.body q) ∧ Below U.heap.size U wz) (fun _ i _ => r.body.length - (intOf i).toNat)
            case atStart => exact ⟨0, Nat.zero_le _, rfl, by rw [bodyTo, HH.out], hb2⟩
            case round =>
              obtain ⟨q, hq, rfl, rfl, hbz⟩ := hrel
              obtain ⟨f0, f1, f2⟩ := HU.out wr hbz
              have kz : Below Z.heap.size Z wr := bU.trans (hbz.mono bU.size)
              by_cases hql : q < r.body.length
              · obtain ⟨lb, lo, lc, hlv, hlb, t0, t1, av, t2, ta⟩ := slice_cells (HTB.out wr kz) hql
                obtain ⟨rfl, rfl⟩ : ba = some ⟨lb, lo, none⟩ ∧ bc = lc := by simpa using hlv
                have hq1 : (q : Int) < (r.body.length : Int) := by omega
                have hq0 : (0 : Int) ≤ (q : Int) := by omega
                have hml := List.getElem_mem hql
                obtain ⟨⟨e2, he2, hel2⟩, hok2, hfew2⟩ := HBO.out _ hml
                have hcz : (bodyTo ps (headPut ps B r) r.body q).size ≤ 2000000000 := by
                  have h1 := HBS.out q
                  have h2 : q * 1600 ≤ 500 * 1600 := Nat.mul_le_mul_right _ (by have := HBF.out; omega)
                  omega
                have haz := atom_sz OK.out.name hfew2
                have HAL : Hid (∀ x, Below wr.heap.size wr x → Calls Tryz.prog 42 #[.slice (some ⟨pb, po, none⟩) ps.length pc, .agg #[.int .i64 r.body[q].atom.pred, av]] x fun e w' => e = .returned (.string (atomB ps r.body[q].atom)) ∧ Below x.heap.size x w') := fun x hx => atomText_c x _ _ ps _ e2 (HPZ2.out x (kz.trans (hx.mono kz.size))) (termsAt.lasts hx ta) he2 hel2 hok2 (name_size OK.out.name _) hfew2
                obtain ⟨la, ld, rfl, _⟩ := ta
                have HSB : Hid (bodyTo ps (headPut ps B r) r.body (q + 1) = litPut ps (bodyTo ps (headPut ps B r) r.body q) q r.body[q]) := by
                  show _ = _
                  rw [bodyTo, List.getD, List.getElem?_eq_getElem hql]
                  rfl
                have sW : w.heap.size < wr.heap.size := Nat.lt_of_lt_of_le hs (Nat.le_trans hbw.size kz.size)
                have sZ : Z.heap.size < wr.heap.size := Nat.lt_of_lt_of_le hZU hbz.size
                clear hlv hml he2 hok2
                generalize r.body[q] = l at *
                generalize hA2 : atomB ps l.atom = A2 at *
                generalize bodyTo ps (headPut ps B r) r.body q = C at *
                have t2' : wr.cell? ⟨lb, lo + q * 3 + 1 + 1, none⟩ = some (.slice la l.atom.args.length ld) := t2
                by_cases h0 : q = 0
                · subst h0
                  have t0' : wr.cell? ⟨lb, lo, none⟩ = some (.bool l.neg) := by have := t0; rwa [Nat.zero_mul, Nat.add_zero] at this
                  have t1' : wr.cell? ⟨lb, lo + 1, none⟩ = some (.int .i64 l.atom.pred) := by have := t1; rwa [Nat.zero_mul, Nat.add_zero] at this
                  have t3' : wr.cell? ⟨lb, lo + 1 + 1, none⟩ = some (.slice la l.atom.args.length ld) := by have := t2'; rwa [Nat.zero_mul, Nat.add_zero] at this
                  cases hneg : l.neg
                  · rw [hneg] at t0'
                    have HS : Hid (bodyTo ps (headPut ps B r) r.body 1 = C ++ ⟨#[32, 58, 45, 32]⟩ ++ A2) := by show _ = _; rw [HSB.out, litPut, hneg, hA2]; rfl
                    have lim0 : ¬ 9223372036854775807 < C.size + 4 := by omega
                    have lim1 : ¬ 9223372036854775807 < C.size + 4 + A2.size := by omega
                    clear hcz haz hA2
                    go_wp2_with fail
                    have L1 : ∀ x : Low wr.heap.size wr, x.wd.cell? ⟨lb, lo + 1, none⟩ = some (.int .i64 l.atom.pred) := fun x => (cell_lasts x.low hlb).trans t1'
                    have L2 : ∀ x : Low wr.heap.size wr, x.wd.cell? ⟨lb, lo + 1 + 1, none⟩ = some (.slice la l.atom.args.length ld) := fun x => (cell_lasts x.low hlb).trans t3'
                    have N0 : ∀ x : Low wr.heap.size wr, x.wd.cell? ⟨w.heap.size, 0, none⟩ = some (.slice (some ⟨pb, po, none⟩) ps.length pc) := fun x => (cell_lasts x.low sW).trans f1
                    have N1 : ∀ x : Low wr.heap.size wr, x.wd.cell? ⟨Z.heap.size, 4, none⟩ = some (.slice (some ⟨lb, lo, none⟩) r.body.length bc) := fun x => (cell_lasts x.low sZ).trans f0
                    refine wp_region_low wr.heap.size (by kernel_rfl) (by kernel_rfl) ?_
                    repeat (go_big_quiet_step (first | (go_at_call 42; exact low_of (HAL.out _ (Low.low _)))))
                    refine wpQuiet_nil ?_
                    rintro _ ⟨⟨W3, hb3⟩, rfl⟩
                    clear L1 L2 N0 N1
                    go_wp2_with fail
                    go_roundw
                    case rel => exact ⟨1, by omega, by go_num, by rw [HS.out], hbz.trans (hb3.mono hbz.size)⟩
                    case measure => simp [intOf]; omega
                  · rw [hneg] at t0'
                    have HS : Hid (bodyTo ps (headPut ps B r) r.body 1 = C ++ ⟨#[32, 58, 45, 32]⟩ ++ ⟨#[33]⟩ ++ A2) := by show _ = _; rw [HSB.out, litPut, hneg, hA2]; rfl
                    have lim0 : ¬ 9223372036854775807 < C.size + 4 := by omega
                    have lim1 : ¬ 9223372036854775807 < C.size + 4 + 1 := by omega
                    have lim2 : ¬ 9223372036854775807 < C.size + 4 + 1 + A2.size := by omega
                    clear hcz haz hA2
                    go_wp2_with fail
                    have L1 : ∀ x : Low wr.heap.size wr, x.wd.cell? ⟨lb, lo + 1, none⟩ = some (.int .i64 l.atom.pred) := fun x => (cell_lasts x.low hlb).trans t1'
                    have L2 : ∀ x : Low wr.heap.size wr, x.wd.cell? ⟨lb, lo + 1 + 1, none⟩ = some (.slice la l.atom.args.length ld) := fun x => (cell_lasts x.low hlb).trans t3'
                    have N0 : ∀ x : Low wr.heap.size wr, x.wd.cell? ⟨w.heap.size, 0, none⟩ = some (.slice (some ⟨pb, po, none⟩) ps.length pc) := fun x => (cell_lasts x.low sW).trans f1
                    have N1 : ∀ x : Low wr.heap.size wr, x.wd.cell? ⟨Z.heap.size, 4, none⟩ = some (.slice (some ⟨lb, lo, none⟩) r.body.length bc) := fun x => (cell_lasts x.low sZ).trans f0
                    refine wp_region_low wr.heap.size (by kernel_rfl) (by kernel_rfl) ?_
                    repeat (go_big_quiet_step (first | (go_at_call 42; exact low_of (HAL.out _ (Low.low _)))))
                    refine wpQuiet_nil ?_
                    rintro _ ⟨⟨W3, hb3⟩, rfl⟩
                    clear L1 L2 N0 N1
                    go_wp2_with fail
                    go_roundw
                    case rel => exact ⟨1, by omega, by go_num, by rw [HS.out], hbz.trans (hb3.mono hbz.size)⟩
                    case measure => simp [intOf]; omega
                · have h0' : (q : Int) ≠ 0 := by omega
                  have h0b : ((q : Int) == 0) = false := by simpa using h0'
                  cases hneg : l.neg
                  · rw [hneg] at t0
                    have HS : Hid (bodyTo ps (headPut ps B r) r.body (q + 1) = C ++ ⟨#[44, 32]⟩ ++ A2) := by show _ = _; rw [HSB.out, litPut, hneg, if_neg (by simp), if_neg h0, hA2]
                    have lim0 : ¬ 9223372036854775807 < C.size + 2 := by omega
                    have lim1 : ¬ 9223372036854775807 < C.size + 2 + A2.size := by omega
                    clear hcz haz hA2
                    go_wp2_with fail
                    have L1 : ∀ x : Low wr.heap.size wr, x.wd.cell? ⟨lb, lo + q * 3 + 1, none⟩ = some (.int .i64 l.atom.pred) := fun x => (cell_lasts x.low hlb).trans t1
                    have L2 : ∀ x : Low wr.heap.size wr, x.wd.cell? ⟨lb, lo + q * 3 + 1 + 1, none⟩ = some (.slice la l.atom.args.length ld) := fun x => (cell_lasts x.low hlb).trans t2'
                    have N0 : ∀ x : Low wr.heap.size wr, x.wd.cell? ⟨w.heap.size, 0, none⟩ = some (.slice (some ⟨pb, po, none⟩) ps.length pc) := fun x => (cell_lasts x.low sW).trans f1
                    have N1 : ∀ x : Low wr.heap.size wr, x.wd.cell? ⟨Z.heap.size, 4, none⟩ = some (.slice (some ⟨lb, lo, none⟩) r.body.length bc) := fun x => (cell_lasts x.low sZ).trans f0
                    refine wp_region_low wr.heap.size (by kernel_rfl) (by kernel_rfl) ?_
                    repeat (go_big_quiet_step (first | (go_at_call 42; exact low_of (HAL.out _ (Low.low _)))))
                    refine wpQuiet_nil ?_
                    rintro _ ⟨⟨W3, hb3⟩, rfl⟩
                    clear L1 L2 N0 N1
                    go_wp2_with fail
                    go_roundw
                    case rel => exact ⟨q + 1, by omega, by go_num, by rw [HS.out], hbz.trans (hb3.mono hbz.size)⟩
                    case measure => simp [intOf]; omega
                  · rw [hneg] at t0
                    have HS : Hid (bodyTo ps (headPut ps B r) r.body (q + 1) = C ++ ⟨#[44, 32]⟩ ++ ⟨#[33]⟩ ++ A2) := by show _ = _; rw [HSB.out, litPut, hneg, if_pos rfl, if_neg h0, hA2]
                    have lim0 : ¬ 9223372036854775807 < C.size + 2 := by omega
                    have lim1 : ¬ 9223372036854775807 < C.size + 2 + 1 := by omega
                    have lim2 : ¬ 9223372036854775807 < C.size + 2 + 1 + A2.size := by omega
                    clear hcz haz hA2
                    go_wp2_with fail
                    have L1 : ∀ x : Low wr.heap.size wr, x.wd.cell? ⟨lb, lo + q * 3 + 1, none⟩ = some (.int .i64 l.atom.pred) := fun x => (cell_lasts x.low hlb).trans t1
                    have L2 : ∀ x : Low wr.heap.size wr, x.wd.cell? ⟨lb, lo + q * 3 + 1 + 1, none⟩ = some (.slice la l.atom.args.length ld) := fun x => (cell_lasts x.low hlb).trans t2'
                    have N0 : ∀ x : Low wr.heap.size wr, x.wd.cell? ⟨w.heap.size, 0, none⟩ = some (.slice (some ⟨pb, po, none⟩) ps.length pc) := fun x => (cell_lasts x.low sW).trans f1
                    have N1 : ∀ x : Low wr.heap.size wr, x.wd.cell? ⟨Z.heap.size, 4, none⟩ = some (.slice (some ⟨lb, lo, none⟩) r.body.length bc) := fun x => (cell_lasts x.low sZ).trans f0
                    refine wp_region_low wr.heap.size (by kernel_rfl) (by kernel_rfl) ?_
                    repeat (go_big_quiet_step (first | (go_at_call 42; exact low_of (HAL.out _ (Low.low _)))))
                    refine wpQuiet_nil ?_
                    rintro _ ⟨⟨W3, hb3⟩, rfl⟩
                    clear L1 L2 N0 N1
                    go_wp2_with fail
                    go_roundw
                    case rel => exact ⟨q + 1, by omega, by go_num, by rw [HS.out], hbz.trans (hb3.mono hbz.size)⟩
                    case measure => simp [intOf]; omega
              · obtain rfl : q = r.body.length := by omega
                have HSE : Hid (rulesTo ps P0 rs (j + 1) = bodyTo ps (headPut ps B r) r.body r.body.length ++ ⟨#[46, 10]⟩) := HSR
                have lim0 : ¬ 9223372036854775807 < (bodyTo ps (headPut ps B r) r.body r.body.length).size + 2 := by
                  have h1 := HBS.out r.body.length
                  have h2 : r.body.length * 1600 ≤ 500 * 1600 := Nat.mul_le_mul_right _ HBF.out
                  omega
                generalize bodyTo ps (headPut ps B r) r.body r.body.length = C at *
                go_wp2_with fail
                go_roundw
                case rel => exact ⟨j + 1, by omega, by go_num, by rw [HSE.out], hbw.trans ((bU.trans (hbz.mono bU.size)).mono hbw.size)⟩
                case measure => simp [intOf]; omega
          · have hk1 : kd ≠ 0 := hk0
            have hk2 : (kd == 0) = false := by simpa using hk0
            have hk3 : (kd != 0) = true := by simpa using hk0
            by_cases hs0 : 0 ≤ r.src
            · have HH : Hid (headPut ps B r = B ++ A ++ ⟨#[32, 61, 32]⟩ ++ ⟨#[35]⟩ ++ dig r.src ++ ⟨#[43]⟩ ++ dig r.n) := by show _ = _; rw [HHD.out, if_neg hk0, if_pos hs0]
              have HD1 := HDS.out hs0
              have hs1 : r.src ≥ 0 := hs0
              go_wp2_with fail
              refine (HD1 _).mono ?_
              rintro e'' W3 ⟨rfl, hb3⟩
              have q3 : Below U.heap.size U W3 := hb2.trans (hb3.mono hb2.size)
              clear g0 g2 g3 v3 v4
              obtain ⟨g0, g2, g3, v3, v4⟩ := HV.out W3 q3
              go_wp2_with fail
              refine (HDN.out _).mono ?_
              rintro e'' W4 ⟨rfl, hb4⟩
              have q4 : Below U.heap.size U W4 := q3.trans (hb4.mono q3.size)
              clear g0 g2 g3 v3 v4 HD1
              go_wp2_with fail
              clear lm0 lm1 lm2 lm3 lm4 lm5 lm6
              go_loopw [3, 7] (fun s i wz => ∃ q : Nat, q ≤ r.body.length ∧ i = .int .i64 q ∧ s = .string (bodyTo ps (headPut ps B r) r.body q) ∧ Below U.heap.size U wz) (fun _ i _ => r.body.length - (intOf i).toNat)
              case atStart => exact ⟨0, Nat.zero_le _, rfl, by rw [bodyTo, HH.out], q4⟩
              case round =>
                obtain ⟨q, hq, rfl, rfl, hbz⟩ := hrel
                obtain ⟨f0, f1, f2⟩ := HU.out wr hbz
                have kz : Below Z.heap.size Z wr := bU.trans (hbz.mono bU.size)
                by_cases hql : q < r.body.length
                · obtain ⟨lb, lo, lc, hlv, hlb, t0, t1, av, t2, ta⟩ := slice_cells (HTB.out wr kz) hql
                  obtain ⟨rfl, rfl⟩ : ba = some ⟨lb, lo, none⟩ ∧ bc = lc := by simpa using hlv
                  have hq1 : (q : Int) < (r.body.length : Int) := by omega
                  have hq0 : (0 : Int) ≤ (q : Int) := by omega
                  have hml := List.getElem_mem hql
                  obtain ⟨⟨e2, he2, hel2⟩, hok2, hfew2⟩ := HBO.out _ hml
                  have hcz : (bodyTo ps (headPut ps B r) r.body q).size ≤ 2000000000 := by
                    have h1 := HBS.out q
                    have h2 : q * 1600 ≤ 500 * 1600 := Nat.mul_le_mul_right _ (by have := HBF.out; omega)
                    omega
                  have haz := atom_sz OK.out.name hfew2
                  have HAL : Hid (∀ x, Below wr.heap.size wr x → Calls Tryz.prog 42 #[.slice (some ⟨pb, po, none⟩) ps.length pc, .agg #[.int .i64 r.body[q].atom.pred, av]] x fun e w' => e = .returned (.string (atomB ps r.body[q].atom)) ∧ Below x.heap.size x w') := fun x hx => atomText_c x _ _ ps _ e2 (HPZ2.out x (kz.trans (hx.mono kz.size))) (termsAt.lasts hx ta) he2 hel2 hok2 (name_size OK.out.name _) hfew2
                  obtain ⟨la, ld, rfl, _⟩ := ta
                  have HSB : Hid (bodyTo ps (headPut ps B r) r.body (q + 1) = litPut ps (bodyTo ps (headPut ps B r) r.body q) q r.body[q]) := by
                    show _ = _
                    rw [bodyTo, List.getD, List.getElem?_eq_getElem hql]
                    rfl
                  have sW : w.heap.size < wr.heap.size := Nat.lt_of_lt_of_le hs (Nat.le_trans hbw.size kz.size)
                  have sZ : Z.heap.size < wr.heap.size := Nat.lt_of_lt_of_le hZU hbz.size
                  clear hlv hml he2 hok2
                  generalize r.body[q] = l at *
                  generalize hA2 : atomB ps l.atom = A2 at *
                  generalize bodyTo ps (headPut ps B r) r.body q = C at *
                  have t2' : wr.cell? ⟨lb, lo + q * 3 + 1 + 1, none⟩ = some (.slice la l.atom.args.length ld) := t2
                  by_cases h0 : q = 0
                  · subst h0
                    have t0' : wr.cell? ⟨lb, lo, none⟩ = some (.bool l.neg) := by have := t0; rwa [Nat.zero_mul, Nat.add_zero] at this
                    have t1' : wr.cell? ⟨lb, lo + 1, none⟩ = some (.int .i64 l.atom.pred) := by have := t1; rwa [Nat.zero_mul, Nat.add_zero] at this
                    have t3' : wr.cell? ⟨lb, lo + 1 + 1, none⟩ = some (.slice la l.atom.args.length ld) := by have := t2'; rwa [Nat.zero_mul, Nat.add_zero] at this
                    cases hneg : l.neg
                    · rw [hneg] at t0'
                      have HS : Hid (bodyTo ps (headPut ps B r) r.body 1 = C ++ ⟨#[32, 58, 45, 32]⟩ ++ A2) := by show _ = _; rw [HSB.out, litPut, hneg, hA2]; rfl
                      have lim0 : ¬ 9223372036854775807 < C.size + 4 := by omega
                      have lim1 : ¬ 9223372036854775807 < C.size + 4 + A2.size := by omega
                      clear hcz haz hA2
                      go_wp2_with fail
                      have L1 : ∀ x : Low wr.heap.size wr, x.wd.cell? ⟨lb, lo + 1, none⟩ = some (.int .i64 l.atom.pred) := fun x => (cell_lasts x.low hlb).trans t1'
                      have L2 : ∀ x : Low wr.heap.size wr, x.wd.cell? ⟨lb, lo + 1 + 1, none⟩ = some (.slice la l.atom.args.length ld) := fun x => (cell_lasts x.low hlb).trans t3'
                      have N0 : ∀ x : Low wr.heap.size wr, x.wd.cell? ⟨w.heap.size, 0, none⟩ = some (.slice (some ⟨pb, po, none⟩) ps.length pc) := fun x => (cell_lasts x.low sW).trans f1
                      have N1 : ∀ x : Low wr.heap.size wr, x.wd.cell? ⟨Z.heap.size, 4, none⟩ = some (.slice (some ⟨lb, lo, none⟩) r.body.length bc) := fun x => (cell_lasts x.low sZ).trans f0
                      refine wp_region_low wr.heap.size (by kernel_rfl) (by kernel_rfl) ?_
                      repeat (go_big_quiet_step (first | (go_at_call 42; exact low_of (HAL.out _ (Low.low _)))))
                      refine wpQuiet_nil ?_
                      rintro _ ⟨⟨W3, hb3⟩, rfl⟩
                      clear L1 L2 N0 N1
                      go_wp2_with fail
                      go_roundw
                      case rel => exact ⟨1, by omega, by go_num, by rw [HS.out], hbz.trans (hb3.mono hbz.size)⟩
                      case measure => simp [intOf]; omega
                    · rw [hneg] at t0'
                      have HS : Hid (bodyTo ps (headPut ps B r) r.body 1 = C ++ ⟨#[32, 58, 45, 32]⟩ ++ ⟨#[33]⟩ ++ A2) := by show _ = _; rw [HSB.out, litPut, hneg, hA2]; rfl
                      have lim0 : ¬ 9223372036854775807 < C.size + 4 := by omega
                      have lim1 : ¬ 9223372036854775807 < C.size + 4 + 1 := by omega
                      have lim2 : ¬ 9223372036854775807 < C.size + 4 + 1 + A2.size := by omega
                      clear hcz haz hA2
                      go_wp2_with fail
                      have L1 : ∀ x : Low wr.heap.size wr, x.wd.cell? ⟨lb, lo + 1, none⟩ = some (.int .i64 l.atom.pred) := fun x => (cell_lasts x.low hlb).trans t1'
                      have L2 : ∀ x : Low wr.heap.size wr, x.wd.cell? ⟨lb, lo + 1 + 1, none⟩ = some (.slice la l.atom.args.length ld) := fun x => (cell_lasts x.low hlb).trans t3'
                      have N0 : ∀ x : Low wr.heap.size wr, x.wd.cell? ⟨w.heap.size, 0, none⟩ = some (.slice (some ⟨pb, po, none⟩) ps.length pc) := fun x => (cell_lasts x.low sW).trans f1
                      have N1 : ∀ x : Low wr.heap.size wr, x.wd.cell? ⟨Z.heap.size, 4, none⟩ = some (.slice (some ⟨lb, lo, none⟩) r.body.length bc) := fun x => (cell_lasts x.low sZ).trans f0
                      refine wp_region_low wr.heap.size (by kernel_rfl) (by kernel_rfl) ?_
                      repeat (go_big_quiet_step (first | (go_at_call 42; exact low_of (HAL.out _ (Low.low _)))))
                      refine wpQuiet_nil ?_
                      rintro _ ⟨⟨W3, hb3⟩, rfl⟩
                      clear L1 L2 N0 N1
                      go_wp2_with fail
                      go_roundw
                      case rel => exact ⟨1, by omega, by go_num, by rw [HS.out], hbz.trans (hb3.mono hbz.size)⟩
                      case measure => simp [intOf]; omega
                  · have h0' : (q : Int) ≠ 0 := by omega
                    have h0b : ((q : Int) == 0) = false := by simpa using h0'
                    cases hneg : l.neg
                    · rw [hneg] at t0
                      have HS : Hid (bodyTo ps (headPut ps B r) r.body (q + 1) = C ++ ⟨#[44, 32]⟩ ++ A2) := by show _ = _; rw [HSB.out, litPut, hneg, if_neg (by simp), if_neg h0, hA2]
                      have lim0 : ¬ 9223372036854775807 < C.size + 2 := by omega
                      have lim1 : ¬ 9223372036854775807 < C.size + 2 + A2.size := by omega
                      clear hcz haz hA2
                      go_wp2_with fail
                      have L1 : ∀ x : Low wr.heap.size wr, x.wd.cell? ⟨lb, lo + q * 3 + 1, none⟩ = some (.int .i64 l.atom.pred) := fun x => (cell_lasts x.low hlb).trans t1
                      have L2 : ∀ x : Low wr.heap.size wr, x.wd.cell? ⟨lb, lo + q * 3 + 1 + 1, none⟩ = some (.slice la l.atom.args.length ld) := fun x => (cell_lasts x.low hlb).trans t2'
                      have N0 : ∀ x : Low wr.heap.size wr, x.wd.cell? ⟨w.heap.size, 0, none⟩ = some (.slice (some ⟨pb, po, none⟩) ps.length pc) := fun x => (cell_lasts x.low sW).trans f1
                      have N1 : ∀ x : Low wr.heap.size wr, x.wd.cell? ⟨Z.heap.size, 4, none⟩ = some (.slice (some ⟨lb, lo, none⟩) r.body.length bc) := fun x => (cell_lasts x.low sZ).trans f0
                      refine wp_region_low wr.heap.size (by kernel_rfl) (by kernel_rfl) ?_
                      repeat (go_big_quiet_step (first | (go_at_call 42; exact low_of (HAL.out _ (Low.low _)))))
                      refine wpQuiet_nil ?_
                      rintro _ ⟨⟨W3, hb3⟩, rfl⟩
                      clear L1 L2 N0 N1
                      go_wp2_with fail
                      go_roundw
                      case rel => exact ⟨q + 1, by omega, by go_num, by rw [HS.out], hbz.trans (hb3.mono hbz.size)⟩
                      case measure => simp [intOf]; omega
                    · rw [hneg] at t0
                      have HS : Hid (bodyTo ps (headPut ps B r) r.body (q + 1) = C ++ ⟨#[44, 32]⟩ ++ ⟨#[33]⟩ ++ A2) := by show _ = _; rw [HSB.out, litPut, hneg, if_pos rfl, if_neg h0, hA2]
                      have lim0 : ¬ 9223372036854775807 < C.size + 2 := by omega
                      have lim1 : ¬ 9223372036854775807 < C.size + 2 + 1 := by omega
                      have lim2 : ¬ 9223372036854775807 < C.size + 2 + 1 + A2.size := by omega
                      clear hcz haz hA2
                      go_wp2_with fail
                      have L1 : ∀ x : Low wr.heap.size wr, x.wd.cell? ⟨lb, lo + q * 3 + 1, none⟩ = some (.int .i64 l.atom.pred) := fun x => (cell_lasts x.low hlb).trans t1
                      have L2 : ∀ x : Low wr.heap.size wr, x.wd.cell? ⟨lb, lo + q * 3 + 1 + 1, none⟩ = some (.slice la l.atom.args.length ld) := fun x => (cell_lasts x.low hlb).trans t2'
                      have N0 : ∀ x : Low wr.heap.size wr, x.wd.cell? ⟨w.heap.size, 0, none⟩ = some (.slice (some ⟨pb, po, none⟩) ps.length pc) := fun x => (cell_lasts x.low sW).trans f1
                      have N1 : ∀ x : Low wr.heap.size wr, x.wd.cell? ⟨Z.heap.size, 4, none⟩ = some (.slice (some ⟨lb, lo, none⟩) r.body.length bc) := fun x => (cell_lasts x.low sZ).trans f0
                      refine wp_region_low wr.heap.size (by kernel_rfl) (by kernel_rfl) ?_
                      repeat (go_big_quiet_step (first | (go_at_call 42; exact low_of (HAL.out _ (Low.low _)))))
                      refine wpQuiet_nil ?_
                      rintro _ ⟨⟨W3, hb3⟩, rfl⟩
                      clear L1 L2 N0 N1
                      go_wp2_with fail
                      go_roundw
                      case rel => exact ⟨q + 1, by omega, by go_num, by rw [HS.out], hbz.trans (hb3.mono hbz.size)⟩
                      case measure => simp [intOf]; omega
                · obtain rfl : q = r.body.length := by omega
                  have HSE : Hid (rulesTo ps P0 rs (j + 1) = bodyTo ps (headPut ps B r) r.body r.body.length ++ ⟨#[46, 10]⟩) := HSR
                  have lim0 : ¬ 9223372036854775807 < (bodyTo ps (headPut ps B r) r.body r.body.length).size + 2 := by
                    have h1 := HBS.out r.body.length
                    have h2 : r.body.length * 1600 ≤ 500 * 1600 := Nat.mul_le_mul_right _ HBF.out
                    omega
                  generalize bodyTo ps (headPut ps B r) r.body r.body.length = C at *
                  go_wp2_with fail
                  go_roundw
                  case rel => exact ⟨j + 1, by omega, by go_num, by rw [HSE.out], hbw.trans ((bU.trans (hbz.mono bU.size)).mono hbw.size)⟩
                  case measure => simp [intOf]; omega
            · have HH : Hid (headPut ps B r = B ++ A ++ ⟨#[32, 61, 32]⟩ ++ dig r.n) := by show _ = _; rw [HHD.out, if_neg hk0, if_neg hs0]
              have hs1 : ¬ r.src ≥ 0 := hs0
              go_wp2_with fail
              refine (HDN.out _).mono ?_
              rintro e'' W4 ⟨rfl, hb4⟩
              have q4 : Below U.heap.size U W4 := hb2.trans (hb4.mono hb2.size)
              clear g0 g2 g3 v3 v4
              go_wp2_with fail
              clear lm0 lm1 lm2 lm3 lm4 lm5 lm6
              go_loopw [3, 7] (fun s i wz => ∃ q : Nat, q ≤ r.body.length ∧ i = .int .i64 q ∧ s = .string (bodyTo ps (headPut ps B r) r.body q) ∧ Below U.heap.size U wz) (fun _ i _ => r.body.length - (intOf i).toNat)
              case atStart => exact ⟨0, Nat.zero_le _, rfl, by rw [bodyTo, HH.out], q4⟩
              case round =>
                obtain ⟨q, hq, rfl, rfl, hbz⟩ := hrel
                obtain ⟨f0, f1, f2⟩ := HU.out wr hbz
                have kz : Below Z.heap.size Z wr := bU.trans (hbz.mono bU.size)
                by_cases hql : q < r.body.length
                · obtain ⟨lb, lo, lc, hlv, hlb, t0, t1, av, t2, ta⟩ := slice_cells (HTB.out wr kz) hql
                  obtain ⟨rfl, rfl⟩ : ba = some ⟨lb, lo, none⟩ ∧ bc = lc := by simpa using hlv
                  have hq1 : (q : Int) < (r.body.length : Int) := by omega
                  have hq0 : (0 : Int) ≤ (q : Int) := by omega
                  have hml := List.getElem_mem hql
                  obtain ⟨⟨e2, he2, hel2⟩, hok2, hfew2⟩ := HBO.out _ hml
                  have hcz : (bodyTo ps (headPut ps B r) r.body q).size ≤ 2000000000 := by
                    have h1 := HBS.out q
                    have h2 : q * 1600 ≤ 500 * 1600 := Nat.mul_le_mul_right _ (by have := HBF.out; omega)
                    omega
                  have haz := atom_sz OK.out.name hfew2
                  have HAL : Hid (∀ x, Below wr.heap.size wr x → Calls Tryz.prog 42 #[.slice (some ⟨pb, po, none⟩) ps.length pc, .agg #[.int .i64 r.body[q].atom.pred, av]] x fun e w' => e = .returned (.string (atomB ps r.body[q].atom)) ∧ Below x.heap.size x w') := fun x hx => atomText_c x _ _ ps _ e2 (HPZ2.out x (kz.trans (hx.mono kz.size))) (termsAt.lasts hx ta) he2 hel2 hok2 (name_size OK.out.name _) hfew2
                  obtain ⟨la, ld, rfl, _⟩ := ta
                  have HSB : Hid (bodyTo ps (headPut ps B r) r.body (q + 1) = litPut ps (bodyTo ps (headPut ps B r) r.body q) q r.body[q]) := by
                    show _ = _
                    rw [bodyTo, List.getD, List.getElem?_eq_getElem hql]
                    rfl
                  have sW : w.heap.size < wr.heap.size := Nat.lt_of_lt_of_le hs (Nat.le_trans hbw.size kz.size)
                  have sZ : Z.heap.size < wr.heap.size := Nat.lt_of_lt_of_le hZU hbz.size
                  clear hlv hml he2 hok2
                  generalize r.body[q] = l at *
                  generalize hA2 : atomB ps l.atom = A2 at *
                  generalize bodyTo ps (headPut ps B r) r.body q = C at *
                  have t2' : wr.cell? ⟨lb, lo + q * 3 + 1 + 1, none⟩ = some (.slice la l.atom.args.length ld) := t2
                  by_cases h0 : q = 0
                  · subst h0
                    have t0' : wr.cell? ⟨lb, lo, none⟩ = some (.bool l.neg) := by have := t0; rwa [Nat.zero_mul, Nat.add_zero] at this
                    have t1' : wr.cell? ⟨lb, lo + 1, none⟩ = some (.int .i64 l.atom.pred) := by have := t1; rwa [Nat.zero_mul, Nat.add_zero] at this
                    have t3' : wr.cell? ⟨lb, lo + 1 + 1, none⟩ = some (.slice la l.atom.args.length ld) := by have := t2'; rwa [Nat.zero_mul, Nat.add_zero] at this
                    cases hneg : l.neg
                    · rw [hneg] at t0'
                      have HS : Hid (bodyTo ps (headPut ps B r) r.body 1 = C ++ ⟨#[32, 58, 45, 32]⟩ ++ A2) := by show _ = _; rw [HSB.out, litPut, hneg, hA2]; rfl
                      have lim0 : ¬ 9223372036854775807 < C.size + 4 := by omega
                      have lim1 : ¬ 9223372036854775807 < C.size + 4 + A2.size := by omega
                      clear hcz haz hA2
                      go_wp2_with fail
                      have L1 : ∀ x : Low wr.heap.size wr, x.wd.cell? ⟨lb, lo + 1, none⟩ = some (.int .i64 l.atom.pred) := fun x => (cell_lasts x.low hlb).trans t1'
                      have L2 : ∀ x : Low wr.heap.size wr, x.wd.cell? ⟨lb, lo + 1 + 1, none⟩ = some (.slice la l.atom.args.length ld) := fun x => (cell_lasts x.low hlb).trans t3'
                      have N0 : ∀ x : Low wr.heap.size wr, x.wd.cell? ⟨w.heap.size, 0, none⟩ = some (.slice (some ⟨pb, po, none⟩) ps.length pc) := fun x => (cell_lasts x.low sW).trans f1
                      have N1 : ∀ x : Low wr.heap.size wr, x.wd.cell? ⟨Z.heap.size, 4, none⟩ = some (.slice (some ⟨lb, lo, none⟩) r.body.length bc) := fun x => (cell_lasts x.low sZ).trans f0
                      refine wp_region_low wr.heap.size (by kernel_rfl) (by kernel_rfl) ?_
                      repeat (go_big_quiet_step (first | (go_at_call 42; exact low_of (HAL.out _ (Low.low _)))))
                      refine wpQuiet_nil ?_
                      rintro _ ⟨⟨W3, hb3⟩, rfl⟩
                      clear L1 L2 N0 N1
                      go_wp2_with fail
                      go_roundw
                      case rel => exact ⟨1, by omega, by go_num, by rw [HS.out], hbz.trans (hb3.mono hbz.size)⟩
                      case measure => simp [intOf]; omega
                    · rw [hneg] at t0'
                      have HS : Hid (bodyTo ps (headPut ps B r) r.body 1 = C ++ ⟨#[32, 58, 45, 32]⟩ ++ ⟨#[33]⟩ ++ A2) := by show _ = _; rw [HSB.out, litPut, hneg, hA2]; rfl
                      have lim0 : ¬ 9223372036854775807 < C.size + 4 := by omega
                      have lim1 : ¬ 9223372036854775807 < C.size + 4 + 1 := by omega
                      have lim2 : ¬ 9223372036854775807 < C.size + 4 + 1 + A2.size := by omega
                      clear hcz haz hA2
                      go_wp2_with fail
                      have L1 : ∀ x : Low wr.heap.size wr, x.wd.cell? ⟨lb, lo + 1, none⟩ = some (.int .i64 l.atom.pred) := fun x => (cell_lasts x.low hlb).trans t1'
                      have L2 : ∀ x : Low wr.heap.size wr, x.wd.cell? ⟨lb, lo + 1 + 1, none⟩ = some (.slice la l.atom.args.length ld) := fun x => (cell_lasts x.low hlb).trans t3'
                      have N0 : ∀ x : Low wr.heap.size wr, x.wd.cell? ⟨w.heap.size, 0, none⟩ = some (.slice (some ⟨pb, po, none⟩) ps.length pc) := fun x => (cell_lasts x.low sW).trans f1
                      have N1 : ∀ x : Low wr.heap.size wr, x.wd.cell? ⟨Z.heap.size, 4, none⟩ = some (.slice (some ⟨lb, lo, none⟩) r.body.length bc) := fun x => (cell_lasts x.low sZ).trans f0
                      refine wp_region_low wr.heap.size (by kernel_rfl) (by kernel_rfl) ?_
                      repeat (go_big_quiet_step (first | (go_at_call 42; exact low_of (HAL.out _ (Low.low _)))))
                      refine wpQuiet_nil ?_
                      rintro _ ⟨⟨W3, hb3⟩, rfl⟩
                      clear L1 L2 N0 N1
                      go_wp2_with fail
                      go_roundw
                      case rel => exact ⟨1, by omega, by go_num, by rw [HS.out], hbz.trans (hb3.mono hbz.size)⟩
                      case measure => simp [intOf]; omega
                  · have h0' : (q : Int) ≠ 0 := by omega
                    have h0b : ((q : Int) == 0) = false := by simpa using h0'
                    cases hneg : l.neg
                    · rw [hneg] at t0
                      have HS : Hid (bodyTo ps (headPut ps B r) r.body (q + 1) = C ++ ⟨#[44, 32]⟩ ++ A2) := by show _ = _; rw [HSB.out, litPut, hneg, if_neg (by simp), if_neg h0, hA2]
                      have lim0 : ¬ 9223372036854775807 < C.size + 2 := by omega
                      have lim1 : ¬ 9223372036854775807 < C.size + 2 + A2.size := by omega
                      clear hcz haz hA2
                      go_wp2_with fail
                      have L1 : ∀ x : Low wr.heap.size wr, x.wd.cell? ⟨lb, lo + q * 3 + 1, none⟩ = some (.int .i64 l.atom.pred) := fun x => (cell_lasts x.low hlb).trans t1
                      have L2 : ∀ x : Low wr.heap.size wr, x.wd.cell? ⟨lb, lo + q * 3 + 1 + 1, none⟩ = some (.slice la l.atom.args.length ld) := fun x => (cell_lasts x.low hlb).trans t2'
                      have N0 : ∀ x : Low wr.heap.size wr, x.wd.cell? ⟨w.heap.size, 0, none⟩ = some (.slice (some ⟨pb, po, none⟩) ps.length pc) := fun x => (cell_lasts x.low sW).trans f1
                      have N1 : ∀ x : Low wr.heap.size wr, x.wd.cell? ⟨Z.heap.size, 4, none⟩ = some (.slice (some ⟨lb, lo, none⟩) r.body.length bc) := fun x => (cell_lasts x.low sZ).trans f0
                      refine wp_region_low wr.heap.size (by kernel_rfl) (by kernel_rfl) ?_
                      repeat (go_big_quiet_step (first | (go_at_call 42; exact low_of (HAL.out _ (Low.low _)))))
                      refine wpQuiet_nil ?_
                      rintro _ ⟨⟨W3, hb3⟩, rfl⟩
                      clear L1 L2 N0 N1
                      go_wp2_with fail
                      go_roundw
                      case rel => exact ⟨q + 1, by omega, by go_num, by rw [HS.out], hbz.trans (hb3.mono hbz.size)⟩
                      case measure => simp [intOf]; omega
                    · rw [hneg] at t0
                      have HS : Hid (bodyTo ps (headPut ps B r) r.body (q + 1) = C ++ ⟨#[44, 32]⟩ ++ ⟨#[33]⟩ ++ A2) := by show _ = _; rw [HSB.out, litPut, hneg, if_pos rfl, if_neg h0, hA2]
                      have lim0 : ¬ 9223372036854775807 < C.size + 2 := by omega
                      have lim1 : ¬ 9223372036854775807 < C.size + 2 + 1 := by omega
                      have lim2 : ¬ 9223372036854775807 < C.size + 2 + 1 + A2.size := by omega
                      clear hcz haz hA2
                      go_wp2_with fail
                      have L1 : ∀ x : Low wr.heap.size wr, x.wd.cell? ⟨lb, lo + q * 3 + 1, none⟩ = some (.int .i64 l.atom.pred) := fun x => (cell_lasts x.low hlb).trans t1
                      have L2 : ∀ x : Low wr.heap.size wr, x.wd.cell? ⟨lb, lo + q * 3 + 1 + 1, none⟩ = some (.slice la l.atom.args.length ld) := fun x => (cell_lasts x.low hlb).trans t2'
                      have N0 : ∀ x : Low wr.heap.size wr, x.wd.cell? ⟨w.heap.size, 0, none⟩ = some (.slice (some ⟨pb, po, none⟩) ps.length pc) := fun x => (cell_lasts x.low sW).trans f1
                      have N1 : ∀ x : Low wr.heap.size wr, x.wd.cell? ⟨Z.heap.size, 4, none⟩ = some (.slice (some ⟨lb, lo, none⟩) r.body.length bc) := fun x => (cell_lasts x.low sZ).trans f0
                      refine wp_region_low wr.heap.size (by kernel_rfl) (by kernel_rfl) ?_
                      repeat (go_big_quiet_step (first | (go_at_call 42; exact low_of (HAL.out _ (Low.low _)))))
                      refine wpQuiet_nil ?_
                      rintro _ ⟨⟨W3, hb3⟩, rfl⟩
                      clear L1 L2 N0 N1
                      go_wp2_with fail
                      go_roundw
                      case rel => exact ⟨q + 1, by omega, by go_num, by rw [HS.out], hbz.trans (hb3.mono hbz.size)⟩
                      case measure => simp [intOf]; omega
                · obtain rfl : q = r.body.length := by omega
                  have HSE : Hid (rulesTo ps P0 rs (j + 1) = bodyTo ps (headPut ps B r) r.body r.body.length ++ ⟨#[46, 10]⟩) := HSR
                  have lim0 : ¬ 9223372036854775807 < (bodyTo ps (headPut ps B r) r.body r.body.length).size + 2 := by
                    have h1 := HBS.out r.body.length
                    have h2 : r.body.length * 1600 ≤ 500 * 1600 := Nat.mul_le_mul_right _ HBF.out
                    omega
                  generalize bodyTo ps (headPut ps B r) r.body r.body.length = C at *
                  go_wp2_with fail
                  go_roundw
                  case rel => exact ⟨j + 1, by omega, by go_num, by rw [HSE.out], hbw.trans ((bU.trans (hbz.mono bU.size)).mono hbw.size)⟩
                  case measure => simp [intOf]; omega
        · obtain rfl : j = rs.length := by omega
          go_wp2_with fail
          go_ret
          exact ⟨by rw [HPP0.out]; rfl, kw⟩
end Go.Proofs.YtlfccloaoopadagGreat.Text
