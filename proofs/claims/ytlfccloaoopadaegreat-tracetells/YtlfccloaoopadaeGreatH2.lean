/-
  What the document's own TraceOf answers.
-/
import Derived.Test.YtlfccloaoopadaeGreatG22
import Derived.Test.YtlfccloaoopadaeGreatH1
import Derived.Test.YtlfccloaoopadaeGreatG9
import Derived.Test.YtlfccloaoopadaeGreatG10
import Derived.Test.YtlfccloaoopadaeGreatG8
namespace Go.Proofs.YtlfccloaoopadaeGreat.Trace
open Go.ChangeShapes Go.WideShapes Go.ChangeAt Go.RowKit
open Rule (Vars kindOf factFine ruleErr)
open Base (factsErr capNew addF addC cellsF cellsF_length cellsF_one cellsF_append piece_one own_lasts)
open Fire (roundErr Stp stepsAt step_cells consts bodyOk headF holdsF rules_right allL allOf_n cellsS infoStep)
open Prog (progErr small intsAt slice_cells)
open Strata (at_)
open Round (stratOf ofS strat_some)
open Naive (right_parts right_round nil_right strataN Apart facts_grown apart_grow most_c)

theorem wpList_append_stepN (w : World) {ops : Array Oper} {rest : List Oper} {o : Oper} {a : Act} {Q : Exit → Act → World → Prop} (hgd : o.guard = none) (s x : Operand)
    (ho : o.op = .call { callee := .builtin .append, args := #[s, x], argTypes := #[38, 38] }) (base : Nat) (v : Value) (xs : List Stp) (t : Stp) (hown : w.ownsRow base 64 4 v xs.length (cellsS xs)) (hs : a.eval s = v) (B : Nat) (hy : a.eval x = .slice (some ⟨B, 0, none⟩) 1 1) (u : TypeId) (hp : w.heap[B]? = some (.cells #[.int .i64 t.rule, .int .i64 t.x, .int .i64 t.y, .int .i64 t.z] u))
    (hb : xs.length ≤ 5000) (hbase : base ≤ w.heap.size)
    (h : ∀ v' w', w'.ownsRow base 64 4 v' (xs ++ [t]).length (cellsS (xs ++ [t])) → w.grownBy w' v.ownBlock → (∀ g, v'.ownBlock = some g → v.ownBlock = some g ∨ g = w.heap.size) → wpList Tryz.prog ops Q rest (a.put o.dst v') w') : wpList Tryz.prog ops Q (o :: rest) a w := by
  obtain ⟨i, hi, hz, hsz, hby⟩ := info_parts infoStep
  rcases piece_one hp with ⟨c, hc, _⟩ | ⟨ad, c, he, hc⟩
  · simp at hc
  · obtain ⟨rfl, rfl⟩ : (⟨B, 0, none⟩ : Addr) = ad ∧ 1 = c := by simpa using he
    refine wpList_plain hgd fun K hK' => ?_
    obtain ⟨v', w', hr, r1, r2, _⟩ := run_append_own_wide (P := Tryz.prog) w base 38 o.type 64 i _ 4 32 Tryz.underlying38 hi hz hsz hby rfl (by omega) v xs.length (cellsS xs) hown ⟨B, 0, none⟩ 1 1 (cellsF [⟨t.rule, t.x, t.y, t.z⟩]) (cellsF_length _) hc (cellsF_one _) (by unfold maxLen; omega) (by omega) hbase
    have h4 := Naive.append_new w base 38 o.type 64 i _ 4 32 Tryz.underlying38 hi hz hsz hby v xs.length (cellsS xs) hown ⟨B, 0, none⟩ 1 1 (cellsF [⟨t.rule, t.x, t.y, t.z⟩]) (cellsF_length _) hc (cellsF_one _) (by unfold maxLen; omega) (by omega) (by omega) hr
    unfold Oper.wp execOp
    simp only [ho, resolve, invoke, builtin, Sem.run_bind, Sem.run_pure, Result.andThen_ok, List.map_toArray, List.map_cons, List.map_nil, hs, hy, hr]
    refine hK' _ _ (h v' w' ?_ r2 h4)
    rw [List.length_append, cellsS, List.map_append, cellsF_append]
    exact r1
theorem steps_grown {A B : World} {u v : Value} {l : List Stp} (h : stepsAt A u l) (hg : A.grownBy B v.ownBlock) (hne : ∀ b, u.ownBlock = some b → v.ownBlock ≠ some b) : stepsAt B u l := by
  obtain ⟨a, cap, rfl, hl, hx⟩ := h
  refine ⟨a, cap, rfl, hl, ?_⟩
  rcases hx with hx | ⟨b, off, rfl, hb, hx⟩
  · exact .inl hx
  · have e : ∀ o, B.cell? ⟨b, o, none⟩ = A.cell? ⟨b, o, none⟩ := fun o => World.cell?_of_block (hg.block b hb (fun e => hne b rfl e.symm))
    exact .inr ⟨b, off, rfl, Nat.lt_of_lt_of_le hb hg.size, fun i x hi => ⟨(e _).trans (hx i x hi).1, (e _).trans (hx i x hi).2.1, (e _).trans (hx i x hi).2.2.1, (e _).trans (hx i x hi).2.2.2⟩⟩
/-- the state of the document's own trace: the facts at u, the steps at v -/
structure ToAt (W2 : World) (ps : List Prd) (rs : List Rul) (u v : Value) (f : List Fct) (out : List Stp) (x : World) : Prop where
  bel : Below W2.heap.size W2 x
  fac : factsAt x u f
  row : x.ownsRow W2.heap.size 64 4 v out.length (cellsS out)
  apa : Apart u v f
  rig : roundErr ps rs f = 0
theorem ToAt.lasts {W2 : World} {ps : List Prd} {rs : List Rul} {u v : Value} {f : List Fct} {out : List Stp} {x y : World} (h : ToAt W2 ps rs u v f out x) (hb : Below x.heap.size x y) : ToAt W2 ps rs u v f out y := ⟨h.bel.trans (hb.mono h.bel.size), factsAt.lasts hb h.fac, own_lasts h.row hb, h.apa, h.rig⟩
def isT : Value → Nat
  | .bool true => 1
  | _ => 0
def Lev' (ps : List Prd) (rs : List Rul) (s : Int) (f : List Fct) : Prop := Naive.Lev ps rs s f (turnF ps rs s f) ∧ Naive.pot ps f + (turnS ps rs s f).length ≤ Naive.pot ps (turnF ps rs s f) ∧ (turnS ps rs s f = [] → turnF ps rs s f = f) ∧ (turnF ps rs s f).length ≤ f.length + (turnS ps rs s f).length
noncomputable def toMu (ps : List Prd) (u a : Value) (x : World) : Nat := 2 * Naive.left ps u x + isT a

set_option maxRecDepth 100000 in
set_option maxHeartbeats 16000000 in
theorem traceOf_c (w : World) (pv rv : Value) (ps : List Prd) (rs : List Rul) (hp : predsAt w pv ps) (hr : rulesAt w rv rs) (hpe : progErr ps rs = 0) :
    Calls Tryz.prog 16 #[.agg #[pv, rv]] w fun e w' => ∃ u, e = .returned u ∧ stepsAt w' u (traceL ps rs) ∧ Below w.heap.size w w' := by
  obtain ⟨z1, z2, z3⟩ := Prog.parts_zero (Prog.prog_zero hpe).1
  obtain ⟨l1, l2⟩ := strat_some hpe
  have hre := rules_right hpe
  have HST : Hid (∀ x, Below w.heap.size w x → Calls Tryz.prog 33 #[.agg #[pv, rv]] x fun e w' => (∃ v, e = .returned v ∧ intsAt w' v (stratOf ps rs)) ∧ Below x.heap.size x w') := fun x hx => (Prog.strataOf_c x pv rv ps rs (predsAt.lasts hx hp) (rulesAt.lasts hx hr) z1 z2 z3).mono fun _ _ ⟨⟨v, h1, h2⟩, h3⟩ => ⟨⟨v, h1, h2 _ l1⟩, h3⟩
  have HD : Hid (∀ x, Below w.heap.size w x → predsAt x pv ps ∧ rulesAt x rv rs) := fun x hx => ⟨predsAt.lasts hx hp, rulesAt.lasts hx hr⟩
  have HAL : Hid (∀ x u f n, (hn : n < rs.length) → roundErr ps rs f = 0 → factsAt x u f → Below w.heap.size w x → Calls Tryz.prog 35 #[.agg #[pv, rv], u, .int .i64 (n : Int)] x fun e w' => ∃ v, e = .returned v ∧ stepsAt w' v (allL f rs[n] n) ∧ (∀ b, v.ownBlock = some b → x.heap.size ≤ b) ∧ Below x.heap.size x w') := fun x u f n hn he hf hx => allOf_n x pv rv u ps rs f n (HD.out x hx).1 (HD.out x hx).2 hf hre (right_parts he).2 hn
  have HHO : Hid (∀ x u f n, (hn : n < rs.length) → ∀ v, consts v = true → roundErr ps rs f = 0 → factsAt x u f → Below w.heap.size w x → Calls Tryz.prog 37 #[.agg #[pv, rv], u, .int .i64 (n : Int), .agg #[.int .i64 v.x, .int .i64 v.y, .int .i64 v.z]] x fun e w' => e = .returned (.tuple #[.bool (bodyOk f v rs[n].body), .agg #[.int .i64 (holdsF ps f rs[n] v).pred, .int .i64 (holdsF ps f rs[n] v).a, .int .i64 (holdsF ps f rs[n] v).b, .int .i64 (holdsF ps f rs[n] v).val]]) ∧ Below x.heap.size x w') := fun x u f n hn v hv he hf hx => Fire.holds_c x pv rv u ps rs f n v (HD.out x hx).1 (HD.out x hx).2 hf hre (right_parts he).2 hn hv
  have HAD : Hid (∀ x u f (y : Fct), roundErr ps rs f = 0 → factFine ps y = true → factsAt x u f → Below w.heap.size w x → Calls Tryz.prog 38 #[pv, u, .agg #[.int .i64 y.pred, .int .i64 y.a, .int .i64 y.b, .int .i64 y.val]] x fun e w' => ∃ u', e = .returned (.tuple #[u', .bool (addC (kindOf ps) y f)]) ∧ factsAt w' u' (addF (kindOf ps) y f) ∧ capNew x.heap.size u' ∧ Below x.heap.size x w') := fun x u f y he hy hf hx => Base.add_n x pv u ps f y.pred y.a y.b y.val (HD.out x hx).1 hf (right_parts he).2 hy
  have HRE : Hid (∀ r ∈ rs, ruleErr ps r = 0) := hre
  have HPR : Hid (∀ r ∈ rs, ∃ e : Nat, r.head.pred = (e : Int) ∧ e < (stratOf ps rs).length) := fun r hr' => by
    obtain ⟨k, hk, e⟩ := Rule.isPred_iff.1 (Rule.atom_right (Fire.rule_parts (hre r hr')).1).1
    exact ⟨k, e, by omega⟩
  have HRC : Hid (∀ x n, (hn : n < rs.length) → Below w.heap.size w x → ∃ rb ro rc, rv = .slice (some ⟨rb, ro, none⟩) rs.length rc ∧ rb < w.heap.size ∧ x.cell? ⟨rb, ro + n * 5, none⟩ = some (.int .i64 rs[n].head.pred)) := fun x n hn hx => by
    obtain ⟨rb, ro, rc, e, hb, hc⟩ := slice_cells hr hn
    exact ⟨rb, ro, rc, e, hb, (cell_lasts hx hb).trans hc.1⟩
  have HTP : Hid (∀ t, (traceTo ps rs t).2.length ≤ 2000) := fun t => by
    have h1 := (trace_pot hpe t).1
    have h2 := Naive.pot_le (right_parts (trace_right hpe t)).2
    rw [Naive.lim_is] at h2
    omega
  have HN5 : Hid (strataN (stratOf ps rs) ≤ 5) := Nat.le_trans (strata_le hpe) z1
  have HR0 : Hid (roundErr ps rs [] = 0) := nil_right hpe
  obtain ⟨pa, pc, rfl, _⟩ := hp
  obtain ⟨ra, rc, rfl, _⟩ := hr
  rw [traceL]
  clear l1 l2 z1 z2 z3 hpe hre
  obtain ⟨W1, hW1⟩ : ∃ W1, w.alloc (.cells #[.slice pa ps.length pc, .slice ra rs.length rc] 25) = W1 := ⟨_, rfl⟩
  have b1 : Below w.heap.size w W1 := by rw [← hW1]; exact below_alloc _ _
  have B1 : W1.cell? ⟨w.heap.size, 0, none⟩ = some (.slice pa ps.length pc) ∧ W1.cell? ⟨w.heap.size, 1, none⟩ = some (.slice ra rs.length rc) ∧ w.heap.size < W1.heap.size := by rw [← hW1]; exact ⟨by simp [go_sem], by simp [go_sem], by simp⟩
  go_enter Tryz.func16, Tryz.ntmps16
  go_wp2_with fail
  clear hW1
  refine (HST.out _ b1).mono ?_
  rintro e W2 ⟨⟨sv, rfl, hsi⟩, hb2⟩
  have k2 : Below w.heap.size w W2 := b1.trans (hb2.mono b1.size)
  have B2 := Prog.boxO hb2 B1
  have HSI : Hid (∀ x, Below W2.heap.size W2 x → intsAt x sv (stratOf ps rs)) := fun x hx => Prog.intsAt.lasts hx hsi
  obtain ⟨sa, sc, rfl, _⟩ := hsi
  go_wp2_with fail
  go_loopw [4, 5, 6] (fun f o i wr => ∃ (t : Nat) (u v : Value), u = f ∧ v = o ∧ t ≤ strataN (stratOf ps rs) ∧ i = .int .i64 t ∧ Hid (ToAt W2 ps rs u v (traceTo ps rs t).1 (traceTo ps rs t).2 wr)) (fun _ _ i _ => strataN (stratOf ps rs) - (intOf i).toNat)
  case atStart => exact ⟨0, _, _, rfl, rfl, Nat.zero_le _, rfl, ⟨Below.refl _ _, Base.facts_nil _, ⟨rfl, .inl ⟨rfl, rfl⟩⟩, .inl rfl, HR0.out⟩⟩
  case round =>
    obtain ⟨t, u, v, rfl, rfl, ht, rfl, hto⟩ := hrel
    go_wp2_with fail
    refine (most_c _ _ _ (HSI.out _ hto.out.bel)).mono ?_
    rintro e W3 ⟨rfl, rfl⟩
    by_cases hlt : t < strataN (stratOf ps rs)
    · have hlt' : (t : Int) ≤ (strataN (stratOf ps rs) : Int) - 1 := by omega
      have HSU : Hid ((traceTo ps rs (t + 1)).1 = finTF ps rs (t : Int) (traceTo ps rs t).1 ∧ (traceTo ps rs (t + 1)).2 = (traceTo ps rs t).2 ++ finTS ps rs (t : Int) (traceTo ps rs t).1) := ⟨rfl, rfl⟩
      have HL1 : Hid ((traceTo ps rs (t + 1)).2.length ≤ 2000) := HTP.out (t + 1)
      have ht5 : t < 5 := by have := HN5.out; omega
      generalize hF : (traceTo ps rs t).1 = F at *
      generalize hO : (traceTo ps rs t).2 = O at *
      clear hF hO
      go_wp2_with fail
      go_loopw [4, 5, 7] (fun fv o a wr => ∃ (b : Bool) (u v : Value) (f : List Fct) (out : List Stp), u = fv ∧ v = o ∧ a = .bool b ∧ Hid (ToAt W2 ps rs u v f out wr) ∧ Hid (finTF ps rs (t : Int) f = finTF ps rs (t : Int) F ∧ out ++ finTS ps rs (t : Int) f = O ++ finTS ps rs (t : Int) F ∧ (b = false → turnS ps rs (t : Int) f = []))) (fun fv _ a wr => toMu ps fv a wr)
      case atStart => exact ⟨true, u, v, F, O, rfl, rfl, rfl, hto, ⟨rfl, rfl, fun h => by cases h⟩⟩
      case round =>
        clear hto
        obtain ⟨b, u, v, f, out, rfl, rfl, rfl, hto, hfin⟩ := hrel
        cases b
        · obtain ⟨g1, g2⟩ := finT_stop (hfin.out.2.2 rfl)
          have HEN : Hid ((traceTo ps rs (t + 1)).1 = f ∧ (traceTo ps rs (t + 1)).2 = out) := by
            have h1 := hfin.out.1
            have h2 := hfin.out.2.1
            rw [g1] at h1
            rw [g2, List.append_nil] at h2
            exact ⟨by rw [HSU.out.1, ← h1], by rw [HSU.out.2, ← h2]⟩
          clear g1 g2
          go_wp2_with fail
          refine ⟨⟨t + 1, u, v, rfl, rfl, by omega, by go_num, ?_⟩, by simp [intOf]; omega⟩
          rw [HEN.out.1, HEN.out.2]
          exact hto
        · go_wp2_with fail
          have HLN : Hid (out.length + (turnS ps rs (t : Int) f).length ≤ 2000) := by
            have h1 := HL1.out
            have h2 := turn_le (s := (t : Int)) hto.out.rig
            have h3 := congrArg List.length hfin.out.2.1
            rw [HSU.out.2, List.length_append] at h1
            rw [List.length_append, List.length_append] at h3
            show _ ≤ _
            omega
          have HTL : Hid (Lev' ps rs (t : Int) f) := turn_lev hto.out.rig
          have HRI : Hid (∀ n, roundErr ps rs (passF ps rs (t : Int) f n) = 0) := fun n => (pass_lev hto.out.rig n).1.r1
          have HU0 : Hid (toMu ps u (.bool true) wr = 2 * (Naive.lim - Naive.pot ps f) + 1) := by show toMu ps u (.bool true) wr = _; unfold toMu; rw [Naive.left_eq hto.out.fac]; rfl
          have HTO0 : Hid (ToAt W2 ps rs u v f out wr) := hto.out
          go_loopw [4, 5, 7, 8] (fun fv o a i wr => ∃ (n : Nat) (u v : Value), u = fv ∧ v = o ∧ n ≤ rs.length ∧ a = .bool (!(passS ps rs (t : Int) f n).isEmpty) ∧ i = .int .i64 n ∧ Hid (ToAt W2 ps rs u v (passF ps rs (t : Int) f n) (out ++ passS ps rs (t : Int) f n) wr)) (fun _ _ _ i _ => rs.length - (intOf i).toNat)
          case atStart =>
            refine ⟨0, u, v, rfl, rfl, Nat.zero_le _, rfl, rfl, ?_⟩
            show Hid (ToAt W2 ps rs u v f (out ++ []) wr)
            rw [List.append_nil]
            exact HTO0
          case round =>
            clear HTO0 hto
            obtain ⟨n, u, v, rfl, rfl, hn, rfl, rfl, hto⟩ := hrel
            have kr : Below w.heap.size w wr := k2.trans (hto.out.bel.mono k2.size)
            obtain ⟨c0, c1, hNr⟩ := Prog.boxO hto.out.bel B2
            by_cases hnl : n < rs.length
            · obtain ⟨rb, ro, rc', hrv, hrb, t0⟩ := HRC.out wr n hnl kr
              obtain ⟨rfl, rfl⟩ : ra = some ⟨rb, ro, none⟩ ∧ rc = rc' := by simpa using hrv
              clear hrv
              obtain ⟨e, hpr, hel⟩ := HPR.out rs[n] (List.getElem_mem hnl)
              rw [hpr] at t0
              obtain ⟨lb, lo, lc, hlv, hlb, l0⟩ := slice_cells (HSI.out wr hto.out.bel) hel
              obtain ⟨rfl, rfl⟩ : sa = some ⟨lb, lo, none⟩ ∧ sc = lc := by simpa using hlv
              have l0' : wr.cell? ⟨lb, lo + e, none⟩ = some (.int .i64 ((stratOf ps rs)[e] : Int)) := by have := l0; rwa [Nat.mul_one] at this
              clear hlv l0
              have hea : (at_ (stratOf ps rs) rs[n].head.pred.toNat : Int) = ((stratOf ps rs)[e] : Int) := by
                rw [hpr, Int.toNat_natCast]
                unfold at_
                simp [hel]
              have hel' : (e : Int) < ((stratOf ps rs).length : Int) := by omega
              have hn0 : (n : Int) < (rs.length : Int) := by omega
              cases hS : ofS (stratOf ps rs) (t : Int) rs[n]
              · have hsx : (((stratOf ps rs)[e] : Int) == (t : Int)) = false := by
                  unfold ofS at hS
                  rw [hea] at hS
                  simpa using hS
                have HSN : Hid (passS ps rs (t : Int) f (n + 1) = passS ps rs (t : Int) f n ∧ passF ps rs (t : Int) f (n + 1) = passF ps rs (t : Int) f n) := ⟨passS_no hnl hS, passF_no hnl hS⟩
                clear hea hpr hS
                go_wp2_with fail
                refine ⟨⟨n + 1, u, v, rfl, rfl, by omega, by rw [HSN.out.1], by go_num, ?_⟩, by simp [intOf]; omega⟩
                rw [HSN.out.1, HSN.out.2]
                exact hto
              · have hsx : (((stratOf ps rs)[e] : Int) == (t : Int)) = true := by
                  unfold ofS at hS
                  rw [hea] at hS
                  simpa using hS
                have hst : ((stratOf ps rs)[e] : Int) = (t : Int) := by simpa using hsx
                rw [hst] at l0'
                have HSN : Hid (passS ps rs (t : Int) f (n + 1) = passS ps rs (t : Int) f n ++ ruleS ps rs[n] (passF ps rs (t : Int) f n) (allL (passF ps rs (t : Int) f n) rs[n] n) ∧ passF ps rs (t : Int) f (n + 1) = ruleF ps rs[n] (passF ps rs (t : Int) f n) (allL (passF ps rs (t : Int) f n) rs[n] n)) := ⟨passS_yes hnl hS, passF_yes hnl hS⟩
                have HLE : Hid ((passS ps rs (t : Int) f (n + 1)).length ≤ (turnS ps rs (t : Int) f).length) := passS_le ps rs (t : Int) f (by omega)
                have HRH : Hid (∀ k, (hk : k < (allL (passF ps rs (t : Int) f n) rs[n] n).length) → consts (allL (passF ps rs (t : Int) f n) rs[n] n)[k].vars = true ∧ roundErr ps rs (ruleF ps rs[n] (passF ps rs (t : Int) f n) ((allL (passF ps rs (t : Int) f n) rs[n] n).take k)) = 0 ∧ bodyOk (ruleF ps rs[n] (passF ps rs (t : Int) f n) ((allL (passF ps rs (t : Int) f n) rs[n] n).take k)) (allL (passF ps rs (t : Int) f n) rs[n] n)[k].vars rs[n].body = true) := fun k hk => rule_holds (List.getElem_mem hnl) (ofS_iff.1 hS) (HRI.out n) hk
                have HRK : Hid (∀ k, roundErr ps rs (ruleF ps rs[n] (passF ps rs (t : Int) f n) ((allL (passF ps rs (t : Int) f n) rs[n] n).take k)) = 0) := fun k => (rule_lev (List.getElem_mem hnl) (ofS_iff.1 hS) (HRI.out n) (fun t ht => (Fire.mem_all.1 (List.mem_of_mem_take ht)).2.1)).1.r1
                have HA1 := HAL.out wr u _ n hnl (HRI.out n) hto.out.fac kr
                have HH1 : Hid (∀ x u f, ∀ v, consts v = true → roundErr ps rs f = 0 → factsAt x u f → Below w.heap.size w x → Calls Tryz.prog 37 #[.agg #[.slice pa ps.length pc, .slice (some ⟨rb, ro, none⟩) rs.length rc], u, .int .i64 (n : Int), .agg #[.int .i64 v.x, .int .i64 v.y, .int .i64 v.z]] x fun e w' => e = .returned (.tuple #[.bool (bodyOk f v rs[n].body), .agg #[.int .i64 (holdsF ps f rs[n] v).pred, .int .i64 (holdsF ps f rs[n] v).a, .int .i64 (holdsF ps f rs[n] v).b, .int .i64 (holdsF ps f rs[n] v).val]]) ∧ Below x.heap.size x w') := fun x u f v => HHO.out x u f n hnl v
                have HFN : Hid (∀ f v, roundErr ps rs f = 0 → consts v = true → factFine ps (headF ps f rs[n] v) = true) := fun f v he hv => Round.head_fine (HRE.out _ (List.getElem_mem hnl)) (right_parts he).2 hv
                clear hea hpr hS hsx hst HRI HHO HAL
                generalize rs[n] = r at *
                generalize hPS : passS ps rs (t : Int) f n = PS at *
                generalize hPF : passF ps rs (t : Int) f n = G at *
                clear hPS hPF
                go_wp2_with fail
                refine HA1.mono ?_
                rintro ex w3 ⟨vt, rfl, hst, hnew, hb3⟩
                have hto3 := hto.out.lasts hb3
                have HT3 : Hid (ToAt W2 ps rs u v G (out ++ PS) w3) := hto3
                have HNW : Hid (∀ b, vt.ownBlock = some b → v.ownBlock ≠ some b) := fun b hb e => by
                  have h1 := hnew b hb
                  have h2 := (hto.out.row.lt b e).2
                  omega
                have HS3 : Hid (stepsAt w3 vt (allL G r n)) := hst
                obtain ⟨ta, tc, rfl, hal, _⟩ := hst
                have HLL0 : Hid (out.length + PS.length + (ruleS ps r G (allL G r n)).length ≤ 2000) := by
                  have h1 := HLE.out
                  have h2 := HLN.out
                  rw [HSN.out.1, List.length_append] at h1
                  show _ ≤ _
                  omega
                clear hto3 hnew c0 c1 HA1 t0 l0'
                go_wp2_with fail
                go_loopw [4, 5, 7, 10] (fun fv o a i wr3 => ∃ (k : Nat) (u3 v3 : Value), u3 = fv ∧ v3 = o ∧ k ≤ (allL G r n).length ∧ a = .bool (!PS.isEmpty || !(ruleS ps r G ((allL G r n).take k)).isEmpty) ∧ i = .int .i64 k ∧ Hid (ToAt W2 ps rs u3 v3 (ruleF ps r G ((allL G r n).take k)) (out ++ PS ++ ruleS ps r G ((allL G r n).take k)) wr3 ∧ stepsAt wr3 (.slice ta (allL G r n).length tc) (allL G r n) ∧ ∀ b, (Value.slice ta (allL G r n).length tc).ownBlock = some b → v3.ownBlock ≠ some b)) (fun _ _ _ i _ => (allL G r n).length - (intOf i).toNat)
                case atStart =>
                  refine ⟨0, u, v, rfl, rfl, Nat.zero_le _, ?_, rfl, ?_⟩
                  · rw [List.take_zero, ruleS]
                    simp
                  · rw [List.take_zero, ruleS, ruleF, List.append_nil]
                    exact ⟨HT3.out, HS3.out, HNW.out⟩
                case round =>
                  clear HT3 HS3 HNW
                  obtain ⟨k, u3, v3, rfl, rfl, hk, rfl, rfl, htq⟩ := hrel
                  have kr3 : Below w.heap.size w wr := k2.trans (htq.out.1.bel.mono k2.size)
                  obtain ⟨c0, c1, hNw⟩ := Prog.boxO htq.out.1.bel B2
                  by_cases hlt3 : k < (allL G r n).length
                  · have hk0 : (k : Int) < ((allL G r n).length : Int) := by omega
                    obtain ⟨tb, to_, tc', htv, htb, q0, q1, q2, q3⟩ := step_cells htq.out.2.1 hlt3
                    obtain ⟨rfl, rfl⟩ : ta = some ⟨tb, to_, none⟩ ∧ tc = tc' := by simpa using htv
                    obtain ⟨g1, g2, g3⟩ := HRH.out k hlt3
                    have HG4 : Hid (ruleF ps r G ((allL G r n).take (k + 1)) = addF (kindOf ps) (headF ps (ruleF ps r G ((allL G r n).take k)) r (allL G r n)[k].vars) (ruleF ps r G ((allL G r n).take k))) := by
                      show _ = _
                      rw [List.take_add_one, List.getElem?_eq_getElem hlt3, Option.toList_some, ruleF_snoc]
                      rfl
                    have HG5 : Hid (ruleS ps r G ((allL G r n).take (k + 1)) = ruleS ps r G ((allL G r n).take k) ++ if addC (kindOf ps) (headF ps (ruleF ps r G ((allL G r n).take k)) r (allL G r n)[k].vars) (ruleF ps r G ((allL G r n).take k)) then [(allL G r n)[k]] else []) := by
                      show _ = _
                      rw [List.take_add_one, List.getElem?_eq_getElem hlt3, Option.toList_some, ruleS_snoc]
                      rfl
                    have HHK : Hid (∀ x, Below wr.heap.size wr x → Calls Tryz.prog 37 #[.agg #[.slice pa ps.length pc, .slice (some ⟨rb, ro, none⟩) rs.length rc], u3, .int .i64 (n : Int), .agg #[.int .i64 (allL G r n)[k].x, .int .i64 (allL G r n)[k].y, .int .i64 (allL G r n)[k].z]] x fun e w' => e = .returned (.tuple #[.bool true, .agg #[.int .i64 (headF ps (ruleF ps r G ((allL G r n).take k)) r (allL G r n)[k].vars).pred, .int .i64 (headF ps (ruleF ps r G ((allL G r n).take k)) r (allL G r n)[k].vars).a, .int .i64 (headF ps (ruleF ps r G ((allL G r n).take k)) r (allL G r n)[k].vars).b, .int .i64 (headF ps (ruleF ps r G ((allL G r n).take k)) r (allL G r n)[k].vars).val]]) ∧ Below x.heap.size x w') := fun x hx => by
                      have h := HH1.out x u3 _ (allL G r n)[k].vars g1 g2 (factsAt.lasts hx htq.out.1.fac) (kr3.trans (hx.mono kr3.size))
                      rw [g3, show holdsF ps (ruleF ps r G ((allL G r n).take k)) r (allL G r n)[k].vars = headF ps (ruleF ps r G ((allL G r n).take k)) r (allL G r n)[k].vars by rw [holdsF, if_pos g3]] at h
                      exact h
                    have HFK : Hid (factFine ps (headF ps (ruleF ps r G ((allL G r n).take k)) r (allL G r n)[k].vars) = true) := HFN.out _ _ g2 g1
                    have HGQ : Hid (roundErr ps rs (ruleF ps r G ((allL G r n).take k)) = 0) := g2
                    have HRQ : Hid (roundErr ps rs (addF (kindOf ps) (headF ps (ruleF ps r G ((allL G r n).take k)) r (allL G r n)[k].vars) (ruleF ps r G ((allL G r n).take k))) = 0) := by
                      have h := HRK.out (k + 1)
                      rw [HG4.out] at h
                      exact h
                    have HLL : Hid ((out ++ PS ++ ruleS ps r G ((allL G r n).take k)).length ≤ 5000) := by
                      show _ ≤ _
                      have h1 := HLL0.out
                      have h2 := ruleS_le ps r (allL G r n) G k
                      rw [List.length_append, List.length_append]
                      omega
                    have HSK : Hid (∀ x, Below wr.heap.size wr x → x.cell? ⟨tb, to_ + k * 4, none⟩ = some (.int .i64 (allL G r n)[k].rule) ∧ x.cell? ⟨tb, to_ + k * 4 + 1, none⟩ = some (.int .i64 (allL G r n)[k].x) ∧ x.cell? ⟨tb, to_ + k * 4 + 2, none⟩ = some (.int .i64 (allL G r n)[k].y) ∧ x.cell? ⟨tb, to_ + k * 4 + 3, none⟩ = some (.int .i64 (allL G r n)[k].z)) := fun x hx => ⟨(cell_lasts hx htb).trans q0, (cell_lasts hx htb).trans q1, (cell_lasts hx htb).trans q2, (cell_lasts hx htb).trans q3⟩
                    clear htv g1 g2 g3
                    generalize (allL G r n)[k] = sk at *
                    generalize hfq : ruleF ps r G ((allL G r n).take k) = fq at *
                    generalize hsq : ruleS ps r G ((allL G r n).take k) = sq at *
                    clear hfq hsq
                    generalize headF ps fq r sk.vars = y at *
                    have KEEP : Hid (∀ w' : World, Below wr.heap.size wr w' → w'.cell? ⟨w.heap.size, 0, none⟩ = some (.slice pa ps.length pc) ∧ w'.cell? ⟨w.heap.size, 1, none⟩ = some (.slice (some ⟨rb, ro, none⟩) rs.length rc) ∧ w'.cell? ⟨tb, to_ + k * 4 + 1, none⟩ = some (.int .i64 sk.x) ∧ w'.cell? ⟨tb, to_ + k * 4 + 2, none⟩ = some (.int .i64 sk.y) ∧ w'.cell? ⟨tb, to_ + k * 4 + 3, none⟩ = some (.int .i64 sk.z)) := fun w' hx => ⟨(cell_lasts hx hNw).trans c0, (cell_lasts hx hNw).trans c1, (HSK.out w' hx).2.1, (HSK.out w' hx).2.2.1, (HSK.out w' hx).2.2.2⟩
                    have KA : Hid (Below wr.heap.size wr (wr.alloc (.cells #[.int .i64 0, .int .i64 0, .int .i64 0, .int .i64 0] 79))) := below_alloc _ _
                    have KS : Hid (∀ x, Below wr.heap.size wr x → ∀ y0 y1 y2 y3, Below wr.heap.size wr ((((x.setCell ⟨wr.heap.size, 0, none⟩ y0).setCell ⟨wr.heap.size, 1, none⟩ y1).setCell ⟨wr.heap.size, 2, none⟩ y2).setCell ⟨wr.heap.size, 3, none⟩ y3)) := fun x hx y0 y1 y2 y3 => Fire.below_four hx y0 y1 y2 y3
                    have KZ : Hid (∀ x, Below (wr.alloc (.cells #[.int .i64 0, .int .i64 0, .int .i64 0, .int .i64 0] 79)).drew.heap.size (wr.alloc (.cells #[.int .i64 0, .int .i64 0, .int .i64 0, .int .i64 0] 79)).drew x → x.cell? ⟨wr.heap.size, 0, none⟩ = some (.int .i64 0) ∧ x.cell? ⟨wr.heap.size, 1, none⟩ = some (.int .i64 0) ∧ x.cell? ⟨wr.heap.size, 2, none⟩ = some (.int .i64 0) ∧ x.cell? ⟨wr.heap.size, 3, none⟩ = some (.int .i64 0) ∧ ∀ o, x.frozen? ⟨wr.heap.size, o, none⟩ = false) := fun x hx => Fire.zero_box hx
                    clear q0 q1 q2 q3
                    go_wp2_with fail
                    clear c0 c1
                    go_region_held3 (fun w' => w'.cell? ⟨w.heap.size, 0, none⟩ = some (.slice pa ps.length pc) ∧ w'.cell? ⟨w.heap.size, 1, none⟩ = some (.slice (some ⟨rb, ro, none⟩) rs.length rc) ∧ w'.cell? ⟨tb, to_ + k * 4 + 1, none⟩ = some (.int .i64 sk.x) ∧ w'.cell? ⟨tb, to_ + k * 4 + 2, none⟩ = some (.int .i64 sk.y) ∧ w'.cell? ⟨tb, to_ + k * 4 + 3, none⟩ = some (.int .i64 sk.z))
                      (first | (refine KEEP.out _ ?_; (first | with_reducible exact Below.refl _ _ | with_reducible exact Below.drew (Below.refl _ _) | with_reducible exact hk | with_reducible exact KA.out | with_reducible exact Below.drew KA.out | with_reducible exact Below.alloc hk (Below.size hk) _ | with_reducible exact KS.out _ hk _ _ _ _)))
                      (first | (go_at_call 37; refine (HHK.out _ (KA.out.drew)).mono ?_; rintro ex w5 ⟨rfl, hb5⟩; have hk : Below wr.heap.size wr w5 := KA.out.trans ((((Below.refl _ _).drew).trans hb5).mono KA.out.size); obtain ⟨z0, z1, z2, z3, zf⟩ := KZ.out _ hb5) | (go_at_call 37; refine (HHK.out _ (Below.drew (Below.refl _ _))).mono ?_; rintro ex w5 ⟨rfl, hb5⟩; have hk : Below wr.heap.size wr w5 := ((Below.refl _ _).drew).trans hb5))
                    · obtain ⟨W6, hW6⟩ : ∃ W6, w5.alloc (.cells #[.int .i64 y.pred, .int .i64 y.a, .int .i64 y.b, .int .i64 y.val] 79) = W6 := ⟨_, rfl⟩
                      have k6 : Below wr.heap.size wr W6 := by rw [← hW6]; exact Below.alloc hk (Below.size hk) _
                      obtain ⟨y0, y1, y2, y3⟩ : W6.cell? ⟨w5.heap.size, 0, none⟩ = some (.int .i64 y.pred) ∧ W6.cell? ⟨w5.heap.size, 1, none⟩ = some (.int .i64 y.a) ∧ W6.cell? ⟨w5.heap.size, 2, none⟩ = some (.int .i64 y.b) ∧ W6.cell? ⟨w5.heap.size, 3, none⟩ = some (.int .i64 y.val) := by rw [← hW6]; simp [go_sem]
                      rw [hW6]
                      clear hW6
                      have kw6 : Below w.heap.size w W6 := kr3.trans (k6.mono kr3.size)
                      obtain ⟨c0, c1, q1, q2, q3⟩ := KEEP.out _ k6
                      have hto6 := htq.out.1.lasts k6
                      have HS6 : Hid (stepsAt W6 (.slice (some ⟨tb, to_, none⟩) (allL G r n).length tc) (allL G r n)) := Fire.stepsAt.lasts k6 htq.out.2.1
                      have q0 := (step_cells HS6.out hlt3)
                      have HA6 := HAD.out W6 u3 _ y HGQ.out HFK.out hto6.fac kw6
                      have HT6 : Hid (ToAt W2 ps rs u3 v3 fq (out ++ PS ++ sq) W6) := hto6
                      have HV6 : Hid (∀ g, v3.ownBlock = some g → g < W6.heap.size) := fun g hg => (hto6.row.lt g hg).2
                      clear hto6 q0
                      cases hsc : addC (kindOf ps) y fq
                      · have HF : Hid (addF (kindOf ps) y fq = fq) := Classical.byContradiction fun hne => by rw [(Base.addC_iff (x := y) (Base.right_of (right_parts HGQ.out).2)).2 hne] at hsc; cases hsc
                        have HG4' : Hid (ruleF ps r G ((allL G r n).take (k + 1)) = fq ∧ ruleS ps r G ((allL G r n).take (k + 1)) = sq) := ⟨by rw [HG4.out, HF.out], by rw [HG5.out, hsc]; simp⟩
                        rw [hsc] at HA6
                        go_wp2_with fail
                        refine HA6.mono ?_
                        rintro ex W7 ⟨u7, rfl, hf7, hc7, hb7⟩
                        have HT7 : Hid (ToAt W2 ps rs u3 v3 fq (out ++ PS ++ sq) W7) := HT6.out.lasts hb7
                        have HS7 : Hid (stepsAt W7 (.slice (some ⟨tb, to_, none⟩) (allL G r n).length tc) (allL G r n)) := Fire.stepsAt.lasts hb7 HS6.out
                        clear hf7 hc7
                        go_wp2_with fail
                        refine ⟨⟨k + 1, u3, v3, rfl, rfl, by omega, ?_, by go_num, ?_⟩, by simp [intOf]; omega⟩
                        · rw [HG4'.out.2]
                        · rw [HG4'.out.1, HG4'.out.2]
                          exact ⟨HT7.out, HS7.out, htq.out.2.2⟩
                      · have HG4' : Hid (ruleF ps r G ((allL G r n).take (k + 1)) = addF (kindOf ps) y fq ∧ out ++ PS ++ ruleS ps r G ((allL G r n).take (k + 1)) = out ++ PS ++ sq ++ [sk] ∧ (ruleS ps r G ((allL G r n).take (k + 1))).isEmpty = false) := ⟨HG4.out, by rw [HG5.out, hsc]; simp, by rw [HG5.out, hsc]; simp⟩
                        rw [hsc] at HA6
                        go_wp2_with fail
                        refine HA6.mono ?_
                        rintro ex W7 ⟨u7, rfl, hf7, hc7, hb7⟩
                        have HF7 : Hid (factsAt W7 u7 (addF (kindOf ps) y fq)) := hf7
                        have HO7 : Hid (W7.ownsRow W2.heap.size 64 4 v3 (out ++ PS ++ sq).length (cellsS (out ++ PS ++ sq))) := own_lasts HT6.out.row hb7
                        have HS7 : Hid (stepsAt W7 (.slice (some ⟨tb, to_, none⟩) (allL G r n).length tc) (allL G r n)) := Fire.stepsAt.lasts hb7 HS6.out
                        have HA7 : Hid (Apart u7 v3 (addF (kindOf ps) y fq)) := .inr fun b hb e => by
                          have h1 := hc7.2 b hb
                          have h2 := HV6.out b e
                          omega
                        have HB7 : Hid (Below W2.heap.size W2 W7) := HT6.out.bel.trans (hb7.mono HT6.out.bel.size)
                        have HTB : Hid (tb < W7.heap.size) := by show _ < _; have := k6.size; have := hb7.size; omega
                        have hw27 : W2.heap.size ≤ W7.heap.size := HB7.out.size
                        have HQ7 : Hid (W7.cell? ⟨tb, to_ + k * 4, none⟩ = some (.int .i64 sk.rule) ∧ W7.cell? ⟨tb, to_ + k * 4 + 1, none⟩ = some (.int .i64 sk.x) ∧ W7.cell? ⟨tb, to_ + k * 4 + 2, none⟩ = some (.int .i64 sk.y) ∧ W7.cell? ⟨tb, to_ + k * 4 + 3, none⟩ = some (.int .i64 sk.z)) := HSK.out W7 (k6.trans (hb7.mono k6.size))
                        obtain ⟨j0, j1, j2, j3⟩ := HQ7.out
                        clear hf7 hc7 c0 c1 q1 q2 q3
                        generalize hLL : out ++ PS ++ sq = LL at *
                        have hll : LL.length ≤ 5000 := HLL.out
                        clear hLL
                        go_wp2_with (at_builtin; refine wpList_append_stepN _ rfl _ _ rfl W2.heap.size v3 LL sk (own_lasts HO7.out (below_alloc _ _)) rfl W7.heap.size rfl 64 (World.alloc_heap_new W7 _) hll (by simp; omega) ?_; intro v8 w8 hown8 hgr8 hnew8)
                        refine ⟨⟨k + 1, u7, v8, rfl, rfl, by omega, ?_, by go_num, ?_⟩, by simp [intOf]; omega⟩
                        · rw [HG4'.out.2.2]
                          simp
                        · rw [HG4'.out.1, HG4'.out.2.1]
                          have hal := below_alloc W7 (.cells #[.int .i64 sk.rule, .int .i64 sk.x, .int .i64 sk.y, .int .i64 sk.z] 64)
                          exact ⟨⟨(HB7.out.alloc hw27 _).grown hgr8 (by simp; omega) (fun k hk => (HO7.out.lt k hk).1), facts_grown (factsAt.lasts hal HF7.out) hgr8 HA7.out, hown8, apart_grow HF7.out HA7.out (Nat.le_of_lt (by simp)) hnew8, HRQ.out⟩, steps_grown (Fire.stepsAt.lasts hal HS7.out) hgr8 htq.out.2.2, fun b hb e => by
                            rcases hnew8 b e with h1 | h1
                            · exact htq.out.2.2 b hb h1
                            · have := HTB.out
                              simp only [Value.ownBlock, Option.some.injEq] at hb
                              simp at h1
                              omega⟩
                    · obtain ⟨W6, hW6⟩ : ∃ W6, (((w5.setCell ⟨wr.heap.size, 0, none⟩ (.int .i64 y.pred)).setCell ⟨wr.heap.size, 1, none⟩ (.int .i64 y.a)).setCell ⟨wr.heap.size, 2, none⟩ (.int .i64 y.b)).setCell ⟨wr.heap.size, 3, none⟩ (.int .i64 y.val) = W6 := ⟨_, rfl⟩
                      have k6 : Below wr.heap.size wr W6 := by rw [← hW6]; exact KS.out _ hk _ _ _ _
                      obtain ⟨y0, y1, y2, y3⟩ : W6.cell? ⟨wr.heap.size, 0, none⟩ = some (.int .i64 y.pred) ∧ W6.cell? ⟨wr.heap.size, 1, none⟩ = some (.int .i64 y.a) ∧ W6.cell? ⟨wr.heap.size, 2, none⟩ = some (.int .i64 y.b) ∧ W6.cell? ⟨wr.heap.size, 3, none⟩ = some (.int .i64 y.val) := by rw [← hW6]; simp [go_sem, z0, z1, z2, z3]
                      rw [hW6]
                      clear hW6
                      have kw6 : Below w.heap.size w W6 := kr3.trans (k6.mono kr3.size)
                      obtain ⟨c0, c1, q1, q2, q3⟩ := KEEP.out _ k6
                      have hto6 := htq.out.1.lasts k6
                      have HS6 : Hid (stepsAt W6 (.slice (some ⟨tb, to_, none⟩) (allL G r n).length tc) (allL G r n)) := Fire.stepsAt.lasts k6 htq.out.2.1
                      have q0 := (step_cells HS6.out hlt3)
                      have HA6 := HAD.out W6 u3 _ y HGQ.out HFK.out hto6.fac kw6
                      have HT6 : Hid (ToAt W2 ps rs u3 v3 fq (out ++ PS ++ sq) W6) := hto6
                      have HV6 : Hid (∀ g, v3.ownBlock = some g → g < W6.heap.size) := fun g hg => (hto6.row.lt g hg).2
                      clear hto6 q0
                      cases hsc : addC (kindOf ps) y fq
                      · have HF : Hid (addF (kindOf ps) y fq = fq) := Classical.byContradiction fun hne => by rw [(Base.addC_iff (x := y) (Base.right_of (right_parts HGQ.out).2)).2 hne] at hsc; cases hsc
                        have HG4' : Hid (ruleF ps r G ((allL G r n).take (k + 1)) = fq ∧ ruleS ps r G ((allL G r n).take (k + 1)) = sq) := ⟨by rw [HG4.out, HF.out], by rw [HG5.out, hsc]; simp⟩
                        rw [hsc] at HA6
                        go_wp2_with fail
                        refine HA6.mono ?_
                        rintro ex W7 ⟨u7, rfl, hf7, hc7, hb7⟩
                        have HT7 : Hid (ToAt W2 ps rs u3 v3 fq (out ++ PS ++ sq) W7) := HT6.out.lasts hb7
                        have HS7 : Hid (stepsAt W7 (.slice (some ⟨tb, to_, none⟩) (allL G r n).length tc) (allL G r n)) := Fire.stepsAt.lasts hb7 HS6.out
                        clear hf7 hc7
                        go_wp2_with fail
                        refine ⟨⟨k + 1, u3, v3, rfl, rfl, by omega, ?_, by go_num, ?_⟩, by simp [intOf]; omega⟩
                        · rw [HG4'.out.2]
                        · rw [HG4'.out.1, HG4'.out.2]
                          exact ⟨HT7.out, HS7.out, htq.out.2.2⟩
                      · have HG4' : Hid (ruleF ps r G ((allL G r n).take (k + 1)) = addF (kindOf ps) y fq ∧ out ++ PS ++ ruleS ps r G ((allL G r n).take (k + 1)) = out ++ PS ++ sq ++ [sk] ∧ (ruleS ps r G ((allL G r n).take (k + 1))).isEmpty = false) := ⟨HG4.out, by rw [HG5.out, hsc]; simp, by rw [HG5.out, hsc]; simp⟩
                        rw [hsc] at HA6
                        go_wp2_with fail
                        refine HA6.mono ?_
                        rintro ex W7 ⟨u7, rfl, hf7, hc7, hb7⟩
                        have HF7 : Hid (factsAt W7 u7 (addF (kindOf ps) y fq)) := hf7
                        have HO7 : Hid (W7.ownsRow W2.heap.size 64 4 v3 (out ++ PS ++ sq).length (cellsS (out ++ PS ++ sq))) := own_lasts HT6.out.row hb7
                        have HS7 : Hid (stepsAt W7 (.slice (some ⟨tb, to_, none⟩) (allL G r n).length tc) (allL G r n)) := Fire.stepsAt.lasts hb7 HS6.out
                        have HA7 : Hid (Apart u7 v3 (addF (kindOf ps) y fq)) := .inr fun b hb e => by
                          have h1 := hc7.2 b hb
                          have h2 := HV6.out b e
                          omega
                        have HB7 : Hid (Below W2.heap.size W2 W7) := HT6.out.bel.trans (hb7.mono HT6.out.bel.size)
                        have HTB : Hid (tb < W7.heap.size) := by show _ < _; have := k6.size; have := hb7.size; omega
                        have hw27 : W2.heap.size ≤ W7.heap.size := HB7.out.size
                        have HQ7 : Hid (W7.cell? ⟨tb, to_ + k * 4, none⟩ = some (.int .i64 sk.rule) ∧ W7.cell? ⟨tb, to_ + k * 4 + 1, none⟩ = some (.int .i64 sk.x) ∧ W7.cell? ⟨tb, to_ + k * 4 + 2, none⟩ = some (.int .i64 sk.y) ∧ W7.cell? ⟨tb, to_ + k * 4 + 3, none⟩ = some (.int .i64 sk.z)) := HSK.out W7 (k6.trans (hb7.mono k6.size))
                        obtain ⟨j0, j1, j2, j3⟩ := HQ7.out
                        clear hf7 hc7 c0 c1 q1 q2 q3
                        generalize hLL : out ++ PS ++ sq = LL at *
                        have hll : LL.length ≤ 5000 := HLL.out
                        clear hLL
                        go_wp2_with (at_builtin; refine wpList_append_stepN _ rfl _ _ rfl W2.heap.size v3 LL sk (own_lasts HO7.out (below_alloc _ _)) rfl W7.heap.size rfl 64 (World.alloc_heap_new W7 _) hll (by simp; omega) ?_; intro v8 w8 hown8 hgr8 hnew8)
                        refine ⟨⟨k + 1, u7, v8, rfl, rfl, by omega, ?_, by go_num, ?_⟩, by simp [intOf]; omega⟩
                        · rw [HG4'.out.2.2]
                          simp
                        · rw [HG4'.out.1, HG4'.out.2.1]
                          have hal := below_alloc W7 (.cells #[.int .i64 sk.rule, .int .i64 sk.x, .int .i64 sk.y, .int .i64 sk.z] 64)
                          exact ⟨⟨(HB7.out.alloc hw27 _).grown hgr8 (by simp; omega) (fun k hk => (HO7.out.lt k hk).1), facts_grown (factsAt.lasts hal HF7.out) hgr8 HA7.out, hown8, apart_grow HF7.out HA7.out (Nat.le_of_lt (by simp)) hnew8, HRQ.out⟩, steps_grown (Fire.stepsAt.lasts hal HS7.out) hgr8 htq.out.2.2, fun b hb e => by
                            rcases hnew8 b e with h1 | h1
                            · exact htq.out.2.2 b hb h1
                            · have := HTB.out
                              simp only [Value.ownBlock, Option.some.injEq] at hb
                              simp at h1
                              omega⟩
                  · obtain rfl : k = (allL G r n).length := by omega
                    have HTK : Hid (ToAt W2 ps rs u3 v3 (ruleF ps r G (allL G r n)) (out ++ PS ++ ruleS ps r G (allL G r n)) wr) := by
                      have h := htq.out.1
                      rw [List.take_length] at h
                      exact h
                    rw [List.take_length]
                    go_wp2_with fail
                    refine ⟨⟨n + 1, u3, v3, rfl, rfl, by omega, ?_, by go_num, ?_⟩, by simp [intOf]; omega⟩
                    · rw [HSN.out.1]
                      cases PS <;> simp
                    · rw [HSN.out.1, HSN.out.2, ← List.append_assoc]
                      exact HTK
            · obtain rfl : n = rs.length := by omega
              have HFE : Hid (finTF ps rs (t : Int) (turnF ps rs (t : Int) f) = finTF ps rs (t : Int) F ∧ out ++ turnS ps rs (t : Int) f ++ finTS ps rs (t : Int) (turnF ps rs (t : Int) f) = O ++ finTS ps rs (t : Int) F ∧ ((!(turnS ps rs (t : Int) f).isEmpty) = false → turnS ps rs (t : Int) (turnF ps rs (t : Int) f) = [])) := by
                obtain ⟨q1, q2, q3, q4⟩ := HTL.out
                refine ⟨?_, ?_, fun h => ?_⟩
                · rw [← hfin.out.1]
                  by_cases hc : turnS ps rs (t : Int) f = []
                  · rw [q3 hc]
                  · rw [(finT_step q1.r0 hc).1]
                · rw [← hfin.out.2.1, List.append_assoc]
                  by_cases hc : turnS ps rs (t : Int) f = []
                  · rw [q3 hc, hc]; rfl
                  · rw [(finT_step q1.r0 hc).2]
                · have hc : turnS ps rs (t : Int) f = [] := by simpa using h
                  rw [q3 hc]
                  exact hc
              have HMU : Hid (toMu ps u (.bool (!(turnS ps rs (t : Int) f).isEmpty)) wr < 2 * (Naive.lim - Naive.pot ps f) + 1) := by
                obtain ⟨q1, q2, q3, q4⟩ := HTL.out
                show _ < _
                unfold toMu
                rw [Naive.left_eq hto.out.fac]
                have h1 := Naive.pot_le (right_parts q1.r1).2
                show 2 * (Naive.lim - Naive.pot ps (turnF ps rs (t : Int) f)) + isT (.bool (!(turnS ps rs (t : Int) f).isEmpty)) < _
                by_cases hc : turnS ps rs (t : Int) f = []
                · rw [hc, q3 hc]
                  show _ + 0 < _
                  omega
                · have h2 : 0 < (turnS ps rs (t : Int) f).length := List.length_pos_iff.2 hc
                  have h3 : isT (.bool (!(turnS ps rs (t : Int) f).isEmpty)) ≤ 1 := by
                    cases (!(turnS ps rs (t : Int) f).isEmpty)
                    · exact Nat.zero_le _
                    · exact Nat.le_refl _
                  omega
              have HTT : Hid (ToAt W2 ps rs u v (turnF ps rs (t : Int) f) (out ++ turnS ps rs (t : Int) f) wr) := hto.out
              have hps : passS ps rs (t : Int) f rs.length = turnS ps rs (t : Int) f := rfl
              rw [hps]
              clear hps
              generalize (!(turnS ps rs (t : Int) f).isEmpty) = bb at *
              go_wp2_with fail
              exact ⟨⟨bb, u, v, _, _, rfl, rfl, rfl, HTT, HFE⟩, Nat.lt_of_lt_of_eq HMU.out HU0.out.symm⟩
    · obtain rfl : t = strataN (stratOf ps rs) := by omega
      have hge : ¬ ((strataN (stratOf ps rs) : Nat) : Int) ≤ ((strataN (stratOf ps rs) : Nat) : Int) - 1 := by omega
      have HX : Hid (stepsAt W3 v (traceTo ps rs (strataN (stratOf ps rs))).2) := Fire.stepsAt_of hto.out.row (by have := HTP.out (strataN (stratOf ps rs)); omega)
      have HXB : Hid (Below w.heap.size w W3) := k2.trans (hto.out.bel.mono k2.size)
      go_wp2_with fail
      go_ret
      exact ⟨_, rfl, HX.out, HXB.out⟩
end Go.Proofs.YtlfccloaoopadaeGreat.Trace
