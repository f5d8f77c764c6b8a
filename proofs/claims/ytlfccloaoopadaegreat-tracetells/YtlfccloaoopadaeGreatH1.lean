/-
  As FireRef8, and more: what the document's own AllOf answers lies in a block that is not older than the call.
-/
import Derived.Test.YtlfccloaoopadaeGreatG10
namespace Go.Proofs.YtlfccloaoopadaeGreat.Fire
open Go.ChangeShapes Go.WideShapes Go.ChangeAt Go.RowKit
open Base (factsErr own_lasts own_lt)
open Rule (Vars asked ruleErr)
open Prog (slice_cells)
open Base (grown_below)

set_option maxRecDepth 100000 in
set_option maxHeartbeats 16000000 in
theorem allOf_n (w : World) (pv rv fv : Value) (ps : List Prd) (rs : List Rul) (f : List Fct) (n : Nat) (hp : predsAt w pv ps) (hr : rulesAt w rv rs) (hf : factsAt w fv f) (hpe : ∀ r ∈ rs, ruleErr ps r = 0) (hfe : factsErr ps f = 0) (hn : n < rs.length) :
    Calls Tryz.prog 35 #[.agg #[pv, rv], fv, .int .i64 (n : Int)] w fun e w' => ∃ v, e = .returned v ∧ stepsAt w' v (allL f rs[n] n) ∧ (∀ b, v.ownBlock = some b → w.heap.size ≤ b) ∧ Below w.heap.size w w' := by
  have HP : Hid (∀ x, Below w.heap.size w x → predsAt x pv ps) := fun x hx => predsAt.lasts hx hp
  have HR : Hid (∀ x, Below w.heap.size w x → rulesAt x rv rs) := fun x hx => rulesAt.lasts hx hr
  have HF : Hid (∀ x, Below w.heap.size w x → factsAt x fv f) := fun x hx => factsAt.lasts hx hf
  have HPE : Hid ((∀ r ∈ rs, ruleErr ps r = 0) ∧ factsErr ps f = 0) := ⟨hpe, hfe⟩
  obtain ⟨rb, ro, rc, rfl, hrb, hcells⟩ := slice_cells hr hn
  obtain ⟨pa, pc, rfl, hpm, hpx⟩ := hp
  obtain ⟨fa, fc, rfl, hfm, hfx⟩ := hf
  obtain ⟨t0, ⟨av, t1, t1'⟩, t2, t3, bv, t4, t5⟩ := hcells
  clear hpx hfx hpe hfe hr
  have HH : Hid (∀ x v, Below w.heap.size w x → consts v = true → Calls Tryz.prog 37 #[.agg #[.slice pa ps.length pc, .slice (some ⟨rb, ro, none⟩) rs.length rc], .slice fa f.length fc, .int .i64 (n : Int), .agg #[.int .i64 v.x, .int .i64 v.y, .int .i64 v.z]] x fun e w' => e = .returned (.tuple #[.bool (bodyOk f v rs[n].body), .agg #[.int .i64 (holdsF ps f rs[n] v).pred, .int .i64 (holdsF ps f rs[n] v).a, .int .i64 (holdsF ps f rs[n] v).b, .int .i64 (holdsF ps f rs[n] v).val]]) ∧ Below x.heap.size x w') := fun x v hx hv =>
    holds_c x _ _ _ ps rs f n v (HP.out x hx) (HR.out x hx) (HF.out x hx) HPE.out.1 HPE.out.2 hn hv
  clear HP HR HF HPE
  have hn0 : (0 : Int) ≤ (n : Int) := by omega
  have hn1 : (n : Int) < (rs.length : Int) := by omega
  generalize hre : rs[n] = r at *
  obtain ⟨ha, hc, rfl, hhm, hhx⟩ := id t1'
  clear hhx
  go_enter Tryz.func35, Tryz.ntmps35
  go_wp2_with fail
  refine (stand_c _ r _ _ _ (termsAt.lasts (below_alloc _ _) t1') (litsAt.lasts (below_alloc _ _) t5)).mono ?_
  rintro e w1 ⟨rfl, hb1⟩
  have hb : Below w.heap.size w w1 := below_trans (below_alloc _ _) hb1
  have hbox : w1.cell? ⟨w.heap.size, 0, none⟩ = some (.slice pa ps.length pc) ∧ w1.cell? ⟨w.heap.size, 1, none⟩ = some (.slice (some ⟨rb, ro, none⟩) rs.length rc) :=
    ⟨by rw [hb1.cell (p := ⟨w.heap.size, 0, none⟩) (by simp)]; simp [go_sem], by rw [hb1.cell (p := ⟨w.heap.size, 1, none⟩) (by simp)]; simp [go_sem]⟩
  have hs1 : w.heap.size < w1.heap.size := by have := hb1.size; simp at this; omega
  clear hb1 t0 t1 t2 t3 t4 t5 t1'
  go_wp2_with fail
  obtain ⟨W2, hW2⟩ : ∃ W2, w1.alloc (.cells #[.bool (asked r 0), .bool (asked r 1), .bool (asked r 2)] 125) = W2 := ⟨_, rfl⟩
  have s2 : W2.heap.size = w1.heap.size + 1 := by rw [← hW2]; simp
  have HQ : Hid (∀ x, Below (w1.heap.size + 1) W2 x → x.cell? ⟨w.heap.size, 0, none⟩ = some (.slice pa ps.length pc) ∧ x.cell? ⟨w.heap.size, 1, none⟩ = some (.slice (some ⟨rb, ro, none⟩) rs.length rc) ∧ x.cell? ⟨w1.heap.size, 0, none⟩ = some (.bool (asked r 0)) ∧ x.cell? ⟨w1.heap.size, 1, none⟩ = some (.bool (asked r 1)) ∧ x.cell? ⟨w1.heap.size, 2, none⟩ = some (.bool (asked r 2)) ∧ Below w.heap.size w x) := fun x hx => by
    subst hW2
    have e : Below w1.heap.size w1 x := (below_alloc _ _).trans (hx.mono (by omega))
    exact ⟨(cell_lasts e hs1).trans hbox.1, (cell_lasts e hs1).trans hbox.2, by rw [hx.cell (p := ⟨w1.heap.size, 0, none⟩) (by simp)]; simp [go_sem], by rw [hx.cell (p := ⟨w1.heap.size, 1, none⟩) (by simp)]; simp [go_sem], by rw [hx.cell (p := ⟨w1.heap.size, 2, none⟩) (by simp)]; simp [go_sem], hb.trans (e.mono hb.size)⟩
  rw [hW2]
  clear hW2 hbox hb
  generalize w1.heap.size = B at *
  go_loopw [7, 9] (fun o i wr => ∃ (a : Nat) (vv : Value), vv = o ∧ a ≤ 5 ∧ i = .int .i64 a ∧ wr.ownsRow (B + 1) 64 4 vv (stepsA f r n a).length (cellsS (stepsA f r n a)) ∧ Below (B + 1) W2 wr) (fun _ i _ => 5 - (intOf i).toNat)
  case atStart => exact ⟨0, _, rfl, by omega, rfl, World.ownsRow_nil _ _ _ _, Below.refl _ _⟩
  case round =>
    obtain ⟨a, vv, rfl, ha5, rfl, hown, hbr⟩ := hrel
    by_cases hal : a < 5
    · have ga4 : (a : Int) ≤ 4 := by omega
      have HO : Hid (wr.ownsRow (B + 1) 64 4 vv (stepsA f r n a).length (cellsS (stepsA f r n a))) := hown
      clear hown
      go_wp2_with fail
      go_loopw [7, 10] (fun o i wr => ∃ (b : Nat) (vv : Value), vv = o ∧ b ≤ 5 ∧ i = .int .i64 b ∧ wr.ownsRow (B + 1) 64 4 vv (stepsA f r n a ++ stepsB f r n a b).length (cellsS (stepsA f r n a ++ stepsB f r n a b)) ∧ Below (B + 1) W2 wr) (fun _ i _ => 5 - (intOf i).toNat)
      case atStart => exact ⟨0, _, rfl, by omega, rfl, by rw [show stepsB f r n a 0 = [] from rfl, List.append_nil]; exact HO.out, hbr⟩
      case round =>
        clear HO hbr
        obtain ⟨b, vv, rfl, hb5, rfl, hown, hbr⟩ := hrel
        by_cases hbl : b < 5
        · have gb4 : (b : Int) ≤ 4 := by omega
          have HO : Hid (wr.ownsRow (B + 1) 64 4 vv (stepsA f r n a ++ stepsB f r n a b).length (cellsS (stepsA f r n a ++ stepsB f r n a b))) := hown
          clear hown
          go_wp2_with fail
          go_loopw [7, 11] (fun o i wr => ∃ (c : Nat) (vv : Value), vv = o ∧ c ≤ 5 ∧ i = .int .i64 c ∧ wr.ownsRow (B + 1) 64 4 vv (stepsA f r n a ++ stepsB f r n a b ++ stepsC f r n a b c).length (cellsS (stepsA f r n a ++ stepsB f r n a b ++ stepsC f r n a b c)) ∧ Below (B + 1) W2 wr) (fun _ i _ => 5 - (intOf i).toNat)
          case atStart => exact ⟨0, _, rfl, by omega, rfl, by rw [show stepsC f r n a b 0 = [] from rfl, List.append_nil]; exact HO.out, hbr⟩
          case round =>
            clear HO hbr
            obtain ⟨c, vv, rfl, hc5, rfl, hown, hbr⟩ := hrel
            by_cases hcl : c < 5
            · have gc4 : (c : Int) ≤ 4 := by omega
              have HLEN : Hid ((stepsA f r n a ++ stepsB f r n a b ++ stepsC f r n a b c).length ≤ 500) := by
                have h1 := stepsA_len f r n a
                have h2 := stepsB_len f r n a b
                have h3 := stepsC_len f r n a b c
                show _ ≤ _
                simp only [List.length_append]
                omega
              have HS : Hid (∀ o, okAt f r a b c = o → stepsA f r n a ++ stepsB f r n a b ++ stepsC f r n a b (c + 1) = stepsA f r n a ++ stepsB f r n a b ++ stepsC f r n a b c ++ if o then [⟨n, a, b, c⟩] else []) := fun o ho => by rw [stepsC_succ, ho]; simp only [List.append_assoc]
              generalize stepsA f r n a ++ stepsB f r n a b ++ stepsC f r n a b c = O at *
              have HO : Hid (wr.ownsRow (B + 1) 64 4 vv O.length (cellsS O)) := hown
              clear hown
              obtain ⟨y0, y1, y2, y3, y4, hbw⟩ := HQ.out _ hbr
              have HCON : Hid (consts ⟨(a : Int), (b : Int), (c : Int)⟩ = true) := by
                show _ = _
                simp [consts, Lat.within]
                omega
              have HOK : Hid (okAt f r a b c = ((decide (a = 0) || asked r 0) && (decide (b = 0) || asked r 1) && (decide (c = 0) || asked r 2) && bodyOk f ⟨a, b, c⟩ r.body)) := rfl
              have ppa : (Hid (a = 0) ∧ ¬ (0 : Int) < (a : Int)) ∨ (Hid (¬ a = 0) ∧ (0 : Int) < (a : Int)) := by by_cases h : a = 0; exact .inl ⟨h, by omega⟩; exact .inr ⟨h, by omega⟩
              have ppb : (Hid (b = 0) ∧ ¬ (0 : Int) < (b : Int)) ∨ (Hid (¬ b = 0) ∧ (0 : Int) < (b : Int)) := by by_cases h : b = 0; exact .inl ⟨h, by omega⟩; exact .inr ⟨h, by omega⟩
              have ppc : (Hid (c = 0) ∧ ¬ (0 : Int) < (c : Int)) ∨ (Hid (¬ c = 0) ∧ (0 : Int) < (c : Int)) := by by_cases h : c = 0; exact .inl ⟨h, by omega⟩; exact .inr ⟨h, by omega⟩
              have hsB : B + 1 ≤ wr.heap.size := by have := hbr.size; omega
              have Z : ∀ o, (wr.alloc o).cell? ⟨w.heap.size, 0, none⟩ = some (.slice pa ps.length pc) ∧ (wr.alloc o).cell? ⟨w.heap.size, 1, none⟩ = some (.slice (some ⟨rb, ro, none⟩) rs.length rc) := fun o => by
                obtain ⟨z0, z1, _⟩ := HQ.out _ (hbr.alloc hsB o)
                exact ⟨z0, z1⟩
              rcases ppa with ⟨ea, ga⟩ | ⟨ea, ga⟩
              · skip
                rcases ppb with ⟨eb, gb⟩ | ⟨eb, gb⟩
                · skip
                  rcases ppc with ⟨ec, gc⟩ | ⟨ec, gc⟩
                  · skip
                    have HG : Hid (okAt f r a b c = bodyOk f ⟨a, b, c⟩ r.body) := by show _ = _; rw [HOK.out]; simp [ea.out, eb.out, ec.out]
                    clear HOK
                    go_wp2_with fail
                    clear Z y0 y1 y2 y3 y4
                    have hbr2 : Below (B + 1) W2 (wr.alloc (.cells #[.int .i64 (a : Int), .int .i64 (b : Int), .int .i64 (c : Int)] 62)) := hbr.alloc hsB _
                    have hbx : Below wr.heap.size wr (wr.alloc (.cells #[.int .i64 (a : Int), .int .i64 (b : Int), .int .i64 (c : Int)] 62)) := below_alloc _ _
                    refine (HH.out _ ⟨a, b, c⟩ (HQ.out _ hbr2).2.2.2.2.2 HCON.out).mono ?_
                    rintro e w4 ⟨rfl, hb4⟩
                    have v0 : w4.cell? ⟨wr.heap.size, 0, none⟩ = some (.int .i64 (a : Int)) := by rw [hb4.cell (p := ⟨wr.heap.size, 0, none⟩) (by simp)]; simp [go_sem]
                    have v1 : w4.cell? ⟨wr.heap.size, 1, none⟩ = some (.int .i64 (b : Int)) := by rw [hb4.cell (p := ⟨wr.heap.size, 1, none⟩) (by simp)]; simp [go_sem]
                    have v2 : w4.cell? ⟨wr.heap.size, 2, none⟩ = some (.int .i64 (c : Int)) := by rw [hb4.cell (p := ⟨wr.heap.size, 2, none⟩) (by simp)]; simp [go_sem]
                    have s4 : wr.heap.size < w4.heap.size := by have := hb4.size; simp at this; omega
                    have hbr4 : Below (B + 1) W2 w4 := hbr2.trans (hb4.mono (by simp; omega))
                    have HO4 : Hid (w4.ownsRow (B + 1) 64 4 vv O.length (cellsS O)) := own_lasts (own_lasts HO.out hbx) hb4
                    clear hb4 hbr2 hbx HO
                    generalize holdsF ps f r ⟨a, b, c⟩ = hx at *
                    cases hbo : bodyOk f ⟨a, b, c⟩ r.body
                    · have HN : Hid (stepsA f r n a ++ stepsB f r n a b ++ stepsC f r n a b (c + 1) = O) := by show _ = _; rw [HS.out false (HG.out.trans hbo), if_neg (by simp), List.append_nil]
                      clear HS HG
                      go_wp2_with fail
                      exact ⟨⟨c + 1, _, rfl, by omega, by go_num, by rw [HN.out]; exact own_lasts HO4.out (below_alloc _ _), hbr4.alloc (by omega) _⟩, by simp [intOf]; omega⟩
                    · have HN : Hid (stepsA f r n a ++ stepsB f r n a b ++ stepsC f r n a b (c + 1) = O ++ [⟨n, a, b, c⟩]) := by show _ = _; rw [HS.out true (HG.out.trans hbo), if_pos rfl]
                      clear HS HG
                      go_wp2_with (at_builtin; refine wpList_append_step _ rfl _ _ rfl (B + 1) vv O ⟨n, a, b, c⟩ (own_lasts (own_lasts HO4.out (below_alloc _ _)) (below_alloc _ _)) rfl (w4.heap.size + 1) rfl 64 (by have h := heap_alloc_new (w4.alloc (.cells #[.int .i64 hx.pred, .int .i64 hx.a, .int .i64 hx.b, .int .i64 hx.val] 79)) (.cells #[.int .i64 (n : Int), .int .i64 (a : Int), .int .i64 (b : Int), .int .i64 (c : Int)] 64); rw [World.size_alloc] at h; exact h) HLEN.out (by simp; omega) ?_; intro v5 w5 hown5 hgr5; have hx5 : Below (B + 1) W2 w5 := grown_below ((hbr4.alloc (by omega) _).alloc (by simp; omega) _) (own_lasts (own_lasts HO4.out (below_alloc _ _)) (below_alloc _ _)) hgr5 (by simp; omega))
                      exact ⟨⟨c + 1, _, rfl, by omega, by go_num, by rw [HN.out]; exact hown5, hx5⟩, by simp [intOf]; omega⟩
                  · cases hkc : asked r 2
                    · rw [hkc] at y4
                      have HB : Hid (okAt f r a b c = false) := by show _ = _; rw [HOK.out]; simp [ec.out, hkc]
                      have HN : Hid (wr.ownsRow (B + 1) 64 4 vv (stepsA f r n a ++ stepsB f r n a b ++ stepsC f r n a b (c + 1)).length (cellsS (stepsA f r n a ++ stepsB f r n a b ++ stepsC f r n a b (c + 1)))) := by rw [HS.out false HB.out, if_neg (by simp), List.append_nil]; exact HO.out
                      clear HO HS HOK HB HCON Z
                      go_wp2_with fail
                      exact ⟨⟨c + 1, _, rfl, by omega, by go_num, HN.out, hbr⟩, by simp [intOf]; omega⟩
                    · rw [hkc] at y4
                      have HG : Hid (okAt f r a b c = bodyOk f ⟨a, b, c⟩ r.body) := by show _ = _; rw [HOK.out]; simp [ea.out, eb.out, ec.out, hkc]
                      clear HOK
                      go_wp2_with fail
                      clear Z y0 y1 y2 y3 y4
                      have hbr2 : Below (B + 1) W2 (wr.alloc (.cells #[.int .i64 (a : Int), .int .i64 (b : Int), .int .i64 (c : Int)] 62)) := hbr.alloc hsB _
                      have hbx : Below wr.heap.size wr (wr.alloc (.cells #[.int .i64 (a : Int), .int .i64 (b : Int), .int .i64 (c : Int)] 62)) := below_alloc _ _
                      refine (HH.out _ ⟨a, b, c⟩ (HQ.out _ hbr2).2.2.2.2.2 HCON.out).mono ?_
                      rintro e w4 ⟨rfl, hb4⟩
                      have v0 : w4.cell? ⟨wr.heap.size, 0, none⟩ = some (.int .i64 (a : Int)) := by rw [hb4.cell (p := ⟨wr.heap.size, 0, none⟩) (by simp)]; simp [go_sem]
                      have v1 : w4.cell? ⟨wr.heap.size, 1, none⟩ = some (.int .i64 (b : Int)) := by rw [hb4.cell (p := ⟨wr.heap.size, 1, none⟩) (by simp)]; simp [go_sem]
                      have v2 : w4.cell? ⟨wr.heap.size, 2, none⟩ = some (.int .i64 (c : Int)) := by rw [hb4.cell (p := ⟨wr.heap.size, 2, none⟩) (by simp)]; simp [go_sem]
                      have s4 : wr.heap.size < w4.heap.size := by have := hb4.size; simp at this; omega
                      have hbr4 : Below (B + 1) W2 w4 := hbr2.trans (hb4.mono (by simp; omega))
                      have HO4 : Hid (w4.ownsRow (B + 1) 64 4 vv O.length (cellsS O)) := own_lasts (own_lasts HO.out hbx) hb4
                      clear hb4 hbr2 hbx HO
                      generalize holdsF ps f r ⟨a, b, c⟩ = hx at *
                      cases hbo : bodyOk f ⟨a, b, c⟩ r.body
                      · have HN : Hid (stepsA f r n a ++ stepsB f r n a b ++ stepsC f r n a b (c + 1) = O) := by show _ = _; rw [HS.out false (HG.out.trans hbo), if_neg (by simp), List.append_nil]
                        clear HS HG
                        go_wp2_with fail
                        exact ⟨⟨c + 1, _, rfl, by omega, by go_num, by rw [HN.out]; exact own_lasts HO4.out (below_alloc _ _), hbr4.alloc (by omega) _⟩, by simp [intOf]; omega⟩
                      · have HN : Hid (stepsA f r n a ++ stepsB f r n a b ++ stepsC f r n a b (c + 1) = O ++ [⟨n, a, b, c⟩]) := by show _ = _; rw [HS.out true (HG.out.trans hbo), if_pos rfl]
                        clear HS HG
                        go_wp2_with (at_builtin; refine wpList_append_step _ rfl _ _ rfl (B + 1) vv O ⟨n, a, b, c⟩ (own_lasts (own_lasts HO4.out (below_alloc _ _)) (below_alloc _ _)) rfl (w4.heap.size + 1) rfl 64 (by have h := heap_alloc_new (w4.alloc (.cells #[.int .i64 hx.pred, .int .i64 hx.a, .int .i64 hx.b, .int .i64 hx.val] 79)) (.cells #[.int .i64 (n : Int), .int .i64 (a : Int), .int .i64 (b : Int), .int .i64 (c : Int)] 64); rw [World.size_alloc] at h; exact h) HLEN.out (by simp; omega) ?_; intro v5 w5 hown5 hgr5; have hx5 : Below (B + 1) W2 w5 := grown_below ((hbr4.alloc (by omega) _).alloc (by simp; omega) _) (own_lasts (own_lasts HO4.out (below_alloc _ _)) (below_alloc _ _)) hgr5 (by simp; omega))
                        exact ⟨⟨c + 1, _, rfl, by omega, by go_num, by rw [HN.out]; exact hown5, hx5⟩, by simp [intOf]; omega⟩
                · cases hkb : asked r 1
                  · rw [hkb] at y3
                    have HB : Hid (okAt f r a b c = false) := by show _ = _; rw [HOK.out]; simp [eb.out, hkb]
                    have HN : Hid (wr.ownsRow (B + 1) 64 4 vv (stepsA f r n a ++ stepsB f r n a b ++ stepsC f r n a b (c + 1)).length (cellsS (stepsA f r n a ++ stepsB f r n a b ++ stepsC f r n a b (c + 1)))) := by rw [HS.out false HB.out, if_neg (by simp), List.append_nil]; exact HO.out
                    clear HO HS HOK HB HCON Z
                    go_wp2_with fail
                    exact ⟨⟨c + 1, _, rfl, by omega, by go_num, HN.out, hbr⟩, by simp [intOf]; omega⟩
                  · rw [hkb] at y3
                    rcases ppc with ⟨ec, gc⟩ | ⟨ec, gc⟩
                    · skip
                      have HG : Hid (okAt f r a b c = bodyOk f ⟨a, b, c⟩ r.body) := by show _ = _; rw [HOK.out]; simp [ea.out, eb.out, hkb, ec.out]
                      clear HOK
                      go_wp2_with fail
                      clear Z y0 y1 y2 y3 y4
                      have hbr2 : Below (B + 1) W2 (wr.alloc (.cells #[.int .i64 (a : Int), .int .i64 (b : Int), .int .i64 (c : Int)] 62)) := hbr.alloc hsB _
                      have hbx : Below wr.heap.size wr (wr.alloc (.cells #[.int .i64 (a : Int), .int .i64 (b : Int), .int .i64 (c : Int)] 62)) := below_alloc _ _
                      refine (HH.out _ ⟨a, b, c⟩ (HQ.out _ hbr2).2.2.2.2.2 HCON.out).mono ?_
                      rintro e w4 ⟨rfl, hb4⟩
                      have v0 : w4.cell? ⟨wr.heap.size, 0, none⟩ = some (.int .i64 (a : Int)) := by rw [hb4.cell (p := ⟨wr.heap.size, 0, none⟩) (by simp)]; simp [go_sem]
                      have v1 : w4.cell? ⟨wr.heap.size, 1, none⟩ = some (.int .i64 (b : Int)) := by rw [hb4.cell (p := ⟨wr.heap.size, 1, none⟩) (by simp)]; simp [go_sem]
                      have v2 : w4.cell? ⟨wr.heap.size, 2, none⟩ = some (.int .i64 (c : Int)) := by rw [hb4.cell (p := ⟨wr.heap.size, 2, none⟩) (by simp)]; simp [go_sem]
                      have s4 : wr.heap.size < w4.heap.size := by have := hb4.size; simp at this; omega
                      have hbr4 : Below (B + 1) W2 w4 := hbr2.trans (hb4.mono (by simp; omega))
                      have HO4 : Hid (w4.ownsRow (B + 1) 64 4 vv O.length (cellsS O)) := own_lasts (own_lasts HO.out hbx) hb4
                      clear hb4 hbr2 hbx HO
                      generalize holdsF ps f r ⟨a, b, c⟩ = hx at *
                      cases hbo : bodyOk f ⟨a, b, c⟩ r.body
                      · have HN : Hid (stepsA f r n a ++ stepsB f r n a b ++ stepsC f r n a b (c + 1) = O) := by show _ = _; rw [HS.out false (HG.out.trans hbo), if_neg (by simp), List.append_nil]
                        clear HS HG
                        go_wp2_with fail
                        exact ⟨⟨c + 1, _, rfl, by omega, by go_num, by rw [HN.out]; exact own_lasts HO4.out (below_alloc _ _), hbr4.alloc (by omega) _⟩, by simp [intOf]; omega⟩
                      · have HN : Hid (stepsA f r n a ++ stepsB f r n a b ++ stepsC f r n a b (c + 1) = O ++ [⟨n, a, b, c⟩]) := by show _ = _; rw [HS.out true (HG.out.trans hbo), if_pos rfl]
                        clear HS HG
                        go_wp2_with (at_builtin; refine wpList_append_step _ rfl _ _ rfl (B + 1) vv O ⟨n, a, b, c⟩ (own_lasts (own_lasts HO4.out (below_alloc _ _)) (below_alloc _ _)) rfl (w4.heap.size + 1) rfl 64 (by have h := heap_alloc_new (w4.alloc (.cells #[.int .i64 hx.pred, .int .i64 hx.a, .int .i64 hx.b, .int .i64 hx.val] 79)) (.cells #[.int .i64 (n : Int), .int .i64 (a : Int), .int .i64 (b : Int), .int .i64 (c : Int)] 64); rw [World.size_alloc] at h; exact h) HLEN.out (by simp; omega) ?_; intro v5 w5 hown5 hgr5; have hx5 : Below (B + 1) W2 w5 := grown_below ((hbr4.alloc (by omega) _).alloc (by simp; omega) _) (own_lasts (own_lasts HO4.out (below_alloc _ _)) (below_alloc _ _)) hgr5 (by simp; omega))
                        exact ⟨⟨c + 1, _, rfl, by omega, by go_num, by rw [HN.out]; exact hown5, hx5⟩, by simp [intOf]; omega⟩
                    · cases hkc : asked r 2
                      · rw [hkc] at y4
                        have HB : Hid (okAt f r a b c = false) := by show _ = _; rw [HOK.out]; simp [ec.out, hkc]
                        have HN : Hid (wr.ownsRow (B + 1) 64 4 vv (stepsA f r n a ++ stepsB f r n a b ++ stepsC f r n a b (c + 1)).length (cellsS (stepsA f r n a ++ stepsB f r n a b ++ stepsC f r n a b (c + 1)))) := by rw [HS.out false HB.out, if_neg (by simp), List.append_nil]; exact HO.out
                        clear HO HS HOK HB HCON Z
                        go_wp2_with fail
                        exact ⟨⟨c + 1, _, rfl, by omega, by go_num, HN.out, hbr⟩, by simp [intOf]; omega⟩
                      · rw [hkc] at y4
                        have HG : Hid (okAt f r a b c = bodyOk f ⟨a, b, c⟩ r.body) := by show _ = _; rw [HOK.out]; simp [ea.out, eb.out, hkb, ec.out, hkc]
                        clear HOK
                        go_wp2_with fail
                        clear Z y0 y1 y2 y3 y4
                        have hbr2 : Below (B + 1) W2 (wr.alloc (.cells #[.int .i64 (a : Int), .int .i64 (b : Int), .int .i64 (c : Int)] 62)) := hbr.alloc hsB _
                        have hbx : Below wr.heap.size wr (wr.alloc (.cells #[.int .i64 (a : Int), .int .i64 (b : Int), .int .i64 (c : Int)] 62)) := below_alloc _ _
                        refine (HH.out _ ⟨a, b, c⟩ (HQ.out _ hbr2).2.2.2.2.2 HCON.out).mono ?_
                        rintro e w4 ⟨rfl, hb4⟩
                        have v0 : w4.cell? ⟨wr.heap.size, 0, none⟩ = some (.int .i64 (a : Int)) := by rw [hb4.cell (p := ⟨wr.heap.size, 0, none⟩) (by simp)]; simp [go_sem]
                        have v1 : w4.cell? ⟨wr.heap.size, 1, none⟩ = some (.int .i64 (b : Int)) := by rw [hb4.cell (p := ⟨wr.heap.size, 1, none⟩) (by simp)]; simp [go_sem]
                        have v2 : w4.cell? ⟨wr.heap.size, 2, none⟩ = some (.int .i64 (c : Int)) := by rw [hb4.cell (p := ⟨wr.heap.size, 2, none⟩) (by simp)]; simp [go_sem]
                        have s4 : wr.heap.size < w4.heap.size := by have := hb4.size; simp at this; omega
                        have hbr4 : Below (B + 1) W2 w4 := hbr2.trans (hb4.mono (by simp; omega))
                        have HO4 : Hid (w4.ownsRow (B + 1) 64 4 vv O.length (cellsS O)) := own_lasts (own_lasts HO.out hbx) hb4
                        clear hb4 hbr2 hbx HO
                        generalize holdsF ps f r ⟨a, b, c⟩ = hx at *
                        cases hbo : bodyOk f ⟨a, b, c⟩ r.body
                        · have HN : Hid (stepsA f r n a ++ stepsB f r n a b ++ stepsC f r n a b (c + 1) = O) := by show _ = _; rw [HS.out false (HG.out.trans hbo), if_neg (by simp), List.append_nil]
                          clear HS HG
                          go_wp2_with fail
                          exact ⟨⟨c + 1, _, rfl, by omega, by go_num, by rw [HN.out]; exact own_lasts HO4.out (below_alloc _ _), hbr4.alloc (by omega) _⟩, by simp [intOf]; omega⟩
                        · have HN : Hid (stepsA f r n a ++ stepsB f r n a b ++ stepsC f r n a b (c + 1) = O ++ [⟨n, a, b, c⟩]) := by show _ = _; rw [HS.out true (HG.out.trans hbo), if_pos rfl]
                          clear HS HG
                          go_wp2_with (at_builtin; refine wpList_append_step _ rfl _ _ rfl (B + 1) vv O ⟨n, a, b, c⟩ (own_lasts (own_lasts HO4.out (below_alloc _ _)) (below_alloc _ _)) rfl (w4.heap.size + 1) rfl 64 (by have h := heap_alloc_new (w4.alloc (.cells #[.int .i64 hx.pred, .int .i64 hx.a, .int .i64 hx.b, .int .i64 hx.val] 79)) (.cells #[.int .i64 (n : Int), .int .i64 (a : Int), .int .i64 (b : Int), .int .i64 (c : Int)] 64); rw [World.size_alloc] at h; exact h) HLEN.out (by simp; omega) ?_; intro v5 w5 hown5 hgr5; have hx5 : Below (B + 1) W2 w5 := grown_below ((hbr4.alloc (by omega) _).alloc (by simp; omega) _) (own_lasts (own_lasts HO4.out (below_alloc _ _)) (below_alloc _ _)) hgr5 (by simp; omega))
                          exact ⟨⟨c + 1, _, rfl, by omega, by go_num, by rw [HN.out]; exact hown5, hx5⟩, by simp [intOf]; omega⟩
              · cases hka : asked r 0
                · rw [hka] at y2
                  have HB : Hid (okAt f r a b c = false) := by show _ = _; rw [HOK.out]; simp [ea.out, hka]
                  have HN : Hid (wr.ownsRow (B + 1) 64 4 vv (stepsA f r n a ++ stepsB f r n a b ++ stepsC f r n a b (c + 1)).length (cellsS (stepsA f r n a ++ stepsB f r n a b ++ stepsC f r n a b (c + 1)))) := by rw [HS.out false HB.out, if_neg (by simp), List.append_nil]; exact HO.out
                  clear HO HS HOK HB HCON Z
                  go_wp2_with fail
                  exact ⟨⟨c + 1, _, rfl, by omega, by go_num, HN.out, hbr⟩, by simp [intOf]; omega⟩
                · rw [hka] at y2
                  rcases ppb with ⟨eb, gb⟩ | ⟨eb, gb⟩
                  · skip
                    rcases ppc with ⟨ec, gc⟩ | ⟨ec, gc⟩
                    · skip
                      have HG : Hid (okAt f r a b c = bodyOk f ⟨a, b, c⟩ r.body) := by show _ = _; rw [HOK.out]; simp [ea.out, hka, eb.out, ec.out]
                      clear HOK
                      go_wp2_with fail
                      clear Z y0 y1 y2 y3 y4
                      have hbr2 : Below (B + 1) W2 (wr.alloc (.cells #[.int .i64 (a : Int), .int .i64 (b : Int), .int .i64 (c : Int)] 62)) := hbr.alloc hsB _
                      have hbx : Below wr.heap.size wr (wr.alloc (.cells #[.int .i64 (a : Int), .int .i64 (b : Int), .int .i64 (c : Int)] 62)) := below_alloc _ _
                      refine (HH.out _ ⟨a, b, c⟩ (HQ.out _ hbr2).2.2.2.2.2 HCON.out).mono ?_
                      rintro e w4 ⟨rfl, hb4⟩
                      have v0 : w4.cell? ⟨wr.heap.size, 0, none⟩ = some (.int .i64 (a : Int)) := by rw [hb4.cell (p := ⟨wr.heap.size, 0, none⟩) (by simp)]; simp [go_sem]
                      have v1 : w4.cell? ⟨wr.heap.size, 1, none⟩ = some (.int .i64 (b : Int)) := by rw [hb4.cell (p := ⟨wr.heap.size, 1, none⟩) (by simp)]; simp [go_sem]
                      have v2 : w4.cell? ⟨wr.heap.size, 2, none⟩ = some (.int .i64 (c : Int)) := by rw [hb4.cell (p := ⟨wr.heap.size, 2, none⟩) (by simp)]; simp [go_sem]
                      have s4 : wr.heap.size < w4.heap.size := by have := hb4.size; simp at this; omega
                      have hbr4 : Below (B + 1) W2 w4 := hbr2.trans (hb4.mono (by simp; omega))
                      have HO4 : Hid (w4.ownsRow (B + 1) 64 4 vv O.length (cellsS O)) := own_lasts (own_lasts HO.out hbx) hb4
                      clear hb4 hbr2 hbx HO
                      generalize holdsF ps f r ⟨a, b, c⟩ = hx at *
                      cases hbo : bodyOk f ⟨a, b, c⟩ r.body
                      · have HN : Hid (stepsA f r n a ++ stepsB f r n a b ++ stepsC f r n a b (c + 1) = O) := by show _ = _; rw [HS.out false (HG.out.trans hbo), if_neg (by simp), List.append_nil]
                        clear HS HG
                        go_wp2_with fail
                        exact ⟨⟨c + 1, _, rfl, by omega, by go_num, by rw [HN.out]; exact own_lasts HO4.out (below_alloc _ _), hbr4.alloc (by omega) _⟩, by simp [intOf]; omega⟩
                      · have HN : Hid (stepsA f r n a ++ stepsB f r n a b ++ stepsC f r n a b (c + 1) = O ++ [⟨n, a, b, c⟩]) := by show _ = _; rw [HS.out true (HG.out.trans hbo), if_pos rfl]
                        clear HS HG
                        go_wp2_with (at_builtin; refine wpList_append_step _ rfl _ _ rfl (B + 1) vv O ⟨n, a, b, c⟩ (own_lasts (own_lasts HO4.out (below_alloc _ _)) (below_alloc _ _)) rfl (w4.heap.size + 1) rfl 64 (by have h := heap_alloc_new (w4.alloc (.cells #[.int .i64 hx.pred, .int .i64 hx.a, .int .i64 hx.b, .int .i64 hx.val] 79)) (.cells #[.int .i64 (n : Int), .int .i64 (a : Int), .int .i64 (b : Int), .int .i64 (c : Int)] 64); rw [World.size_alloc] at h; exact h) HLEN.out (by simp; omega) ?_; intro v5 w5 hown5 hgr5; have hx5 : Below (B + 1) W2 w5 := grown_below ((hbr4.alloc (by omega) _).alloc (by simp; omega) _) (own_lasts (own_lasts HO4.out (below_alloc _ _)) (below_alloc _ _)) hgr5 (by simp; omega))
                        exact ⟨⟨c + 1, _, rfl, by omega, by go_num, by rw [HN.out]; exact hown5, hx5⟩, by simp [intOf]; omega⟩
                    · cases hkc : asked r 2
                      · rw [hkc] at y4
                        have HB : Hid (okAt f r a b c = false) := by show _ = _; rw [HOK.out]; simp [ec.out, hkc]
                        have HN : Hid (wr.ownsRow (B + 1) 64 4 vv (stepsA f r n a ++ stepsB f r n a b ++ stepsC f r n a b (c + 1)).length (cellsS (stepsA f r n a ++ stepsB f r n a b ++ stepsC f r n a b (c + 1)))) := by rw [HS.out false HB.out, if_neg (by simp), List.append_nil]; exact HO.out
                        clear HO HS HOK HB HCON Z
                        go_wp2_with fail
                        exact ⟨⟨c + 1, _, rfl, by omega, by go_num, HN.out, hbr⟩, by simp [intOf]; omega⟩
                      · rw [hkc] at y4
                        have HG : Hid (okAt f r a b c = bodyOk f ⟨a, b, c⟩ r.body) := by show _ = _; rw [HOK.out]; simp [ea.out, hka, eb.out, ec.out, hkc]
                        clear HOK
                        go_wp2_with fail
                        clear Z y0 y1 y2 y3 y4
                        have hbr2 : Below (B + 1) W2 (wr.alloc (.cells #[.int .i64 (a : Int), .int .i64 (b : Int), .int .i64 (c : Int)] 62)) := hbr.alloc hsB _
                        have hbx : Below wr.heap.size wr (wr.alloc (.cells #[.int .i64 (a : Int), .int .i64 (b : Int), .int .i64 (c : Int)] 62)) := below_alloc _ _
                        refine (HH.out _ ⟨a, b, c⟩ (HQ.out _ hbr2).2.2.2.2.2 HCON.out).mono ?_
                        rintro e w4 ⟨rfl, hb4⟩
                        have v0 : w4.cell? ⟨wr.heap.size, 0, none⟩ = some (.int .i64 (a : Int)) := by rw [hb4.cell (p := ⟨wr.heap.size, 0, none⟩) (by simp)]; simp [go_sem]
                        have v1 : w4.cell? ⟨wr.heap.size, 1, none⟩ = some (.int .i64 (b : Int)) := by rw [hb4.cell (p := ⟨wr.heap.size, 1, none⟩) (by simp)]; simp [go_sem]
                        have v2 : w4.cell? ⟨wr.heap.size, 2, none⟩ = some (.int .i64 (c : Int)) := by rw [hb4.cell (p := ⟨wr.heap.size, 2, none⟩) (by simp)]; simp [go_sem]
                        have s4 : wr.heap.size < w4.heap.size := by have := hb4.size; simp at this; omega
                        have hbr4 : Below (B + 1) W2 w4 := hbr2.trans (hb4.mono (by simp; omega))
                        have HO4 : Hid (w4.ownsRow (B + 1) 64 4 vv O.length (cellsS O)) := own_lasts (own_lasts HO.out hbx) hb4
                        clear hb4 hbr2 hbx HO
                        generalize holdsF ps f r ⟨a, b, c⟩ = hx at *
                        cases hbo : bodyOk f ⟨a, b, c⟩ r.body
                        · have HN : Hid (stepsA f r n a ++ stepsB f r n a b ++ stepsC f r n a b (c + 1) = O) := by show _ = _; rw [HS.out false (HG.out.trans hbo), if_neg (by simp), List.append_nil]
                          clear HS HG
                          go_wp2_with fail
                          exact ⟨⟨c + 1, _, rfl, by omega, by go_num, by rw [HN.out]; exact own_lasts HO4.out (below_alloc _ _), hbr4.alloc (by omega) _⟩, by simp [intOf]; omega⟩
                        · have HN : Hid (stepsA f r n a ++ stepsB f r n a b ++ stepsC f r n a b (c + 1) = O ++ [⟨n, a, b, c⟩]) := by show _ = _; rw [HS.out true (HG.out.trans hbo), if_pos rfl]
                          clear HS HG
                          go_wp2_with (at_builtin; refine wpList_append_step _ rfl _ _ rfl (B + 1) vv O ⟨n, a, b, c⟩ (own_lasts (own_lasts HO4.out (below_alloc _ _)) (below_alloc _ _)) rfl (w4.heap.size + 1) rfl 64 (by have h := heap_alloc_new (w4.alloc (.cells #[.int .i64 hx.pred, .int .i64 hx.a, .int .i64 hx.b, .int .i64 hx.val] 79)) (.cells #[.int .i64 (n : Int), .int .i64 (a : Int), .int .i64 (b : Int), .int .i64 (c : Int)] 64); rw [World.size_alloc] at h; exact h) HLEN.out (by simp; omega) ?_; intro v5 w5 hown5 hgr5; have hx5 : Below (B + 1) W2 w5 := grown_below ((hbr4.alloc (by omega) _).alloc (by simp; omega) _) (own_lasts (own_lasts HO4.out (below_alloc _ _)) (below_alloc _ _)) hgr5 (by simp; omega))
                          exact ⟨⟨c + 1, _, rfl, by omega, by go_num, by rw [HN.out]; exact hown5, hx5⟩, by simp [intOf]; omega⟩
                  · cases hkb : asked r 1
                    · rw [hkb] at y3
                      have HB : Hid (okAt f r a b c = false) := by show _ = _; rw [HOK.out]; simp [eb.out, hkb]
                      have HN : Hid (wr.ownsRow (B + 1) 64 4 vv (stepsA f r n a ++ stepsB f r n a b ++ stepsC f r n a b (c + 1)).length (cellsS (stepsA f r n a ++ stepsB f r n a b ++ stepsC f r n a b (c + 1)))) := by rw [HS.out false HB.out, if_neg (by simp), List.append_nil]; exact HO.out
                      clear HO HS HOK HB HCON Z
                      go_wp2_with fail
                      exact ⟨⟨c + 1, _, rfl, by omega, by go_num, HN.out, hbr⟩, by simp [intOf]; omega⟩
                    · rw [hkb] at y3
                      rcases ppc with ⟨ec, gc⟩ | ⟨ec, gc⟩
                      · skip
                        have HG : Hid (okAt f r a b c = bodyOk f ⟨a, b, c⟩ r.body) := by show _ = _; rw [HOK.out]; simp [ea.out, hka, eb.out, hkb, ec.out]
                        clear HOK
                        go_wp2_with fail
                        clear Z y0 y1 y2 y3 y4
                        have hbr2 : Below (B + 1) W2 (wr.alloc (.cells #[.int .i64 (a : Int), .int .i64 (b : Int), .int .i64 (c : Int)] 62)) := hbr.alloc hsB _
                        have hbx : Below wr.heap.size wr (wr.alloc (.cells #[.int .i64 (a : Int), .int .i64 (b : Int), .int .i64 (c : Int)] 62)) := below_alloc _ _
                        refine (HH.out _ ⟨a, b, c⟩ (HQ.out _ hbr2).2.2.2.2.2 HCON.out).mono ?_
                        rintro e w4 ⟨rfl, hb4⟩
                        have v0 : w4.cell? ⟨wr.heap.size, 0, none⟩ = some (.int .i64 (a : Int)) := by rw [hb4.cell (p := ⟨wr.heap.size, 0, none⟩) (by simp)]; simp [go_sem]
                        have v1 : w4.cell? ⟨wr.heap.size, 1, none⟩ = some (.int .i64 (b : Int)) := by rw [hb4.cell (p := ⟨wr.heap.size, 1, none⟩) (by simp)]; simp [go_sem]
                        have v2 : w4.cell? ⟨wr.heap.size, 2, none⟩ = some (.int .i64 (c : Int)) := by rw [hb4.cell (p := ⟨wr.heap.size, 2, none⟩) (by simp)]; simp [go_sem]
                        have s4 : wr.heap.size < w4.heap.size := by have := hb4.size; simp at this; omega
                        have hbr4 : Below (B + 1) W2 w4 := hbr2.trans (hb4.mono (by simp; omega))
                        have HO4 : Hid (w4.ownsRow (B + 1) 64 4 vv O.length (cellsS O)) := own_lasts (own_lasts HO.out hbx) hb4
                        clear hb4 hbr2 hbx HO
                        generalize holdsF ps f r ⟨a, b, c⟩ = hx at *
                        cases hbo : bodyOk f ⟨a, b, c⟩ r.body
                        · have HN : Hid (stepsA f r n a ++ stepsB f r n a b ++ stepsC f r n a b (c + 1) = O) := by show _ = _; rw [HS.out false (HG.out.trans hbo), if_neg (by simp), List.append_nil]
                          clear HS HG
                          go_wp2_with fail
                          exact ⟨⟨c + 1, _, rfl, by omega, by go_num, by rw [HN.out]; exact own_lasts HO4.out (below_alloc _ _), hbr4.alloc (by omega) _⟩, by simp [intOf]; omega⟩
                        · have HN : Hid (stepsA f r n a ++ stepsB f r n a b ++ stepsC f r n a b (c + 1) = O ++ [⟨n, a, b, c⟩]) := by show _ = _; rw [HS.out true (HG.out.trans hbo), if_pos rfl]
                          clear HS HG
                          go_wp2_with (at_builtin; refine wpList_append_step _ rfl _ _ rfl (B + 1) vv O ⟨n, a, b, c⟩ (own_lasts (own_lasts HO4.out (below_alloc _ _)) (below_alloc _ _)) rfl (w4.heap.size + 1) rfl 64 (by have h := heap_alloc_new (w4.alloc (.cells #[.int .i64 hx.pred, .int .i64 hx.a, .int .i64 hx.b, .int .i64 hx.val] 79)) (.cells #[.int .i64 (n : Int), .int .i64 (a : Int), .int .i64 (b : Int), .int .i64 (c : Int)] 64); rw [World.size_alloc] at h; exact h) HLEN.out (by simp; omega) ?_; intro v5 w5 hown5 hgr5; have hx5 : Below (B + 1) W2 w5 := grown_below ((hbr4.alloc (by omega) _).alloc (by simp; omega) _) (own_lasts (own_lasts HO4.out (below_alloc _ _)) (below_alloc _ _)) hgr5 (by simp; omega))
                          exact ⟨⟨c + 1, _, rfl, by omega, by go_num, by rw [HN.out]; exact hown5, hx5⟩, by simp [intOf]; omega⟩
                      · cases hkc : asked r 2
                        · rw [hkc] at y4
                          have HB : Hid (okAt f r a b c = false) := by show _ = _; rw [HOK.out]; simp [ec.out, hkc]
                          have HN : Hid (wr.ownsRow (B + 1) 64 4 vv (stepsA f r n a ++ stepsB f r n a b ++ stepsC f r n a b (c + 1)).length (cellsS (stepsA f r n a ++ stepsB f r n a b ++ stepsC f r n a b (c + 1)))) := by rw [HS.out false HB.out, if_neg (by simp), List.append_nil]; exact HO.out
                          clear HO HS HOK HB HCON Z
                          go_wp2_with fail
                          exact ⟨⟨c + 1, _, rfl, by omega, by go_num, HN.out, hbr⟩, by simp [intOf]; omega⟩
                        · rw [hkc] at y4
                          have HG : Hid (okAt f r a b c = bodyOk f ⟨a, b, c⟩ r.body) := by show _ = _; rw [HOK.out]; simp [ea.out, hka, eb.out, hkb, ec.out, hkc]
                          clear HOK
                          go_wp2_with fail
                          clear Z y0 y1 y2 y3 y4
                          have hbr2 : Below (B + 1) W2 (wr.alloc (.cells #[.int .i64 (a : Int), .int .i64 (b : Int), .int .i64 (c : Int)] 62)) := hbr.alloc hsB _
                          have hbx : Below wr.heap.size wr (wr.alloc (.cells #[.int .i64 (a : Int), .int .i64 (b : Int), .int .i64 (c : Int)] 62)) := below_alloc _ _
                          refine (HH.out _ ⟨a, b, c⟩ (HQ.out _ hbr2).2.2.2.2.2 HCON.out).mono ?_
                          rintro e w4 ⟨rfl, hb4⟩
                          have v0 : w4.cell? ⟨wr.heap.size, 0, none⟩ = some (.int .i64 (a : Int)) := by rw [hb4.cell (p := ⟨wr.heap.size, 0, none⟩) (by simp)]; simp [go_sem]
                          have v1 : w4.cell? ⟨wr.heap.size, 1, none⟩ = some (.int .i64 (b : Int)) := by rw [hb4.cell (p := ⟨wr.heap.size, 1, none⟩) (by simp)]; simp [go_sem]
                          have v2 : w4.cell? ⟨wr.heap.size, 2, none⟩ = some (.int .i64 (c : Int)) := by rw [hb4.cell (p := ⟨wr.heap.size, 2, none⟩) (by simp)]; simp [go_sem]
                          have s4 : wr.heap.size < w4.heap.size := by have := hb4.size; simp at this; omega
                          have hbr4 : Below (B + 1) W2 w4 := hbr2.trans (hb4.mono (by simp; omega))
                          have HO4 : Hid (w4.ownsRow (B + 1) 64 4 vv O.length (cellsS O)) := own_lasts (own_lasts HO.out hbx) hb4
                          clear hb4 hbr2 hbx HO
                          generalize holdsF ps f r ⟨a, b, c⟩ = hx at *
                          cases hbo : bodyOk f ⟨a, b, c⟩ r.body
                          · have HN : Hid (stepsA f r n a ++ stepsB f r n a b ++ stepsC f r n a b (c + 1) = O) := by show _ = _; rw [HS.out false (HG.out.trans hbo), if_neg (by simp), List.append_nil]
                            clear HS HG
                            go_wp2_with fail
                            exact ⟨⟨c + 1, _, rfl, by omega, by go_num, by rw [HN.out]; exact own_lasts HO4.out (below_alloc _ _), hbr4.alloc (by omega) _⟩, by simp [intOf]; omega⟩
                          · have HN : Hid (stepsA f r n a ++ stepsB f r n a b ++ stepsC f r n a b (c + 1) = O ++ [⟨n, a, b, c⟩]) := by show _ = _; rw [HS.out true (HG.out.trans hbo), if_pos rfl]
                            clear HS HG
                            go_wp2_with (at_builtin; refine wpList_append_step _ rfl _ _ rfl (B + 1) vv O ⟨n, a, b, c⟩ (own_lasts (own_lasts HO4.out (below_alloc _ _)) (below_alloc _ _)) rfl (w4.heap.size + 1) rfl 64 (by have h := heap_alloc_new (w4.alloc (.cells #[.int .i64 hx.pred, .int .i64 hx.a, .int .i64 hx.b, .int .i64 hx.val] 79)) (.cells #[.int .i64 (n : Int), .int .i64 (a : Int), .int .i64 (b : Int), .int .i64 (c : Int)] 64); rw [World.size_alloc] at h; exact h) HLEN.out (by simp; omega) ?_; intro v5 w5 hown5 hgr5; have hx5 : Below (B + 1) W2 w5 := grown_below ((hbr4.alloc (by omega) _).alloc (by simp; omega) _) (own_lasts (own_lasts HO4.out (below_alloc _ _)) (below_alloc _ _)) hgr5 (by simp; omega))
                            exact ⟨⟨c + 1, _, rfl, by omega, by go_num, by rw [HN.out]; exact hown5, hx5⟩, by simp [intOf]; omega⟩
            · have gc4 : ¬ (c : Int) ≤ 4 := by omega
              have HO : Hid (wr.ownsRow (B + 1) 64 4 vv (stepsA f r n a ++ stepsB f r n a (b + 1)).length (cellsS (stepsA f r n a ++ stepsB f r n a (b + 1)))) := by
                obtain rfl : c = 5 := by omega
                rw [stepsB_succ, ← List.append_assoc]
                exact hown
              clear hown
              go_wp2_with fail
              exact ⟨⟨b + 1, _, rfl, by omega, by go_num, HO.out, hbr⟩, by simp [intOf]; omega⟩
        · have gb4 : ¬ (b : Int) ≤ 4 := by omega
          have HO : Hid (wr.ownsRow (B + 1) 64 4 vv (stepsA f r n (a + 1)).length (cellsS (stepsA f r n (a + 1)))) := by
            obtain rfl : b = 5 := by omega
            rw [stepsA_succ]
            exact hown
          clear hown
          go_wp2_with fail
          exact ⟨⟨a + 1, _, rfl, by omega, by go_num, HO.out, hbr⟩, by simp [intOf]; omega⟩
    · have ga4 : ¬ (a : Int) ≤ 4 := by omega
      have HNW : Hid (∀ b, vv.ownBlock = some b → w.heap.size ≤ b) := fun b hb => by have := (hown.lt b hb).1; omega
      have HO : Hid (stepsAt wr vv (allL f r n)) := by
        obtain rfl : a = 5 := by omega
        exact stepsAt_of hown (by have := stepsA_len f r n 5; show (stepsA f r n 5).length ≤ _; omega)
      clear hown
      obtain ⟨y0, y1, y2, y3, y4, hbw⟩ := HQ.out _ hbr
      go_wp2_with fail
      go_ret
      exact ⟨_, rfl, HO.out, HNW.out, hbw⟩
end Go.Proofs.YtlfccloaoopadaeGreat.Fire
