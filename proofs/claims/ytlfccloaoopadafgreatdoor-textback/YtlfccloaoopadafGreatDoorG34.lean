/-
  How the developers' All orders two steps: slices.Compare at what their variables stand for.
-/
import Derived.BigQuiet
import Derived.Test.YtlfccloaoopadafGreatDoorG33
import Derived.Test.YtlfccloaoopadafGreatDoorG27
import Derived.Test.YtlfccloaoopadafGreatDoorG14
namespace Go.Proofs.YtlfccloaoopadafGreatDoor.Fire
open Go.ChangeShapes Go.WideShapes Go.ChangeAt Go.RowKit
open Base (cmpI first compare_c)
open Go.Shelf Go.Lib Go.Sort

def cmpS (s t : Stp) : Int := first (cmpI s.x t.x) (cmpI s.y t.y) (cmpI s.z t.z)
theorem cmpS_lt (s t : Stp) : decide (cmpS s t < 0) = ltS s t := by
  have h : cmpS s t < 0 ↔ ltS s t = true := by
    rw [ltS_iff]
    unfold cmpS first cmpI
    by_cases h1 : s.x < t.x
    · simp [h1]
    · by_cases h2 : t.x < s.x
      · simp [h1, h2]
        omega
      · have e : s.x = t.x := by omega
        by_cases h3 : s.y < t.y
        · simp [e, h3]
        · by_cases h4 : t.y < s.y
          · simp [e, h3, h4]
            omega
          · have e' : s.y = t.y := by omega
            by_cases h5 : s.z < t.z
            · simp [e, e', h5]
            · by_cases h6 : t.z < s.z
              · simp [e, e', h5, h6]
              · simp [e, e', h5, h6]
  cases e : ltS s t
  · exact decide_eq_false fun hc => by rw [h.1 hc] at e; cases e
  · exact decide_eq_true (h.2 e)

set_option maxHeartbeats 2000000 in
theorem compare3_c (w : World) (b o b' o' : Nat) (X Y : Nat → Int) (hx : ∀ j, j < 3 → w.cell? ⟨b, o + j, none⟩ = some (.int .i64 (X j))) (hy : ∀ j, j < 3 → w.cell? ⟨b', o' + j, none⟩ = some (.int .i64 (Y j))) :
    Calls Tryz.prog 143 #[.slice (some ⟨b, o, none⟩) 3 3, .slice (some ⟨b', o', none⟩) 3 3] w fun e w' => e = .returned (.int .i64 (first (cmpI (X 0) (Y 0)) (cmpI (X 1) (Y 1)) (cmpI (X 2) (Y 2)))) ∧ w' = w := by
  have HX : Hid (∀ j, j < 3 → w.cell? ⟨b, o + j, none⟩ = some (.int .i64 (X j))) := hx
  have HY : Hid (∀ j, j < 3 → w.cell? ⟨b', o' + j, none⟩ = some (.int .i64 (Y j))) := hy
  clear hx hy
  have HF : Hid (∀ j, j < 3 → (∀ k, k < j → cmpI (X k) (Y k) = 0) → cmpI (X j) (Y j) ≠ 0 → first (cmpI (X 0) (Y 0)) (cmpI (X 1) (Y 1)) (cmpI (X 2) (Y 2)) = cmpI (X j) (Y j)) := fun j hj hk hn => by
    unfold first
    obtain rfl | rfl | rfl : j = 0 ∨ j = 1 ∨ j = 2 := by omega
    · rw [if_pos hn]
    · rw [if_neg (by rw [hk 0 (by omega)]; simp), if_pos hn]
    · rw [if_neg (by rw [hk 0 (by omega)]; simp), if_neg (by rw [hk 1 (by omega)]; simp)]
  have HZ : Hid ((∀ k, k < 3 → cmpI (X k) (Y k) = 0) → first (cmpI (X 0) (Y 0)) (cmpI (X 1) (Y 1)) (cmpI (X 2) (Y 2)) = 0) := fun hk => by
    unfold first
    rw [if_neg (by rw [hk 0 (by omega)]; simp), if_neg (by rw [hk 1 (by omega)]; simp), hk 2 (by omega)]
  generalize first (cmpI (X 0) (Y 0)) (cmpI (X 1) (Y 1)) (cmpI (X 2) (Y 2)) = res at *
  go_enter Tryz.func143, Tryz.ntmps143
  go_wp2_with fail
  go_loopw [11] (fun i wr => ∃ j : Nat, j ≤ 3 ∧ i = .int .i64 j ∧ Hid (∀ k, k < j → cmpI (X k) (Y k) = 0) ∧ wr = w) (fun i _ => 3 - (intOf i).toNat)
  case atStart => exact ⟨0, by omega, rfl, fun k hk => by omega, rfl⟩
  case round =>
    obtain ⟨j, hj, rfl, hk, rfl⟩ := hrel
    by_cases hlt : j < 3
    · have hx := HX.out j hlt
      have hy := HY.out j hlt
      have hj3 : (j : Int) < 3 := by omega
      have HN : Hid (cmpI (X j) (Y j) ≠ 0 → res = cmpI (X j) (Y j)) := HF.out j hlt hk.out
      have HK : Hid (cmpI (X j) (Y j) = 0 → ∀ k, k < j + 1 → cmpI (X k) (Y k) = 0) := fun h k hk' => by
        by_cases e : k = j
        · rw [e]; exact h
        · exact hk.out k (by omega)
      generalize X j = x at *
      generalize Y j = y at *
      clear HX HY HF HZ hk
      go_wp2_with fail
      refine (compare_c x y _).mono ?_
      rintro e w' ⟨rfl, rfl⟩
      generalize cmpI x y = c at *
      by_cases hc : c = 0
      · subst hc
        go_wp2_with fail
        exact ⟨⟨j + 1, by omega, by go_num, by first | exact HK.out rfl | exact HK.out trivial, by first | rfl | trivial⟩, by simp [intOf]; omega⟩
      · have hc' : (c == 0) = false := by simpa using hc
        go_wp2_with fail
        go_ret
        exact ⟨by rw [HN.out hc]; rfl, rfl⟩
    · obtain rfl : j = 3 := by omega
      have HR : Hid (res = 0) := HZ.out hk.out
      clear HX HY HF HZ hk
      go_wp2_with fail
      go_ret
      exact ⟨by rw [HR.out]; rfl, rfl⟩

set_option maxRecDepth 100000 in
set_option maxHeartbeats 2000000 in
theorem all1_c (s t : Stp) (W : World) : Calls Tryz.prog 142 #[.agg #[.int .i64 s.rule, .int .i64 s.x, .int .i64 s.y, .int .i64 s.z], .agg #[.int .i64 t.rule, .int .i64 t.x, .int .i64 t.y, .int .i64 t.z]] W fun e w' => e = .returned (.int .i64 (cmpS s t)) ∧ ∃ q os', w' = grow (W.drewN q) os' := by
  obtain ⟨W1, hW1⟩ : ∃ W1, (W.alloc (.cells #[.int .i64 s.rule, .int .i64 s.x, .int .i64 s.y, .int .i64 s.z] 160)).alloc (.cells #[.int .i64 t.rule, .int .i64 t.x, .int .i64 t.y, .int .i64 t.z] 160) = W1 := ⟨_, rfl⟩
  have HG : Hid (∃ os', W1 = grow W os') := by rw [← hW1]; exact ⟨_, by rw [alloc_eq_grow, alloc_eq_grow, grow_grow]⟩
  have HC : Hid (∀ q, Calls Tryz.prog 143 #[.slice (some ⟨W.heap.size, 1, none⟩) 3 3, .slice (some ⟨W.heap.size + 1, 1, none⟩) 3 3] (W1.drewN q) fun e w' => e = .returned (.int .i64 (cmpS s t)) ∧ w' = W1.drewN q) := fun q =>
    compare3_c (W1.drewN q) W.heap.size 1 (W.heap.size + 1) 1 (fun j => if j = 0 then s.x else if j = 1 then s.y else s.z) (fun j => if j = 0 then t.x else if j = 1 then t.y else t.z)
      (fun j hj => by
        rw [← hW1]
        obtain rfl | rfl | rfl : j = 0 ∨ j = 1 ∨ j = 2 := by omega
        all_goals simp [go_sem])
      (fun j hj => by
        rw [← hW1]
        obtain rfl | rfl | rfl : j = 0 ∨ j = 1 ∨ j = 2 := by omega
        all_goals simp [go_sem])
  generalize cmpS s t = c at *
  go_enter Tryz.func142, Tryz.ntmps142
  go_wp2_with fail
  go_quiet ((go_at_call 143; exact Calls.quiet_of_same (HC.out _)))
  go_wp2_with fail
  go_ret
  obtain ⟨os', ho⟩ := HG.out
  exact ⟨rfl, nq, os', by rw [ho]; rfl⟩
end Go.Proofs.YtlfccloaoopadafGreatDoor.Fire
