/-
  The developers' line.Whole: whatever is handed to it to read with; a text that is left by a panic is told as not right.
-/
import Derived.Defers
import Derived.Recover
import Derived.Laws.Pointers
import Derived.Test.YtlfccloaoopadafGreatDoorG16
namespace Go.Proofs.YtlfccloaoopadafGreatDoor.Text
open Go.ChangeShapes Go.WideShapes Go.ChangeAt Go.RowKit

theorem catch_panicking (p : Addr) (x : Bool) (u : TypeId) (pv : Value) (older : List PanicEntry) (w : World) (hc : w.cell? p = some (.bool x)) (hz : w.frozen? p = false) :
    CallsD Tryz.prog 55 #[.pointer (some p)] (.panicking ({ v := .iface u pv, recovered := false } :: older)) w fun e u' w' =>
      e = .returned (.tuple #[]) ∧ u' = .panicking ({ v := .iface u pv, recovered := true } :: older) ∧ w' = w.setCell p (.bool false) := by
  refine callsD_of_wpS Tryz.func55 rfl fun c₀ cs hu => ?_
  apply wpS_seq
  apply wpS_region
  simp [wpOpsS, go_sem, recoverD, hu, Tryz.ntmps55, Exit.thenS]
  refine wpS_cond (t := true) (by simp [Act.eval, Array.replicate]) ?_
  simp only [if_true]
  apply wpS_region
  simp [wpOpsS, go_sem, hc, hz, bodyPostS, results, Tryz.results55]
theorem catch_idle (p : Addr) (w : World) :
    CallsD Tryz.prog 55 #[.pointer (some p)] .returning w fun e u' w' => e = .returned (.tuple #[]) ∧ u' = .returning ∧ w' = w := by
  refine callsD_of_wpS Tryz.func55 rfl fun c₀ cs hu => ?_
  apply wpS_seq
  apply wpS_region
  simp [wpOpsS, go_sem, recoverD, hu, Tryz.ntmps55, Exit.thenS]
  refine wpS_cond (t := false) (by simp [Act.eval, Array.replicate]) ?_
  simp only [Bool.false_eq_true, if_false]
  refine wpS_of_wp (wp_skip ?_)
  cases c₀
  simp_all [bodyPostS, results, Tryz.results55]
/-- where Whole's own boxes lie as it begins to read -/
def wholeAt (w : World) (T : ByteArray) : World := (w.alloc (.cells #[.bool false] 4)).alloc (.cells #[.string T] 102)
/-- how reading ends -/
def Ends (w : World) (Φ : Option (List UInt8) → World → Prop) (e : Ending) (w' : World) : Prop :=
  ∃ R, w'.heap[w.heap.size]? = some (.cells #[.bool false] 4 (0, 0)) ∧ Φ R w' ∧ match R with
    | none => e = formPanic
    | some t => e = .returned (.tuple #[]) ∧ restAt w' (w.heap.size + 1) t
set_option maxRecDepth 100000 in
set_option maxHeartbeats 4000000 in
theorem whole_c (w : World) (T : ByteArray) (g : Nat) (cap : Array Value) (eg : ∀ args w, (callFunc g args).run Tryz.prog w = .ok (.enter g args) w) (Φ : Option (List UInt8) → World → Prop) (hread : Calls Tryz.prog g (#[.pointer (some ⟨w.heap.size + 1, 0, none⟩)] ++ cap) (wholeAt w T) (Ends w Φ)) :
    Calls Tryz.prog 29 #[.string T, .func (.func g) #[] cap] w fun e w' => ∃ R w1, Φ R w1 ∧ e = .returned (.bool (decide (R = some []))) ∧ w' = w1.setCell ⟨w.heap.size, 0, none⟩ (.bool (decide (R = some []))) := by
  have hmf : ∀ (fn : Fn) (first cap : Array Value) (w : World), (Instr.makeFunc fn first cap).run Tryz.prog w = .ok (.func fn first cap) w := fun _ _ _ _ => rfl
  unfold wholeAt at hread
  go_enter_defers Tryz.func29, Tryz.ntmps29
  go_wp2_with fail
  refine hread.mono ?_
  clear hread eg
  rintro e w1 ⟨R, hres, hP, hR⟩
  have c0 : w1.cell? ⟨w.heap.size, 0, none⟩ = some (.bool false) := by simp [World.cell?, hres]
  have f0 : w1.frozen? ⟨w.heap.size, 0, none⟩ = false := by simp [World.frozen?, hres]
  cases R with
  | none =>
    simp only at hR
    unfold formPanic at hR
    subst hR
    have HP : Hid (Φ none w1) := hP
    clear hP hres
    go_wp2_with fail
    refine leaves_cons (f := 55) (args := #[.pointer (some ⟨w.heap.size, 0, none⟩)]) (by simp) (by simp [go_sem]) ?_
    refine (catch_panicking ⟨w.heap.size, 0, none⟩ false 26 _ [] w1 c0 f0).mono ?_
    rintro e u' w'' ⟨rfl, rfl, rfl⟩
    simp [Leaves, settle, results, Tryz.results29, go_sem, c0]
    exact ⟨none, w1, HP.out, by simp, by simp⟩
  | some t =>
    obtain ⟨rfl, hr⟩ := hR
    have HP : Hid (Φ (some t) w1) := hP
    have HC := isEmpty_c w1 (w.heap.size + 1) t hr
    clear hP hres hr
    go_wp2_with (go_at_call 33; refine HC.mono ?_; rintro e w2 ⟨rfl, rfl⟩)
    refine leaves_cons (f := 55) (args := #[.pointer (some ⟨w.heap.size, 0, none⟩)]) (by simp) (by simp [go_sem]) ?_
    refine (catch_idle ⟨w.heap.size, 0, none⟩ _).mono ?_
    rintro e u' w'' ⟨rfl, rfl, rfl⟩
    simp [Leaves, settle, results, Tryz.results29, go_sem, c0]
    exact ⟨some t, _, HP.out, by simp, by simp⟩
end Go.Proofs.YtlfccloaoopadafGreatDoor.Text
