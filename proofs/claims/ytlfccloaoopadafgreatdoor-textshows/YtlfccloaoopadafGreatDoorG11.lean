/-
  What the developers' texts ask of Go's library, in my own words.
-/
import Derived.Lib.AtoiErrMem
import Derived.Test.YtlfccloaoopadafGreatDoorG3
import Derived.Test.YtlfccloaoopadafGreatDoorG10
namespace Go.Proofs.YtlfccloaoopadafGreatDoor.Text
open Go.Shelf Go.RowKit

theorem prefix_eat : ∀ (p s : List UInt8), Lib.hasPrefix s p = (eatL p s).isSome
  | [], s => by simp [Lib.hasPrefix, eatL]
  | a :: p, [] => by simp [Lib.hasPrefix, eatL]
  | a :: p, b :: s => by
    have := prefix_eat p s
    unfold Lib.hasPrefix at this ⊢
    rw [List.isPrefixOf_cons_cons, eatL, this]
    by_cases h : a = b
    · simp [h]
    · simp [h]
theorem trim_eat (p s : List UInt8) : Lib.trimPrefix s p = (eatL p s).getD s := by
  unfold Lib.trimPrefix
  rw [prefix_eat]
  cases h : eatL p s with
  | none => rfl
  | some t => simp [eat_iff.1 h]
theorem hasPrefix_c (s p : ByteArray) (w : World) : Calls Tryz.prog 84 #[.string s, .string p] w fun e w' => e = .returned (.bool (eatL (bl p) (bl s)).isSome) ∧ w' = w := by
  rw [← prefix_eat]
  exact Any.strings_HasPrefix layHas s p w
theorem cutPrefix_c (s p : ByteArray) (w : World) : Calls Tryz.prog 90 #[.string s, .string p] w fun e w' => e = .returned (.tuple #[.string ⟨((eatL (bl p) (bl s)).getD (bl s)).toArray⟩, .bool (eatL (bl p) (bl s)).isSome]) ∧ w' = w := by
  rw [← prefix_eat, ← trim_eat]
  exact Any.strings_CutPrefix layCut s p w
theorem dec_fin : ∀ k : Fin 100, Lib.decDigits k.val = bl (dig (k.val : Int)) := by
  intro ⟨k, hk⟩
  show Lib.decDigits k = bl (dig (k : Int))
  by_cases h : k < 10
  · rw [Lib.decDigits, dif_pos h]
    have : ∀ k : Fin 10, [UInt8.ofNat (48 + k.val)] = bl (dig (k.val : Int)) := by decide
    exact this ⟨k, h⟩
  · rw [Lib.decDigits, dif_neg h, Lib.decDigits, dif_pos (by omega)]
    have : ∀ j : Fin 10, ∀ i : Fin 10, j.val ≠ 0 → [UInt8.ofNat (48 + j.val)] ++ [UInt8.ofNat (48 + i.val)] = bl (dig (((10 * j.val + i.val : Nat) : Int))) := by decide
    have h2 := this ⟨k / 10, by omega⟩ ⟨k % 10, by omega⟩ (by show k / 10 ≠ 0; omega)
    simp only at h2
    rw [h2]
    congr 3
    omega
theorem itoa_c (n : Int) (h0 : 0 ≤ n) (h9 : n ≤ 99) (w : World) : Calls Tryz.prog 48 #[.int .i64 n] w fun e w' => e = .returned (.string (dig n)) ∧ w' = w := by
  obtain ⟨k, rfl⟩ : ∃ k : Nat, n = (k : Int) := ⟨n.toNat, by omega⟩
  have h := Any.strconv_Itoa_small layItoa k (by omega) w
  have e : (⟨(Lib.decDigits k).toArray⟩ : ByteArray) = dig (k : Int) := bl_inj (by rw [← dec_fin ⟨k, by omega⟩]; unfold bl; simp)
  rw [e] at h
  exact h
theorem digit_say : ∀ (r : List UInt8) (m : Nat), r.all isDig = true → ∃ n : Nat, Lib.decFrom m r = some n ∧ sayL r (m : Int) = (n : Int)
  | [], m, _ => ⟨m, rfl, rfl⟩
  | b :: r, m, h => by
    simp only [List.all_cons, Bool.and_eq_true] at h
    have hb : 48 ≤ b.toNat ∧ b.toNat ≤ 57 := by have := h.1; unfold isDig at this; simpa using this
    obtain ⟨n, h1, h2⟩ := digit_say r (m * 10 + (b.toNat - 48)) h.2
    refine ⟨n, ?_, ?_⟩
    · rw [Lib.decFrom, Lib.digitVal, if_pos hb]
      exact h1
    · rw [sayL, ← h2]
      congr 1
      omega
theorem atoi_say {r : List UInt8} (h0 : r ≠ []) (h : r.all isDig = true) : Lib.atoi r = some (sayL r 0) := by
  obtain ⟨n, h1, h2⟩ := digit_say r 0 h
  cases r with
  | nil => exact absurd rfl h0
  | cons b r =>
    have hb : 48 ≤ b.toNat ∧ b.toNat ≤ 57 := by simp only [List.all_cons, Bool.and_eq_true] at h; have := h.1; unfold isDig at this; simpa using this
    have b1 : (b == 45) = false := by simp only [beq_eq_false_iff_ne]; rintro rfl; exact absurd hb.1 (by decide)
    have b2 : (b == 43) = false := by simp only [beq_eq_false_iff_ne]; rintro rfl; exact absurd hb.1 (by decide)
    rw [Lib.atoi, b1, b2]
    simp only [Bool.false_eq_true, if_false]
    have e : Lib.decNat (b :: r) = Lib.decFrom 0 (b :: r) := rfl
    have h2' : sayL (b :: r) 0 = (n : Int) := h2
    rw [e, h1, h2']
    rfl
theorem atoi_c (r : List UInt8) (h0 : r ≠ []) (h : r.all isDig = true) (h6 : r.length ≤ 6) (w : World) : Calls Tryz.prog 86 #[.string ⟨r.toArray⟩] w fun e w' => e = .returned (.tuple #[.int .i64 (sayL r 0), .nilIface]) ∧ Below w.heap.size w w' := by
  refine (Any.strconv_Atoi layAtoi ⟨r.toArray⟩ (sayL r 0) (by show r.toArray.size ≤ 18; simp; omega) (by simpa using atoi_say h0 h) w).mono ?_
  rintro e w' ⟨rfl, t, rfl⟩
  exact ⟨rfl, Lib.bytesWorld_below _ _ _⟩
theorem join_c (bk o c : Nat) (xs : List ByteArray) (sep : ByteArray) (w : World) (hcells : ∀ (j : Nat) x, xs[j]? = some x → w.cell? ⟨bk, o + j, none⟩ = some (.string x)) (hbk : bk < w.heap.size) (hN : xs.length ≤ 140737488355328) (hcap : xs.length ≤ c) (hlen : ((bl sep).intercalate (xs.map bl)).length ≤ 140737488355328) :
    Calls Tryz.prog 49 #[.slice (some ⟨bk, o, none⟩) xs.length c, .string sep] w fun e w' => e = .returned (.string ⟨((bl sep).intercalate (xs.map bl)).toArray⟩) ∧ Below w.heap.size w w' :=
  Any.strings_Join layJoin extraJoin bk o c xs sep w hcells hbk hN hcap hlen
end Go.Proofs.YtlfccloaoopadafGreatDoor.Text
