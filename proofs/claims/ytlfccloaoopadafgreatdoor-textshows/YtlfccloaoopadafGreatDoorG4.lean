/-
  Values as the document has them, in plain numbers: what joining, lifting and the order say, and the laws that they keep. No program is spoken of here.
-/
import Derived.WalkKit
namespace Go.Proofs.YtlfccloaoopadafGreatDoor.Lat
/-- A1: the error of a value. -/
def most (k : Int) : Int := if k = 0 then 0 else 15
def err (k v : Int) : Int := if k < 0 ∨ 4 ≤ k then 4 else if v < 0 ∨ most k < v then 3 else 0
def maxI (a b : Int) : Int := if a < b then b else a
def minI (a b : Int) : Int := if a < b then a else b
def err2 (k a b : Int) : Int := if err k a = 0 then err k b else err k a
def orB (a b : Int) : Int := bits BinOp.or IntKind.i64 a b
def cap (n : Int) : Int := if 15 < n then 15 else n
/-- A2: what two values are together. -/
def join (k a b : Int) : Int := if k = 1 then maxI a b else if k = 2 then minI a b else if k = 3 then orB a b else 0
def lift (k a b : Int) : Int := if k = 1 then cap (a + b) else if k = 2 then cap (a + b) else if k = 3 then orB a b else 0
def joinOf (k a b : Int) : Int := if err2 k a b = 0 then join k a b else 0
def liftOf (k a b : Int) : Int := if err2 k a b = 0 then lift k a b else 0
theorem err_ok {k v : Int} (h : err k v = 0) : (k = 0 ∨ k = 1 ∨ k = 2 ∨ k = 3) ∧ 0 ≤ v ∧ v ≤ 15 := by
  unfold err most at h
  split at h
  · omega
  · split at h
    · omega
    · split at * <;> omega

def leq (k a b : Int) : Bool := err2 k a b == 0 && joinOf k a b == b
def within (n lo hi : Int) : Bool := lo ≤ n && n ≤ hi
theorem err2_ok {k a b : Int} (h : err2 k a b = 0) : (k = 0 ∨ k = 1 ∨ k = 2 ∨ k = 3) ∧ (0 ≤ a ∧ a ≤ 15) ∧ (0 ≤ b ∧ b ≤ 15) := by
  unfold err2 at h
  split at h
  · rename_i h1
    exact ⟨(err_ok h1).1, (err_ok h1).2, (err_ok h).2⟩
  · exact absurd h (by assumption)


theorem orB_fin : ∀ a b : Fin 16, orB (a.val : Int) (b.val : Int) = ((a.val ||| b.val : Nat) : Int) := by decide +kernel

theorem orB_nat (a b : Nat) (ha : a < 16) (hb : b < 16) : orB (a : Int) (b : Int) = ((a ||| b : Nat) : Int) := orB_fin ⟨a, ha⟩ ⟨b, hb⟩
theorem or_lt {a b : Nat} (ha : a < 16) (hb : b < 16) : a ||| b < 16 := Nat.or_lt_two_pow (n := 4) ha hb

theorem err_of {k v : Int} (hk : k = 1 ∨ k = 2 ∨ k = 3) (h0 : 0 ≤ v) (h1 : v ≤ 15) : err k v = 0 := by
  unfold err most
  rw [if_neg (by omega), if_neg (by omega)]
theorem err_zero {v : Int} (h : err 0 v = 0) : v = 0 := by
  unfold err most at h
  simp at h
  omega
theorem nat_of {v : Int} (h0 : 0 ≤ v) (h1 : v ≤ 15) : ∃ n : Nat, n < 16 ∧ v = (n : Int) := ⟨v.toNat, by omega, by omega⟩

theorem join_plain (a b : Int) : join 0 a b = 0 := rfl
theorem join_max (a b : Int) : join 1 a b = maxI a b := rfl
theorem join_min (a b : Int) : join 2 a b = minI a b := rfl
theorem join_bits (a b : Int) : join 3 a b = orB a b := rfl

/-- A join of values is a value. -/
theorem err_join {k a b : Int} (ha : err k a = 0) (hb : err k b = 0) : err k (join k a b) = 0 := by
  obtain ⟨hk, a0, a1⟩ := err_ok ha
  obtain ⟨_, b0, b1⟩ := err_ok hb
  rcases hk with rfl | rfl | rfl | rfl
  · rfl
  · rw [join_max]; unfold maxI; split <;> exact err_of (by simp) (by omega) (by omega)
  · rw [join_min]; unfold minI; split <;> exact err_of (by simp) (by omega) (by omega)
  · obtain ⟨m, hm, rfl⟩ := nat_of a0 a1
    obtain ⟨n, hn, rfl⟩ := nat_of b0 b1
    rw [join_bits, orB_nat m n hm hn]
    have := or_lt hm hn
    exact err_of (by simp) (by omega) (by omega)
theorem err_lift {k a b : Int} (ha : err k a = 0) (hb : err k b = 0) : err k (lift k a b) = 0 := by
  obtain ⟨hk, a0, a1⟩ := err_ok ha
  obtain ⟨_, b0, b1⟩ := err_ok hb
  rcases hk with rfl | rfl | rfl | rfl
  · rfl
  · show err 1 (cap (a + b)) = 0; unfold cap; split <;> exact err_of (by simp) (by omega) (by omega)
  · show err 2 (cap (a + b)) = 0; unfold cap; split <;> exact err_of (by simp) (by omega) (by omega)
  · exact err_join ha hb

theorem join_comm {k a b : Int} (ha : err k a = 0) (hb : err k b = 0) : join k a b = join k b a := by
  obtain ⟨hk, a0, a1⟩ := err_ok ha
  obtain ⟨_, b0, b1⟩ := err_ok hb
  rcases hk with rfl | rfl | rfl | rfl
  · rw [join_plain, join_plain]
  · simp only [join_max, maxI]; split <;> split <;> omega
  · simp only [join_min, minI]; split <;> split <;> omega
  · obtain ⟨m, hm, rfl⟩ := nat_of a0 a1
    obtain ⟨n, hn, rfl⟩ := nat_of b0 b1
    rw [join_bits, join_bits, orB_nat m n hm hn, orB_nat n m hn hm, Nat.or_comm]
theorem join_self {k a : Int} (ha : err k a = 0) : join k a a = a := by
  obtain ⟨hk, a0, a1⟩ := err_ok ha
  rcases hk with rfl | rfl | rfl | rfl
  · rw [err_zero ha]; rfl
  · simp [join_max, maxI]
  · simp [join_min, minI]
  · obtain ⟨m, hm, rfl⟩ := nat_of a0 a1
    rw [join_bits, orB_nat m m hm hm, Nat.or_self]
theorem join_assoc {k a b c : Int} (ha : err k a = 0) (hb : err k b = 0) (hc : err k c = 0) : join k (join k a b) c = join k a (join k b c) := by
  obtain ⟨hk, a0, a1⟩ := err_ok ha
  obtain ⟨_, b0, b1⟩ := err_ok hb
  obtain ⟨_, c0, c1⟩ := err_ok hc
  rcases hk with rfl | rfl | rfl | rfl
  · rw [join_plain, join_plain]
  · simp only [join_max, maxI]; repeat' split
    all_goals omega
  · simp only [join_min, minI]; repeat' split
    all_goals omega
  · obtain ⟨m, hm, rfl⟩ := nat_of a0 a1
    obtain ⟨n, hn, rfl⟩ := nat_of b0 b1
    obtain ⟨r, hr, rfl⟩ := nat_of c0 c1
    simp only [join_bits]
    rw [orB_nat m n hm hn, orB_nat n r hn hr, orB_nat _ r (or_lt hm hn) hr, orB_nat m _ hm (or_lt hn hr), Nat.or_assoc]

/-- a adds nothing to b -/
def le (k a b : Int) : Prop := join k a b = b
theorem leq_iff {k a b : Int} (ha : err k a = 0) (hb : err k b = 0) : leq k a b = true ↔ le k a b := by
  have h : err2 k a b = 0 := by simp [err2, ha, hb]
  simp [leq, joinOf, h, le]
theorem le_self {k a : Int} (ha : err k a = 0) : le k a a := join_self ha
theorem le_anti {k a b : Int} (ha : err k a = 0) (hb : err k b = 0) (h1 : le k a b) (h2 : le k b a) : a = b := by
  unfold le at h1 h2
  rw [join_comm hb ha, h1] at h2
  exact h2.symm
theorem le_trans {k a b c : Int} (ha : err k a = 0) (hb : err k b = 0) (hc : err k c = 0) (h1 : le k a b) (h2 : le k b c) : le k a c := by
  unfold le at *
  rw [← h2, ← join_assoc ha hb hc, h1]
theorem le_join_left {k a b : Int} (ha : err k a = 0) (hb : err k b = 0) : le k a (join k a b) := by
  unfold le
  rw [← join_assoc ha ha hb, join_self ha]
theorem le_join_right {k a b : Int} (ha : err k a = 0) (hb : err k b = 0) : le k b (join k a b) := by
  rw [join_comm ha hb]
  exact le_join_left hb ha
theorem join_le {k a b c : Int} (ha : err k a = 0) (hb : err k b = 0) (hc : err k c = 0) : le k (join k a b) c ↔ le k a c ∧ le k b c := by
  constructor
  · intro h
    exact ⟨le_trans ha (err_join ha hb) hc (le_join_left ha hb) h, le_trans hb (err_join ha hb) hc (le_join_right ha hb) h⟩
  · rintro ⟨h1, h2⟩
    unfold le at *
    rw [join_assoc ha hb hc, h2, h1]
theorem lift_zero {k a : Int} (ha : err k a = 0) : lift k a 0 = a := by
  obtain ⟨hk, a0, a1⟩ := err_ok ha
  rcases hk with rfl | rfl | rfl | rfl
  · rw [err_zero ha]; rfl
  · show cap (a + 0) = a; unfold cap; rw [if_neg (by omega)]; omega
  · show cap (a + 0) = a; unfold cap; rw [if_neg (by omega)]; omega
  · obtain ⟨m, hm, rfl⟩ := nat_of a0 a1
    show orB (m : Int) ((0 : Nat) : Int) = _
    rw [orB_nat m 0 hm (by omega), Nat.or_zero]
theorem le_lift {k a b n : Int} (ha : err k a = 0) (hb : err k b = 0) (hn : err k n = 0) (h : le k a b) : le k (lift k a n) (lift k b n) := by
  obtain ⟨hk, a0, a1⟩ := err_ok ha
  obtain ⟨_, b0, b1⟩ := err_ok hb
  obtain ⟨_, n0, n1⟩ := err_ok hn
  rcases hk with rfl | rfl | rfl | rfl
  · rfl
  · unfold le at *
    rw [join_max] at *
    show maxI (cap (a + n)) (cap (b + n)) = cap (b + n)
    unfold maxI cap at *
    repeat' split
    all_goals (split at h <;> omega)
  · unfold le at *
    rw [join_min] at *
    show minI (cap (a + n)) (cap (b + n)) = cap (b + n)
    unfold minI cap at *
    repeat' split
    all_goals (split at h <;> omega)
  · unfold le at *
    show join 3 (join 3 a n) (join 3 b n) = join 3 b n
    rw [join_comm ha hn, join_assoc hn ha (err_join hb hn), ← join_assoc ha hb hn, h, join_comm hb hn, ← join_assoc hn hn hb, join_self hn]
end Go.Proofs.YtlfccloaoopadafGreatDoor.Lat
