/-
  Strata in plain numbers: what the document asks of them, that the rounds of its own reckoning find the least, and find none only if there is none; and what is needed. No program is spoken of here.
-/
import Derived.Test.YtgbacodellfacabMem
namespace Go.Proofs.Ytgbacodellfacab.Strata

/-- a rule of predicate h uses b in its body, with Not or without -/
structure Edge where
  h : Nat
  b : Nat
  neg : Bool
def Edge.up (e : Edge) : Nat := if e.neg then 1 else 0
def at_ (l : List Nat) (k : Nat) : Nat := l.getD k 0
def step (l : List Nat) (e : Edge) : List Nat := if at_ l e.h < at_ l e.b + e.up then l.set e.h (at_ l e.b + e.up) else l
def roundL (E : List Edge) (l : List Nat) : List Nat := E.foldl step l
def search (E : List Edge) : Nat → List Nat → Option (List Nat)
  | 0, _ => none
  | f + 1, l => if roundL E l = l then some l else search E f (roundL E l)
def strataL (E : List Edge) (n : Nat) : Option (List Nat) := search E (n * n + 2) (List.replicate n 0)
/-- s is as C2 asks -/
def Sol (E : List Edge) (s : Nat → Nat) : Prop := ∀ e ∈ E, s e.b + e.up ≤ s e.h
def Within (E : List Edge) (n : Nat) : Prop := ∀ e ∈ E, e.h < n ∧ e.b < n

theorem at_set {l : List Nat} {h v k : Nat} (hh : h < l.length) : at_ (l.set h v) k = if k = h then v else at_ l k := by
  unfold at_
  by_cases e : k = h
  · subst e
    rw [if_pos rfl, List.getD_eq_getElem?_getD, List.getElem?_set_self hh]
    rfl
  · rw [if_neg e, List.getD_eq_getElem?_getD, List.getElem?_set_ne (fun q => e q.symm), List.getD_eq_getElem?_getD]
theorem list_ext {l m : List Nat} (h : l.length = m.length) (he : ∀ k, at_ l k = at_ m k) : l = m := by
  apply List.ext_getElem h
  intro k h1 h2
  have := he k
  unfold at_ at this
  rw [List.getD_eq_getElem?_getD, List.getD_eq_getElem?_getD, List.getElem?_eq_getElem h1, List.getElem?_eq_getElem h2] at this
  exact this
theorem step_length (l : List Nat) (e : Edge) : (step l e).length = l.length := by
  unfold step
  split <;> simp
theorem round_length (E : List Edge) : ∀ l, (roundL E l).length = l.length := by
  induction E with
  | nil => intro l; rfl
  | cons e E ih => intro l; show (roundL E (step l e)).length = _; rw [ih, step_length]
theorem step_up {l : List Nat} {e : Edge} (he : e.h < l.length) (k : Nat) : at_ l k ≤ at_ (step l e) k := by
  unfold step
  split
  · rename_i h
    rw [at_set he]
    split
    · rename_i q; subst q; omega
    · omega
  · omega
theorem round_up {E : List Edge} {n : Nat} (hE : Within E n) : ∀ {l : List Nat}, l.length = n → ∀ k, at_ l k ≤ at_ (roundL E l) k := by
  induction E with
  | nil => intro l _ k; exact Nat.le_refl _
  | cons e E ih =>
    intro l hl k
    have h1 := step_up (l := l) (e := e) (by rw [hl]; exact (hE e (by simp)).1) k
    have h2 := ih (fun x hx => hE x (by simp [hx])) (l := step l e) (by rw [step_length]; exact hl) k
    exact Nat.le_trans h1 h2
theorem step_le {l : List Nat} {e : Edge} {s : Nat → Nat} (he : e.h < l.length) (hs : s e.b + e.up ≤ s e.h) (hl : ∀ k, at_ l k ≤ s k) (k : Nat) : at_ (step l e) k ≤ s k := by
  unfold step
  split
  · rw [at_set he]
    split
    · rename_i q; subst q; have := hl e.b; omega
    · exact hl k
  · exact hl k
theorem round_le {E : List Edge} {n : Nat} {s : Nat → Nat} (hE : Within E n) (hs : Sol E s) : ∀ {l : List Nat}, l.length = n → (∀ k, at_ l k ≤ s k) → ∀ k, at_ (roundL E l) k ≤ s k := by
  induction E with
  | nil => intro l _ h; exact h
  | cons e E ih =>
    intro l hl h
    exact ih (fun x hx => hE x (by simp [hx])) (fun x hx => hs x (by simp [hx])) (by rw [step_length]; exact hl) (step_le (by rw [hl]; exact (hE e (by simp)).1) (hs e (by simp)) h)
/-- a round that changes nothing finds all as it must be -/
theorem round_fix {E : List Edge} {n : Nat} (hE : Within E n) {l : List Nat} (hl : l.length = n) (h : roundL E l = l) : Sol E (at_ l) := by
  induction E with
  | nil => intro e he; cases he
  | cons e E ih =>
    have hE' : Within E n := fun x hx => hE x (by simp [hx])
    have heh : e.h < l.length := by rw [hl]; exact (hE e (by simp)).1
    have h' : roundL E (step l e) = l := h
    have hst : step l e = l := by
      refine list_ext (step_length l e) fun k => ?_
      have h1 := step_up (l := l) (e := e) heh k
      have h2 := round_up hE' (l := step l e) (by rw [step_length]; exact hl) k
      rw [h'] at h2
      omega
    rw [hst] at h'
    intro x hx
    rcases List.mem_cons.1 hx with rfl | hx
    · unfold step at hst
      split at hst
      · rename_i q
        have : at_ (l.set x.h (at_ l x.b + x.up)) x.h = at_ l x.h := by rw [hst]
        rw [at_set heh, if_pos rfl] at this
        omega
      · omega
    · exact ih hE' h' x hx
theorem search_length {E : List Edge} : ∀ {f : Nat} {l m : List Nat}, search E f l = some m → m.length = l.length
  | 0, l, m, h => by cases h
  | f + 1, l, m, h => by
    rw [search] at h
    split at h
    · rw [← Option.some.inj h]
    · rw [search_length h, round_length]
/-- what is found is as it must be, and the least such -/
theorem search_some {E : List Edge} {n : Nat} (hE : Within E n) : ∀ {f : Nat} {l m : List Nat}, l.length = n → search E f l = some m → Sol E (at_ m) ∧ ∀ s, Sol E s → (∀ k, at_ l k ≤ s k) → ∀ k, at_ m k ≤ s k
  | 0, l, m, _, h => by cases h
  | f + 1, l, m, hl, h => by
    rw [search] at h
    split at h
    · rename_i hfix
      obtain rfl := Option.some.inj h
      exact ⟨round_fix hE hl hfix, fun s _ hs => hs⟩
    · obtain ⟨h1, h2⟩ := search_some hE (l := roundL E l) (by rw [round_length]; exact hl) h
      exact ⟨h1, fun s hs hls => h2 s hs (round_le hE hs hl hls)⟩

/-! ### Every solution can be made small -/
theorem nodup_le {α : Type} [DecidableEq α] : ∀ {l m : List α}, l.Nodup → (∀ x ∈ l, x ∈ m) → l.length ≤ m.length
  | [], m, _, _ => Nat.zero_le _
  | x :: l, m, hn, hs => by
    obtain ⟨h1, h2⟩ := List.nodup_cons.1 hn
    have hx := hs x (by simp)
    have := nodup_le (l := l) (m := m.erase x) h2 (fun y hy => by
      have hne : y ≠ x := fun q => h1 (q ▸ hy)
      exact (List.mem_erase_of_ne hne).2 (hs y (by simp [hy])))
    rw [List.length_erase_of_mem hx] at this
    have hpos := List.length_pos_of_mem hx
    simp only [List.length_cons]
    omega
def used (s : Nat → Nat) (n v : Nat) : Bool := (List.range n).any fun j => s j == v
/-- how many numbers below s k are told -/
def rank (s : Nat → Nat) (n k : Nat) : Nat := ((List.range (s k)).filter (used s n)).length
theorem rank_mono {s : Nat → Nat} {n a b : Nat} (h : s a ≤ s b) : rank s n a ≤ rank s n b := by
  unfold rank
  obtain ⟨d, hd⟩ := Nat.exists_eq_add_of_le h
  rw [hd, List.range_add, List.filter_append, List.length_append]
  omega
theorem rank_lt {s : Nat → Nat} {n a b : Nat} (ha : a < n) (h : s a < s b) : rank s n a + 1 ≤ rank s n b := by
  unfold rank
  obtain ⟨d, hd⟩ := Nat.exists_eq_add_of_le (show s a + 1 ≤ s b from h)
  rw [hd, List.range_add, List.range_succ, List.filter_append, List.filter_append, List.length_append, List.length_append]
  have : (List.filter (used s n) [s a]).length = 1 := by
    rw [List.filter_cons, if_pos]
    · rfl
    · exact List.any_eq_true.2 ⟨a, List.mem_range.2 ha, by simp⟩
  omega
theorem rank_small {s : Nat → Nat} {n k : Nat} (hk : k < n) : rank s n k < n := by
  have hnd : (((List.range (s k)).filter (used s n)) ++ [s k]).Nodup := by
    rw [List.nodup_append]
    refine ⟨List.Pairwise.filter _ List.nodup_range, by simp, ?_⟩
    intro a ha b hb
    have h1 := List.mem_range.1 (List.mem_filter.1 ha).1
    simp at hb
    omega
  have hsub : ∀ x ∈ ((List.range (s k)).filter (used s n)) ++ [s k], x ∈ (List.range n).map s := by
    intro x hx
    rcases List.mem_append.1 hx with hx | hx
    · obtain ⟨j, hj, he⟩ := List.any_eq_true.1 (List.mem_filter.1 hx).2
      exact List.mem_map.2 ⟨j, hj, by simpa using he⟩
    · simp at hx
      subst hx
      exact List.mem_map.2 ⟨k, List.mem_range.2 hk, rfl⟩
  have := nodup_le hnd hsub
  simp only [List.length_append, List.length_cons, List.length_nil, List.length_map, List.length_range] at this
  unfold rank
  omega
theorem rank_sol {E : List Edge} {n : Nat} {s : Nat → Nat} (hE : Within E n) (hs : Sol E s) : Sol E (rank s n) := by
  intro e he
  have h1 := hs e he
  have h2 := hE e he
  unfold Edge.up at *
  split
  · rename_i hn
    rw [if_pos hn] at h1
    exact rank_lt h2.2 (by omega)
  · rename_i hn
    rw [if_neg hn] at h1
    exact rank_mono (by omega)

/-! ### The rounds end -/
theorem sum_le {c : Nat} : ∀ {l : List Nat}, (∀ k, k < l.length → at_ l k ≤ c) → l.sum ≤ l.length * c
  | [], _ => by simp
  | x :: l, h => by
    have h0 : x ≤ c := h 0 (by simp)
    have h1 := sum_le (l := l) (fun k hk => h (k + 1) (by simpa using hk))
    simp only [List.sum_cons, List.length_cons, Nat.succ_mul]
    omega
theorem sum_mono : ∀ {l m : List Nat}, l.length = m.length → (∀ k, at_ l k ≤ at_ m k) → l.sum ≤ m.sum
  | [], [], _, _ => Nat.le_refl _
  | [], y :: m, h, _ => by simp at h
  | x :: l, [], h, _ => by simp at h
  | x :: l, y :: m, h, hle => by
    have h0 : x ≤ y := hle 0
    have h1 := sum_mono (l := l) (m := m) (by simpa using h) (fun k => hle (k + 1))
    simp only [List.sum_cons]
    omega
theorem sum_lt : ∀ {l m : List Nat}, l.length = m.length → (∀ k, at_ l k ≤ at_ m k) → l ≠ m → l.sum < m.sum
  | [], [], _, _, h => absurd rfl h
  | [], y :: m, h, _, _ => by simp at h
  | x :: l, [], h, _, _ => by simp at h
  | x :: l, y :: m, h, hle, hne => by
    have h0 : x ≤ y := hle 0
    have hl : l.length = m.length := by simpa using h
    have hle' : ∀ k, at_ l k ≤ at_ m k := fun k => hle (k + 1)
    by_cases e : x = y
    · subst e
      have h1 := sum_lt hl hle' (fun q => hne (by rw [q]))
      simp only [List.sum_cons]
      omega
    · have h1 := sum_mono hl hle'
      simp only [List.sum_cons]
      omega
/-- if there are strata, they are found -/
theorem search_none {E : List Edge} {n : Nat} (hE : Within E n) {s : Nat → Nat} (hs : Sol E s) : ∀ {f : Nat} {l : List Nat}, l.length = n → (∀ k, at_ l k ≤ rank s n k) → n * n < l.sum + f → search E f l ≠ none
  | 0, l, hl, hle, hf => by
    exfalso
    have : l.sum ≤ l.length * n := sum_le (fun k hk => Nat.le_trans (hle k) (Nat.le_of_lt (rank_small (by omega))))
    rw [hl] at this
    omega
  | f + 1, l, hl, hle, hf => by
    rw [search]
    split
    · simp
    · rename_i hne
      have hlen : l.length = (roundL E l).length := (round_length E l).symm
      have h1 := sum_lt hlen (round_up hE hl) (fun q => hne q.symm)
      exact search_none hE hs (by rw [round_length]; exact hl) (round_le hE (rank_sol hE hs) hl hle) (by omega)
theorem zeros (n k : Nat) : at_ (List.replicate n 0) k = 0 := by
  unfold at_
  rw [List.getD_eq_getElem?_getD, List.getElem?_replicate]
  split <;> rfl
/-- C2: the least numbers that are as they must be; none, if there are none -/
theorem strata_some {E : List Edge} {n : Nat} (hE : Within E n) {l : List Nat} (h : strataL E n = some l) : l.length = n ∧ Sol E (at_ l) ∧ (∀ s, Sol E s → ∀ k, at_ l k ≤ s k) := by
  obtain ⟨h1, h2⟩ := search_some hE (by simp) h
  exact ⟨by rw [search_length h]; simp, h1, fun s hs => h2 s hs (fun k => by rw [zeros]; exact Nat.zero_le _)⟩
theorem strata_none {E : List Edge} {n : Nat} (hE : Within E n) (h : strataL E n = none) (s : Nat → Nat) : ¬ Sol E s := fun hs =>
  search_none hE hs (by simp) (fun k => by rw [zeros]; exact Nat.zero_le _) (by simp) h
theorem strata_eq {E : List Edge} {n : Nat} (hE : Within E n) {l : List Nat} (hl : l.length = n) (h1 : Sol E (at_ l)) (h2 : ∀ s, Sol E s → ∀ k, at_ l k ≤ s k) : strataL E n = some l := by
  cases h : strataL E n with
  | none => exact absurd h1 (strata_none hE h _)
  | some m =>
    obtain ⟨g0, g1, g2⟩ := strata_some hE h
    congr 1
    exact list_ext (by omega) fun k => Nat.le_antisymm (g2 _ h1 k) (h2 _ g1 k)
theorem strata_small {E : List Edge} {n : Nat} (hE : Within E n) {l : List Nat} (h : strataL E n = some l) {k : Nat} (hk : k < n) : at_ l k < n := by
  obtain ⟨_, g1, g2⟩ := strata_some hE h
  exact Nat.lt_of_le_of_lt (g2 _ (rank_sol hE g1) k) (rank_small hk)
/-- who stands above 0 has a rule that asks for just that -/
theorem strata_asked {E : List Edge} {n : Nat} (hE : Within E n) {l : List Nat} (h : strataL E n = some l) {k : Nat} (hk : 0 < at_ l k) : ∃ e ∈ E, e.h = k ∧ at_ l k = at_ l e.b + e.up := by
  obtain ⟨_, g1, g2⟩ := strata_some hE h
  refine Classical.byContradiction fun hno => ?_
  have hlt : ∀ e ∈ E, e.h = k → at_ l e.b + e.up < at_ l k := by
    intro e he heh
    have := g1 e he
    rw [heh] at this
    rcases Nat.lt_or_eq_of_le this with q | q
    · exact q
    · exact absurd ⟨e, he, heh, q.symm⟩ hno
  have hs : Sol E (fun j => if j = k then at_ l k - 1 else at_ l j) := by
    intro e he
    have h0 := g1 e he
    show (if e.b = k then at_ l k - 1 else at_ l e.b) + e.up ≤ if e.h = k then at_ l k - 1 else at_ l e.h
    by_cases q : e.h = k
    · have := hlt e he q
      rw [if_pos q]
      split <;> rename_i r
      · rw [r] at this; omega
      · omega
    · rw [if_neg q]
      split <;> rename_i r
      · rw [r] at h0; omega
      · omega
  have := g2 _ hs k
  simp only [if_true] at this
  omega
end Go.Proofs.Ytgbacodellfacab.Strata
