/-
  Facts as the document has them, in plain lists: what is found, added, under; and the laws that these keep. No program is spoken of here.
-/
import Derived.Test.YtgbacodellfacacLatPlain
import Derived.Test.YtgbacodellfacacMem
namespace Go.Proofs.Ytgbacodellfacac.Base
open Lat (err join join_comm join_assoc join_self err_join le le_self le_anti le_trans le_join_left le_join_right)

def place (x : Fct) : Int := (x.pred * 5 + x.a) * 5 + x.b
/-- x is a fact of predicates whose kinds are K -/
structure Fine (n : Nat) (K : Int → Int) (x : Fct) : Prop where
  p0 : 0 ≤ x.pred
  p1 : x.pred < n
  a0 : 0 ≤ x.a
  a1 : x.a ≤ 4
  b0 : 0 ≤ x.b
  b1 : x.b ≤ 4
  v : err (K x.pred) x.val = 0
def Sorted (f : List Fct) : Prop := f.Pairwise fun x y => place x < place y
structure Right (n : Nat) (K : Int → Int) (f : List Fct) : Prop where
  sorted : Sorted f
  fine : ∀ x ∈ f, Fine n K x
/-- the value at a place -/
def get (f : List Fct) (pl : Int) : Option Int := (f.find? fun y => place y == pl).map Fct.val
def addF (K : Int → Int) (x : Fct) : List Fct → List Fct
  | [] => [x]
  | y :: f => if place y = place x then ⟨y.pred, y.a, y.b, join (K x.pred) y.val x.val⟩ :: f else if place x < place y then x :: y :: f else y :: addF K x f
def addC (K : Int → Int) (x : Fct) : List Fct → Bool
  | [] => true
  | y :: f => if place y = place x then join (K x.pred) y.val x.val != y.val else if place x < place y then true else addC K x f
def underOne (K : Int → Int) (g : List Fct) (x : Fct) : Bool := match get g (place x) with | none => false | some v => join (K x.pred) x.val v == v
def under (K : Int → Int) (f g : List Fct) : Bool := f.all (underOne K g)

section
variable {n : Nat} {K : Int → Int}

theorem place_inj {x y : Fct} (hx : Fine n K x) (hy : Fine n K y) (h : place x = place y) : x.pred = y.pred ∧ x.a = y.a ∧ x.b = y.b := by
  obtain ⟨_, _, _, _, _, _, _⟩ := hx
  obtain ⟨_, _, _, _, _, _, _⟩ := hy
  unfold place at h
  omega
theorem pred_of {x : Fct} (hx : Fine n K x) : x.pred = place x / 25 := by
  obtain ⟨_, _, _, _, _, _, _⟩ := hx
  unfold place
  omega

theorem get_nil (pl : Int) : get [] pl = none := rfl
theorem get_cons (y : Fct) (f : List Fct) (pl : Int) : get (y :: f) pl = if place y = pl then some y.val else get f pl := by
  unfold get
  rw [List.find?_cons]
  by_cases h : place y = pl
  · simp [h]
  · have h' : (place y == pl) = false := by simpa using h
    simp [h, h']
theorem get_lt {f : List Fct} {pl : Int} (h : ∀ x ∈ f, pl < place x) : get f pl = none := by
  induction f with
  | nil => rfl
  | cons y f ih =>
    have := h y (by simp)
    rw [get_cons, if_neg (by omega)]
    exact ih (fun x hx => h x (by simp [hx]))
theorem get_mem {f : List Fct} {pl v : Int} (h : get f pl = some v) : ∃ x ∈ f, place x = pl ∧ x.val = v := by
  induction f with
  | nil => cases h
  | cons y f ih =>
    rw [get_cons] at h
    split at h
    · exact ⟨y, by simp, by assumption, Option.some.inj h⟩
    · obtain ⟨x, hx, h1, h2⟩ := ih h
      exact ⟨x, by simp [hx], h1, h2⟩
theorem mem_get {f : List Fct} (hs : Sorted f) {x : Fct} (hx : x ∈ f) : get f (place x) = some x.val := by
  induction f with
  | nil => cases hx
  | cons y f ih =>
    obtain ⟨h1, h2⟩ := List.pairwise_cons.1 hs
    rw [get_cons]
    rcases List.mem_cons.1 hx with rfl | hx
    · rw [if_pos rfl]
    · have := h1 x hx
      rw [if_neg (by omega)]
      exact ih h2 hx
theorem Right.nil : Right n K [] := ⟨List.Pairwise.nil, by simp⟩
theorem Right.tail {y : Fct} {f : List Fct} (h : Right n K (y :: f)) : Right n K f := ⟨(List.pairwise_cons.1 h.sorted).2, fun x hx => h.fine x (by simp [hx])⟩

/-- two lists of facts that tell the same at each place are the same -/
theorem ext {f g : List Fct} (hf : Right n K f) (hg : Right n K g) (h : ∀ pl, get f pl = get g pl) : f = g := by
  induction f generalizing g with
  | nil =>
    cases g with
    | nil => rfl
    | cons y g =>
      have := h (place y)
      rw [get_cons, if_pos rfl] at this
      cases this
  | cons x f ih =>
    cases g with
    | nil =>
      have := h (place x)
      rw [get_cons, if_pos rfl] at this
      cases this
    | cons y g =>
      obtain ⟨f1, f2⟩ := List.pairwise_cons.1 hf.sorted
      obtain ⟨g1, g2⟩ := List.pairwise_cons.1 hg.sorted
      have hpl : place x = place y := by
        have h1 := h (place x)
        have h2 := h (place y)
        rw [get_cons, if_pos rfl, get_cons] at h1
        rw [get_cons y, if_pos rfl, get_cons] at h2
        by_cases e : place x = place y
        · exact e
        · rw [if_neg (fun q => e q.symm)] at h1
          rw [if_neg e] at h2
          obtain ⟨z, hz, hz1, _⟩ := get_mem h1.symm
          obtain ⟨u, hu, hu1, _⟩ := get_mem h2
          have := g1 z hz
          have := f1 u hu
          omega
      have hv : x.val = y.val := by
        have h1 := h (place x)
        rw [get_cons, if_pos rfl, get_cons, if_pos hpl.symm] at h1
        exact Option.some.inj h1
      obtain ⟨e1, e2, e3⟩ := place_inj (hf.fine x (by simp)) (hg.fine y (by simp)) hpl
      have hxy : x = y := by
        cases x; cases y
        simp only [Fct.mk.injEq]
        exact ⟨e1, e2, e3, hv⟩
      subst hxy
      rw [ih hf.tail hg.tail]
      intro pl
      have h1 := h pl
      rw [get_cons, get_cons] at h1
      by_cases e : place x = pl
      · subst e
        rw [get_lt f1, get_lt g1]
      · rw [if_neg e, if_neg e] at h1
        exact h1

theorem get_add {f : List Fct} (hs : Sorted f) (x : Fct) (pl : Int) :
    get (addF K x f) pl = if pl = place x then some (match get f pl with | none => x.val | some v => join (K x.pred) v x.val) else get f pl := by
  induction f with
  | nil =>
    rw [addF, get_cons, get_nil]
    by_cases e : place x = pl
    · rw [if_pos e, if_pos e.symm]
    · rw [if_neg e, if_neg (fun q => e q.symm)]
  | cons y f ih =>
    obtain ⟨h1, h2⟩ := List.pairwise_cons.1 hs
    rw [addF]
    by_cases e : place y = place x
    · rw [if_pos e, get_cons, get_cons]
      have e' : place ⟨y.pred, y.a, y.b, join (K x.pred) y.val x.val⟩ = place y := rfl
      rw [e', e]
      by_cases q : place x = pl
      · rw [if_pos q, if_pos q.symm, if_pos q]
      · rw [if_neg q, if_neg (fun z => q z.symm), if_neg q]
    · rw [if_neg e]
      by_cases l : place x < place y
      · rw [if_pos l, get_cons]
        by_cases q : place x = pl
        · subst q
          rw [if_pos rfl, if_pos rfl, get_lt (f := y :: f)]
          intro z hz
          rcases List.mem_cons.1 hz with rfl | hz
          · exact l
          · have := h1 z hz; omega
        · rw [if_neg q, if_neg (fun z => q z.symm)]
      · rw [if_neg l, get_cons, get_cons, ih h2]
        by_cases q : place y = pl
        · rw [if_pos q, if_neg (by omega), if_pos q]
        · rw [if_neg q, if_neg q]
theorem mem_add {x z : Fct} {f : List Fct} (h : z ∈ addF K x f) : place z = place x ∨ z ∈ f := by
  induction f with
  | nil => simp [addF] at h; exact .inl (by rw [h])
  | cons y f ih =>
    rw [addF] at h
    split at h
    · rename_i e
      rcases List.mem_cons.1 h with rfl | h
      · exact .inl e
      · exact .inr (by simp [h])
    · split at h
      · rcases List.mem_cons.1 h with rfl | h
        · exact .inl rfl
        · exact .inr h
      · rcases List.mem_cons.1 h with rfl | h
        · exact .inr (by simp)
        · rcases ih h with h | h
          · exact .inl h
          · exact .inr (by simp [h])
theorem sorted_add {x : Fct} {f : List Fct} (hs : Sorted f) : Sorted (addF K x f) := by
  induction f with
  | nil => simp [addF, Sorted]
  | cons y f ih =>
    obtain ⟨h1, h2⟩ := List.pairwise_cons.1 hs
    rw [addF]
    split
    · exact List.pairwise_cons.2 ⟨fun z hz => h1 z hz, h2⟩
    · split
      · refine List.pairwise_cons.2 ⟨?_, hs⟩
        intro z hz
        rcases List.mem_cons.1 hz with rfl | hz
        · assumption
        · have := h1 z hz; omega
      · refine List.pairwise_cons.2 ⟨?_, ih h2⟩
        intro z hz
        rcases mem_add hz with h | h
        · omega
        · exact h1 z h
theorem fine_add {x : Fct} {f : List Fct} (hx : Fine n K x) (hf : ∀ z ∈ f, Fine n K z) : ∀ z ∈ addF K x f, Fine n K z := by
  induction f with
  | nil => intro z hz; simp [addF] at hz; rw [hz]; exact hx
  | cons y f ih =>
    intro z hz
    have hy := hf y (by simp)
    rw [addF] at hz
    split at hz
    · rename_i e
      rcases List.mem_cons.1 hz with rfl | hz
      · have hp := (place_inj hy hx e).1
        refine ⟨hy.p0, hy.p1, hy.a0, hy.a1, hy.b0, hy.b1, ?_⟩
        show err (K y.pred) (join (K x.pred) y.val x.val) = 0
        rw [hp]
        exact err_join (by rw [← hp]; exact hy.v) hx.v
      · exact hf z (by simp [hz])
    · split at hz
      · rcases List.mem_cons.1 hz with rfl | hz
        · exact hx
        · exact hf z hz
      · rcases List.mem_cons.1 hz with rfl | hz
        · exact hy
        · exact ih (fun u hu => hf u (by simp [hu])) z hz
theorem Right.add {x : Fct} {f : List Fct} (hf : Right n K f) (hx : Fine n K x) : Right n K (addF K x f) := ⟨sorted_add hf.sorted, fine_add hx hf.fine⟩

theorem get_err {f : List Fct} (hf : Right n K f) {pl v : Int} (h : get f pl = some v) : err (K (pl / 25)) v = 0 := by
  obtain ⟨x, hx, rfl, rfl⟩ := get_mem h
  rw [← pred_of (hf.fine x hx)]
  exact (hf.fine x hx).v

/-- under, place by place -/
theorem under_iff {f g : List Fct} (hf : Right n K f) : under K f g = true ↔ ∀ pl v, get f pl = some v → ∃ u, get g pl = some u ∧ le (K (pl / 25)) v u := by
  rw [under, List.all_eq_true]
  constructor
  · intro h pl v hv
    obtain ⟨x, hx, rfl, rfl⟩ := get_mem hv
    have := h x hx
    unfold underOne at this
    rw [← pred_of (hf.fine x hx)]
    cases hg : get g (place x) with
    | none => rw [hg] at this; cases this
    | some u => rw [hg] at this; exact ⟨u, rfl, by simpa [le] using this⟩
  · intro h x hx
    obtain ⟨u, hu, hl⟩ := h _ _ (mem_get hf.sorted hx)
    unfold underOne
    rw [hu]
    rw [← pred_of (hf.fine x hx)] at hl
    simpa [le] using hl
theorem under_refl {f : List Fct} (hf : Right n K f) : under K f f = true := (under_iff hf).2 fun _ v hv => ⟨v, hv, le_self (get_err hf hv)⟩
theorem under_trans {f g h : List Fct} (hf : Right n K f) (hg : Right n K g) (hh : Right n K h) (h1 : under K f g = true) (h2 : under K g h = true) : under K f h = true := by
  rw [under_iff hf] at *
  rw [under_iff hg] at h2
  intro pl v hv
  obtain ⟨u, hu, l1⟩ := h1 pl v hv
  obtain ⟨t, ht, l2⟩ := h2 pl u hu
  exact ⟨t, ht, le_trans (get_err hf hv) (get_err hg hu) (get_err hh ht) l1 l2⟩
theorem under_anti {f g : List Fct} (hf : Right n K f) (hg : Right n K g) (h1 : under K f g = true) (h2 : under K g f = true) : f = g := by
  rw [under_iff hf] at h1
  rw [under_iff hg] at h2
  refine ext hf hg fun pl => ?_
  cases h : get f pl with
  | none =>
    cases h' : get g pl with
    | none => rfl
    | some v =>
      obtain ⟨u, hu, _⟩ := h2 pl v h'
      rw [h] at hu
      cases hu
  | some v =>
    obtain ⟨u, hu, l1⟩ := h1 pl v h
    obtain ⟨t, ht, l2⟩ := h2 pl u hu
    rw [h] at ht
    obtain rfl := Option.some.inj ht
    rw [hu, le_anti (get_err hf h) (get_err hg hu) l1 l2]
theorem under_add {f : List Fct} {x : Fct} (hf : Right n K f) (hx : Fine n K x) : under K f (addF K x f) = true := by
  rw [under_iff hf]
  intro pl v hv
  rw [get_add hf.sorted, hv]
  by_cases e : pl = place x
  · rw [if_pos e]
    refine ⟨_, rfl, ?_⟩
    have hv' := get_err hf hv
    rw [e, ← pred_of hx] at hv'
    rw [e, ← pred_of hx]
    exact le_join_left hv' hx.v
  · rw [if_neg e]
    exact ⟨v, rfl, le_self (get_err hf hv)⟩
theorem under_one {f : List Fct} {x : Fct} (hf : Right n K f) (hx : Fine n K x) : under K [x] (addF K x f) = true := by
  have h1 : Right n K [x] := ⟨by simp [Sorted], by simpa using hx⟩
  rw [under_iff h1]
  intro pl v hv
  rw [get_cons, get_nil] at hv
  split at hv
  · rename_i e
    subst e
    obtain rfl := Option.some.inj hv
    rw [get_add hf.sorted, if_pos rfl, ← pred_of hx]
    refine ⟨_, rfl, ?_⟩
    cases h : get f (place x) with
    | none => exact le_self hx.v
    | some u =>
      have hu := get_err hf h
      rw [← pred_of hx] at hu
      exact le_join_right hu hx.v
  · cases hv
/-- the least that has both -/
theorem add_least {f g : List Fct} {x : Fct} (hf : Right n K f) (hg : Right n K g) (hx : Fine n K x) (h1 : under K f g = true) (h2 : under K [x] g = true) : under K (addF K x f) g = true := by
  have hr : Right n K [x] := ⟨by simp [Sorted], by simpa using hx⟩
  rw [under_iff (hf.add hx)]
  rw [under_iff hf] at h1
  rw [under_iff hr] at h2
  intro pl v hv
  rw [get_add hf.sorted] at hv
  split at hv
  · rename_i e
    subst e
    obtain rfl := Option.some.inj hv
    obtain ⟨u, hu, lu⟩ := h2 (place x) x.val (by rw [get_cons, if_pos rfl])
    refine ⟨u, hu, ?_⟩
    have hue := get_err hg hu
    rw [← pred_of hx] at *
    cases h : get f (place x) with
    | none => exact lu
    | some t =>
      obtain ⟨u', hu', lt⟩ := h1 _ _ h
      rw [hu] at hu'
      obtain rfl := Option.some.inj hu'
      rw [← pred_of hx] at lt
      have ht := get_err hf h
      rw [← pred_of hx] at ht
      exact (Lat.join_le ht hx.v hue).2 ⟨lt, lu⟩
  · exact h1 pl v hv

theorem addC_iff {f : List Fct} {x : Fct} (hf : Right n K f) : addC K x f = true ↔ addF K x f ≠ f := by
  induction f with
  | nil => simp [addC, addF]
  | cons y f ih =>
    obtain ⟨h1, h2⟩ := List.pairwise_cons.1 hf.sorted
    rw [addC, addF]
    by_cases e : place y = place x
    · rw [if_pos e, if_pos e]
      constructor
      · intro h q
        have : join (K x.pred) y.val x.val = y.val := congrArg Fct.val (List.cons.inj q).1
        simp [this] at h
      · intro h
        simp only [bne_iff_ne, ne_eq]
        intro q
        exact h (by rw [q])
    · rw [if_neg e, if_neg e]
      by_cases l : place x < place y
      · rw [if_pos l, if_pos l]
        simp only [ne_eq, true_iff]
        intro q
        have := congrArg List.length q
        simp at this
      · rw [if_neg l, if_neg l, ih hf.tail]
        simp
theorem add_again {f : List Fct} {x : Fct} (hf : Right n K f) (hx : Fine n K x) : addF K x (addF K x f) = addF K x f := by
  refine ext ((hf.add hx).add hx) (hf.add hx) fun pl => ?_
  rw [get_add (sorted_add hf.sorted), get_add hf.sorted]
  by_cases e : pl = place x
  · rw [if_pos e, if_pos e]
    congr 1
    cases h : get f pl with
    | none => exact join_self hx.v
    | some v =>
      have hv := get_err hf h
      rw [e, ← pred_of hx] at hv
      show join _ (join _ v x.val) x.val = join _ v x.val
      rw [join_assoc hv hx.v hx.v, join_self hx.v]
  · rw [if_neg e, if_neg e]
theorem add_comm {f : List Fct} {x y : Fct} (hf : Right n K f) (hx : Fine n K x) (hy : Fine n K y) : addF K y (addF K x f) = addF K x (addF K y f) := by
  refine ext ((hf.add hx).add hy) ((hf.add hy).add hx) fun pl => ?_
  rw [get_add (sorted_add hf.sorted), get_add hf.sorted, get_add (sorted_add hf.sorted), get_add hf.sorted]
  by_cases ex : pl = place x
  · by_cases ey : pl = place y
    · have hp := (place_inj hx hy (ex.symm.trans ey)).1
      rw [if_pos ey, if_pos ex, if_pos ex, if_pos ey]
      congr 1
      have hy' : err (K x.pred) y.val = 0 := by rw [hp]; exact hy.v
      rw [← hp]
      cases h : get f pl with
      | none => exact join_comm hx.v hy'
      | some v =>
        have hv := get_err hf h
        rw [ex, ← pred_of hx] at hv
        show join _ (join _ v x.val) y.val = join _ (join _ v y.val) x.val
        rw [join_assoc hv hx.v hy', join_assoc hv hy' hx.v, join_comm hx.v hy']
    · rw [if_neg ey, if_pos ex, if_pos ex, if_neg ey]
  · rw [if_neg ex, if_neg ex]
end
end Go.Proofs.Ytgbacodellfacac.Base
