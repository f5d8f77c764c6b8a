package base_test

import (
	"math"
	"slices"
	"testing"

	"treillage/api"
	"treillage/base"
)

// Numbers of the predicates of preds.
const (
	edge = iota
	far
	load
	mark
	flag
	none // there is no such one
)

func preds() []api.Pred {
	return []api.Pred{
		edge: {Name: "edge", Arity: 2},
		far:  {Name: "far", Arity: 2, Kind: api.Min},
		load: {Name: "load", Arity: 1, Kind: api.Max},
		mark: {Name: "mark", Arity: 1, Kind: api.Bits},
		flag: {Name: "flag"},
	}
}

// some facts of each predicate.
func some() []api.Fact {
	return []api.Fact{
		{Pred: edge, A: 0, B: 1},
		{Pred: edge, A: 1, B: 0},
		{Pred: far, A: 0, B: 1, Val: 4},
		{Pred: far, A: 3, B: 4, Val: 15},
		{Pred: load, A: 2, Val: 7},
		{Pred: mark, A: 4, Val: 5},
		{Pred: flag},
	}
}

// wrong facts: each is not right, whatever is told beside it.
func wrong() []api.Fact {
	return []api.Fact{
		{Pred: -1}, {Pred: none}, {Pred: math.MinInt}, {Pred: math.MaxInt},
		{Pred: edge, A: -1}, {Pred: edge, A: 5}, {Pred: edge, B: -1}, {Pred: edge, B: 5},
		{Pred: edge, A: math.MinInt}, {Pred: far, B: math.MaxInt},
		{Pred: edge, Val: 1}, {Pred: edge, Val: -1}, {Pred: flag, Val: 1},
		{Pred: far, Val: 16}, {Pred: far, Val: -1}, {Pred: load, Val: 16}, {Pred: load, Val: math.MinInt},
		{Pred: mark, Val: 16}, {Pred: mark, Val: math.MaxInt},
		{Pred: load, A: 1, B: 1}, {Pred: load, B: -1}, {Pred: mark, A: 5},
		{Pred: flag, A: 1}, {Pred: flag, B: 1}, {Pred: flag, A: -1},
	}
}

// right facts at the edges.
func right() []api.Fact {
	return []api.Fact{
		{Pred: edge}, {Pred: edge, A: 4, B: 4}, {Pred: edge, A: 4}, {Pred: edge, B: 4},
		{Pred: far}, {Pred: far, A: 4, B: 4, Val: 15}, {Pred: load, A: 4, Val: 15}, {Pred: load},
		{Pred: mark, A: 4, Val: 15}, {Pred: mark}, {Pred: flag},
	}
}

// tellError asks all calls for one error of l and f, on whichever side f stands: with it, there is nothing else.
func tellError(t *testing.T, l []api.Pred, f []api.Fact, want api.Errno) {
	t.Helper()
	if e := base.Check(l, f); e != want {
		t.Errorf("%v: Check tells %d, want %d", f, e, want)
	}
	if val, there, e := base.Find(l, f, api.Fact{}); e != want || e != api.OK && (there || val != 0) {
		t.Errorf("%v: Find tells %d, %v, %d, want %d", f, val, there, e, want)
	}
	if g, changed, e := base.Add(l, f, api.Fact{}); e != want || e != api.OK && (changed || len(g) != 0) {
		t.Errorf("%v: Add tells %v, %v, %d, want %d", f, g, changed, e, want)
	}
	for _, x := range [][2][]api.Fact{{f, nil}, {nil, f}, {f, f}} {
		if is, e := base.Under(l, x[0], x[1]); e != want || e != api.OK && is {
			t.Errorf("%v: Under tells %v, %d, want %d", x, is, e, want)
		}
	}
}

func TestD1Facts(t *testing.T) {
	tellError(t, preds(), nil, api.OK)
	tellError(t, preds(), []api.Fact{}, api.OK)
	tellError(t, preds(), some(), api.OK)
	for _, x := range right() {
		tellError(t, preds(), []api.Fact{x}, api.OK)
	}
	for _, x := range wrong() {
		tellError(t, preds(), []api.Fact{x}, api.ErrForm)
		tellError(t, preds(), []api.Fact{{Pred: edge}, x}, api.ErrForm)
		tellError(t, preds(), []api.Fact{x, {Pred: flag}}, api.ErrForm)
	}
}

func TestD1Order(t *testing.T) {
	for _, x := range []struct {
		f    []api.Fact
		want api.Errno
	}{
		{[]api.Fact{{Pred: edge, A: 1, B: 4}, {Pred: edge, A: 2}}, api.OK},
		{[]api.Fact{{Pred: edge, A: 2}, {Pred: edge, A: 1, B: 4}}, api.ErrForm},
		{[]api.Fact{{Pred: edge, A: 4, B: 4}, {Pred: far}}, api.OK},
		{[]api.Fact{{Pred: far}, {Pred: edge, A: 4, B: 4}}, api.ErrForm},
		{[]api.Fact{{Pred: edge, A: 1, B: 1}, {Pred: edge, A: 1, B: 2}}, api.OK},
		{[]api.Fact{{Pred: edge, A: 1, B: 2}, {Pred: edge, A: 1, B: 1}}, api.ErrForm},
		{[]api.Fact{{Pred: edge, A: 1}, {Pred: edge, B: 1}}, api.ErrForm},
		{[]api.Fact{{Pred: flag}, {Pred: flag}}, api.ErrForm},
		{[]api.Fact{{Pred: far, Val: 1}, {Pred: far, Val: 2}}, api.ErrForm},
		{[]api.Fact{{Pred: far, Val: 2}, {Pred: far, Val: 1}}, api.ErrForm},
		{[]api.Fact{{Pred: far, Val: 2}, {Pred: far, B: 1, Val: 1}}, api.OK},
		{[]api.Fact{{Pred: edge}, {Pred: far}, {Pred: load}, {Pred: far, A: 1}}, api.ErrForm},
		{[]api.Fact{{Pred: edge}, {Pred: far}, {Pred: edge}}, api.ErrForm},
	} {
		tellError(t, preds(), x.f, x.want)
	}
}

func TestD1Predicates(t *testing.T) {
	six := append(preds(), api.Pred{Name: "six"})
	for _, x := range []struct {
		l    []api.Pred
		want api.Errno
	}{
		{six, api.ErrMany},
		{six[:5], api.OK},
		{make([]api.Pred, 1<<16), api.ErrMany},
		{[]api.Pred{{Kind: 4}}, api.ErrMany},
		{[]api.Pred{{Kind: -1}}, api.ErrMany},
		{[]api.Pred{{Kind: math.MaxInt}}, api.ErrMany},
		{[]api.Pred{{Arity: 3}}, api.ErrMany},
		{[]api.Pred{{Arity: -1}}, api.ErrMany},
		{[]api.Pred{{Arity: math.MinInt}}, api.ErrMany},
		{[]api.Pred{{}, {}, {Arity: 3}}, api.ErrMany},
		{[]api.Pred{{}, {}, {Kind: 4}}, api.ErrMany},
		{[]api.Pred{{Name: "?", Arity: 2, Kind: api.Bits}, {Name: "?"}}, api.OK}, // names are not asked for
	} {
		tellError(t, x.l, nil, x.want)
		if x.want == api.OK {
			continue
		}
		for _, f := range wrong() { // what is wrong with facts is told later
			tellError(t, x.l, []api.Fact{f}, x.want)
			if _, _, e := base.Find(x.l, nil, f); e != x.want {
				t.Errorf("%v: Find tells %d, want %d", f, e, x.want)
			}
			if _, _, e := base.Add(x.l, nil, f); e != x.want {
				t.Errorf("%v: Add tells %d, want %d", f, e, x.want)
			}
		}
	}
}

func TestD1NoPredicates(t *testing.T) {
	if e := base.Check(nil, nil); e != api.OK {
		t.Errorf("Check tells %d", e)
	}
	if e := base.Check(nil, []api.Fact{{}}); e != api.ErrForm {
		t.Errorf("Check tells %d of a fact of none", e)
	}
	if is, e := base.Under(nil, nil, nil); !is || e != api.OK {
		t.Errorf("Under tells %v, %d", is, e)
	}
	if _, _, e := base.Find(nil, nil, api.Fact{}); e != api.ErrForm {
		t.Errorf("Find tells %d", e)
	}
	if _, _, e := base.Add(nil, nil, api.Fact{}); e != api.ErrForm {
		t.Errorf("Add tells %d", e)
	}
}

// TestD1WrongX: the fact that is handed in alone is asked for as all others are.
func TestD1WrongX(t *testing.T) {
	for _, x := range wrong() {
		if val, there, e := base.Find(preds(), some(), x); val != 0 || there || e != api.ErrForm {
			t.Errorf("%v: Find tells %d, %v, %d", x, val, there, e)
		}
		if g, changed, e := base.Add(preds(), some(), x); len(g) != 0 || changed || e != api.ErrForm {
			t.Errorf("%v: Add tells %v, %v, %d", x, g, changed, e)
		}
	}
	for _, x := range right() {
		if _, _, e := base.Find(preds(), some(), x); e != api.OK {
			t.Errorf("%v: Find tells %d", x, e)
		}
		if _, _, e := base.Add(preds(), some(), x); e != api.OK {
			t.Errorf("%v: Add tells %d", x, e)
		}
	}
}

func TestD2Find(t *testing.T) {
	for _, x := range []struct {
		x     api.Fact
		val   int
		there bool
	}{
		{api.Fact{Pred: far, A: 0, B: 1, Val: 4}, 4, true},
		{api.Fact{Pred: far, A: 0, B: 1, Val: 9}, 4, true},
		{api.Fact{Pred: far, A: 3, B: 4}, 15, true},
		{api.Fact{Pred: load, A: 2}, 7, true},
		{api.Fact{Pred: mark, A: 4, Val: 2}, 5, true},
		{api.Fact{Pred: flag}, 0, true},
		{api.Fact{Pred: edge, A: 0, B: 1}, 0, true},
		{api.Fact{Pred: edge, A: 1, B: 0}, 0, true},
		{api.Fact{Pred: edge}, 0, false},
		{api.Fact{Pred: far, A: 1, B: 0, Val: 3}, 0, false},
		{api.Fact{Pred: far, A: 0, B: 2, Val: 4}, 0, false},
		{api.Fact{Pred: load, A: 4, Val: 5}, 0, false},
	} {
		val, there, e := base.Find(preds(), some(), x.x)
		if val != x.val || there != x.there || e != api.OK {
			t.Errorf("%v: Find tells %d, %v, %d, want %d, %v", x.x, val, there, e, x.val, x.there)
		}
	}
	if val, there, e := base.Find(preds(), nil, api.Fact{Pred: far, Val: 3}); val != 0 || there || e != api.OK {
		t.Errorf("of nothing: Find tells %d, %v, %d", val, there, e)
	}
}

func TestD2Add(t *testing.T) {
	for _, x := range []struct {
		what    string
		x       api.Fact
		at      int // where it is in the answer
		is      api.Fact
		more    int // by how much the answer is longer
		changed bool
	}{
		{"example 4", api.Fact{Pred: far, B: 1, Val: 2}, 2, api.Fact{Pred: far, B: 1, Val: 2}, 0, true},
		{"of Min, a greater one", api.Fact{Pred: far, B: 1, Val: 5}, 2, api.Fact{Pred: far, B: 1, Val: 4}, 0, false},
		{"of Min, the same", api.Fact{Pred: far, B: 1, Val: 4}, 2, api.Fact{Pred: far, B: 1, Val: 4}, 0, false},
		{"of Min, 0", api.Fact{Pred: far, A: 3, B: 4}, 3, api.Fact{Pred: far, A: 3, B: 4}, 0, true},
		{"of Max, a greater one", api.Fact{Pred: load, A: 2, Val: 9}, 4, api.Fact{Pred: load, A: 2, Val: 9}, 0, true},
		{"of Max, a lesser one", api.Fact{Pred: load, A: 2, Val: 6}, 4, api.Fact{Pred: load, A: 2, Val: 7}, 0, false},
		{"of Bits, others", api.Fact{Pred: mark, A: 4, Val: 6}, 5, api.Fact{Pred: mark, A: 4, Val: 7}, 0, true},
		{"of Bits, some of them", api.Fact{Pred: mark, A: 4, Val: 4}, 5, api.Fact{Pred: mark, A: 4, Val: 5}, 0, false},
		{"a plain one that is there", api.Fact{Pred: edge, A: 1}, 1, api.Fact{Pred: edge, A: 1}, 0, false},
		{"ahead of all", api.Fact{Pred: edge}, 0, api.Fact{Pred: edge}, 1, true},
		{"in between, by B", api.Fact{Pred: edge, B: 2}, 1, api.Fact{Pred: edge, B: 2}, 1, true},
		{"in between, by A", api.Fact{Pred: far, A: 1, B: 1, Val: 3}, 3, api.Fact{Pred: far, A: 1, B: 1, Val: 3}, 1, true},
		{"in between, by Pred", api.Fact{Pred: load, A: 4, Val: 1}, 5, api.Fact{Pred: load, A: 4, Val: 1}, 1, true},
	} {
		want := some()
		if x.more == 1 {
			want = slices.Insert(want, x.at, x.is)
		}
		want[x.at] = x.is
		got, changed, e := base.Add(preds(), some(), x.x)
		if !slices.Equal(got, want) || changed != x.changed || e != api.OK {
			t.Errorf("%s: Add tells %v, %v, %d, want %v, %v", x.what, got, changed, e, want, x.changed)
		}
	}
}

func TestD2AddEnds(t *testing.T) {
	x := api.Fact{Pred: flag}
	if got, changed, e := base.Add(preds(), nil, x); !slices.Equal(got, []api.Fact{x}) || !changed || e != api.OK {
		t.Errorf("to nothing: Add tells %v, %v, %d", got, changed, e)
	}
	f := some()[:6]
	if got, changed, e := base.Add(preds(), f, x); !slices.Equal(got, some()) || !changed || e != api.OK {
		t.Errorf("behind all: Add tells %v, %v, %d", got, changed, e)
	}
}

// draw: numbers, the same each time.
type draw uint64

func (d *draw) n(n int) int {
	*d = *d*6364136223846793005 + 1442695040888963407
	return int(uint64(*d) >> 33 % uint64(n))
}

func drawn(r *draw) api.Fact {
	x := api.Fact{Pred: r.n(none), A: r.n(5), B: r.n(5), Val: r.n(16)}
	p := preds()[x.Pred]
	if p.Arity < 2 {
		x.B = 0
	}
	if p.Arity < 1 {
		x.A = 0
	}
	if p.Kind == api.Plain {
		x.Val = 0
	}
	return x
}

// shelf has each fact's value where it belongs (-1: it does not hold): the same facts, kept in another way.
type shelf [none][5][5]int

func emptyShelf() shelf {
	var s shelf
	for i := range s {
		for k := range s[i] {
			s[i][k] = [5]int{-1, -1, -1, -1, -1}
		}
	}
	return s
}

// put x to what is there, and tell whether it is another value now.
func (s *shelf) put(x api.Fact) bool {
	at := &s[x.Pred][x.A][x.B]
	was := *at
	switch {
	case was < 0:
		*at = x.Val
	case x.Pred == far && x.Val < was, x.Pred == load && x.Val > was:
		*at = x.Val
	case x.Pred == mark:
		*at = was | x.Val
	}
	return *at != was
}

func (s *shelf) facts() []api.Fact {
	var out []api.Fact
	for i := range s {
		for k := range s[i] {
			for j, val := range s[i][k] {
				if val >= 0 {
					out = append(out, api.Fact{Pred: i, A: k, B: j, Val: val})
				}
			}
		}
	}
	return out
}

// under asks whether o has all that s has.
func (s *shelf) under(o *shelf) bool {
	for _, x := range s.facts() {
		if o[x.Pred][x.A][x.B] < 0 {
			return false
		}
		both := *o
		if both.put(x) {
			return false
		}
	}
	return true
}

func TestD2AddDrawn(t *testing.T) {
	r := draw(3)
	var f []api.Fact
	s := emptyShelf()
	for range 600 {
		x := drawn(&r)
		was := s[x.Pred][x.A][x.B]
		val, there, e := base.Find(preds(), f, x)
		if there != (was >= 0) || val != max(was, 0) || e != api.OK {
			t.Fatalf("%v: Find tells %d, %v, %d, want %d", x, val, there, e, was)
		}
		want := s.put(x)
		g, changed, e := base.Add(preds(), f, x)
		if !slices.Equal(g, s.facts()) || changed != want || e != api.OK {
			t.Fatalf("%v: Add tells %v, %v, %d, want %v, %v", x, g, changed, e, s.facts(), want)
		}
		f = g
		tellError(t, preds(), f, api.OK)
	}
}

func TestD2Under(t *testing.T) {
	lines := func(l ...api.Fact) []api.Fact { return l }
	e, a, m := api.Fact{Pred: edge, A: 1}, api.Fact{Pred: load, A: 1, Val: 5}, api.Fact{Pred: mark, A: 1, Val: 5}
	least := api.Fact{Pred: far, Val: 5}
	with := func(x api.Fact, val int) api.Fact { x.Val = val; return x }
	for _, x := range []struct {
		what string
		f, g []api.Fact
		want bool
	}{
		{"nothing, nothing", nil, nil, true},
		{"nothing, something", nil, some(), true},
		{"something, nothing", some(), nil, false},
		{"the same", some(), some(), true},
		{"one less", some()[:6], some(), true},
		{"one more", some(), some()[:6], false},
		{"the first one less", some()[1:], some(), true},
		{"the first one more", some(), some()[1:], false},
		{"a plain one", lines(e), lines(e), true},
		{"another A", lines(e), lines(api.Fact{Pred: edge, A: 2}), false},
		{"another B", lines(e), lines(api.Fact{Pred: edge, A: 1, B: 1}), false},
		{"another Pred", lines(e), lines(api.Fact{Pred: far, A: 1}), false},
		{"of Max, to a greater one", lines(a), lines(with(a, 6)), true},
		{"of Max, to a lesser one", lines(a), lines(with(a, 4)), false},
		{"of Min, to a lesser one", lines(least), lines(with(least, 4)), true},
		{"of Min, to a greater one", lines(least), lines(with(least, 6)), false},
		{"of Bits, to more of them", lines(m), lines(with(m, 7)), true},
		{"of Bits, to others", lines(m), lines(with(m, 10)), false},
		{"of Bits, to some of them", lines(m), lines(with(m, 4)), false},
		{"the last one alone is above", lines(e, a, m), lines(e, a, with(m, 2)), false},
		{"the first one alone is above", lines(least, a), lines(with(least, 6), a), false},
	} {
		if got, e := base.Under(preds(), x.f, x.g); got != x.want || e != api.OK {
			t.Errorf("%s: Under tells %v, %d, want %v", x.what, got, e, x.want)
		}
	}
}

func TestD2UnderDrawn(t *testing.T) {
	r := draw(5)
	have := [2]int{}
	for range 300 {
		s, o := emptyShelf(), emptyShelf()
		for range r.n(4) {
			s.put(drawn(&r))
		}
		for _, x := range s.facts() {
			o.put(x)
			if r.n(3) == 0 {
				o[x.Pred][x.A][x.B] = -1
				x.Val = drawn(&r).Val
				if preds()[x.Pred].Kind == api.Plain {
					x.Val = 0
				}
				o.put(x)
			}
		}
		for range r.n(20) {
			o.put(drawn(&r))
		}
		want := s.under(&o)
		if want {
			have[1]++
		} else {
			have[0]++
		}
		if got, e := base.Under(preds(), s.facts(), o.facts()); got != want || e != api.OK {
			t.Errorf("%v, %v: Under tells %v, %d, want %v", s.facts(), o.facts(), got, e, want)
		}
	}
	if have[0] < 30 || have[1] < 30 {
		t.Errorf("%d are not under, %d are: too few to tell", have[0], have[1])
	}
}

// TestP1 hands in long lists, which can't be right: there are not as many facts.
func TestP1(t *testing.T) {
	tellError(t, preds(), make([]api.Fact, 1<<16), api.ErrForm)
	long := make([]api.Fact, 1<<16)
	for i := range long {
		long[i].Pred = i
	}
	tellError(t, preds(), long, api.ErrForm)
	var all []api.Fact
	for i := range none {
		for a := range 5 {
			for b := range 5 {
				all = append(all, api.Fact{Pred: i, A: a, B: b})
			}
		}
	}
	tellError(t, slices.Repeat([]api.Pred{{Arity: 2}}, api.MaxPreds), all, api.OK)
}

// withRoom lays facts ahead of spare room, which is marked, so that a write there is seen.
func withRoom(l ...api.Fact) []api.Fact {
	mark := api.Fact{Pred: 77}
	return append(append([]api.Fact{}, l...), mark, mark)[:len(l)]
}

func TestP2OnlyRead(t *testing.T) {
	for _, x := range append(append(right(), wrong()...), api.Fact{Pred: far, B: 1, Val: 2}, api.Fact{Pred: mark, A: 4, Val: 8}) {
		l := append(preds(), api.Pred{Name: "spare"})[:none]
		f, g := withRoom(some()[:4]...), withRoom(some()...)
		base.Check(l, f)
		base.Find(l, f, x)
		base.Add(l, f, x)
		base.Add(l, g, x)
		base.Under(l, f, g)
		base.Under(l, g, f)
		if !slices.Equal(f[:cap(f)], withRoom(some()[:4]...)[:cap(f)]) || !slices.Equal(g[:cap(g)], withRoom(some()...)[:cap(g)]) {
			t.Errorf("%v: what was handed in is %v, %v", x, f[:cap(f)], g[:cap(g)])
		}
		if !slices.Equal(l[:none+1], append(preds(), api.Pred{Name: "spare"})) {
			t.Errorf("%v: the predicates are %v", x, l[:none+1])
		}
	}
}

// TestP2NewMemory writes into what was answered, changed or not, and changes what was handed in: neither is seen in the other.
func TestP2NewMemory(t *testing.T) {
	for _, x := range append(some(), right()...) {
		f := some()
		want, _, _ := base.Add(preds(), some(), x)
		g, _, _ := base.Add(preds(), f, x)
		h, _, _ := base.Add(preds(), f, x)
		for i := range f {
			f[i] = api.Fact{Pred: 77}
		}
		if !slices.Equal(g, want) {
			t.Errorf("%v: a change of what was handed in was seen: %v", x, g)
		}
		f = some()
		g, _, _ = base.Add(preds(), f, x)
		for i := range g {
			g[i] = api.Fact{Pred: 77}
		}
		if !slices.Equal(f, some()) || !slices.Equal(h, want) {
			t.Errorf("%v: a change of the answer was seen: %v, %v", x, f, h)
		}
	}
}

// TestP3 asks the same between others that have errors: they may not be seen in it.
func TestP3(t *testing.T) {
	x := api.Fact{Pred: far, B: 1, Val: 2}
	for range 3 {
		if g, changed, e := base.Add(preds(), some(), x); len(g) != len(some()) || !changed || e != api.OK {
			t.Errorf("Add tells %v, %v, %d", g, changed, e)
		}
		if val, there, e := base.Find(preds(), some(), x); val != 4 || !there || e != api.OK {
			t.Errorf("Find tells %d, %v, %d", val, there, e)
		}
		if is, e := base.Under(preds(), some(), some()); !is || e != api.OK {
			t.Errorf("Under tells %v, %d", is, e)
		}
		tellError(t, preds(), []api.Fact{{Pred: none}}, api.ErrForm)
		tellError(t, []api.Pred{{Kind: 4}}, some(), api.ErrMany)
	}
}
