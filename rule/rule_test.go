package rule_test

import (
	"math"
	"reflect"
	"testing"

	"treillage/api"
	"treillage/rule"
)

func v(n int) api.Term { return api.Term{Var: true, N: n} }

func c(n int) api.Term { return api.Term{N: n} }

func at(pred int, l ...api.Term) api.Atom { return api.Atom{Pred: pred, Args: l} }

func is(a api.Atom) api.Lit { return api.Lit{Atom: a} }

func not(a api.Atom) api.Lit { return api.Lit{Not: true, Atom: a} }

// Numbers of the predicates of preds.
const (
	edge = iota
	far
	lone
	load
	flag
	bits
	none // there is no such one
)

func preds() []api.Pred {
	return []api.Pred{
		edge: {Name: "edge", Arity: 2},
		far:  {Name: "far", Arity: 2, Kind: api.Min},
		lone: {Name: "lone", Arity: 1},
		load: {Name: "load", Arity: 1, Kind: api.Max},
		flag: {Name: "flag"},
		bits: {Name: "bits", Arity: 1, Kind: api.Bits},
	}
}

func TestB1(t *testing.T) {
	for _, x := range []struct {
		what string
		a    api.Atom
		want api.Errno
	}{
		{"constants", at(edge, c(0), c(4)), api.OK},
		{"variables", at(edge, v(0), v(2)), api.OK},
		{"one of each", at(far, v(1), c(3)), api.OK},
		{"one twice", at(far, v(1), v(1)), api.OK},
		{"no args", at(flag), api.OK},
		{"no args, no nil", api.Atom{Pred: flag, Args: []api.Term{}}, api.OK},
		{"behind the last predicate", at(none), api.ErrNone},
		{"ahead of the first predicate", at(-1), api.ErrNone},
		{"least predicate", at(math.MinInt), api.ErrNone},
		{"greatest predicate", at(math.MaxInt), api.ErrNone},
		{"too few args", at(edge, c(0)), api.ErrForm},
		{"too many args", at(edge, c(0), c(0), c(0)), api.ErrForm},
		{"none for one", at(lone), api.ErrForm},
		{"one for none", at(flag, c(0)), api.ErrForm},
		{"constant -1", at(lone, c(-1)), api.ErrRange},
		{"constant 5", at(lone, c(5)), api.ErrRange},
		{"constant 4", at(lone, c(4)), api.OK},
		{"variable -1", at(lone, v(-1)), api.ErrRange},
		{"variable 3", at(lone, v(3)), api.ErrRange},
		{"variable 2", at(lone, v(2)), api.OK},
		{"constant 3, which no variable may be", at(lone, c(3)), api.OK},
		{"second of both", at(edge, c(0), c(5)), api.ErrRange},
		{"least constant", at(lone, c(math.MinInt)), api.ErrRange},
		{"greatest variable", at(lone, v(math.MaxInt)), api.ErrRange},
		{"no predicate, wrong args", at(none, c(5)), api.ErrNone},
		{"too many args, wrong ones", at(lone, c(5), v(3)), api.ErrForm},
	} {
		if got := rule.Atom(preds(), x.a); got != x.want {
			t.Errorf("%s: Atom tells %d, want %d", x.what, got, x.want)
		}
	}
}

// TestB1OtherPredicates: Atom asks nothing of predicates but their Arity.
func TestB1OtherPredicates(t *testing.T) {
	l := []api.Pred{{Name: "?", Arity: 3, Kind: 9}, {Arity: -1}}
	for _, x := range []struct {
		l    []api.Pred
		a    api.Atom
		want api.Errno
	}{
		{nil, at(0), api.ErrNone},
		{[]api.Pred{}, at(-1), api.ErrNone},
		{l, at(0, c(0), v(0), c(1)), api.OK},
		{l, at(0, c(0), c(0)), api.ErrForm},
		{l, at(0, c(0), c(0), c(5)), api.ErrRange},
		{l, at(1), api.ErrForm},
		{l, at(1, c(0)), api.ErrForm},
	} {
		if got := rule.Atom(x.l, x.a); got != x.want {
			t.Errorf("%v: Atom tells %d, want %d", x.a, got, x.want)
		}
	}
}

type checked struct {
	what string
	r    api.Rule
	want api.Errno
}

func tellChecked(t *testing.T, l []checked) {
	t.Helper()
	for _, x := range l {
		if got := rule.Check(preds(), x.r); got != x.want {
			t.Errorf("%s: Check tells %d, want %d", x.what, got, x.want)
		}
	}
}

func TestB2Right(t *testing.T) {
	tellChecked(t, []checked{
		{"a fact", api.Rule{Head: at(edge, c(0), c(1)), From: -1}, api.OK},
		{"a fact without args", api.Rule{Head: at(flag), From: -1}, api.OK},
		{"a fact with a value", api.Rule{Head: at(far, c(0), c(1)), From: -1, N: 15}, api.OK},
		{"a value of its own", api.Rule{Head: at(far, v(0), v(1)), From: -1, N: 1, Body: []api.Lit{is(at(edge, v(0), v(1)))}}, api.OK},
		{"a value from the first", api.Rule{Head: at(far, v(0), v(2)), N: 1, Body: []api.Lit{is(at(far, v(0), v(1))), is(at(edge, v(1), v(2)))}}, api.OK},
		{"a value from the last", api.Rule{Head: at(far, v(0), v(2)), From: 2, Body: []api.Lit{is(at(edge, v(0), v(1))), not(at(lone, v(1))), is(at(far, v(1), v(2)))}}, api.OK},
		{"a Not behind", api.Rule{Head: at(lone, v(0)), From: -1, Body: []api.Lit{is(at(edge, v(0), v(1))), not(at(far, v(0), v(0)))}}, api.OK},
		{"a Not ahead of what binds it", api.Rule{Head: at(lone, v(0)), From: -1, Body: []api.Lit{not(at(far, v(0), v(0))), is(at(edge, v(0), v(1)))}}, api.OK},
		{"a Not of constants alone", api.Rule{Head: at(flag), From: -1, Body: []api.Lit{not(at(lone, c(3)))}}, api.OK},
		{"itself", api.Rule{Head: at(lone, v(0)), From: -1, Body: []api.Lit{is(at(lone, v(0)))}}, api.OK},
		{"a value of Bits", api.Rule{Head: at(bits, v(0)), N: 15, Body: []api.Lit{is(at(bits, v(0)))}}, api.OK},
		{"a plain one of one with values", api.Rule{Head: at(lone, v(2)), From: -1, Body: []api.Lit{is(at(load, v(2)))}}, api.OK},
	})
}

func TestB2Atoms(t *testing.T) {
	four := []api.Lit{is(at(flag)), is(at(flag)), is(at(flag)), is(at(flag))}
	tellChecked(t, []checked{
		{"no head", api.Rule{Head: at(none), From: -1}, api.ErrNone},
		{"a head with too few args", api.Rule{Head: at(edge, c(0)), From: -1}, api.ErrForm},
		{"a head out of bounds", api.Rule{Head: at(edge, c(0), c(5)), From: -1}, api.ErrRange},
		{"three literals", api.Rule{Head: at(flag), From: -1, Body: four[:3]}, api.OK},
		{"four literals", api.Rule{Head: at(flag), From: -1, Body: four}, api.ErrMany},
		{"no literal", api.Rule{Head: at(flag), From: -1, Body: []api.Lit{}}, api.OK},
		{"a literal of no predicate", api.Rule{Head: at(flag), From: -1, Body: []api.Lit{is(at(flag)), is(at(none))}}, api.ErrNone},
		{"a Not of no predicate", api.Rule{Head: at(flag), From: -1, Body: []api.Lit{not(at(-1))}}, api.ErrNone},
		{"a literal with too many args", api.Rule{Head: at(flag), From: -1, Body: []api.Lit{is(at(flag, c(0)))}}, api.ErrForm},
		{"a literal out of bounds", api.Rule{Head: at(flag), From: -1, Body: []api.Lit{is(at(lone, v(3)))}}, api.ErrRange},
		{"literals in their order", api.Rule{Head: at(flag), From: -1, Body: []api.Lit{is(at(lone, c(5))), is(at(lone)), is(at(none))}}, api.ErrRange},
		{"literals in their order, too", api.Rule{Head: at(flag), From: -1, Body: []api.Lit{is(at(flag)), is(at(none)), is(at(lone))}}, api.ErrNone},
	})
}

func TestB2Free(t *testing.T) {
	tellChecked(t, []checked{
		{"a head's variable, and no body", api.Rule{Head: at(lone, v(0)), From: -1}, api.ErrFree},
		{"a head's second variable", api.Rule{Head: at(edge, v(0), v(2)), From: -1, Body: []api.Lit{is(at(edge, v(0), v(1)))}}, api.ErrFree},
		{"a head's variable in a Not alone", api.Rule{Head: at(lone, v(0)), From: -1, Body: []api.Lit{not(at(lone, v(0)))}}, api.ErrFree},
		{"a Not's variable", api.Rule{Head: at(flag), From: -1, Body: []api.Lit{is(at(lone, v(0))), not(at(edge, v(0), v(1)))}}, api.ErrFree},
		{"a Not's variable in another Not", api.Rule{Head: at(flag), From: -1, Body: []api.Lit{not(at(lone, v(2))), not(at(load, v(2)))}}, api.ErrFree},
		{"a constant of the variable's number binds nothing", api.Rule{Head: at(lone, v(1)), From: -1, Body: []api.Lit{is(at(lone, c(1)))}}, api.ErrFree},
		{"a constant is no variable", api.Rule{Head: at(lone, c(1)), From: -1, Body: []api.Lit{is(at(lone, v(0)))}}, api.OK},
		{"bound in different literals", api.Rule{Head: at(edge, v(0), v(1)), From: -1, Body: []api.Lit{is(at(lone, v(1))), is(at(load, v(0)))}}, api.OK},
		{"a variable of a literal alone", api.Rule{Head: at(flag), From: -1, Body: []api.Lit{is(at(edge, v(0), v(1)))}}, api.OK},
	})
}

func TestB2Values(t *testing.T) {
	reach := func(from, n int, l ...api.Lit) api.Rule {
		return api.Rule{Head: at(far, c(0), c(1)), From: from, N: n, Body: l}
	}
	plain := func(from, n int, l ...api.Lit) api.Rule { return api.Rule{Head: at(flag), From: from, N: n, Body: l} }
	f, e := at(far, v(0), v(1)), at(edge, v(0), v(1))
	tellChecked(t, []checked{
		{"From -2", reach(-2, 0, is(f)), api.ErrRange},
		{"From 0 of none", reach(0, 0), api.ErrRange},
		{"From 1 of one", reach(1, 0, is(f)), api.ErrRange},
		{"least From", reach(math.MinInt, 0, is(f)), api.ErrRange},
		{"greatest From", reach(math.MaxInt, 0, is(f)), api.ErrRange},
		{"From 0 of one", reach(0, 0, is(f)), api.OK},
		{"From a plain one", reach(0, 0, is(e)), api.ErrForm},
		{"From a Max one", reach(0, 0, is(at(load, v(0)))), api.ErrForm},
		{"From a Bits one", reach(1, 0, is(f), is(at(bits, v(0)))), api.ErrForm},
		{"From a Not", reach(0, 0, not(at(far, c(0), c(0)))), api.ErrForm},
		{"From another than the Not", reach(1, 0, not(at(far, c(0), c(0))), is(f)), api.OK},
		{"N -1", reach(0, -1, is(f)), api.ErrRange},
		{"N 16", reach(0, 16, is(f)), api.ErrRange},
		{"N 15", reach(0, 15, is(f)), api.OK},
		{"N 16 of its own", reach(-1, 16), api.ErrRange},
		{"N -1 of its own", reach(-1, -1), api.ErrRange},
		{"least N", reach(-1, math.MinInt), api.ErrRange},
		{"greatest N", reach(-1, math.MaxInt), api.ErrRange},
		{"a plain one with N", plain(-1, 1), api.ErrForm},
		{"a plain one with N out of bounds", plain(-1, 16), api.ErrForm},
		{"a plain one with N less than 0", plain(-1, -1), api.ErrForm},
		{"a plain one From a plain one", plain(0, 0, is(e)), api.ErrForm},
		{"a plain one From one with values", plain(0, 0, is(f)), api.ErrForm},
		{"a plain one From none", plain(0, 0), api.ErrRange},
	})
}

// TestB2Order begins with a rule that has all faults, and mends that which must be told first, one by one.
func TestB2Order(t *testing.T) {
	r := api.Rule{Head: at(none, c(5)), From: 9, N: 16, Body: []api.Lit{
		is(at(none, c(5))),
		not(at(far, v(1), v(1))),
		not(at(far, v(1), v(1))),
		is(at(far, v(0), v(0))),
	}}
	for _, x := range []struct {
		want api.Errno
		mend func()
	}{
		{api.ErrNone, func() { r.Head = at(far, c(5)) }},
		{api.ErrForm, func() { r.Head = at(far, c(5), v(2)) }},
		{api.ErrRange, func() { r.Head = at(far, c(4), v(2)) }},
		{api.ErrMany, func() { r.Body = []api.Lit{r.Body[0], r.Body[1], r.Body[3]} }},
		{api.ErrNone, func() { r.Body[0] = is(at(far, c(5))) }},
		{api.ErrForm, func() { r.Body[0] = is(at(far, c(5), c(0))) }},
		{api.ErrRange, func() { r.Body[0] = is(at(far, c(4), c(0))) }},
		{api.ErrFree, func() { r.Head = at(far, c(4), v(0)) }},
		{api.ErrFree, func() { r.Body[1] = not(at(far, v(0), v(0))) }},
		{api.ErrRange, func() { r.From = 1 }},
		{api.ErrForm, func() { r.From = 2 }},
		{api.ErrRange, func() { r.N = 15 }},
		{api.OK, func() {}},
	} {
		if got := rule.Check(preds(), r); got != x.want {
			t.Errorf("%v: Check tells %d, want %d", r, got, x.want)
		}
		x.mend()
	}
}

// TestB2OtherKinds: a Kind that does not exist is not Plain; whether it exists is not asked here.
func TestB2OtherKinds(t *testing.T) {
	l := []api.Pred{{Name: "a", Kind: 7}, {Name: "b", Kind: 8}}
	for _, x := range []struct {
		r    api.Rule
		want api.Errno
	}{
		{api.Rule{Head: at(0), From: -1, N: 15}, api.OK},
		{api.Rule{Head: at(0), From: -1, N: 16}, api.ErrRange},
		{api.Rule{Head: at(0), Body: []api.Lit{is(at(0))}}, api.OK},
		{api.Rule{Head: at(0), Body: []api.Lit{is(at(1))}}, api.ErrForm},
	} {
		if got := rule.Check(l, x.r); got != x.want {
			t.Errorf("%v: Check tells %d, want %d", x.r, got, x.want)
		}
	}
	if got := rule.Check(nil, api.Rule{From: -1}); got != api.ErrNone {
		t.Errorf("of no predicates: Check tells %d, want %d", got, api.ErrNone)
	}
}

func TestB3(t *testing.T) {
	vars := [api.MaxVars]int{3, 0, 4}
	odd := [api.MaxVars]int{5, -1, 4}
	for _, x := range []struct {
		what string
		a    api.Atom
		vars [api.MaxVars]int
		f    api.Fact
		e    api.Errno
	}{
		{"example 2", at(far, v(0), c(2)), vars, api.Fact{Pred: far, A: 3, B: 2}, api.OK},
		{"variables", at(far, v(2), v(0)), vars, api.Fact{Pred: far, A: 4, B: 3}, api.OK},
		{"one twice", at(edge, v(2), v(2)), vars, api.Fact{Pred: edge, A: 4, B: 4}, api.OK},
		{"constants", at(edge, c(1), c(4)), vars, api.Fact{Pred: edge, A: 1, B: 4}, api.OK},
		{"one arg", at(lone, v(2)), vars, api.Fact{Pred: lone, A: 4}, api.OK},
		{"no args", at(flag), vars, api.Fact{Pred: flag}, api.OK},
		{"any predicate", at(-7, c(1)), vars, api.Fact{Pred: -7, A: 1}, api.OK},
		{"greatest predicate", at(math.MaxInt), vars, api.Fact{Pred: math.MaxInt}, api.OK},
		{"three args", at(edge, c(0), c(0), c(0)), vars, api.Fact{}, api.ErrForm},
		{"three args, wrong ones", at(edge, c(5), v(3), c(0)), vars, api.Fact{}, api.ErrForm},
		{"constant 5", at(edge, c(1), c(5)), vars, api.Fact{}, api.ErrRange},
		{"constant -1", at(edge, c(-1), c(1)), vars, api.Fact{}, api.ErrRange},
		{"variable 3", at(edge, c(1), v(3)), vars, api.Fact{}, api.ErrRange},
		{"variable -1", at(edge, c(1), v(-1)), vars, api.Fact{}, api.ErrRange},
		{"greatest variable", at(lone, v(math.MaxInt)), vars, api.Fact{}, api.ErrRange},
		{"it stands for 5", at(edge, c(1), v(0)), odd, api.Fact{}, api.ErrRange},
		{"it stands for -1", at(edge, v(1), c(1)), odd, api.Fact{}, api.ErrRange},
		{"others stand for no constants", at(edge, c(1), v(2)), odd, api.Fact{Pred: edge, A: 1, B: 4}, api.OK},
		{"no variables", at(edge, c(1), c(0)), odd, api.Fact{Pred: edge, A: 1}, api.OK},
	} {
		f, e := rule.Ground(x.a, x.vars)
		if f != x.f || e != x.e {
			t.Errorf("%s: Ground tells %v, %d, want %v, %d", x.what, f, e, x.f, x.e)
		}
	}
}

func TestB3AllConstants(t *testing.T) {
	for a := 0; a <= api.MaxConst; a++ {
		for b := 0; b <= api.MaxConst; b++ {
			want := api.Fact{Pred: far, A: a, B: b}
			f, e := rule.Ground(at(far, c(a), v(1)), [api.MaxVars]int{a, b, a})
			g, h := rule.Ground(at(far, v(2), c(b)), [api.MaxVars]int{b, b, a})
			if f != want || e != api.OK || g != want || h != api.OK {
				t.Errorf("%v, %d and %v, %d, want %v", f, e, g, h, want)
			}
		}
	}
}

// TestP1 hands in what is far beyond all bounds: lists that are long, or are none.
func TestP1(t *testing.T) {
	long := make([]api.Term, 1<<16)
	for _, x := range []struct {
		what string
		got  api.Errno
		want api.Errno
	}{
		{"long args", rule.Atom(preds(), api.Atom{Pred: edge, Args: long}), api.ErrForm},
		{"long args of such a predicate", rule.Atom([]api.Pred{{Arity: len(long)}}, api.Atom{Args: long}), api.OK},
		{"a rule of such a one", rule.Check([]api.Pred{{Arity: len(long)}}, api.Rule{Head: api.Atom{Args: long}, From: -1}), api.OK},
		{"a long body", rule.Check(preds(), api.Rule{Head: at(flag), From: -1, Body: make([]api.Lit, 1<<16)}), api.ErrMany},
		{"nothing", rule.Check(nil, api.Rule{}), api.ErrNone},
	} {
		if x.got != x.want {
			t.Errorf("%s: %d, want %d", x.what, x.got, x.want)
		}
	}
	if f, e := rule.Ground(api.Atom{Pred: 1, Args: long}, [api.MaxVars]int{}); f != (api.Fact{}) || e != api.ErrForm {
		t.Errorf("long args: Ground tells %v, %d", f, e)
	}
}

// withRoom lays what is handed in ahead of spare room, which is marked, so that a write there is seen.
func withRoom[T any](mark T, l ...T) []T {
	return append(append([]T{}, l...), mark, mark)[:len(l)]
}

// roomy rule and predicates, all of whose lists have room behind.
func roomy() ([]api.Pred, api.Rule) {
	term := func(l ...api.Term) []api.Term { return withRoom(c(77), l...) }
	l := withRoom(api.Pred{Name: "mark"}, preds()...)
	r := api.Rule{
		Head: api.Atom{Pred: far, Args: term(v(0), v(2))},
		From: 0,
		N:    1,
		Body: withRoom(not(at(77)),
			is(api.Atom{Pred: far, Args: term(v(0), v(1))}),
			is(api.Atom{Pred: edge, Args: term(v(1), v(2))})),
	}
	return l, r
}

// whole shows lists with the room behind them.
func whole(l []api.Pred, r api.Rule) []any {
	out := []any{l[:cap(l)], r, r.Body[:cap(r.Body)], r.Head.Args[:cap(r.Head.Args)]}
	for _, x := range r.Body {
		out = append(out, x.Atom.Args[:cap(x.Atom.Args)])
	}
	return out
}

func TestP2OnlyRead(t *testing.T) {
	for _, turn := range []func(*api.Rule){
		func(*api.Rule) {},
		func(r *api.Rule) { r.Body[1].Not = true },
		func(r *api.Rule) { r.Body[0].Not = true },
		func(r *api.Rule) { r.From = 5 },
		func(r *api.Rule) { r.Head.Args[0] = c(5) },
	} {
		l, r := roomy()
		turn(&r)
		m, s := roomy()
		turn(&s)
		rule.Check(l, r)
		rule.Atom(l, r.Head)
		rule.Ground(r.Head, [api.MaxVars]int{1, 2, 3})
		if !reflect.DeepEqual(whole(l, r), whole(m, s)) {
			t.Errorf("what was handed in was %v, %v and is %v, %v", m, s, l, r)
		}
	}
}

// TestP2NotKept changes what was handed in, and asks again: the answer is that of the new thing, and the old answer stays.
func TestP2NotKept(t *testing.T) {
	l, r := roomy()
	if e := rule.Check(l, r); e != api.OK {
		t.Errorf("Check tells %d", e)
	}
	f, _ := rule.Ground(r.Head, [api.MaxVars]int{1, 2, 3})
	r.Head.Args[0] = c(4)
	r.Head.Args[1] = c(0)
	l[far].Kind = api.Max
	l[edge].Arity = 1
	if want := (api.Fact{Pred: far, A: 1, B: 3}); f != want {
		t.Errorf("Ground told %v, want %v", f, want)
	}
	if e := rule.Check(l, r); e != api.ErrForm {
		t.Errorf("Check tells %d of an edge with one arg", e)
	}
	g, _ := rule.Ground(r.Head, [api.MaxVars]int{1, 2, 3})
	if want := (api.Fact{Pred: far, A: 4}); g != want {
		t.Errorf("Ground tells %v, want %v", g, want)
	}
}

// TestP3 asks the same between others that have errors: they may not be seen in it.
func TestP3(t *testing.T) {
	_, good := roomy()
	_, bad := roomy()
	bad.Head.Args[0] = v(9)
	_, free := roomy()
	free.Body[1].Not = true
	for range 3 {
		if e := rule.Check(preds(), good); e != api.OK {
			t.Errorf("Check tells %d, want %d", e, api.OK)
		}
		if e := rule.Check(preds(), free); e != api.ErrFree {
			t.Errorf("Check tells %d, want %d", e, api.ErrFree)
		}
		if e := rule.Atom(preds(), bad.Head); e != api.ErrRange {
			t.Errorf("Atom tells %d, want %d", e, api.ErrRange)
		}
		if f, e := rule.Ground(bad.Head, [api.MaxVars]int{1, 2, 3}); f != (api.Fact{}) || e != api.ErrRange {
			t.Errorf("Ground tells %v, %d", f, e)
		}
		if f, e := rule.Ground(good.Head, [api.MaxVars]int{1, 2, 3}); f != (api.Fact{Pred: far, A: 1, B: 3}) || e != api.OK {
			t.Errorf("Ground tells %v, %d", f, e)
		}
	}
}
