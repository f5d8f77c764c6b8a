package ask_test

import (
	"math"
	"reflect"
	"slices"
	"testing"

	"treillage/api"
	"treillage/ask"
	"treillage/naive"
	"treillage/prog"
)

func v(n int) api.Term { return api.Term{Var: true, N: n} }

func c(n int) api.Term { return api.Term{N: n} }

func at(pred int, l ...api.Term) api.Atom { return api.Atom{Pred: pred, Args: l} }

func is(a api.Atom) api.Lit { return api.Lit{Atom: a} }

func not(a api.Atom) api.Lit { return api.Lit{Not: true, Atom: a} }

// plain is a rule whose value is 0.
func plain(head api.Atom, body ...api.Lit) api.Rule {
	return api.Rule{Head: head, From: -1, Body: body}
}

// valued is a rule whose value is n, lifting that of a literal or (from -1) by itself.
func valued(head api.Atom, from, n int, body ...api.Lit) api.Rule {
	return api.Rule{Head: head, From: from, N: n, Body: body}
}

// Numbers of the predicates of roads, and of shelves.
const (
	edge = iota
	far
	lone
	load
	mark
	none // there is no such one
)

// roads: edges; far: how far at least; lone: which of them nobody comes back to.
func roads() api.Prog {
	return api.Prog{
		Preds: preds()[:load],
		Rules: []api.Rule{
			plain(at(edge, c(0), c(1))),
			plain(at(edge, c(1), c(2))),
			plain(at(edge, c(2), c(0))),
			plain(at(edge, c(3), c(0))),
			valued(at(far, v(0), v(1)), -1, 1, is(at(edge, v(0), v(1)))),
			valued(at(far, v(0), v(2)), 0, 1, is(at(far, v(0), v(1))), is(at(edge, v(1), v(2)))),
			plain(at(lone, v(0)), is(at(edge, v(0), v(1))), not(at(far, v(0), v(0)))),
		},
	}
}

func preds() []api.Pred {
	return []api.Pred{
		edge: {Name: "edge", Arity: 2},
		far:  {Name: "far", Arity: 2, Kind: api.Min},
		lone: {Name: "lone", Arity: 1},
		load: {Name: "load", Arity: 1, Kind: api.Max},
		mark: {Name: "mark", Kind: api.Bits},
	}
}

// with is a program of all predicates, and some rules.
func with(l ...api.Rule) api.Prog { return api.Prog{Preds: preds(), Rules: l} }

// winding is a program whose rounds are many: each value goes through all 25 facts of far ahead of the next one.
func winding() api.Prog {
	p := with(
		plain(at(edge, c(0), c(1))),
		plain(at(edge, c(1), c(2))),
		plain(at(edge, c(2), c(3))),
		plain(at(edge, c(3), c(4))),
		valued(at(far, c(0), c(0)), -1, 0),
		valued(at(far, v(0), v(2)), 0, 0, is(at(far, v(0), v(1))), is(at(edge, v(1), v(2)))),
		valued(at(far, v(1), c(0)), 0, 0, is(at(far, v(0), c(4))), is(at(edge, v(0), v(1)))),
		valued(at(far, c(0), c(0)), 0, 1, is(at(far, c(4), c(4)))),
	)
	p.Preds[far].Kind = api.Max
	return p
}

// facts of numbers: Pred, A, B, Val.
func facts(l ...[4]int) []api.Fact {
	var out []api.Fact
	for _, x := range l {
		out = append(out, api.Fact{Pred: x[0], A: x[1], B: x[2], Val: x[3]})
	}
	return out
}

// some facts, of all predicates.
func some() []api.Fact {
	return facts([4]int{edge, 0, 1}, [4]int{edge, 1, 1}, [4]int{edge, 1, 2}, [4]int{edge, 4, 0}, [4]int{edge, 4, 4},
		[4]int{far, 0, 0, 0}, [4]int{far, 0, 1, 4}, [4]int{far, 2, 1, 15}, [4]int{lone, 0}, [4]int{lone, 3}, [4]int{load, 3, 0, 7}, [4]int{mark, 0, 0, 5})
}

// matchError asks Match for an error: with it, there are no facts.
func matchError(t *testing.T, what string, p api.Prog, f []api.Fact, a api.Atom, want api.Errno) {
	t.Helper()
	if l, e := ask.Match(p, f, a); len(l) != 0 || e != want {
		t.Errorf("%s: Match tells %v, %d, want %d", what, l, e, want)
	}
}

// onlyError asks Only for an error: with it, there are no facts.
func onlyError(t *testing.T, what string, p api.Prog, pred int, want api.Errno) {
	t.Helper()
	if l, e := ask.Only(p, pred); len(l) != 0 || e != want {
		t.Errorf("%s: Only of %d tells %v, %d, want %d", what, pred, l, e, want)
	}
}

// tellError asks both calls for one error of the program, whatever else is wrong.
func tellError(t *testing.T, what string, p api.Prog, want api.Errno) {
	t.Helper()
	for _, f := range [][]api.Fact{nil, some()[:2], facts([4]int{9})} {
		matchError(t, what, p, f, at(edge, v(0), v(1)), want)
		matchError(t, what, p, f, at(none), want)
	}
	for _, pred := range []int{edge, lone, none, -1} {
		onlyError(t, what, p, pred, want)
	}
}

// wrongPrograms are turns of the roads, and the error of each.
func wrongPrograms() []wrong {
	return []wrong{
		{"six predicates", func(p *api.Prog) { p.Preds = append(preds(), api.Pred{Name: "a"}) }, api.ErrMany},
		{"nine rules", func(p *api.Prog) { p.Rules = slices.Repeat(p.Rules[:1], 9) }, api.ErrMany},
		{"no name", func(p *api.Prog) { p.Preds[lone].Name = "" }, api.ErrName},
		{"two of one name", func(p *api.Prog) { p.Preds[lone].Name = "edge" }, api.ErrThere},
		{"arity 3", func(p *api.Prog) { p.Preds[lone].Arity = 3 }, api.ErrRange},
		{"kind 4", func(p *api.Prog) { p.Preds[lone].Kind = 4 }, api.ErrKind},
		{"no such predicate", func(p *api.Prog) { p.Rules[6].Head.Pred = load }, api.ErrNone},
		{"an argument less", func(p *api.Prog) { p.Rules[6].Head.Args = nil }, api.ErrForm},
		{"constant 5", func(p *api.Prog) { p.Rules[0].Head.Args[1].N = 5 }, api.ErrRange},
		{"a free variable", func(p *api.Prog) { p.Rules[4].Head.Args[1].N = 2 }, api.ErrFree},
		{"four literals", func(p *api.Prog) { p.Rules[4].Body = slices.Repeat(p.Rules[4].Body, 4) }, api.ErrMany},
		{"N 16", func(p *api.Prog) { p.Rules[4].N = 16 }, api.ErrRange},
		{"a value of a plain one", func(p *api.Prog) { p.Rules[0].N = 1 }, api.ErrForm},
		{"a round", func(p *api.Prog) {
			p.Rules[4].Body = append(p.Rules[4].Body, not(at(lone, v(0))))
		}, api.ErrRound},
		{"many rules", func(p *api.Prog) { p.Rules = make([]api.Rule, 1<<16) }, api.ErrMany},
		{"many predicates", func(p *api.Prog) { p.Preds = make([]api.Pred, 1<<16) }, api.ErrMany},
	}
}

type wrong struct {
	what string
	turn func(p *api.Prog)
	want api.Errno
}

func TestJErrors(t *testing.T) {
	for _, x := range wrongPrograms() {
		p := roads()
		x.turn(&p)
		tellError(t, x.what, p, x.want)
	}
}

// TestJFirstError mends one fault after the other: each time the next one is told.
func TestJFirstError(t *testing.T) {
	p := roads()
	p.Preds = append(p.Preds, make([]api.Pred, 3)...)
	p.Preds[far].Arity, p.Preds[lone].Kind = -1, -1
	p.Rules[0].Head.Args[0].N = -1
	p.Rules[4].Body = append(p.Rules[4].Body, not(at(lone, v(0))))
	for _, x := range []struct {
		mend func()
		want api.Errno
	}{
		{func() {}, api.ErrMany},
		{func() { p.Preds = p.Preds[:load+1] }, api.ErrName},
		{func() { p.Preds[load].Name = "edge" }, api.ErrThere},
		{func() { p.Preds[load].Name = "load" }, api.ErrRange},
		{func() { p.Preds[far].Arity = 2 }, api.ErrKind},
		{func() { p.Preds[lone].Kind = api.Plain }, api.ErrRange},
		{func() { p.Rules[0].Head.Args[0].N = 0 }, api.ErrRound},
	} {
		x.mend()
		tellError(t, "a fault after the other", p, x.want)
	}
	p.Rules[4].Body = p.Rules[4].Body[:1]
	onlyError(t, "the program is mended", p, none, api.ErrNone)
	f, a := facts([4]int{edge, 1, 1}, [4]int{edge, 0, 1}), at(none, v(3))
	matchError(t, "the program is mended", p, f, a, api.ErrForm)
	slices.Reverse(f)
	matchError(t, "the facts are mended", p, f, a, api.ErrNone)
	a.Pred = edge
	matchError(t, "the predicate is mended", p, f, a, api.ErrForm)
	a.Args = append(a.Args, v(0))
	matchError(t, "the number of terms is mended", p, f, a, api.ErrRange)
	a.Args[0].N = 2
	if l, e := ask.Match(p, f, a); !slices.Equal(l, f) || e != api.OK {
		t.Errorf("all mended: Match tells %v, %d", l, e)
	}
}

func TestJ1(t *testing.T) {
	for _, x := range []struct {
		what string
		a    api.Atom
		want []api.Fact
	}{
		{"two variables", at(edge, v(0), v(1)), some()[:5]},
		{"in whatever order", at(edge, v(2), v(0)), some()[:5]},
		{"the same variable", at(edge, v(0), v(0)), facts([4]int{edge, 1, 1}, [4]int{edge, 4, 4})},
		{"the same one, of another number", at(edge, v(2), v(2)), facts([4]int{edge, 1, 1}, [4]int{edge, 4, 4})},
		{"a constant first", at(edge, c(1), v(1)), facts([4]int{edge, 1, 1}, [4]int{edge, 1, 2})},
		{"a constant last", at(edge, v(1), c(0)), facts([4]int{edge, 4, 0})},
		{"a constant, and the variable of its number", at(edge, c(0), v(0)), facts([4]int{edge, 0, 1})},
		{"the variable ahead of it", at(edge, v(1), c(1)), facts([4]int{edge, 0, 1}, [4]int{edge, 1, 1})},
		{"two constants", at(edge, c(1), c(2)), facts([4]int{edge, 1, 2})},
		{"not the other way round", at(edge, c(2), c(1)), nil},
		{"the greatest constant", at(edge, c(4), c(4)), facts([4]int{edge, 4, 4})},
		{"values are told", at(far, v(0), v(1)), facts([4]int{far, 0, 0, 0}, [4]int{far, 0, 1, 4}, [4]int{far, 2, 1, 15})},
		{"a value of a constant", at(far, v(0), c(1)), facts([4]int{far, 0, 1, 4}, [4]int{far, 2, 1, 15})},
		{"the same, constant 0", at(far, v(1), v(1)), facts([4]int{far, 0, 0, 0})},
		{"one term", at(lone, v(2)), facts([4]int{lone, 0}, [4]int{lone, 3})},
		{"one constant", at(lone, c(3)), facts([4]int{lone, 3})},
		{"one that is not there", at(lone, c(4)), nil},
		{"no terms", at(mark), facts([4]int{mark, 0, 0, 5})},
		{"a load", at(load, v(0)), facts([4]int{load, 3, 0, 7})},
	} {
		if l, e := ask.Match(with(), some(), x.a); !slices.Equal(l, x.want) || e != api.OK {
			t.Errorf("%s: Match tells %v, %d, want %v", x.what, l, e, x.want)
		}
		if l, e := ask.Match(with(), nil, x.a); len(l) != 0 || e != api.OK {
			t.Errorf("%s: Match of no facts tells %v, %d", x.what, l, e)
		}
	}
	// rules tell nothing here: only what is handed in is asked
	if l, e := ask.Match(roads(), some()[:1], at(edge, v(0), v(1))); !slices.Equal(l, some()[:1]) || e != api.OK {
		t.Errorf("Match tells %v, %d", l, e)
	}
}

func TestJ1Errors(t *testing.T) {
	a := at(edge, v(0), v(1))
	for _, x := range []struct {
		what string
		f    []api.Fact
	}{
		{"no such predicate", facts([4]int{load})},
		{"predicate -1", facts([4]int{-1})},
		{"constant 5", facts([4]int{edge, 5})},
		{"constant -1", facts([4]int{edge, 0, -1})},
		{"a second one of lone", facts([4]int{lone, 0, 1})},
		{"a value of a plain one", facts([4]int{edge, 0, 0, 1})},
		{"value 16", facts([4]int{far, 0, 0, 16})},
		{"the greatest number", facts([4]int{edge, math.MaxInt})},
		{"they do not rise", facts([4]int{edge, 1}, [4]int{edge, 0})},
		{"one twice", facts([4]int{far, 0, 0, 1}, [4]int{far, 0, 0, 2})},
	} {
		matchError(t, x.what, roads(), x.f, a, api.ErrForm)
		matchError(t, x.what, roads(), x.f, at(none), api.ErrForm)
	}
	for _, x := range []struct {
		what string
		a    api.Atom
		want api.Errno
	}{
		{"no such predicate", at(load, v(0)), api.ErrNone},
		{"predicate -1", at(-1), api.ErrNone},
		{"the least predicate", at(math.MinInt, v(0), v(1)), api.ErrNone},
		{"a term less", at(edge, v(0)), api.ErrForm},
		{"a term more", at(lone, v(0), v(0)), api.ErrForm},
		{"no terms", at(lone), api.ErrForm},
		{"constant 5", at(edge, v(0), c(5)), api.ErrRange},
		{"constant -1", at(lone, c(-1)), api.ErrRange},
		{"variable 3", at(edge, v(3), v(0)), api.ErrRange},
		{"variable -1", at(edge, c(0), v(-1)), api.ErrRange},
		{"the greatest variable", at(lone, v(math.MaxInt)), api.ErrRange},
		{"many terms", at(edge, make([]api.Term, 1<<16)...), api.ErrForm},
		{"two wrong terms of one", at(lone, v(3), v(3)), api.ErrForm},
		{"no such predicate, and wrong terms", at(none, v(3), c(5), c(5)), api.ErrNone},
	} {
		matchError(t, x.what, roads(), some()[:3], x.a, x.want)
		matchError(t, x.what+", no facts", roads(), nil, x.a, x.want)
	}
	matchError(t, "nothing at all", api.Prog{}, nil, api.Atom{}, api.ErrNone)
}

// draw: numbers, the same each time.
type draw uint64

func (d *draw) n(n int) int {
	*d = *d*6364136223846793005 + 1442695040888963407
	return int(uint64(*d) >> 33 % uint64(n))
}

// drawnAtom of a predicate: of ten terms so many are constants.
func drawnAtom(r *draw, pred, consts int) api.Atom {
	a := api.Atom{Pred: pred}
	for range preds()[pred].Arity {
		if r.n(10) < consts {
			a.Args = append(a.Args, c(r.n(api.MaxConst+1)))
		} else {
			a.Args = append(a.Args, v(r.n(api.MaxVars)))
		}
	}
	return a
}

// drawnRule of a predicate leans mostly on what other rules tell, and hands a value on, where it can; of ten literals so many are Not.
func drawnRule(r *draw, others []api.Rule, pred, nots int) api.Rule {
	x := api.Rule{Head: drawnAtom(r, pred, 2), From: -1, N: r.n(4)}
	for i := range 1 + r.n(api.MaxBody) {
		y := api.Lit{Not: r.n(10) < nots, Atom: drawnAtom(r, others[r.n(len(others))].Head.Pred, 1)}
		if r.n(3) == 0 {
			y.Atom = drawnAtom(r, r.n(none), 1)
		}
		x.Body = append(x.Body, y)
		if y.Atom.Pred == pred && r.n(4) > 0 {
			x.From = i
		}
	}
	if preds()[pred].Kind == api.Plain {
		x.From, x.N = -1, 0
	}
	return x
}

// givenRule tells a fact.
func givenRule(r *draw, pred int) api.Rule {
	x := plain(drawnAtom(r, pred, 10))
	if preds()[pred].Kind != api.Plain {
		x.N = r.n(api.MaxVal + 1)
	}
	return x
}

// drawnProg tells a program that is right: some rules that tell facts, and others.
func drawnProg(r *draw, nots int) api.Prog {
	p := with()
	given := 1 + r.n(4)
	all := given + 1 + r.n(api.MaxRules-given)
	for len(p.Rules) < all {
		pred := r.n(none)
		next := func() api.Prog {
			if len(p.Rules) < given {
				return with(append(slices.Clone(p.Rules), givenRule(r, pred))...)
			}
			return with(append(slices.Clone(p.Rules), drawnRule(r, p.Rules, pred, nots))...)
		}
		q := next()
		for prog.Check(q) != api.OK {
			q = next()
		}
		p = q
	}
	return p
}

// shelf has each fact's value where it belongs (-1: it does not hold): facts, kept in another way.
type shelf [none][5][5]int

func bareShelf() shelf {
	var s shelf
	for i := range s {
		for k := range s[i] {
			s[i][k] = [5]int{-1, -1, -1, -1, -1}
		}
	}
	return s
}

func (s *shelf) facts() []api.Fact {
	var out []api.Fact
	for i := range s {
		for k := range s[i] {
			for j, val := range s[i][k] {
				if val >= 0 {
					out = append(out, api.Fact{Pred: i, A: k, B: j, Val: val})
				}
			}
		}
	}
	return out
}

// of is where the value of an atom is.
func (s *shelf) of(a api.Atom, stand [3]int) *int {
	var args [api.MaxArity]int
	for i, t := range a.Args {
		args[i] = t.N
		if t.Var {
			args[i] = stand[t.N]
		}
	}
	return &s[a.Pred][args[0]][args[1]]
}

// fit tells whether there is something for the variables to stand for, so that a is x.
func fit(a api.Atom, x api.Fact) bool {
	s := bareShelf()
	for n := range 125 {
		*s.of(a, [3]int{n / 25, n / 5 % 5, n % 5}) = 0
	}
	return s[x.Pred][x.A][x.B] == 0
}

// TestJ1Drawn holds Match against all that variables may stand for.
func TestJ1Drawn(t *testing.T) {
	r := draw(3)
	for i := range 2000 {
		s := bareShelf()
		for range r.n(40) {
			*s.of(drawnAtom(&r, r.n(none), 10), [3]int{}) = 0
		}
		f, a := s.facts(), drawnAtom(&r, r.n(none), 3)
		for k, x := range f {
			if preds()[x.Pred].Kind != api.Plain {
				f[k].Val = r.n(api.MaxVal + 1)
			}
		}
		var want []api.Fact
		for _, x := range f {
			if fit(a, x) {
				want = append(want, x)
			}
		}
		if l, e := ask.Match(with(), f, a); !slices.Equal(l, want) || e != api.OK {
			t.Fatalf("%d: %v of %v: Match tells %v, %d, want %v", i, a, f, l, e, want)
		}
	}
}

func TestJ2(t *testing.T) {
	unfounded := roads()
	unfounded.Rules = unfounded.Rules[4:]
	for _, x := range []struct {
		what string
		p    api.Prog
		pred int
		want []api.Fact
	}{
		{"example 10", roads(), lone, facts([4]int{lone, 3})},
		{"edges", roads(), edge, facts([4]int{edge, 0, 1}, [4]int{edge, 1, 2}, [4]int{edge, 2, 0}, [4]int{edge, 3, 0})},
		{"far", roads(), far, facts([4]int{far, 0, 0, 3}, [4]int{far, 0, 1, 1}, [4]int{far, 0, 2, 2}, [4]int{far, 1, 0, 2}, [4]int{far, 1, 1, 3}, [4]int{far, 1, 2, 1}, [4]int{far, 2, 0, 1}, [4]int{far, 2, 1, 2}, [4]int{far, 2, 2, 3}, [4]int{far, 3, 0, 1}, [4]int{far, 3, 1, 2}, [4]int{far, 3, 2, 3})},
		{"nothing to begin with", unfounded, far, nil},
		{"a predicate without rules", with(roads().Rules[:4]...), load, nil},
		{"no rules", with(), edge, nil},
		{"what must not be is needed", with(plain(at(lone, c(1)), not(at(mark))), valued(at(mark), -1, 0)), lone, nil},
		{"and what that needs", with(plain(at(lone, c(1)), not(at(mark))), valued(at(mark), -1, 0, is(at(edge, c(1), c(1)))), plain(at(edge, c(1), c(1)))), lone, nil},
		{"it is not there", with(plain(at(lone, c(1)), not(at(mark))), valued(at(mark), -1, 0, is(at(edge, c(1), c(1))))), lone, facts([4]int{lone, 1})},
		{"no terms", with(valued(at(mark), -1, 4), valued(at(mark), 0, 3, is(at(mark)))), mark, facts([4]int{mark, 0, 0, 7})},
	} {
		if l, e := ask.Only(x.p, x.pred); !slices.Equal(l, x.want) || e != api.OK {
			t.Errorf("%s: Only of %d tells %v, %d, want %v", x.what, x.pred, l, e, x.want)
		}
	}
}

func TestJ2Errors(t *testing.T) {
	for _, pred := range []int{-1, load, none, math.MinInt, math.MaxInt} {
		onlyError(t, "no such predicate", roads(), pred, api.ErrNone)
	}
	onlyError(t, "nothing at all", api.Prog{}, 0, api.ErrNone)
}

// TestJ2Drawn: only the rules of what is needed tell all of it.
func TestJ2Drawn(t *testing.T) {
	r := draw(5)
	told, less := 0, 0
	for i := range 500 {
		p := drawnProg(&r, i%4)
		all, _ := naive.Model(p)
		for pred := range none {
			want := slices.DeleteFunc(slices.Clone(all), func(x api.Fact) bool { return x.Pred != pred })
			l, e := ask.Only(p, pred)
			if !slices.Equal(l, want) || e != api.OK {
				t.Fatalf("%d: %v: Only of %d tells %v, %d, want %v", i, p.Rules, pred, l, e, want)
			}
			if needs, _ := prog.Needs(p, pred); slices.ContainsFunc(p.Rules, func(r api.Rule) bool { return !needs[r.Head.Pred] }) {
				less++
			}
			told += len(l)
		}
	}
	if told < 1000 || less < 1000 {
		t.Errorf("%d, %d: too few to tell", told, less)
	}
}

// TestP1 asks of a program whose rounds are many.
func TestP1(t *testing.T) {
	p := winding()
	l, e := ask.Only(p, far)
	if len(l) != 25 || e != api.OK {
		t.Errorf("winding: Only tells %d facts, %d", len(l), e)
	}
	if m, e := ask.Match(p, l, at(far, v(1), v(1))); len(m) != 5 || e != api.OK {
		t.Errorf("winding: Match tells %v, %d", m, e)
	}
	matchError(t, "many facts", p, make([]api.Fact, 1<<16), at(far, v(0), v(1)), api.ErrForm)
}

// room lays a list ahead of spare room, which is marked, so that a write there is seen.
func room[T any](l []T, mark T) []T {
	return append(append(make([]T, 0, len(l)+2), l...), mark, mark)[:len(l)]
}

// roomy is a program all of whose lists have spare room.
func roomy(p api.Prog) api.Prog {
	for i, r := range p.Rules {
		p.Rules[i].Head.Args = room(r.Head.Args, c(77))
		for k, x := range r.Body {
			r.Body[k].Atom.Args = room(x.Atom.Args, c(77))
		}
		p.Rules[i].Body = room(r.Body, not(at(77)))
	}
	p.Preds = room(p.Preds, api.Pred{Name: "spare"})
	p.Rules = room(p.Rules, api.Rule{N: 77})
	return p
}

// spread is all of a program's lists, with their spare room.
func spread(p api.Prog) []any {
	out := []any{p.Preds[:cap(p.Preds)], p.Rules[:cap(p.Rules)]}
	for _, r := range p.Rules {
		out = append(out, r.Head.Args[:cap(r.Head.Args)], r.Body[:cap(r.Body)])
		for _, x := range r.Body {
			out = append(out, x.Atom.Args[:cap(x.Atom.Args)])
		}
	}
	return out
}

func TestP2OnlyRead(t *testing.T) {
	atoms := []api.Atom{at(edge, v(0), v(0)), at(lone, c(3)), at(far, v(3), v(0)), at(none)}
	for _, lay := range []func() api.Prog{roads, winding, func() api.Prog { return with(roads().Rules[:4]...) }} {
		for _, f := range [][]api.Fact{nil, some()[:10], facts([4]int{9})} {
			for _, a := range atoms {
				layToo := func() ([]api.Fact, []api.Term) { return room(f, api.Fact{Pred: 77}), room(a.Args, c(77)) }
				p := roomy(lay())
				have, terms := layToo()
				ask.Match(p, have, api.Atom{Pred: a.Pred, Args: terms})
				ask.Only(p, a.Pred)
				if !reflect.DeepEqual(spread(p), spread(roomy(lay()))) {
					t.Errorf("the program is %v", spread(p))
				}
				want, wantTerms := layToo()
				if !slices.Equal(have[:cap(have)], want[:cap(have)]) || !slices.Equal(terms[:cap(terms)], wantTerms[:cap(terms)]) {
					t.Errorf("the facts are %v, the terms %v", have[:cap(have)], terms[:cap(terms)])
				}
			}
		}
	}
}

// TestP2NewMemory writes into what was answered, and into what was handed in: neither is seen in the other.
func TestP2NewMemory(t *testing.T) {
	p, have, a := roads(), some()[:10], at(edge, v(0), v(1))
	fit, _ := ask.Match(p, have, a)
	told, _ := ask.Only(p, lone)
	clear(fit)
	clear(told)
	fit, _ = ask.Match(p, have, a)
	told, _ = ask.Only(p, lone)
	if !slices.Equal(fit, some()[:5]) || !slices.Equal(told, facts([4]int{lone, 3})) || !slices.Equal(have, some()[:10]) {
		t.Errorf("a change of the answer was seen: %v, %v, %v", fit, told, have)
	}
	clear(p.Preds)
	clear(p.Rules)
	clear(have)
	if !slices.Equal(fit, some()[:5]) || !slices.Equal(told, facts([4]int{lone, 3})) {
		t.Errorf("a change of what was handed in was seen: %v, %v", fit, told)
	}
}

// TestP3 asks the same between others: they may not be seen in it.
func TestP3(t *testing.T) {
	for range 3 {
		if l, e := ask.Match(roads(), some()[:10], at(edge, v(0), v(0))); !slices.Equal(l, facts([4]int{edge, 1, 1}, [4]int{edge, 4, 4})) || e != api.OK {
			t.Errorf("Match tells %v, %d", l, e)
		}
		if l, e := ask.Only(roads(), lone); !slices.Equal(l, facts([4]int{lone, 3})) || e != api.OK {
			t.Errorf("Only tells %v, %d", l, e)
		}
		tellError(t, "no name", api.Prog{Preds: make([]api.Pred, 1)}, api.ErrName)
		ask.Match(with(), some(), at(far, c(0), v(0)))
		ask.Only(winding(), edge)
	}
}
