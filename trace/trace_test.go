package trace_test

import (
	"math"
	"reflect"
	"slices"
	"testing"

	"treillage/api"
	"treillage/naive"
	"treillage/prog"
	"treillage/trace"
)

func v(n int) api.Term { return api.Term{Var: true, N: n} }

func c(n int) api.Term { return api.Term{N: n} }

func at(pred int, l ...api.Term) api.Atom { return api.Atom{Pred: pred, Args: l} }

func is(a api.Atom) api.Lit { return api.Lit{Atom: a} }

func not(a api.Atom) api.Lit { return api.Lit{Not: true, Atom: a} }

// plain is a rule whose value is 0.
func plain(head api.Atom, body ...api.Lit) api.Rule {
	return api.Rule{Head: head, From: -1, Body: body}
}

// valued is a rule whose value is n, lifting that of a literal or (from -1) by itself.
func valued(head api.Atom, from, n int, body ...api.Lit) api.Rule {
	return api.Rule{Head: head, From: from, N: n, Body: body}
}

// Numbers of the predicates of roads, and of shelves.
const (
	edge = iota
	far
	lone
	load
	mark
	none // there is no such one
)

// roads: edges; far: how far at least; lone: which of them nobody comes back to.
func roads() api.Prog {
	return api.Prog{
		Preds: preds()[:load],
		Rules: []api.Rule{
			plain(at(edge, c(0), c(1))),
			plain(at(edge, c(1), c(2))),
			plain(at(edge, c(2), c(0))),
			plain(at(edge, c(3), c(0))),
			valued(at(far, v(0), v(1)), -1, 1, is(at(edge, v(0), v(1)))),
			valued(at(far, v(0), v(2)), 0, 1, is(at(far, v(0), v(1))), is(at(edge, v(1), v(2)))),
			plain(at(lone, v(0)), is(at(edge, v(0), v(1))), not(at(far, v(0), v(0)))),
		},
	}
}

func preds() []api.Pred {
	return []api.Pred{
		edge: {Name: "edge", Arity: 2},
		far:  {Name: "far", Arity: 2, Kind: api.Min},
		lone: {Name: "lone", Arity: 1},
		load: {Name: "load", Arity: 1, Kind: api.Max},
		mark: {Name: "mark", Kind: api.Bits},
	}
}

// with is a program of all predicates, and some rules.
func with(l ...api.Rule) api.Prog { return api.Prog{Preds: preds(), Rules: l} }

// winding is a program whose rounds are many: each value goes through all 25 facts of far ahead of the next one.
func winding() api.Prog {
	p := with(
		plain(at(edge, c(0), c(1))),
		plain(at(edge, c(1), c(2))),
		plain(at(edge, c(2), c(3))),
		plain(at(edge, c(3), c(4))),
		valued(at(far, c(0), c(0)), -1, 0),
		valued(at(far, v(0), v(2)), 0, 0, is(at(far, v(0), v(1))), is(at(edge, v(1), v(2)))),
		valued(at(far, v(1), c(0)), 0, 0, is(at(far, v(0), c(4))), is(at(edge, v(0), v(1)))),
		valued(at(far, c(0), c(0)), 0, 1, is(at(far, c(4), c(4)))),
	)
	p.Preds[far].Kind = api.Max
	return p
}

// facts of numbers: Pred, A, B, Val.
func facts(l ...[4]int) []api.Fact {
	var out []api.Fact
	for _, x := range l {
		out = append(out, api.Fact{Pred: x[0], A: x[1], B: x[2], Val: x[3]})
	}
	return out
}

// steps of numbers: the rule, and what its variables stand for.
func steps(l ...[4]int) []api.Step {
	var out []api.Step
	for _, x := range l {
		out = append(out, api.Step{Rule: x[0], Vars: [api.MaxVars]int(x[1:])})
	}
	return out
}

// way of the roads: each of its facts once.
func way() []api.Step {
	return steps([4]int{0}, [4]int{1}, [4]int{2}, [4]int{3},
		[4]int{4, 0, 1}, [4]int{4, 1, 2}, [4]int{4, 2, 0}, [4]int{4, 3, 0},
		[4]int{5, 0, 1, 2}, [4]int{5, 1, 2, 0}, [4]int{5, 2, 0, 1}, [4]int{5, 3, 0, 1},
		[4]int{5, 0, 2, 0}, [4]int{5, 1, 0, 1}, [4]int{5, 2, 1, 2}, [4]int{5, 3, 1, 2},
		[4]int{6, 3, 0})
}

// tellError asks both calls for one error of the program: with it, there is nothing else.
func tellError(t *testing.T, what string, p api.Prog, want api.Errno) {
	t.Helper()
	if l, e := trace.Trace(p); len(l) != 0 || e != want {
		t.Errorf("%s: Trace tells %v, %d, want %d", what, l, e, want)
	}
	for _, l := range [][]api.Step{nil, way(), steps([4]int{0}, [4]int{9}), make([]api.Step, api.MaxSteps+1)} {
		replayError(t, what, p, l, 0, want)
	}
}

// replayError asks Replay for an error at one step: with it, there are no facts.
func replayError(t *testing.T, what string, p api.Prog, l []api.Step, at int, want api.Errno) {
	t.Helper()
	if f, n, e := trace.Replay(p, l); len(f) != 0 || n != at || e != want {
		t.Errorf("%s: Replay of %d steps tells %v, %d, %d, want %d, %d", what, len(l), f, n, e, at, want)
	}
}

// wrongPrograms are turns of the roads, and the error of each.
func wrongPrograms() []wrong {
	return []wrong{
		{"six predicates", func(p *api.Prog) { p.Preds = append(preds(), api.Pred{Name: "a"}) }, api.ErrMany},
		{"nine rules", func(p *api.Prog) { p.Rules = slices.Repeat(p.Rules[:1], 9) }, api.ErrMany},
		{"no name", func(p *api.Prog) { p.Preds[lone].Name = "" }, api.ErrName},
		{"two of one name", func(p *api.Prog) { p.Preds[lone].Name = "edge" }, api.ErrThere},
		{"arity 3", func(p *api.Prog) { p.Preds[lone].Arity = 3 }, api.ErrRange},
		{"kind 4", func(p *api.Prog) { p.Preds[lone].Kind = 4 }, api.ErrKind},
		{"no such predicate", func(p *api.Prog) { p.Rules[6].Head.Pred = load }, api.ErrNone},
		{"an argument less", func(p *api.Prog) { p.Rules[6].Head.Args = nil }, api.ErrForm},
		{"constant 5", func(p *api.Prog) { p.Rules[0].Head.Args[1].N = 5 }, api.ErrRange},
		{"a free variable", func(p *api.Prog) { p.Rules[4].Head.Args[1].N = 2 }, api.ErrFree},
		{"four literals", func(p *api.Prog) { p.Rules[4].Body = slices.Repeat(p.Rules[4].Body, 4) }, api.ErrMany},
		{"N 16", func(p *api.Prog) { p.Rules[4].N = 16 }, api.ErrRange},
		{"a value of a plain one", func(p *api.Prog) { p.Rules[0].N = 1 }, api.ErrForm},
		{"a round", func(p *api.Prog) {
			p.Rules[4].Body = append(p.Rules[4].Body, not(at(lone, v(0))))
		}, api.ErrRound},
		{"many rules", func(p *api.Prog) { p.Rules = make([]api.Rule, 1<<16) }, api.ErrMany},
		{"many predicates", func(p *api.Prog) { p.Preds = make([]api.Pred, 1<<16) }, api.ErrMany},
	}
}

type wrong struct {
	what string
	turn func(p *api.Prog)
	want api.Errno
}

func TestI1Errors(t *testing.T) {
	for _, x := range wrongPrograms() {
		p := roads()
		x.turn(&p)
		tellError(t, x.what, p, x.want)
	}
}

// TestI1FirstError mends one fault after the other: each time the next one is told.
func TestI1FirstError(t *testing.T) {
	p := roads()
	p.Preds = append(p.Preds, make([]api.Pred, 3)...)
	p.Preds[far].Arity, p.Preds[lone].Kind = -1, -1
	p.Rules[0].Head.Args[0].N = -1
	p.Rules[4].Body = append(p.Rules[4].Body, not(at(lone, v(0))))
	for _, x := range []struct {
		mend func()
		want api.Errno
	}{
		{func() {}, api.ErrMany},
		{func() { p.Preds = p.Preds[:load+1] }, api.ErrName},
		{func() { p.Preds[load].Name = "edge" }, api.ErrThere},
		{func() { p.Preds[load].Name = "load" }, api.ErrRange},
		{func() { p.Preds[far].Arity = 2 }, api.ErrKind},
		{func() { p.Preds[lone].Kind = api.Plain }, api.ErrRange},
		{func() { p.Rules[0].Head.Args[0].N = 0 }, api.ErrRound},
	} {
		x.mend()
		tellError(t, "a fault after the other", p, x.want)
	}
	p.Rules[4].Body = p.Rules[4].Body[:1]
	if l, e := trace.Trace(p); !slices.Equal(l, way()) || e != api.OK {
		t.Errorf("all mended: Trace tells %v, %d", l, e)
	}
}

func TestI1(t *testing.T) {
	unfounded := roads()
	unfounded.Rules = unfounded.Rules[4:]
	ways := func(l ...[2]int) []api.Rule {
		var out []api.Rule
		for _, x := range l {
			out = append(out, plain(at(edge, c(x[0]), c(x[1]))))
		}
		return out
	}
	one := valued(at(load, c(1)), -1, 1)
	lift := valued(at(load, v(0)), 0, 5, is(at(load, v(0))))
	carry := valued(at(load, v(1)), 0, 1, is(at(load, v(0))), is(at(edge, v(0), v(1))))
	noLone := plain(at(lone, c(0)), not(at(edge, c(0), c(0))))
	for _, x := range []struct {
		what string
		p    api.Prog
		want []api.Step
	}{
		{"example 9", roads(), way()},
		{"nothing to begin with", unfounded, nil},
		{"no rules", with(), nil},
		{"nothing at all", api.Prog{}, nil},
		{"one fact", with(one), steps([4]int{0})},
		{"it changes nothing a second time", with(one, one), steps([4]int{0})},
		{"nor with a lesser value", with(valued(at(load, c(1)), -1, 2), one), steps([4]int{0})},
		{"but with a greater one", with(one, valued(at(load, c(1)), -1, 2)), steps([4]int{0}, [4]int{1})},
		{"of Min, with a lesser one", with(valued(at(far, c(1), c(1)), -1, 2), valued(at(far, c(1), c(1)), -1, 3), valued(at(far, c(1), c(1)), -1, 1)), steps([4]int{0}, [4]int{2})},
		{"bits that are there", with(valued(at(mark), -1, 3), valued(at(mark), -1, 2), valued(at(mark), -1, 6)), steps([4]int{0}, [4]int{2})},
		{"one step over and over", with(one, lift), steps([4]int{0}, [4]int{1, 1}, [4]int{1, 1}, [4]int{1, 1})},
		{"a rule ahead comes again only when all others were used", with(lift, one, valued(at(load, c(1)), 0, 1, is(at(load, c(1))))), steps([4]int{1}, [4]int{2}, [4]int{0, 1}, [4]int{2}, [4]int{0, 1}, [4]int{2}, [4]int{0, 1})},
		{"the next rule uses what was told just now", with(append(ways([2]int{0, 1}), plain(at(lone, v(0)), is(at(edge, v(0), v(1)))), valued(at(load, v(0)), -1, 1, is(at(lone, v(0)))))...), steps([4]int{0}, [4]int{1, 0, 1}, [4]int{2, 0})},
		{"the one ahead of it not yet", with(append([]api.Rule{plain(at(lone, v(1)), is(at(edge, v(0), v(1))))}, ways([2]int{0, 1}, [2]int{0, 2})...)...), steps([4]int{1}, [4]int{2}, [4]int{0, 0, 1}, [4]int{0, 0, 2})},
		{"steps are those when the rule was begun", with(append(ways([2]int{0, 1}, [2]int{1, 2}, [2]int{2, 3}), plain(at(lone, c(0))), plain(at(lone, v(1)), is(at(lone, v(0))), is(at(edge, v(0), v(1)))), plain(at(lone, c(4)), is(at(lone, c(1)))))...), steps([4]int{0}, [4]int{1}, [4]int{2}, [4]int{3}, [4]int{4, 0, 1}, [4]int{5}, [4]int{4, 1, 2}, [4]int{4, 2, 3})},
		{"values are those by then", with(append(ways([2]int{0, 1}, [2]int{1, 2}), valued(at(load, c(0)), -1, 3), valued(at(load, c(1)), -1, 1), carry)...), steps([4]int{0}, [4]int{1}, [4]int{2}, [4]int{3}, [4]int{4, 0, 1}, [4]int{4, 1, 2})},
		{"values that come too late", with(append(ways([2]int{2, 1}, [2]int{1, 0}), valued(at(load, c(2)), -1, 3), valued(at(load, c(1)), -1, 1), carry)...), steps([4]int{0}, [4]int{1}, [4]int{2}, [4]int{3}, [4]int{4, 1, 0}, [4]int{4, 2, 1}, [4]int{4, 1, 0})},
		{"strata rise", with(noLone, plain(at(edge, c(1), c(1)))), steps([4]int{1}, [4]int{0})},
		{"a stratum is at its end ahead of the next", with(noLone, plain(at(edge, c(0), c(0)), is(at(edge, c(1), c(1)))), plain(at(edge, c(1), c(1)))), steps([4]int{2}, [4]int{1})},
		{"over and over in a higher stratum", with(plain(at(lone, c(2)), is(at(lone, c(1)))), plain(at(lone, c(1)), is(at(lone, c(0)))), noLone), steps([4]int{2}, [4]int{1}, [4]int{0})},
		{"variables that do not stand in it are 0", with(plain(at(edge, c(3), c(3))), plain(at(lone, v(2)), is(at(edge, v(2), v(2))))), steps([4]int{0}, [4]int{1, 0, 0, 3})},
	} {
		if got, e := trace.Trace(x.p); !slices.Equal(got, x.want) || e != api.OK {
			t.Errorf("%s: Trace tells %v, %d, want %v", x.what, got, e, x.want)
		}
	}
}

func TestI2(t *testing.T) {
	all, _ := naive.Model(roads())
	p := with(
		plain(at(lone, c(0)), not(at(edge, c(0), c(0)))),
		plain(at(edge, c(0), c(0))),
		valued(at(load, v(0)), -1, 2, is(at(lone, v(0)))),
		valued(at(load, v(0)), 0, 4, is(at(load, v(0)))),
		valued(at(far, c(1), c(1)), -1, 9),
		valued(at(far, c(1), c(1)), -1, 7),
		valued(at(mark), -1, 5),
		valued(at(mark), 0, 10, is(at(mark))),
	)
	for _, x := range []struct {
		what string
		p    api.Prog
		l    []api.Step
		want []api.Fact
	}{
		{"the way of the roads", roads(), way(), all},
		{"no steps", roads(), nil, nil},
		{"no rules", with(), nil, nil},
		{"nothing at all", api.Prog{}, nil, nil},
		{"some steps", roads(), steps([4]int{3}, [4]int{4, 3, 0}), facts([4]int{edge, 3, 0}, [4]int{far, 3, 0, 1})},
		{"one step twice", roads(), steps([4]int{2}, [4]int{2}), facts([4]int{edge, 2, 0})},
		{"variables that do not stand in it", roads(), steps([4]int{1, 4, 3, 2}, [4]int{4, 1, 2, 4}), facts([4]int{edge, 1, 2}, [4]int{far, 1, 2, 1})},
		{"a higher stratum first, and it stays", p, steps([4]int{0}, [4]int{1}), facts([4]int{edge}, [4]int{lone})},
		{"a value that is handed on over and over", p, steps([4]int{0}, [4]int{2}, [4]int{3}, [4]int{3}), facts([4]int{lone}, [4]int{load, 0, 0, 10})},
		{"a lesser value does not come back", p, steps([4]int{0}, [4]int{2}, [4]int{3}, [4]int{2}), facts([4]int{lone}, [4]int{load, 0, 0, 6})},
		{"of Min", p, steps([4]int{4}, [4]int{5}, [4]int{4}), facts([4]int{far, 1, 1, 7})},
		{"of Bits", p, steps([4]int{6}, [4]int{7}), facts([4]int{mark, 0, 0, 15})},
		{"as many as there may be", roads(), make([]api.Step, api.MaxSteps), facts([4]int{edge, 0, 1})},
	} {
		if f, n, e := trace.Replay(x.p, x.l); !slices.Equal(f, x.want) || n != len(x.l) || e != api.OK {
			t.Errorf("%s: Replay tells %v, %d, %d, want %v, %d", x.what, f, n, e, x.want, len(x.l))
		}
	}
}

func TestI2Errors(t *testing.T) {
	for _, x := range []struct {
		what string
		step [4]int
		want api.Errno
	}{
		{"no such rule", [4]int{7}, api.ErrNone},
		{"rule -1", [4]int{-1}, api.ErrNone},
		{"the greatest rule", [4]int{math.MaxInt}, api.ErrNone},
		{"the least rule", [4]int{math.MinInt}, api.ErrNone},
		{"constant 5", [4]int{4, 5, 1}, api.ErrRange},
		{"constant -1", [4]int{4, 0, -1}, api.ErrRange},
		{"of a variable that does not stand in it", [4]int{4, 0, 1, 5}, api.ErrRange},
		{"of a rule without variables", [4]int{0, 0, 0, -1}, api.ErrRange},
		{"the greatest constant", [4]int{4, math.MaxInt}, api.ErrRange},
		{"the least constant", [4]int{4, 0, math.MinInt}, api.ErrRange},
		{"it does not hold", [4]int{4, 1, 0}, api.ErrForm},
		{"it does not hold yet", [4]int{5, 0, 1, 2}, api.ErrForm},
		{"what must be there is not", [4]int{6, 4, 0}, api.ErrForm},
		{"no such rule, and constant 5", [4]int{7, 5}, api.ErrNone},
		{"it does not hold, and constant 5", [4]int{4, 4, 4, 5}, api.ErrRange},
		{"rule -1, and no constants", [4]int{-1, -1, -1, -1}, api.ErrNone},
	} {
		bad := steps(x.step)
		replayError(t, x.what, roads(), bad, 0, x.want)
		good := steps([4]int{0}, [4]int{0}, [4]int{3}, [4]int{4, 0, 1})
		replayError(t, x.what, roads(), append(good, bad...), 4, x.want)
		for _, then := range [][4]int{{0}, {7}, {0, 5}, {4, 4, 4}} {
			replayError(t, x.what, roads(), append(good, bad[0], steps(then)[0]), 4, x.want)
		}
		many := make([]api.Step, api.MaxSteps)
		many[api.MaxSteps-1] = bad[0]
		replayError(t, x.what, roads(), many, api.MaxSteps-1, x.want)
		replayError(t, x.what, roads(), append(many, bad...), 0, api.ErrMany)
		replayError(t, x.what, roads(), append(bad, many...), 0, api.ErrMany)
	}
	replayError(t, "a step too many", roads(), make([]api.Step, api.MaxSteps+1), 0, api.ErrMany)
	replayError(t, "no rules", with(), steps([4]int{0}), 0, api.ErrNone)
	replayError(t, "what must not be there is there by then", with(plain(at(lone, c(0)), not(at(edge, c(0), c(0)))), plain(at(edge, c(0), c(0)))), steps([4]int{0}, [4]int{1}, [4]int{0}), 2, api.ErrForm)
}

// draw: numbers, the same each time.
type draw uint64

func (d *draw) n(n int) int {
	*d = *d*6364136223846793005 + 1442695040888963407
	return int(uint64(*d) >> 33 % uint64(n))
}

// drawnAtom of a predicate: of ten terms so many are constants.
func drawnAtom(r *draw, pred, consts int) api.Atom {
	a := api.Atom{Pred: pred}
	for range preds()[pred].Arity {
		if r.n(10) < consts {
			a.Args = append(a.Args, c(r.n(api.MaxConst+1)))
		} else {
			a.Args = append(a.Args, v(r.n(api.MaxVars)))
		}
	}
	return a
}

// drawnRule of a predicate leans mostly on what other rules tell, and hands a value on, where it can; of ten literals so many are Not.
func drawnRule(r *draw, others []api.Rule, pred, nots int) api.Rule {
	x := api.Rule{Head: drawnAtom(r, pred, 2), From: -1, N: r.n(4)}
	for i := range 1 + r.n(api.MaxBody) {
		y := api.Lit{Not: r.n(10) < nots, Atom: drawnAtom(r, others[r.n(len(others))].Head.Pred, 1)}
		if r.n(3) == 0 {
			y.Atom = drawnAtom(r, r.n(none), 1)
		}
		x.Body = append(x.Body, y)
		if y.Atom.Pred == pred && r.n(4) > 0 {
			x.From = i
		}
	}
	if preds()[pred].Kind == api.Plain {
		x.From, x.N = -1, 0
	}
	return x
}

// givenRule tells a fact.
func givenRule(r *draw, pred int) api.Rule {
	x := plain(drawnAtom(r, pred, 10))
	if preds()[pred].Kind != api.Plain {
		x.N = r.n(api.MaxVal + 1)
	}
	return x
}

// drawnProg tells a program that is right: some rules that tell facts, and others.
func drawnProg(r *draw, nots int) api.Prog {
	p := with()
	given := 1 + r.n(4)
	all := given + 1 + r.n(api.MaxRules-given)
	for len(p.Rules) < all {
		pred := r.n(none)
		next := func() api.Prog {
			if len(p.Rules) < given {
				return with(append(slices.Clone(p.Rules), givenRule(r, pred))...)
			}
			return with(append(slices.Clone(p.Rules), drawnRule(r, p.Rules, pred, nots))...)
		}
		q := next()
		for prog.Check(q) != api.OK {
			q = next()
		}
		p = q
	}
	return p
}

// shelf has each fact's value where it belongs (-1: it does not hold): facts, kept in another way.
type shelf [none][5][5]int

func bareShelf() shelf {
	var s shelf
	for i := range s {
		for k := range s[i] {
			s[i][k] = [5]int{-1, -1, -1, -1, -1}
		}
	}
	return s
}

func (s *shelf) facts() []api.Fact {
	var out []api.Fact
	for i := range s {
		for k := range s[i] {
			for j, val := range s[i][k] {
				if val >= 0 {
					out = append(out, api.Fact{Pred: i, A: k, B: j, Val: val})
				}
			}
		}
	}
	return out
}

// of is where the value of an atom is.
func (s *shelf) of(a api.Atom, stand [3]int) *int {
	var args [api.MaxArity]int
	for i, t := range a.Args {
		args[i] = t.N
		if t.Var {
			args[i] = stand[t.N]
		}
	}
	return &s[a.Pred][args[0]][args[1]]
}

// holds tells whether the body of r holds.
func (s *shelf) holds(r api.Rule, stand [3]int) bool {
	fails := func(x api.Lit) bool { return (*s.of(x.Atom, stand) >= 0) == x.Not }
	return !slices.ContainsFunc(r.Body, fails)
}

// tell what r, which holds, tells of s to o.
func (s *shelf) tell(r api.Rule, stand [3]int, o *shelf) {
	val, to := r.N, o.of(r.Head, stand)
	if r.From >= 0 {
		from := *s.of(r.Body[r.From].Atom, stand)
		if val = min(from+r.N, 15); r.Head.Pred == mark {
			val = from | r.N
		}
	}
	switch {
	case *to < 0:
		*to = val
	case r.Head.Pred == far:
		*to = min(*to, val)
	case r.Head.Pred == load:
		*to = max(*to, val)
	case r.Head.Pred == mark:
		*to |= val
	}
}

// stands are all that the variables of r may stand for: 0, where one does not stand in it.
func stands(r api.Rule) [][3]int {
	var used [3]bool
	see := func(a api.Atom) {
		for _, t := range a.Args {
			if t.Var {
				used[t.N] = true
			}
		}
	}
	see(r.Head)
	for _, x := range r.Body {
		see(x.Atom)
	}
	var out [][3]int
	for n := range 125 {
		stand := [3]int{n / 25, n / 5 % 5, n % 5}
		unused := func(i int) bool { return stand[i] > 0 && !used[i] }
		if !unused(0) && !unused(1) && !unused(2) {
			out = append(out, stand)
		}
	}
	return out
}

// reckoned is the Trace of p, told step by step on a shelf.
func reckoned(p api.Prog) (s shelf, out []api.Step) {
	strata, _ := prog.Strata(p)
	s = bareShelf()
	for stratum := range none {
		for told := -1; told < len(out); {
			told = len(out)
			for n, r := range p.Rules {
				begun := s
				for _, stand := range stands(r) {
					if strata[r.Head.Pred] != stratum || !begun.holds(r, stand) {
						continue
					}
					o := s
					if s.tell(r, stand, &o); o != s {
						s, out = o, append(out, api.Step{Rule: n, Vars: stand})
					}
				}
			}
		}
	}
	return s, out
}

// TestI3 replays traces: they tell the Model.
func TestI3(t *testing.T) {
	r := draw(3)
	long := 0
	for i := range 1000 {
		p := drawnProg(&r, i%4)
		s, want := reckoned(p)
		l, e := trace.Trace(p)
		if !slices.Equal(l, want) || e != api.OK {
			t.Fatalf("%d: %v: Trace tells %v, %d, want %v", i, p.Rules, l, e, want)
		}
		f, n, e := trace.Replay(p, l)
		if !slices.Equal(f, s.facts()) || n != len(l) || e != api.OK {
			t.Fatalf("%d: %v: Replay of %v tells %v, %d, %d, want %v", i, p.Rules, l, f, n, e, s.facts())
		}
		if all, e := naive.Model(p); !slices.Equal(f, all) || e != api.OK {
			t.Fatalf("%d: %v: Replay tells %v, and Model %v, %d", i, p.Rules, f, all, e)
		}
		if len(l) > len(p.Rules) {
			long++
		}
	}
	if long < 50 {
		t.Errorf("%d: too few to tell", long)
	}
}

// TestI1Changes replays the beginnings of traces: each step changes something.
func TestI1Changes(t *testing.T) {
	r := draw(7)
	progs := []api.Prog{roads()}
	for range 50 {
		progs = append(progs, drawnProg(&r, 2))
	}
	for _, p := range progs {
		l, _ := trace.Trace(p)
		last := []api.Fact{}
		for i := range l {
			f, n, e := trace.Replay(p, l[:i+1])
			if slices.Equal(f, last) || n != i+1 || e != api.OK {
				t.Errorf("%v: Replay of %v tells %v, %d, %d", p.Rules, l[:i+1], f, n, e)
			}
			last = f
		}
	}
}

// TestI2Drawn replays steps that are drawn, good ones and others.
func TestI2Drawn(t *testing.T) {
	r := draw(13)
	have := map[api.Errno]int{}
	for i := range 2000 {
		p := drawnProg(&r, 2)
		l, _ := trace.Trace(p)
		for range r.n(20) {
			l = slices.Insert(l, r.n(len(l)+1), drawnStep(&r, l))
		}
		s, n, want := replayed(p, l)
		have[want]++
		if f, m, e := trace.Replay(p, l); !slices.Equal(f, s.facts()) || m != n || e != want {
			t.Fatalf("%d: %v: Replay of %v tells %v, %d, %d, want %v, %d, %d", i, p.Rules, l, f, m, e, s.facts(), n, want)
		}
	}
	for _, e := range []api.Errno{api.OK, api.ErrNone, api.ErrRange, api.ErrForm} {
		if have[e] < 100 {
			t.Errorf("%v: too few to tell", have)
		}
	}
}

// drawnStep is mostly one that is there.
func drawnStep(r *draw, l []api.Step) api.Step {
	if len(l) > 0 && r.n(20) > 0 {
		return l[r.n(len(l))]
	}
	return api.Step{Rule: r.n(9), Vars: [api.MaxVars]int{r.n(8), r.n(5), r.n(5)}}
}

// replayed is Replay, on a shelf.
func replayed(p api.Prog, l []api.Step) (shelf, int, api.Errno) {
	s := bareShelf()
	for i, x := range l {
		switch {
		case x.Rule >= len(p.Rules):
			return bareShelf(), i, api.ErrNone
		case x.Vars[0] > api.MaxConst:
			return bareShelf(), i, api.ErrRange
		case !s.holds(p.Rules[x.Rule], x.Vars):
			return bareShelf(), i, api.ErrForm
		}
		o := s
		s.tell(p.Rules[x.Rule], x.Vars, &o)
		s = o
	}
	return s, len(l), api.OK
}

// TestP1 asks for a long trace, and hands in more steps than there may be.
func TestP1(t *testing.T) {
	all, _ := naive.Model(winding())
	p := winding()
	for range 2 {
		l, e := trace.Trace(p)
		// edges, and each of 25 facts with each of 16 values
		if len(l) != 404 || e != api.OK {
			t.Errorf("winding: Trace tells %d steps, %d", len(l), e)
		}
		if f, n, e := trace.Replay(p, l); !slices.Equal(f, all) || n != 404 || e != api.OK {
			t.Errorf("winding: Replay tells %v, %d, %d", f, n, e)
		}
		slices.Reverse(p.Rules)
	}
	replayError(t, "many steps", roads(), make([]api.Step, 1<<20), 0, api.ErrMany)
}

// room lays a list ahead of spare room, which is marked, so that a write there is seen.
func room[T any](l []T, mark T) []T {
	return append(append(make([]T, 0, len(l)+2), l...), mark, mark)[:len(l)]
}

// roomy is a program all of whose lists have spare room.
func roomy(p api.Prog) api.Prog {
	for i, r := range p.Rules {
		p.Rules[i].Head.Args = room(r.Head.Args, c(77))
		for k, x := range r.Body {
			r.Body[k].Atom.Args = room(x.Atom.Args, c(77))
		}
		p.Rules[i].Body = room(r.Body, not(at(77)))
	}
	p.Preds = room(p.Preds, api.Pred{Name: "spare"})
	p.Rules = room(p.Rules, api.Rule{N: 77})
	return p
}

// spread is all of a program's lists, with their spare room.
func spread(p api.Prog) []any {
	out := []any{p.Preds[:cap(p.Preds)], p.Rules[:cap(p.Rules)]}
	for _, r := range p.Rules {
		out = append(out, r.Head.Args[:cap(r.Head.Args)], r.Body[:cap(r.Body)])
		for _, x := range r.Body {
			out = append(out, x.Atom.Args[:cap(x.Atom.Args)])
		}
	}
	return out
}

func TestP2OnlyRead(t *testing.T) {
	for _, lay := range []func() api.Prog{roads, winding, func() api.Prog { return with(roads().Rules[6]) }} {
		for _, l := range [][]api.Step{nil, way(), steps([4]int{0}, [4]int{9})} {
			layToo := func() []api.Step { return room(l, api.Step{Rule: 77}) }
			p, have := roomy(lay()), layToo()
			trace.Trace(p)
			trace.Replay(p, have)
			if !reflect.DeepEqual(spread(p), spread(roomy(lay()))) {
				t.Errorf("the program is %v", spread(p))
			}
			if !slices.Equal(have[:cap(have)], layToo()[:cap(have)]) {
				t.Errorf("the steps are %v", have[:cap(have)])
			}
		}
	}
}

// TestP2NewMemory writes into what was answered, and into what was handed in: neither is seen in the other.
func TestP2NewMemory(t *testing.T) {
	p, have := roads(), way()
	want, _, _ := trace.Replay(roads(), way())
	l, _ := trace.Trace(p)
	f, _, _ := trace.Replay(p, have)
	clear(l)
	clear(f)
	l, _ = trace.Trace(p)
	f, _, _ = trace.Replay(p, have)
	if !slices.Equal(l, way()) || !slices.Equal(f, want) || !slices.Equal(have, way()) {
		t.Errorf("a change of the answer was seen: %v, %v, %v", l, f, have)
	}
	clear(p.Preds)
	clear(p.Rules)
	clear(have)
	if !slices.Equal(l, way()) || !slices.Equal(f, want) {
		t.Errorf("a change of what was handed in was seen: %v, %v", l, f)
	}
}

// TestP3 asks the same between others: they may not be seen in it.
func TestP3(t *testing.T) {
	want, _ := naive.Model(roads())
	for range 3 {
		if l, e := trace.Trace(roads()); !slices.Equal(l, way()) || e != api.OK {
			t.Errorf("Trace tells %v, %d", l, e)
		}
		if f, n, e := trace.Replay(roads(), way()); !slices.Equal(f, want) || n != 17 || e != api.OK {
			t.Errorf("Replay tells %v, %d, %d, want %v", f, n, e, want)
		}
		tellError(t, "no name", api.Prog{Preds: make([]api.Pred, 1)}, api.ErrName)
		replayError(t, "no such rule", roads(), append(way(), api.Step{Rule: 7}), 17, api.ErrNone)
		trace.Trace(winding())
		trace.Replay(with(), nil)
	}
}
