package fire_test

import (
	"math"
	"reflect"
	"slices"
	"testing"

	"treillage/api"
	"treillage/base"
	"treillage/fire"
	"treillage/prog"
)

func v(n int) api.Term { return api.Term{Var: true, N: n} }

func c(n int) api.Term { return api.Term{N: n} }

func at(pred int, l ...api.Term) api.Atom { return api.Atom{Pred: pred, Args: l} }

func is(a api.Atom) api.Lit { return api.Lit{Atom: a} }

func not(a api.Atom) api.Lit { return api.Lit{Not: true, Atom: a} }

// vars are what three variables stand for.
type vars = [api.MaxVars]int

// Numbers of the predicates of preds.
const (
	edge = iota
	far
	load
	mark
	flag
	none // there is no such one
)

func preds() []api.Pred {
	return []api.Pred{
		edge: {Name: "edge", Arity: 2},
		far:  {Name: "far", Arity: 2, Kind: api.Min},
		load: {Name: "load", Arity: 1, Kind: api.Max},
		mark: {Name: "mark", Arity: 1, Kind: api.Bits},
		flag: {Name: "flag"},
	}
}

// with is a program of some rules.
func with(l ...api.Rule) api.Prog { return api.Prog{Preds: preds(), Rules: l} }

// plain is a rule whose value is 0.
func plain(head api.Atom, body ...api.Lit) api.Rule {
	return api.Rule{Head: head, From: -1, Body: body}
}

// valued is a rule whose value is n, lifting that of a literal or (from -1) by itself.
func valued(head api.Atom, from, n int, body ...api.Lit) api.Rule {
	return api.Rule{Head: head, From: from, N: n, Body: body}
}

// roads: edges; far: how far at least; load of those that nobody comes back to.
func roads() api.Prog {
	return with(
		plain(at(edge, c(0), c(1))),
		valued(at(far, v(0), v(1)), -1, 1, is(at(edge, v(0), v(1)))),
		valued(at(far, v(0), v(2)), 0, 1, is(at(far, v(0), v(1))), is(at(edge, v(1), v(2)))),
		valued(at(load, v(0)), -1, 7, is(at(edge, v(0), v(1))), not(at(far, v(0), v(0)))),
	)
}

// some facts of each predicate.
func some() []api.Fact {
	return []api.Fact{
		{Pred: edge, A: 0, B: 1},
		{Pred: edge, A: 1, B: 2},
		{Pred: edge, A: 2, B: 2},
		{Pred: far, A: 0, B: 1, Val: 4},
		{Pred: far, A: 1, B: 1, Val: 15},
		{Pred: load, A: 2, Val: 7},
		{Pred: load, A: 4},
		{Pred: mark, A: 4, Val: 5},
		{Pred: flag},
	}
}

// tellError asks both calls for one error: with it, there is nothing else.
func tellError(t *testing.T, what string, p api.Prog, f []api.Fact, n int, stand vars, want api.Errno) {
	t.Helper()
	if ok, x, e := fire.Holds(p, f, n, stand); e != want || ok || x != (api.Fact{}) {
		t.Errorf("%s: Holds tells %v, %v, %d, want %d", what, ok, x, e, want)
	}
	if l, e := fire.All(p, f, n); e != want || len(l) != 0 {
		t.Errorf("%s: All tells %v, %d, want %d", what, l, e, want)
	}
}

func TestE1ErrorsOfPrograms(t *testing.T) {
	for _, x := range []struct {
		what string
		turn func(p *api.Prog)
		want api.Errno
	}{
		{"six predicates", func(p *api.Prog) { p.Preds = append(p.Preds, api.Pred{Name: "a"}) }, api.ErrMany},
		{"nine rules", func(p *api.Prog) { p.Rules = slices.Repeat(p.Rules[:1], 9) }, api.ErrMany},
		{"no name", func(p *api.Prog) { p.Preds[flag].Name = "" }, api.ErrName},
		{"two of one name", func(p *api.Prog) { p.Preds[flag].Name = "edge" }, api.ErrThere},
		{"arity 3", func(p *api.Prog) { p.Preds[flag].Arity = 3 }, api.ErrRange},
		{"arity -1", func(p *api.Prog) { p.Preds[flag].Arity = -1 }, api.ErrRange},
		{"kind 4", func(p *api.Prog) { p.Preds[flag].Kind = 4 }, api.ErrKind},
		{"no such predicate", func(p *api.Prog) { p.Rules[3].Head.Pred = none }, api.ErrNone},
		{"no such predicate in a body", func(p *api.Prog) { p.Rules[3].Body[1].Atom.Pred = -1 }, api.ErrNone},
		{"an argument more", func(p *api.Prog) { p.Rules[3].Head = at(load, v(0), v(1)) }, api.ErrForm},
		{"constant 5", func(p *api.Prog) { p.Rules[0].Head.Args[1].N = 5 }, api.ErrRange},
		{"variable 3", func(p *api.Prog) { p.Rules[1].Body[0].Atom.Args[1].N = 3 }, api.ErrRange},
		{"four literals", func(p *api.Prog) { p.Rules[1].Body = slices.Repeat(p.Rules[1].Body, 4) }, api.ErrMany},
		{"a free variable", func(p *api.Prog) { p.Rules[1].Head.Args[1].N = 2 }, api.ErrFree},
		{"a literal behind the last one", func(p *api.Prog) { p.Rules[2].From = 2 }, api.ErrRange},
		{"a literal of another kind", func(p *api.Prog) { p.Rules[2].From = 1 }, api.ErrForm},
		{"N 16", func(p *api.Prog) { p.Rules[2].N = 16 }, api.ErrRange},
		{"a round", func(p *api.Prog) {
			p.Rules[1].Body = append(p.Rules[1].Body, not(at(load, v(0))))
		}, api.ErrRound},
	} {
		p := roads()
		x.turn(&p)
		for _, n := range []int{0, 3, -1, 8} {
			tellError(t, x.what, p, some(), n, vars{}, x.want)
			tellError(t, x.what+" and wrong facts", p, []api.Fact{{A: 5}}, n, vars{}, x.want)
		}
	}
}

func TestE1ErrorsOfFacts(t *testing.T) {
	for _, f := range [][]api.Fact{
		{{Pred: none}}, {{Pred: -1}}, {{A: 5}}, {{B: -1}}, {{Val: 1}}, {{Pred: far, Val: 16}}, {{Pred: load, B: 1}},
		{{Pred: far, Val: 1}, {Pred: far, Val: 2}}, {{A: 1}, {}}, append(some(), api.Fact{}),
	} {
		for _, n := range []int{0, 2, 4, -1} {
			tellError(t, "wrong facts", roads(), f, n, vars{}, api.ErrForm)
		}
	}
}

func TestE1NoRule(t *testing.T) {
	for _, n := range []int{-1, 4, 5, 8, math.MinInt, math.MaxInt} {
		tellError(t, "no such rule", roads(), some(), n, vars{}, api.ErrNone)
		tellError(t, "no such rule, no constant", roads(), some(), n, vars{5, -1, 9}, api.ErrNone)
	}
	tellError(t, "no rules", with(), nil, 0, vars{}, api.ErrNone)
	tellError(t, "nothing", api.Prog{}, nil, 0, vars{}, api.ErrNone)
}

// TestE1NoConstant asks of variables that do not stand in the rule, too.
func TestE1NoConstant(t *testing.T) {
	for n := range roads().Rules {
		for i := range api.MaxVars {
			for _, val := range []int{-1, api.MaxConst + 1, math.MinInt, math.MaxInt} {
				stand := vars{0, 1, 2}
				stand[i] = val
				if ok, x, e := fire.Holds(roads(), some(), n, stand); ok || x != (api.Fact{}) || e != api.ErrRange {
					t.Errorf("rule %d of %v: Holds tells %v, %v, %d", n, stand, ok, x, e)
				}
			}
			stand := vars{}
			stand[i] = api.MaxConst
			if _, _, e := fire.Holds(roads(), some(), n, stand); e != api.OK {
				t.Errorf("rule %d of %v: Holds tells %d", n, stand, e)
			}
		}
	}
}

// TestE1ErrorsInOrder mends one fault after the other: the next one is told then.
func TestE1ErrorsInOrder(t *testing.T) {
	p, f, n, stand := roads(), []api.Fact{{A: 5}}, 9, vars{0, 0, 5}
	p.Preds[flag].Name = ""
	tellError(t, "all", p, f, n, stand, api.ErrName)
	p.Preds[flag].Name = "flag"
	tellError(t, "facts", p, f, n, stand, api.ErrForm)
	f = some()
	tellError(t, "no rule", p, f, n, stand, api.ErrNone)
	n = 0
	if ok, x, e := fire.Holds(p, f, n, stand); ok || x != (api.Fact{}) || e != api.ErrRange {
		t.Errorf("no constant: Holds tells %v, %v, %d", ok, x, e)
	}
	stand[2] = 4
	if ok, x, e := fire.Holds(p, f, n, stand); !ok || x != (api.Fact{Pred: edge, B: 1}) || e != api.OK {
		t.Errorf("all is right: Holds tells %v, %v, %d", ok, x, e)
	}
}

func TestE1Holds(t *testing.T) {
	fact := func(pred, a, b, val int) api.Fact { return api.Fact{Pred: pred, A: a, B: b, Val: val} }
	e01, e12, f01 := is(at(edge, v(0), v(1))), is(at(edge, v(1), v(2))), is(at(far, v(0), v(1)))
	lifted := func(n int) api.Rule { return valued(at(far, v(0), v(2)), 0, n, f01, e12) }
	for _, x := range []struct {
		what  string
		r     api.Rule
		stand vars
		holds bool
		fact  api.Fact // if it holds
	}{
		{"example 5", lifted(1), vars{0, 1, 2}, true, fact(far, 0, 2, 5)},
		{"lifted by 0", lifted(0), vars{0, 1, 2}, true, fact(far, 0, 2, 4)},
		{"lifted to the greatest", lifted(11), vars{0, 1, 2}, true, fact(far, 0, 2, 15)},
		{"lifted beyond it", lifted(15), vars{0, 1, 2}, true, fact(far, 0, 2, 15)},
		{"the first is not there", lifted(1), vars{1, 2, 2}, false, api.Fact{}},
		{"the last is not there", lifted(1), vars{0, 1, 3}, false, api.Fact{}},
		{"neither is there", lifted(1), vars{3, 3, 3}, false, api.Fact{}},
		{"the value of the last one", valued(at(far, v(2), v(2)), 1, 2, e12, f01), vars{0, 1, 2}, true, fact(far, 2, 2, 6)},
		{"N alone", valued(at(far, v(0), v(2)), -1, 9, f01, e12), vars{0, 1, 2}, true, fact(far, 0, 2, 9)},
		{"N alone, 15", valued(at(mark, v(0)), -1, 15, e01), vars{0, 1, 0}, true, fact(mark, 0, 0, 15)},
		{"N alone, 0", valued(at(load, v(1)), -1, 0, e01), vars{0, 1, 0}, true, fact(load, 1, 0, 0)},
		{"of Max, lifted", valued(at(load, c(3)), 0, 2, is(at(load, v(0)))), vars{2}, true, fact(load, 3, 0, 9)},
		{"of Max, lifted beyond", valued(at(load, c(3)), 0, 9, is(at(load, v(0)))), vars{2}, true, fact(load, 3, 0, 15)},
		{"of Max, value 0", valued(at(load, v(0)), 0, 3, is(at(load, v(0)))), vars{4}, true, fact(load, 4, 0, 3)},
		{"of Bits, lifted", valued(at(mark, c(0)), 0, 6, is(at(mark, v(2)))), vars{0, 0, 4}, true, fact(mark, 0, 0, 7)},
		{"of Bits, by bits that are there", valued(at(mark, c(0)), 0, 4, is(at(mark, c(4)))), vars{}, true, fact(mark, 0, 0, 5)},
		{"no body", plain(at(edge, c(3), c(4))), vars{4, 4, 4}, true, fact(edge, 3, 4, 0)},
		{"no body, a value", valued(at(load, c(3)), -1, 8), vars{1, 2, 3}, true, fact(load, 3, 0, 8)},
		{"no arguments", plain(at(flag), is(at(flag))), vars{1, 2, 3}, true, fact(flag, 0, 0, 0)},
		{"not, and there", plain(at(edge, v(0), v(0)), e01, not(at(far, v(0), v(1)))), vars{0, 1, 0}, false, api.Fact{}},
		{"not, and not there", plain(at(edge, v(0), v(0)), e01, not(at(far, v(0), v(1)))), vars{1, 2, 0}, true, fact(edge, 1, 1, 0)},
		{"not, ahead of what binds it", plain(at(edge, v(0), v(0)), not(at(far, v(1), v(0))), e01), vars{0, 1, 0}, true, fact(edge, 0, 0, 0)},
		{"two that are not, one is there", plain(at(edge, v(0), v(0)), not(at(load, v(0))), not(at(load, v(1))), e01), vars{1, 2, 0}, false, api.Fact{}},
		{"not, whatever its value", plain(at(flag), not(at(load, c(4)))), vars{}, false, api.Fact{}},
		{"not, of no arguments", plain(at(edge, c(1), c(1)), not(at(flag))), vars{}, false, api.Fact{}},
		{"a variable twice", plain(at(flag), is(at(edge, v(0), v(0)))), vars{2}, true, fact(flag, 0, 0, 0)},
		{"a variable twice, not there", plain(at(flag), is(at(edge, v(0), v(0)))), vars{1}, false, api.Fact{}},
		{"a literal and it not", plain(at(flag), e01, not(at(edge, v(0), v(1)))), vars{0, 1, 0}, false, api.Fact{}},
		{"a literal twice", plain(at(edge, v(1), v(0)), e01, e01), vars{0, 1, 4}, true, fact(edge, 1, 0, 0)},
		{"constants in the body", plain(at(flag), is(at(edge, c(1), c(2)))), vars{4, 4, 4}, true, fact(flag, 0, 0, 0)},
		{"other constants in the body", plain(at(flag), is(at(edge, c(2), c(1)))), vars{}, false, api.Fact{}},
		{"a constant as a variable's number", plain(at(flag), is(at(edge, c(0), v(0)))), vars{1}, true, fact(flag, 0, 0, 0)},
		{"variables change places", plain(at(edge, v(1), v(0)), e01), vars{1, 2, 0}, true, fact(edge, 2, 1, 0)},
		{"three literals", plain(at(flag), e01, e12, is(at(load, v(2)))), vars{0, 1, 2}, true, fact(flag, 0, 0, 0)},
		{"the third is not there", plain(at(flag), e01, e12, is(at(load, v(1)))), vars{0, 1, 2}, false, api.Fact{}},
	} {
		ok, got, e := fire.Holds(with(x.r), some(), 0, x.stand)
		if ok != x.holds || got != x.fact || e != api.OK {
			t.Errorf("%s: Holds tells %v, %v, %d, want %v, %v", x.what, ok, got, e, x.holds, x.fact)
		}
	}
}

// TestE1WhichRule asks each of several rules by its number.
func TestE1WhichRule(t *testing.T) {
	for n, want := range []api.Fact{{Pred: edge, B: 1}, {Pred: far, B: 1, Val: 1}, {Pred: far, B: 2, Val: 5}, {Pred: load, Val: 7}} {
		if ok, x, e := fire.Holds(roads(), some(), n, vars{0, 1, 2}); !ok || x != want || e != api.OK {
			t.Errorf("rule %d: Holds tells %v, %v, %d, want %v", n, ok, x, e, want)
		}
	}
}

// stands makes steps of one rule.
func stands(n int, l ...vars) []api.Step {
	var out []api.Step
	for _, x := range l {
		out = append(out, api.Step{Rule: n, Vars: x})
	}
	return out
}

func TestE2(t *testing.T) {
	e01, e12 := is(at(edge, v(0), v(1))), is(at(edge, v(1), v(2)))
	for _, x := range []struct {
		what string
		r    api.Rule
		want []vars
	}{
		{"no body", plain(at(flag)), []vars{{}}},
		{"facts in their order", plain(at(flag), e01), []vars{{0, 1}, {1, 2}, {2, 2}}},
		{"rising by variables, not by facts", plain(at(flag), is(at(edge, v(1), v(0)))), []vars{{1, 0}, {2, 1}, {2, 2}}},
		{"rising by all three", plain(at(flag), is(at(load, v(2))), is(at(load, v(0))), is(at(load, v(1)))), []vars{{2, 2, 2}, {2, 2, 4}, {2, 4, 2}, {2, 4, 4}, {4, 2, 2}, {4, 2, 4}, {4, 4, 2}, {4, 4, 4}}},
		{"two literals", plain(at(flag), e01, e12), []vars{{0, 1, 2}, {1, 2, 2}, {2, 2, 2}}},
		{"two literals, the other way", plain(at(flag), e12, e01), []vars{{0, 1, 2}, {1, 2, 2}, {2, 2, 2}}},
		{"variable 2 alone", plain(at(flag), is(at(load, v(2)))), []vars{{0, 0, 2}, {0, 0, 4}}},
		{"variable 1 alone", plain(at(flag), is(at(load, v(1)))), []vars{{0, 2}, {0, 4}}},
		{"variables 0 and 2", plain(at(flag), is(at(edge, v(2), v(0)))), []vars{{1, 0, 0}, {2, 0, 1}, {2, 0, 2}}},
		{"a variable twice", plain(at(flag), is(at(edge, v(1), v(1)))), []vars{{0, 2}}},
		{"a variable in two literals", plain(at(flag), is(at(edge, v(0), v(1))), is(at(load, v(1)))), []vars{{1, 2}, {2, 2}}},
		{"not", plain(at(flag), e01, not(at(far, v(0), v(1)))), []vars{{1, 2}, {2, 2}}},
		{"not, ahead of what binds it", plain(at(flag), not(at(far, v(0), v(1))), e01), []vars{{1, 2}, {2, 2}}},
		{"not, in between", plain(at(flag), e01, not(at(load, v(2))), e12), nil},
		{"not, of constants, not there", plain(at(flag), not(at(load, c(0)))), []vars{{}}},
		{"not, of constants, there", plain(at(flag), not(at(load, c(2)))), nil},
		{"constants", plain(at(flag), is(at(edge, c(0), v(0)))), []vars{{1}}},
		{"constants that are there", plain(at(flag), is(at(edge, c(0), c(1)))), []vars{{}}},
		{"constants that are not there", plain(at(flag), is(at(edge, c(1), c(0)))), nil},
		{"no arguments", plain(at(load, c(0)), is(at(flag))), []vars{{}}},
		{"a literal three times", plain(at(flag), e01, e01, e01), []vars{{0, 1}, {1, 2}, {2, 2}}},
		{"nothing in common", plain(at(flag), is(at(mark, v(0))), is(at(load, v(1)))), []vars{{4, 2}, {4, 4}}},
		{"whatever the value", valued(at(load, v(0)), 0, 1, is(at(load, v(0)))), []vars{{2}, {4}}},
	} {
		got, e := fire.All(with(plain(at(flag)), x.r), some(), 1)
		if !slices.Equal(got, stands(1, x.want...)) || e != api.OK {
			t.Errorf("%s: All tells %v, %d, want %v", x.what, got, e, x.want)
		}
	}
}

func TestE2OfNothing(t *testing.T) {
	for n, want := range [][]api.Step{stands(0, vars{}), nil, nil, nil} {
		if got, e := fire.All(roads(), nil, n); !slices.Equal(got, want) || e != api.OK {
			t.Errorf("rule %d: All tells %v, %d, want %v", n, got, e, want)
		}
	}
	p := with(plain(at(flag), not(at(edge, c(1), c(1)))))
	if got, e := fire.All(p, []api.Fact{}, 0); !slices.Equal(got, stands(0, vars{})) || e != api.OK {
		t.Errorf("not, of nothing: All tells %v, %d", got, e)
	}
}

// draw: numbers, the same each time.
type draw uint64

func (d *draw) n(n int) int {
	*d = *d*6364136223846793005 + 1442695040888963407
	return int(uint64(*d) >> 33 % uint64(n))
}

func drawnAtom(r *draw) api.Atom {
	a := api.Atom{Pred: r.n(none)}
	for range preds()[a.Pred].Arity {
		if r.n(5) == 0 {
			a.Args = append(a.Args, c(r.n(api.MaxConst+1)))
		} else {
			a.Args = append(a.Args, v(r.n(api.MaxVars)))
		}
	}
	return a
}

// drawnRule tells one that is right by itself; nots: in how many of ten literals Not is drawn.
func drawnRule(r *draw, nots int) api.Rule {
	for {
		x := api.Rule{Head: drawnAtom(r), From: r.n(3) - 1, N: r.n(api.MaxVal + 1)}
		if preds()[x.Head.Pred].Kind == api.Plain {
			x.From, x.N = -1, 0
		}
		for range r.n(api.MaxBody + 1) {
			x.Body = append(x.Body, api.Lit{Not: r.n(10) < nots, Atom: drawnAtom(r)})
		}
		if prog.Check(with(x)) == api.OK {
			return x
		}
	}
}

// drawnFacts are some of all facts; of ten, so many.
func drawnFacts(r *draw, many int) []api.Fact {
	var out []api.Fact
	for i, p := range preds() {
		for a := range 1 + api.MaxConst*min(p.Arity, 1) {
			for b := range 1 + api.MaxConst*(max(p.Arity, 1)-1) {
				x := api.Fact{Pred: i, A: a, B: b, Val: r.n(api.MaxVal + 1)}
				if p.Kind == api.Plain {
					x.Val = 0
				}
				if r.n(10) < many {
					out = append(out, x)
				}
			}
		}
	}
	return out
}

// lookUp goes through all facts.
func lookUp(f []api.Fact, a api.Atom, stand vars) (int, bool) {
	var args [api.MaxArity]int
	for i, t := range a.Args {
		args[i] = t.N
		if t.Var {
			args[i] = stand[t.N]
		}
	}
	for _, x := range f {
		if x.Pred == a.Pred && x.A == args[0] && x.B == args[1] {
			return x.Val, true
		}
	}
	return 0, false
}

// reckoned is what Holds must tell, by the words of the promise.
func reckoned(r api.Rule, f []api.Fact, stand vars) (bool, api.Fact) {
	for _, x := range r.Body {
		if _, there := lookUp(f, x.Atom, stand); there == x.Not {
			return false, api.Fact{}
		}
	}
	out := api.Fact{Pred: r.Head.Pred, Val: r.N}
	for i, t := range r.Head.Args {
		n := t.N
		if t.Var {
			n = stand[n]
		}
		*[]*int{&out.A, &out.B}[i] = n
	}
	if r.From >= 0 {
		val, _ := lookUp(f, r.Body[r.From].Atom, stand)
		if out.Val = min(val+r.N, api.MaxVal); preds()[out.Pred].Kind == api.Bits {
			out.Val = val | r.N
		}
	}
	return true, out
}

// everyStand goes through all that three variables may stand for, rising.
func everyStand(yield func(vars) bool) {
	const n = api.MaxConst + 1
	for i := range n * n * n {
		if !yield(vars{i / (n * n), i / n % n, i % n}) {
			return
		}
	}
}

// asInRule tells whether each variable that is not in r stands for 0.
func asInRule(r api.Rule, stand vars) bool {
	var in [api.MaxVars]bool
	for _, x := range append(slices.Clone(r.Body), is(r.Head)) {
		for _, t := range x.Atom.Args {
			if t.Var {
				in[t.N] = true
			}
		}
	}
	for i, val := range stand {
		if !in[i] && val != 0 {
			return false
		}
	}
	return true
}

func TestE1E2Drawn(t *testing.T) {
	r := draw(7)
	seen, lifted := 0, 0
	for i := range 500 {
		x := drawnRule(&r, 3)
		p, f := with(plain(at(flag)), x), drawnFacts(&r, 1+r.n(9))
		var want []api.Step
		for stand := range everyStand {
			holds, fact := reckoned(x, f, stand)
			if holds && asInRule(x, stand) {
				want = append(want, api.Step{Rule: 1, Vars: stand})
			}
			if ok, got, e := fire.Holds(p, f, 1, stand); ok != holds || got != fact || e != api.OK {
				t.Fatalf("%d: %v of %v, %v: Holds tells %v, %v, %d, want %v, %v", i, x, f, stand, ok, got, e, holds, fact)
			}
		}
		if got, e := fire.All(p, f, 1); !slices.Equal(got, want) || e != api.OK {
			t.Fatalf("%d: %v of %v: All tells %v, %d, want %v", i, x, f, got, e, want)
		}
		seen += len(want)
		lifted += min(len(want), x.From+1)
	}
	if seen < 1000 || lifted < 20 {
		t.Errorf("%d steps, %d rules that lift: too few to tell", seen, lifted)
	}
}

// TestE1Above adds facts to facts: without Not, what held holds, and its fact is not less.
func TestE1Above(t *testing.T) {
	r := draw(11)
	seen := 0
	for range 150 {
		p := with(drawnRule(&r, 0))
		f := drawnFacts(&r, 5)
		g := f
		for _, x := range drawnFacts(&r, 4) {
			g, _, _ = base.Add(p.Preds, g, x)
		}
		below, _ := fire.All(p, f, 0)
		above, _ := fire.All(p, g, 0)
		seen += len(below)
		for _, s := range below {
			if !slices.Contains(above, s) {
				t.Errorf("%v: %v held of %v, and does not of %v", p.Rules[0], s, f, g)
			}
			_, x, _ := fire.Holds(p, f, 0, s.Vars)
			_, y, _ := fire.Holds(p, g, 0, s.Vars)
			if under, e := base.Under(p.Preds, []api.Fact{x}, []api.Fact{y}); !under || e != api.OK {
				t.Errorf("%v: %v tells %v of %v, and %v of %v", p.Rules[0], s, x, f, y, g)
			}
		}
	}
	if seen < 300 {
		t.Errorf("%d steps: too few to tell", seen)
	}
}

// TestP1 hands in as much as there may be, and more.
func TestP1(t *testing.T) {
	r := draw(1)
	p := with()
	for i := range api.MaxRules {
		p.Rules = append(p.Rules, plain(at(edge, v(0), v(1)), is(at(edge, v(0), v(1))), is(at(far, v(1), v(2))), is(at(edge, v(2), v(i%3)))))
	}
	f := drawnFacts(&r, 10)
	for n := range p.Rules {
		if l, e := fire.All(p, f, n); len(l) != 125 || e != api.OK {
			t.Errorf("rule %d of all facts: All tells %d steps, %d", n, len(l), e)
		}
	}
	tellError(t, "many facts", roads(), make([]api.Fact, 1<<16), 0, vars{}, api.ErrForm)
	tellError(t, "many rules", with(make([]api.Rule, 1<<16)...), nil, 0, vars{}, api.ErrMany)
	tellError(t, "many literals", with(api.Rule{From: -1, Head: at(flag), Body: make([]api.Lit, 1<<16)}), nil, 0, vars{}, api.ErrMany)
	tellError(t, "many predicates", api.Prog{Preds: make([]api.Pred, 1<<16)}, nil, 0, vars{}, api.ErrMany)
}

// room lays a list ahead of spare room, which is marked, so that a write there is seen.
func room[T any](l []T, mark T) []T {
	return append(append(make([]T, 0, len(l)+2), l...), mark, mark)[:len(l)]
}

// roomy is the program of roads, all of whose lists have spare room.
func roomy() api.Prog {
	p := roads()
	for i, r := range p.Rules {
		p.Rules[i].Head.Args = room(r.Head.Args, c(77))
		for k, x := range r.Body {
			r.Body[k].Atom.Args = room(x.Atom.Args, c(77))
		}
		p.Rules[i].Body = room(r.Body, not(at(77)))
	}
	p.Preds = room(p.Preds, api.Pred{Name: "spare"})
	p.Rules = room(p.Rules, api.Rule{N: 77})
	return p
}

// spread is all of a program's lists, with their spare room.
func spread(p api.Prog) []any {
	out := []any{p.Preds[:cap(p.Preds)], p.Rules[:cap(p.Rules)]}
	for _, r := range p.Rules {
		out = append(out, r.Head.Args[:cap(r.Head.Args)], r.Body[:cap(r.Body)])
		for _, x := range r.Body {
			out = append(out, x.Atom.Args[:cap(x.Atom.Args)])
		}
	}
	return out
}

func TestP2OnlyRead(t *testing.T) {
	facts := func() []api.Fact { return room(some(), api.Fact{Pred: 77}) }
	p, f := roomy(), facts()
	for n := -1; n <= len(p.Rules); n++ {
		fire.All(p, f, n)
		for stand := range everyStand {
			fire.Holds(p, f, n, stand)
		}
		fire.Holds(p, f, n, vars{5})
	}
	if !reflect.DeepEqual(spread(p), spread(roomy())) {
		t.Errorf("the program is %v", spread(p))
	}
	if !slices.Equal(f[:cap(f)], facts()[:cap(f)]) {
		t.Errorf("the facts are %v", f[:cap(f)])
	}
}

// TestP2NewMemory writes into what was answered: another answer does not show it.
func TestP2NewMemory(t *testing.T) {
	for n := range roads().Rules {
		p, f := roads(), some()
		a, _ := fire.All(p, f, n)
		b, _ := fire.All(p, f, n)
		want := slices.Clone(b)
		for i := range a {
			a[i] = api.Step{Rule: 77}
		}
		again, _ := fire.All(p, f, n)
		if len(want) == 0 || !slices.Equal(b, want) || !slices.Equal(again, want) {
			t.Errorf("rule %d: a change of the answer was seen: %v, %v, want %v", n, b, again, want)
		}
	}
}

// TestP3 asks the same between others that have errors: they may not be seen in it.
func TestP3(t *testing.T) {
	want := stands(2, vars{0, 1, 2}, vars{1, 1, 2})
	for range 3 {
		if l, e := fire.All(roads(), some(), 2); !slices.Equal(l, want) || e != api.OK {
			t.Errorf("All tells %v, %d, want %v", l, e, want)
		}
		if ok, x, e := fire.Holds(roads(), some(), 2, vars{0, 1, 2}); !ok || x != (api.Fact{Pred: far, B: 2, Val: 5}) || e != api.OK {
			t.Errorf("Holds tells %v, %v, %d", ok, x, e)
		}
		tellError(t, "no such rule", roads(), some(), 4, vars{}, api.ErrNone)
		tellError(t, "wrong facts", roads(), []api.Fact{{A: 5}}, 2, vars{}, api.ErrForm)
		fire.All(roads(), nil, 2)
		fire.Holds(roads(), some(), 2, vars{5})
	}
}
