package round_test

import (
	"math"
	"reflect"
	"slices"
	"testing"

	"treillage/api"
	"treillage/base"
	"treillage/prog"
	"treillage/round"
)

func v(n int) api.Term { return api.Term{Var: true, N: n} }

func c(n int) api.Term { return api.Term{N: n} }

func at(pred int, l ...api.Term) api.Atom { return api.Atom{Pred: pred, Args: l} }

func is(a api.Atom) api.Lit { return api.Lit{Atom: a} }

func not(a api.Atom) api.Lit { return api.Lit{Not: true, Atom: a} }

// plain is a rule whose value is 0.
func plain(head api.Atom, body ...api.Lit) api.Rule {
	return api.Rule{Head: head, From: -1, Body: body}
}

// valued is a rule whose value is n, lifting that of a literal or (from -1) by itself.
func valued(head api.Atom, from, n int, body ...api.Lit) api.Rule {
	return api.Rule{Head: head, From: from, N: n, Body: body}
}

// Numbers of the predicates of roads, and of shelves.
const (
	edge = iota
	far
	lone
	load
	mark
	none // there is no such one
)

// roads: edges; far: how far at least; lone: which of them nobody comes back to.
func roads() api.Prog {
	return api.Prog{
		Preds: preds()[:load],
		Rules: []api.Rule{
			plain(at(edge, c(0), c(1))),
			plain(at(edge, c(1), c(2))),
			plain(at(edge, c(2), c(0))),
			plain(at(edge, c(3), c(0))),
			valued(at(far, v(0), v(1)), -1, 1, is(at(edge, v(0), v(1)))),
			valued(at(far, v(0), v(2)), 0, 1, is(at(far, v(0), v(1))), is(at(edge, v(1), v(2)))),
			plain(at(lone, v(0)), is(at(edge, v(0), v(1))), not(at(far, v(0), v(0)))),
		},
	}
}

func preds() []api.Pred {
	return []api.Pred{
		edge: {Name: "edge", Arity: 2},
		far:  {Name: "far", Arity: 2, Kind: api.Min},
		lone: {Name: "lone", Arity: 1},
		load: {Name: "load", Arity: 1, Kind: api.Max},
		mark: {Name: "mark", Kind: api.Bits},
	}
}

// with is a program of all predicates, and some rules.
func with(l ...api.Rule) api.Prog { return api.Prog{Preds: preds(), Rules: l} }

// facts of numbers: Pred, A, B, Val.
func facts(l ...[4]int) []api.Fact {
	var out []api.Fact
	for _, x := range l {
		out = append(out, api.Fact{Pred: x[0], A: x[1], B: x[2], Val: x[3]})
	}
	return out
}

// some facts of roads: three, of which one round tells seven.
func some() []api.Fact { return facts([4]int{edge, 0, 1}, [4]int{edge, 1, 2}, [4]int{far, 0, 1, 4}) }

// tellError asks both calls for one error: with it, there is nothing else.
func tellError(t *testing.T, what string, p api.Prog, f []api.Fact, want api.Errno) {
	t.Helper()
	for _, stratum := range []int{0, 1, -1, 9} {
		if g, changed, e := round.Once(p, f, stratum); len(g) != 0 || changed || e != want {
			t.Errorf("%s: Once of stratum %d tells %v, %v, %d, want %d", what, stratum, g, changed, e, want)
		}
	}
	if is, e := round.Closed(p, f); is || e != want {
		t.Errorf("%s: Closed tells %v, %d, want %d", what, is, e, want)
	}
}

func TestF1ErrorsOfPrograms(t *testing.T) {
	for _, x := range []struct {
		what string
		turn func(p *api.Prog)
		want api.Errno
	}{
		{"six predicates", func(p *api.Prog) { p.Preds = append(preds(), api.Pred{Name: "a"}) }, api.ErrMany},
		{"nine rules", func(p *api.Prog) { p.Rules = slices.Repeat(p.Rules[:1], 9) }, api.ErrMany},
		{"no name", func(p *api.Prog) { p.Preds[lone].Name = "" }, api.ErrName},
		{"two of one name", func(p *api.Prog) { p.Preds[lone].Name = "edge" }, api.ErrThere},
		{"arity 3", func(p *api.Prog) { p.Preds[lone].Arity = 3 }, api.ErrRange},
		{"kind 4", func(p *api.Prog) { p.Preds[lone].Kind = 4 }, api.ErrKind},
		{"no such predicate", func(p *api.Prog) { p.Rules[6].Head.Pred = load }, api.ErrNone},
		{"an argument less", func(p *api.Prog) { p.Rules[6].Head.Args = nil }, api.ErrForm},
		{"constant 5", func(p *api.Prog) { p.Rules[0].Head.Args[1].N = 5 }, api.ErrRange},
		{"a free variable", func(p *api.Prog) { p.Rules[4].Head.Args[1].N = 2 }, api.ErrFree},
		{"four literals", func(p *api.Prog) { p.Rules[4].Body = slices.Repeat(p.Rules[4].Body, 4) }, api.ErrMany},
		{"N 16", func(p *api.Prog) { p.Rules[4].N = 16 }, api.ErrRange},
		{"a round", func(p *api.Prog) {
			p.Rules[4].Body = append(p.Rules[4].Body, not(at(lone, v(0))))
		}, api.ErrRound},
	} {
		p := roads()
		x.turn(&p)
		tellError(t, x.what, p, some(), x.want)
		tellError(t, x.what+", of nothing", p, nil, x.want)
		tellError(t, x.what+", and wrong facts", p, facts([4]int{edge, 5}), x.want)
	}
}

func TestF1ErrorsOfFacts(t *testing.T) {
	for _, f := range [][]api.Fact{
		facts([4]int{load}), facts([4]int{-1}), facts([4]int{edge, 5}), facts([4]int{edge, 0, -1}), facts([4]int{edge, 0, 0, 1}),
		facts([4]int{far, 0, 0, 16}), facts([4]int{lone, 0, 1}), facts([4]int{far, 1, 1, 1}, [4]int{far, 1, 1, 2}),
		facts([4]int{edge, 1}, [4]int{edge}), append(some(), some()[0]), facts([4]int{math.MaxInt}), facts([4]int{far, math.MinInt}),
	} {
		tellError(t, "wrong facts", roads(), f, api.ErrForm)
		tellError(t, "wrong facts, no rules", api.Prog{Preds: preds()[:load]}, f, api.ErrForm)
	}
}

func TestF1Once(t *testing.T) {
	edges := facts([4]int{edge, 0, 1}, [4]int{edge, 1, 2}, [4]int{edge, 2, 0}, [4]int{edge, 3, 0})
	seven := append(edges, facts([4]int{far, 0, 1, 1}, [4]int{far, 0, 2, 5}, [4]int{far, 1, 2, 1})...)
	lift := valued(at(load, v(0)), 0, 3, is(at(load, v(0))))
	back := plain(at(edge, v(1), v(0)), is(at(edge, v(0), v(1))))
	for _, x := range []struct {
		what    string
		p       api.Prog
		f       []api.Fact
		stratum int
		want    []api.Fact
		changed bool
	}{
		{"example 6", roads(), some(), 0, seven, true},
		{"of nothing", roads(), nil, 0, edges, true},
		{"the other stratum", roads(), some(), 1, append(some(), facts([4]int{lone, 0}, [4]int{lone, 1})...), true},
		{"the other stratum, of nothing", roads(), nil, 1, nil, false},
		{"no such stratum", roads(), some(), 2, some(), false},
		{"stratum -1", roads(), some(), -1, some(), false},
		{"the least stratum", roads(), some(), math.MinInt, some(), false},
		{"the greatest stratum", roads(), some(), math.MaxInt, some(), false},
		{"no such stratum, of nothing", roads(), nil, 7, nil, false},
		{"no rules", with(), some(), 0, some(), false},
		{"nothing at all", api.Prog{}, nil, 0, nil, false},
		{"what was told is not used yet", with(back, back), facts([4]int{edge, 0, 1}, [4]int{edge, 1, 2}), 0, facts([4]int{edge, 0, 1}, [4]int{edge, 1, 0}, [4]int{edge, 1, 2}, [4]int{edge, 2, 1}), true},
		{"nor by the next rule", with(plain(at(edge, c(1), c(2))), valued(at(far, v(0), v(1)), -1, 1, is(at(edge, v(0), v(1))))), nil, 0, facts([4]int{edge, 1, 2}), true},
		{"nor by one rule for another of it", with(lift, lift), facts([4]int{load, 1, 0, 2}), 0, facts([4]int{load, 1, 0, 5}), true},
		{"a greater value alone", with(lift), facts([4]int{load, 1, 0, 2}), 0, facts([4]int{load, 1, 0, 5}), true},
		{"the greatest value stays", with(lift), facts([4]int{load, 1, 0, 15}), 0, facts([4]int{load, 1, 0, 15}), false},
		{"a greater value of Min", with(valued(at(far, c(0), c(0)), -1, 6)), facts([4]int{far, 0, 0, 5}), 0, facts([4]int{far, 0, 0, 5}), false},
		{"a lesser value of Min", with(valued(at(far, c(0), c(0)), -1, 4)), facts([4]int{far, 0, 0, 5}), 0, facts([4]int{far, 0, 0, 4}), true},
		{"other bits", with(valued(at(mark), -1, 6)), facts([4]int{mark, 0, 0, 3}), 0, facts([4]int{mark, 0, 0, 7}), true},
		{"some of the bits", with(valued(at(mark), -1, 2)), facts([4]int{mark, 0, 0, 3}), 0, facts([4]int{mark, 0, 0, 3}), false},
		{"two that are joined", with(valued(at(mark), -1, 2), valued(at(mark), -1, 8)), nil, 0, facts([4]int{mark, 0, 0, 10}), true},
		{"the first changes, the last does not", with(plain(at(edge, c(1), c(1))), plain(at(edge, c(0), c(1)))), some(), 0, facts([4]int{edge, 0, 1}, [4]int{edge, 1, 1}, [4]int{edge, 1, 2}, [4]int{far, 0, 1, 4}), true},
		{"a stratum above the next", with(plain(at(lone, c(0)), not(at(edge, c(0), c(0)))), valued(at(load, c(0)), -1, 1, not(at(lone, c(1)))), valued(at(mark), -1, 1, is(at(load, c(0))))), facts([4]int{load, 0, 0, 9}), 2, facts([4]int{load, 0, 0, 9}, [4]int{mark, 0, 0, 1}), true},
	} {
		got, changed, e := round.Once(x.p, x.f, x.stratum)
		if !slices.Equal(got, x.want) || changed != x.changed || e != api.OK {
			t.Errorf("%s: Once tells %v, %v, %d, want %v, %v", x.what, got, changed, e, x.want, x.changed)
		}
	}
}

func TestF1Closed(t *testing.T) {
	ten := valued(at(far, c(0), c(0)), -1, 10)
	lift := valued(at(load, v(0)), 0, 3, is(at(load, v(0))))
	for _, x := range []struct {
		what string
		p    api.Prog
		f    []api.Fact
		want bool
	}{
		{"some roads", roads(), some(), false},
		{"roads, of nothing", roads(), nil, false},
		{"no rules", with(), some(), true},
		{"no rules, no facts", with(), nil, true},
		{"nothing at all", api.Prog{}, nil, true},
		{"the same value", with(ten), facts([4]int{far, 0, 0, 10}), true},
		{"of Min, a greater one", with(ten), facts([4]int{far, 0, 0, 11}), false},
		{"of Min, a lesser one", with(ten), facts([4]int{far, 0, 0, 9}), true},
		{"of Max, a lesser one", with(valued(at(load, c(1)), -1, 4)), facts([4]int{load, 1, 0, 3}), false},
		{"of Max, a greater one", with(valued(at(load, c(1)), -1, 4)), facts([4]int{load, 1, 0, 5}), true},
		{"of Bits, others", with(valued(at(mark), -1, 4)), facts([4]int{mark, 0, 0, 11}), false},
		{"of Bits, more", with(valued(at(mark), -1, 4)), facts([4]int{mark, 0, 0, 6}), true},
		{"another fact of it", with(ten), facts([4]int{far, 0, 1, 10}), false},
		{"one that grows", with(lift), facts([4]int{load, 1, 0, 14}), false},
		{"one that has grown", with(lift), facts([4]int{load, 1, 0, 15}), true},
		{"a rule that tells nothing", with(lift), some(), true},
		{"the first rule alone is not", with(plain(at(edge, c(4), c(4))), plain(at(edge, c(0), c(1)))), some(), false},
		{"the last rule alone is not", with(plain(at(edge, c(0), c(1))), plain(at(edge, c(4), c(4)))), some(), false},
		{"a fact of a higher stratum", with(plain(at(lone, c(0)), not(at(edge, c(0), c(0))))), some(), false},
		{"that fact is there", with(plain(at(lone, c(0)), not(at(edge, c(0), c(0))))), facts([4]int{lone}), true},
		{"facts that nothing tells", with(ten), facts([4]int{edge, 1, 1}, [4]int{far, 0, 0, 3}, [4]int{far, 4, 4, 2}), true},
	} {
		if got, e := round.Closed(x.p, x.f); got != x.want || e != api.OK {
			t.Errorf("%s: Closed tells %v, %d, want %v", x.what, got, e, x.want)
		}
	}
}

// TestF1Rounds goes on until nothing changes, stratum by stratum: then all is closed, and without any one fact it is not.
func TestF1Rounds(t *testing.T) {
	var f []api.Fact
	var rounds [2]int
	for stratum := range rounds {
		for {
			g, changed, e := round.Once(roads(), f, stratum)
			if e != api.OK {
				t.Fatalf("Once tells %d", e)
			}
			if !changed {
				break
			}
			if is, e := round.Closed(roads(), f); is || e != api.OK {
				t.Errorf("Closed tells %v, %d of %v", is, e, f)
			}
			f = g
			rounds[stratum]++
		}
	}
	if len(f) != 17 || rounds != [2]int{4, 1} {
		t.Errorf("%d facts, by %v rounds: %v", len(f), rounds, f)
	}
	if is, e := round.Closed(roads(), f); !is || e != api.OK {
		t.Errorf("Closed tells %v, %d of %v", is, e, f)
	}
	for i := range f {
		less := slices.Delete(slices.Clone(f), i, i+1)
		if is, e := round.Closed(roads(), less); is || e != api.OK {
			t.Errorf("Closed tells %v, %d without %v", is, e, f[i])
		}
	}
}

// draw: numbers, the same each time.
type draw uint64

func (d *draw) n(n int) int {
	*d = *d*6364136223846793005 + 1442695040888963407
	return int(uint64(*d) >> 33 % uint64(n))
}

func drawnAtom(r *draw) api.Atom {
	a := api.Atom{Pred: r.n(none)}
	for range preds()[a.Pred].Arity {
		if r.n(4) == 0 {
			a.Args = append(a.Args, c(r.n(api.MaxConst+1)))
		} else {
			a.Args = append(a.Args, v(r.n(api.MaxVars)))
		}
	}
	return a
}

// drawnProg tells a program that is right; nots: in how many of ten literals Not is drawn.
func drawnProg(r *draw, nots int) api.Prog {
	for p := with(); ; {
		x := api.Rule{Head: drawnAtom(r), From: r.n(3) - 1, N: r.n(api.MaxVal + 1)}
		if preds()[x.Head.Pred].Kind == api.Plain {
			x.From, x.N = -1, 0
		}
		for range r.n(api.MaxBody + 1) {
			x.Body = append(x.Body, api.Lit{Not: r.n(10) < nots, Atom: drawnAtom(r)})
		}
		q := with(append(slices.Clone(p.Rules), x)...)
		if prog.Check(q) == api.OK {
			p = q
		}
		if len(p.Rules) == api.MaxRules || len(p.Rules) > 0 && r.n(20) == 0 {
			return p
		}
	}
}

// drawnFacts are some of all facts; of ten, so many.
func drawnFacts(r *draw, many int) []api.Fact {
	var out []api.Fact
	for i, p := range preds() {
		for a := range 1 + api.MaxConst*min(p.Arity, 1) {
			for b := range 1 + api.MaxConst*(max(p.Arity, 1)-1) {
				x := api.Fact{Pred: i, A: a, B: b, Val: r.n(api.MaxVal + 1)}
				if p.Kind == api.Plain {
					x.Val = 0
				}
				if r.n(10) < many {
					out = append(out, x)
				}
			}
		}
	}
	return out
}

// shelf has each fact's value where it belongs (-1: it does not hold): the same facts, kept in another way.
type shelf [none][5][5]int

func shelfOf(f []api.Fact) shelf {
	var s shelf
	for i := range s {
		for k := range s[i] {
			s[i][k] = [5]int{-1, -1, -1, -1, -1}
		}
	}
	for _, x := range f {
		s[x.Pred][x.A][x.B] = x.Val
	}
	return s
}

func (s *shelf) facts() []api.Fact {
	var out []api.Fact
	for i := range s {
		for k := range s[i] {
			for j, val := range s[i][k] {
				if val >= 0 {
					out = append(out, api.Fact{Pred: i, A: k, B: j, Val: val})
				}
			}
		}
	}
	return out
}

// of is where the value of an atom is.
func (s *shelf) of(a api.Atom, stand [3]int) *int {
	var args [api.MaxArity]int
	for i, t := range a.Args {
		args[i] = t.N
		if t.Var {
			args[i] = stand[t.N]
		}
	}
	return &s[a.Pred][args[0]][args[1]]
}

// tell what r tells of s to o, whatever its variables stand for.
func (s *shelf) tell(r api.Rule, o *shelf) {
	for n := range 125 {
		stand := [3]int{n / 25, n / 5 % 5, n % 5}
		fails := func(x api.Lit) bool { return (*s.of(x.Atom, stand) >= 0) == x.Not }
		if slices.ContainsFunc(r.Body, fails) {
			continue
		}
		val, to := r.N, o.of(r.Head, stand)
		if r.From >= 0 {
			from := *s.of(r.Body[r.From].Atom, stand)
			if val = min(from+r.N, 15); r.Head.Pred == mark {
				val = from | r.N
			}
		}
		switch {
		case *to < 0:
			*to = val
		case r.Head.Pred == far:
			*to = min(*to, val)
		case r.Head.Pred == load:
			*to = max(*to, val)
		case r.Head.Pred == mark:
			*to |= val
		}
	}
}

func TestF1Drawn(t *testing.T) {
	r := draw(9)
	var have [2][2]int // changed or not, of Once; closed or not
	for i := range 200 {
		p := drawnProg(&r, 2)
		f := drawnFacts(&r, r.n(11))
		for range 5 {
			s := shelfOf(f)
			all := s
			strata, _ := prog.Strata(p)
			for stratum := range none {
				o := s
				for _, x := range p.Rules {
					if strata[x.Head.Pred] == stratum {
						s.tell(x, &o)
						s.tell(x, &all)
					}
				}
				got, changed, e := round.Once(p, f, stratum)
				if !slices.Equal(got, o.facts()) || changed != (o != s) || e != api.OK {
					t.Fatalf("%d: %v of %v: Once of %d tells %v, %v, %d, want %v", i, p.Rules, f, stratum, got, changed, e, o.facts())
				}
				have[0][one(changed)]++
			}
			is, e := round.Closed(p, f)
			if is != (all == s) || e != api.OK {
				t.Fatalf("%d: %v of %v: Closed tells %v, %d, want %v", i, p.Rules, f, is, e, all == s)
			}
			have[1][one(is)]++
			f = all.facts()
		}
	}
	for _, x := range have {
		if min(x[0], x[1]) < 30 {
			t.Errorf("%v: too few to tell", have)
		}
	}
}

func one(b bool) int {
	if b {
		return 1
	}
	return 0
}

// TestF1Above adds facts to facts: without Not, what a round tells of more is not less.
func TestF1Above(t *testing.T) {
	r := draw(13)
	for range 100 {
		p, f := drawnProg(&r, 0), drawnFacts(&r, 3)
		g := f
		for _, x := range drawnFacts(&r, 3) {
			g, _, _ = base.Add(p.Preds, g, x)
		}
		below, _, _ := round.Once(p, f, 0)
		above, _, _ := round.Once(p, g, 0)
		if under, e := base.Under(p.Preds, below, above); !under || e != api.OK {
			t.Errorf("%v: %v tells %v, and %v tells %v", p.Rules, f, below, g, above)
		}
		if under, e := base.Under(p.Preds, f, below); !under || e != api.OK {
			t.Errorf("%v: %v tells %v", p.Rules, f, below)
		}
	}
}

// TestF1Order tells rules the other way round: the same follows.
func TestF1Order(t *testing.T) {
	r := draw(17)
	for range 100 {
		p, f := drawnProg(&r, 2), drawnFacts(&r, 4)
		q := with(slices.Clone(p.Rules)...)
		slices.Reverse(q.Rules)
		for stratum := range 2 {
			a, changed, _ := round.Once(p, f, stratum)
			b, changedToo, _ := round.Once(q, f, stratum)
			if !slices.Equal(a, b) || changed != changedToo {
				t.Errorf("%v of %v: %v, %v and %v, %v", p.Rules, f, a, changed, b, changedToo)
			}
		}
	}
}

// TestP1 hands in as much as there may be, and more.
func TestP1(t *testing.T) {
	r := draw(1)
	f, p := drawnFacts(&r, 10), with()
	for i := range api.MaxRules {
		p.Rules = append(p.Rules, plain(at(edge, v(0), v(1)), is(at(edge, v(0), v(1))), is(at(far, v(1), v(2))), is(at(edge, v(2), v(i%3)))))
	}
	if g, changed, e := round.Once(p, f, 0); !slices.Equal(g, f) || changed || e != api.OK {
		t.Errorf("all facts: Once tells %v, %v, %d", g, changed, e)
	}
	if is, e := round.Closed(p, f); !is || e != api.OK {
		t.Errorf("all facts: Closed tells %v, %d", is, e)
	}
	tellError(t, "many facts", roads(), make([]api.Fact, 1<<16), api.ErrForm)
	tellError(t, "many rules", with(make([]api.Rule, 1<<16)...), nil, api.ErrMany)
	tellError(t, "many predicates", api.Prog{Preds: make([]api.Pred, 1<<16)}, nil, api.ErrMany)
}

// room lays a list ahead of spare room, which is marked, so that a write there is seen.
func room[T any](l []T, mark T) []T {
	return append(append(make([]T, 0, len(l)+2), l...), mark, mark)[:len(l)]
}

// roomy is the program of roads, all of whose lists have spare room.
func roomy() api.Prog {
	p := roads()
	for i, r := range p.Rules {
		p.Rules[i].Head.Args = room(r.Head.Args, c(77))
		for k, x := range r.Body {
			r.Body[k].Atom.Args = room(x.Atom.Args, c(77))
		}
		p.Rules[i].Body = room(r.Body, not(at(77)))
	}
	p.Preds = room(p.Preds, api.Pred{Name: "spare"})
	p.Rules = room(p.Rules, api.Rule{N: 77})
	return p
}

// spread is all of a program's lists, with their spare room.
func spread(p api.Prog) []any {
	out := []any{p.Preds[:cap(p.Preds)], p.Rules[:cap(p.Rules)]}
	for _, r := range p.Rules {
		out = append(out, r.Head.Args[:cap(r.Head.Args)], r.Body[:cap(r.Body)])
		for _, x := range r.Body {
			out = append(out, x.Atom.Args[:cap(x.Atom.Args)])
		}
	}
	return out
}

func TestP2OnlyRead(t *testing.T) {
	for _, l := range [][]api.Fact{nil, some(), facts([4]int{edge, 1, 1}), facts([4]int{edge, 5})} {
		lay := func() []api.Fact { return room(l, api.Fact{Pred: 77}) }
		p, f := roomy(), lay()
		for stratum := -1; stratum < 4; stratum++ {
			round.Once(p, f, stratum)
			round.Closed(p, f)
		}
		if !reflect.DeepEqual(spread(p), spread(roomy())) {
			t.Errorf("the program is %v", spread(p))
		}
		if !slices.Equal(f[:cap(f)], lay()[:cap(f)]) {
			t.Errorf("the facts are %v", f[:cap(f)])
		}
	}
}

// TestP2NewMemory writes into what was answered, changed or not, and into what was handed in: neither is seen in the other.
func TestP2NewMemory(t *testing.T) {
	spoil := func(f []api.Fact) {
		for i := range f {
			f[i] = api.Fact{Pred: 77}
		}
	}
	for stratum := range 3 {
		f := some()
		want, _, _ := round.Once(roads(), some(), stratum)
		a, _, _ := round.Once(roads(), f, stratum)
		spoil(a)
		b, _, _ := round.Once(roads(), f, stratum)
		if !slices.Equal(f, some()) || !slices.Equal(b, want) {
			t.Errorf("stratum %d: a change of the answer was seen: %v, %v", stratum, f, b)
		}
		spoil(f)
		if !slices.Equal(b, want) {
			t.Errorf("stratum %d: a change of what was handed in was seen: %v", stratum, b)
		}
	}
}

// TestP3 asks the same between others that have errors: they may not be seen in it.
func TestP3(t *testing.T) {
	want, _, _ := round.Once(roads(), some(), 0)
	for range 3 {
		if got, changed, e := round.Once(roads(), some(), 0); !slices.Equal(got, want) || len(got) != 7 || !changed || e != api.OK {
			t.Errorf("Once tells %v, %v, %d, want %v", got, changed, e, want)
		}
		if is, e := round.Closed(roads(), some()); is || e != api.OK {
			t.Errorf("Closed tells %v, %d", is, e)
		}
		tellError(t, "wrong facts", roads(), facts([4]int{edge, 5}), api.ErrForm)
		tellError(t, "no name", api.Prog{Preds: make([]api.Pred, 1)}, some(), api.ErrName)
		round.Once(roads(), nil, 1)
		round.Closed(with(), nil)
	}
}
