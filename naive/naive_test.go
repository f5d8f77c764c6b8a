package naive_test

import (
	"reflect"
	"slices"
	"testing"

	"treillage/api"
	"treillage/base"
	"treillage/naive"
	"treillage/prog"
	"treillage/round"
)

func v(n int) api.Term { return api.Term{Var: true, N: n} }

func c(n int) api.Term { return api.Term{N: n} }

func at(pred int, l ...api.Term) api.Atom { return api.Atom{Pred: pred, Args: l} }

func is(a api.Atom) api.Lit { return api.Lit{Atom: a} }

func not(a api.Atom) api.Lit { return api.Lit{Not: true, Atom: a} }

// plain is a rule whose value is 0.
func plain(head api.Atom, body ...api.Lit) api.Rule {
	return api.Rule{Head: head, From: -1, Body: body}
}

// valued is a rule whose value is n, lifting that of a literal or (from -1) by itself.
func valued(head api.Atom, from, n int, body ...api.Lit) api.Rule {
	return api.Rule{Head: head, From: from, N: n, Body: body}
}

// Numbers of the predicates of roads, and of shelves.
const (
	edge = iota
	far
	lone
	load
	mark
	none // there is no such one
)

// roads: edges; far: how far at least; lone: which of them nobody comes back to.
func roads() api.Prog {
	return api.Prog{
		Preds: preds()[:load],
		Rules: []api.Rule{
			plain(at(edge, c(0), c(1))),
			plain(at(edge, c(1), c(2))),
			plain(at(edge, c(2), c(0))),
			plain(at(edge, c(3), c(0))),
			valued(at(far, v(0), v(1)), -1, 1, is(at(edge, v(0), v(1)))),
			valued(at(far, v(0), v(2)), 0, 1, is(at(far, v(0), v(1))), is(at(edge, v(1), v(2)))),
			plain(at(lone, v(0)), is(at(edge, v(0), v(1))), not(at(far, v(0), v(0)))),
		},
	}
}

func preds() []api.Pred {
	return []api.Pred{
		edge: {Name: "edge", Arity: 2},
		far:  {Name: "far", Arity: 2, Kind: api.Min},
		lone: {Name: "lone", Arity: 1},
		load: {Name: "load", Arity: 1, Kind: api.Max},
		mark: {Name: "mark", Kind: api.Bits},
	}
}

// with is a program of all predicates, and some rules.
func with(l ...api.Rule) api.Prog { return api.Prog{Preds: preds(), Rules: l} }

// winding is a program whose rounds are many: each value goes through all 25 facts of far ahead of the next one.
func winding() api.Prog {
	p := with(
		plain(at(edge, c(0), c(1))),
		plain(at(edge, c(1), c(2))),
		plain(at(edge, c(2), c(3))),
		plain(at(edge, c(3), c(4))),
		valued(at(far, c(0), c(0)), -1, 0),
		valued(at(far, v(0), v(2)), 0, 0, is(at(far, v(0), v(1))), is(at(edge, v(1), v(2)))),
		valued(at(far, v(1), c(0)), 0, 0, is(at(far, v(0), c(4))), is(at(edge, v(0), v(1)))),
		valued(at(far, c(0), c(0)), 0, 1, is(at(far, c(4), c(4)))),
	)
	p.Preds[far].Kind = api.Max
	return p
}

// facts of numbers: Pred, A, B, Val.
func facts(l ...[4]int) []api.Fact {
	var out []api.Fact
	for _, x := range l {
		out = append(out, api.Fact{Pred: x[0], A: x[1], B: x[2], Val: x[3]})
	}
	return out
}

// tellError asks both calls for one error: with it, there is nothing else.
func tellError(t *testing.T, what string, p api.Prog, want api.Errno) {
	t.Helper()
	if f, e := naive.Model(p); len(f) != 0 || e != want {
		t.Errorf("%s: Model tells %v, %d, want %d", what, f, e, want)
	}
	if l, e := naive.Rounds(p); len(l) != 0 || e != want {
		t.Errorf("%s: Rounds tells %v, %d, want %d", what, l, e, want)
	}
}

// wrongPrograms are turns of the roads, and the error of each.
func wrongPrograms() []wrong {
	return []wrong{
		{"six predicates", func(p *api.Prog) { p.Preds = append(preds(), api.Pred{Name: "a"}) }, api.ErrMany},
		{"nine rules", func(p *api.Prog) { p.Rules = slices.Repeat(p.Rules[:1], 9) }, api.ErrMany},
		{"no name", func(p *api.Prog) { p.Preds[lone].Name = "" }, api.ErrName},
		{"two of one name", func(p *api.Prog) { p.Preds[lone].Name = "edge" }, api.ErrThere},
		{"arity 3", func(p *api.Prog) { p.Preds[lone].Arity = 3 }, api.ErrRange},
		{"kind 4", func(p *api.Prog) { p.Preds[lone].Kind = 4 }, api.ErrKind},
		{"no such predicate", func(p *api.Prog) { p.Rules[6].Head.Pred = load }, api.ErrNone},
		{"an argument less", func(p *api.Prog) { p.Rules[6].Head.Args = nil }, api.ErrForm},
		{"constant 5", func(p *api.Prog) { p.Rules[0].Head.Args[1].N = 5 }, api.ErrRange},
		{"a free variable", func(p *api.Prog) { p.Rules[4].Head.Args[1].N = 2 }, api.ErrFree},
		{"four literals", func(p *api.Prog) { p.Rules[4].Body = slices.Repeat(p.Rules[4].Body, 4) }, api.ErrMany},
		{"N 16", func(p *api.Prog) { p.Rules[4].N = 16 }, api.ErrRange},
		{"a value of a plain one", func(p *api.Prog) { p.Rules[0].N = 1 }, api.ErrForm},
		{"a round", func(p *api.Prog) {
			p.Rules[4].Body = append(p.Rules[4].Body, not(at(lone, v(0))))
		}, api.ErrRound},
		{"many rules", func(p *api.Prog) { p.Rules = make([]api.Rule, 1<<16) }, api.ErrMany},
		{"many predicates", func(p *api.Prog) { p.Preds = make([]api.Pred, 1<<16) }, api.ErrMany},
	}
}

type wrong struct {
	what string
	turn func(p *api.Prog)
	want api.Errno
}

func TestG1Errors(t *testing.T) {
	for _, x := range wrongPrograms() {
		p := roads()
		x.turn(&p)
		tellError(t, x.what, p, x.want)
	}
}

// TestG1FirstError mends one fault after the other: each time the next one is told.
func TestG1FirstError(t *testing.T) {
	p := roads()
	p.Preds = append(p.Preds, make([]api.Pred, 3)...)
	p.Preds[far].Arity, p.Preds[lone].Kind = -1, -1
	p.Rules[0].Head.Args[0].N = -1
	p.Rules[4].Body = append(p.Rules[4].Body, not(at(lone, v(0))))
	for _, x := range []struct {
		mend func()
		want api.Errno
	}{
		{func() {}, api.ErrMany},
		{func() { p.Preds = p.Preds[:load+1] }, api.ErrName},
		{func() { p.Preds[load].Name = "edge" }, api.ErrThere},
		{func() { p.Preds[load].Name = "load" }, api.ErrRange},
		{func() { p.Preds[far].Arity = 2 }, api.ErrKind},
		{func() { p.Preds[lone].Kind = api.Plain }, api.ErrRange},
		{func() { p.Rules[0].Head.Args[0].N = 0 }, api.ErrRound},
	} {
		x.mend()
		tellError(t, "a fault after the other", p, x.want)
	}
	p.Rules[4].Body = p.Rules[4].Body[:1]
	if f, e := naive.Model(p); len(f) != 17 || e != api.OK {
		t.Errorf("all mended: Model tells %v, %d", f, e)
	}
}

func TestG1(t *testing.T) {
	seventeen := facts([4]int{edge, 0, 1}, [4]int{edge, 1, 2}, [4]int{edge, 2, 0}, [4]int{edge, 3, 0},
		[4]int{far, 0, 0, 3}, [4]int{far, 0, 1, 1}, [4]int{far, 0, 2, 2}, [4]int{far, 1, 0, 2}, [4]int{far, 1, 1, 3}, [4]int{far, 1, 2, 1},
		[4]int{far, 2, 0, 1}, [4]int{far, 2, 1, 2}, [4]int{far, 2, 2, 3}, [4]int{far, 3, 0, 1}, [4]int{far, 3, 1, 2}, [4]int{far, 3, 2, 3},
		[4]int{lone, 3})
	turned := roads()
	slices.Reverse(turned.Rules)
	unfounded := roads()
	unfounded.Rules = unfounded.Rules[4:]
	one := valued(at(load, c(1)), -1, 1)
	lift := valued(at(load, v(0)), 0, 3, is(at(load, v(0))))
	noEdge := plain(at(lone, c(0)), not(at(edge, c(0), c(0))))
	noLone := valued(at(load, c(0)), -1, 1, not(at(lone, c(0))))
	noLoad := valued(at(mark), -1, 1, not(at(load, c(0))))
	for _, x := range []struct {
		what   string
		p      api.Prog
		want   []api.Fact
		rounds []int
	}{
		{"example 7", roads(), seventeen, []int{4, 1}},
		{"rules the other way round", turned, seventeen, []int{4, 1}},
		{"nothing to begin with", unfounded, nil, []int{0, 0}},
		{"no rules", with(), nil, []int{0}},
		{"nothing at all", api.Prog{}, nil, nil},
		{"one rule", with(one), facts([4]int{load, 1, 0, 1}), []int{1}},
		{"one that stays the same", with(one, valued(at(load, v(0)), 0, 0, is(at(load, v(0))))), facts([4]int{load, 1, 0, 1}), []int{1}},
		{"up to the greatest value", with(one, lift), facts([4]int{load, 1, 0, 15}), []int{6}},
		{"of itself alone", with(lift), nil, []int{0}},
		{"down to the least value", with(valued(at(far, c(0), c(0)), -1, 9), valued(at(far, c(0), c(0)), -1, 2), valued(at(far, v(0), v(0)), 0, 1, is(at(far, v(0), v(0))))), facts([4]int{far, 0, 0, 2}), []int{1}},
		{"all bits", with(valued(at(mark), -1, 1), valued(at(mark), 0, 2, is(at(mark))), valued(at(mark), -1, 8, is(at(mark)))), facts([4]int{mark, 0, 0, 11}), []int{2}},
		{"a lesser value, later", with(plain(at(edge, c(0), c(1))), valued(at(far, c(0), c(0)), -1, 9), valued(at(far, v(0), c(0)), -1, 2, is(at(edge, v(0), v(1)))), valued(at(far, c(1), c(1)), 0, 1, is(at(far, c(0), c(0))))), facts([4]int{edge, 0, 1}, [4]int{far, 0, 0, 2}, [4]int{far, 1, 1, 3}), []int{3}},
		{"every second one", with(noLoad, noLone, noEdge), facts([4]int{lone}, [4]int{mark, 0, 0, 1}), []int{0, 1, 0, 1}},
		{"the others", with(noLoad, noLone, noEdge, plain(at(edge, c(0), c(0)))), facts([4]int{edge}, [4]int{load, 0, 0, 1}), []int{1, 0, 1, 0}},
		{"a stratum is at its end ahead of the next", with(plain(at(lone, c(0)), not(at(far, c(2), c(2)))), valued(at(far, c(2), c(2)), -1, 1, is(at(far, c(1), c(1)))), valued(at(far, c(1), c(1)), -1, 1, is(at(far, c(0), c(0)))), valued(at(far, c(0), c(0)), -1, 1)), facts([4]int{far, 0, 0, 1}, [4]int{far, 1, 1, 1}, [4]int{far, 2, 2, 1}), []int{3, 0}},
		{"rounds in a higher stratum", with(noEdge, plain(at(edge, c(1), c(2))), plain(at(lone, v(1)), is(at(lone, v(0))), is(at(edge, v(0), v(1)))), plain(at(lone, c(1)), is(at(lone, c(0))))), facts([4]int{edge, 1, 2}, [4]int{lone, 0}, [4]int{lone, 1}, [4]int{lone, 2}), []int{1, 3}},
	} {
		if got, e := naive.Model(x.p); !slices.Equal(got, x.want) || e != api.OK {
			t.Errorf("%s: Model tells %v, %d, want %v", x.what, got, e, x.want)
		}
		if got, e := naive.Rounds(x.p); !slices.Equal(got, x.rounds) || e != api.OK {
			t.Errorf("%s: Rounds tells %v, %d, want %v", x.what, got, e, x.rounds)
		}
	}
}

// draw: numbers, the same each time.
type draw uint64

func (d *draw) n(n int) int {
	*d = *d*6364136223846793005 + 1442695040888963407
	return int(uint64(*d) >> 33 % uint64(n))
}

// drawnAtom of a predicate: of ten terms so many are constants.
func drawnAtom(r *draw, pred, consts int) api.Atom {
	a := api.Atom{Pred: pred}
	for range preds()[pred].Arity {
		if r.n(10) < consts {
			a.Args = append(a.Args, c(r.n(api.MaxConst+1)))
		} else {
			a.Args = append(a.Args, v(r.n(api.MaxVars)))
		}
	}
	return a
}

// drawnRule of a predicate leans mostly on what other rules tell, and hands a value on, where it can; of ten literals so many are Not.
func drawnRule(r *draw, others []api.Rule, pred, nots int) api.Rule {
	x := api.Rule{Head: drawnAtom(r, pred, 2), From: -1, N: r.n(4)}
	for i := range 1 + r.n(api.MaxBody) {
		y := api.Lit{Not: r.n(10) < nots, Atom: drawnAtom(r, others[r.n(len(others))].Head.Pred, 1)}
		if r.n(3) == 0 {
			y.Atom = drawnAtom(r, r.n(none), 1)
		}
		x.Body = append(x.Body, y)
		if y.Atom.Pred == pred && r.n(4) > 0 {
			x.From = i
		}
	}
	if preds()[pred].Kind == api.Plain {
		x.From, x.N = -1, 0
	}
	return x
}

// givenRule tells a fact.
func givenRule(r *draw, pred int) api.Rule {
	x := plain(drawnAtom(r, pred, 10))
	if preds()[pred].Kind != api.Plain {
		x.N = r.n(api.MaxVal + 1)
	}
	return x
}

// drawnProg tells a program that is right: some rules that tell facts, and others.
func drawnProg(r *draw, nots int) api.Prog {
	p := with()
	given := 1 + r.n(4)
	all := given + 1 + r.n(api.MaxRules-given)
	for len(p.Rules) < all {
		pred := r.n(none)
		next := func() api.Prog {
			if len(p.Rules) < given {
				return with(append(slices.Clone(p.Rules), givenRule(r, pred))...)
			}
			return with(append(slices.Clone(p.Rules), drawnRule(r, p.Rules, pred, nots))...)
		}
		q := next()
		for prog.Check(q) != api.OK {
			q = next()
		}
		p = q
	}
	return p
}

// shelf has each fact's value where it belongs (-1: it does not hold): facts, kept in another way.
type shelf [none][5][5]int

func bareShelf() shelf {
	var s shelf
	for i := range s {
		for k := range s[i] {
			s[i][k] = [5]int{-1, -1, -1, -1, -1}
		}
	}
	return s
}

func (s *shelf) facts() []api.Fact {
	var out []api.Fact
	for i := range s {
		for k := range s[i] {
			for j, val := range s[i][k] {
				if val >= 0 {
					out = append(out, api.Fact{Pred: i, A: k, B: j, Val: val})
				}
			}
		}
	}
	return out
}

// of is where the value of an atom is.
func (s *shelf) of(a api.Atom, stand [3]int) *int {
	var args [api.MaxArity]int
	for i, t := range a.Args {
		args[i] = t.N
		if t.Var {
			args[i] = stand[t.N]
		}
	}
	return &s[a.Pred][args[0]][args[1]]
}

// holds tells whether the body of r holds.
func (s *shelf) holds(r api.Rule, stand [3]int) bool {
	fails := func(x api.Lit) bool { return (*s.of(x.Atom, stand) >= 0) == x.Not }
	return !slices.ContainsFunc(r.Body, fails)
}

// tell what r, which holds, tells of s to o.
func (s *shelf) tell(r api.Rule, stand [3]int, o *shelf) {
	val, to := r.N, o.of(r.Head, stand)
	if r.From >= 0 {
		from := *s.of(r.Body[r.From].Atom, stand)
		if val = min(from+r.N, 15); r.Head.Pred == mark {
			val = from | r.N
		}
	}
	switch {
	case *to < 0:
		*to = val
	case r.Head.Pred == far:
		*to = min(*to, val)
	case r.Head.Pred == load:
		*to = max(*to, val)
	case r.Head.Pred == mark:
		*to |= val
	}
}

// stands are all that the variables of r may stand for: 0, where one does not stand in it.
func stands(r api.Rule) [][3]int {
	var used [3]bool
	see := func(a api.Atom) {
		for _, t := range a.Args {
			if t.Var {
				used[t.N] = true
			}
		}
	}
	see(r.Head)
	for _, x := range r.Body {
		see(x.Atom)
	}
	var out [][3]int
	for n := range 125 {
		stand := [3]int{n / 25, n / 5 % 5, n % 5}
		unused := func(i int) bool { return stand[i] > 0 && !used[i] }
		if !unused(0) && !unused(1) && !unused(2) {
			out = append(out, stand)
		}
	}
	return out
}

// reckoned is the Model and the Rounds of p, told fact by fact on a shelf.
func reckoned(p api.Prog) (shelf, []int) {
	strata, _ := prog.Strata(p)
	s, rounds := bareShelf(), make([]int, slices.Max(strata)+1)
	for stratum := range rounds {
		for {
			o := s
			tellAll(p, &s, &o, func(r api.Rule) bool { return strata[r.Head.Pred] == stratum })
			if o == s {
				break
			}
			s = o
			rounds[stratum]++
		}
	}
	return s, rounds
}

// tellAll tells what the wanted rules tell of s to o.
func tellAll(p api.Prog, s, o *shelf, wanted func(api.Rule) bool) {
	for _, r := range p.Rules {
		for _, stand := range stands(r) {
			if wanted(r) && s.holds(r, stand) {
				s.tell(r, stand, o)
			}
		}
	}
}

func TestG1Drawn(t *testing.T) {
	r := draw(3)
	long, high := 0, 0
	for i := range 300 {
		p := drawnProg(&r, 2)
		s, rounds := reckoned(p)
		if got, e := naive.Model(p); !slices.Equal(got, s.facts()) || e != api.OK {
			t.Fatalf("%d: %v: Model tells %v, %d, want %v", i, p.Rules, got, e, s.facts())
		}
		if got, e := naive.Rounds(p); !slices.Equal(got, rounds) || e != api.OK {
			t.Fatalf("%d: %v: Rounds tells %v, %d, want %v", i, p.Rules, got, e, rounds)
		}
		if slices.Max(rounds) > 2 {
			long++
		}
		if len(rounds) > 1 && slices.Max(rounds[1:]) > 0 {
			high++
		}
	}
	if long < 50 || high < 50 {
		t.Errorf("%d, %d: too few to tell", long, high)
	}
}

// TestG2Told tells all anew from the Model: it is closed, and each of its facts is told, with no less than its value.
func TestG2Told(t *testing.T) {
	r := draw(5)
	for i := range 200 {
		p := drawnProg(&r, i%4)
		f, e := naive.Model(p)
		if e != api.OK {
			t.Fatalf("%v: Model tells %d", p.Rules, e)
		}
		if is, e := round.Closed(p, f); !is || e != api.OK {
			t.Errorf("%v: Closed tells %v, %d of %v", p.Rules, is, e, f)
		}
		s, o := bareShelf(), bareShelf()
		for _, x := range f {
			s[x.Pred][x.A][x.B] = x.Val
		}
		tellAll(p, &s, &o, func(api.Rule) bool { return true })
		if !slices.Equal(o.facts(), f) {
			t.Errorf("%v: the Model is %v, of which %v is told", p.Rules, f, o.facts())
		}
	}
}

// TestG2Least closes other facts: without Not, the Model is under them.
func TestG2Least(t *testing.T) {
	r := draw(7)
	above := 0
	for range 100 {
		p := drawnProg(&r, 0)
		least, _ := naive.Model(p)
		s := bareShelf()
		for range r.n(20) {
			s.tell(givenRule(&r, r.n(none)), [3]int{}, &s)
		}
		for o := s; ; s = o {
			tellAll(p, &s, &o, func(api.Rule) bool { return true })
			if o == s {
				break
			}
		}
		if is, e := round.Closed(p, s.facts()); !is || e != api.OK {
			t.Fatalf("%v: Closed tells %v, %d of %v", p.Rules, is, e, s.facts())
		}
		if is, e := base.Under(p.Preds, least, s.facts()); !is || e != api.OK {
			t.Errorf("%v: the Model is %v, and %v is closed", p.Rules, least, s.facts())
		}
		if is, _ := base.Under(p.Preds, s.facts(), least); !is {
			above++
		}
	}
	if above < 50 {
		t.Errorf("%d: too few to tell", above)
	}
}

// TestG1Order tells rules in other orders: the same follows, by as many rounds.
func TestG1Order(t *testing.T) {
	r := draw(11)
	for range 60 {
		p := drawnProg(&r, 2)
		f, _ := naive.Model(p)
		rounds, _ := naive.Rounds(p)
		for range 4 {
			q := with(slices.Clone(p.Rules)...)
			for i := range q.Rules {
				k := r.n(i + 1)
				q.Rules[i], q.Rules[k] = q.Rules[k], q.Rules[i]
			}
			if got, e := naive.Model(q); !slices.Equal(got, f) || e != api.OK {
				t.Errorf("%v: Model tells %v, %d, want %v", q.Rules, got, e, f)
			}
			if got, e := naive.Rounds(q); !slices.Equal(got, rounds) || e != api.OK {
				t.Errorf("%v: Rounds tells %v, %d, want %v", q.Rules, got, e, rounds)
			}
		}
	}
}

// TestP1 asks for many rounds, and for all facts that two predicates may have.
func TestP1(t *testing.T) {
	f, e := naive.Model(winding())
	if len(f) != 29 || e != api.OK {
		t.Errorf("winding: Model tells %v, %d", f, e)
	}
	for _, x := range f {
		if x.Pred == far && x.Val != api.MaxVal {
			t.Errorf("winding: Model tells %v", x)
		}
	}
	// 25 rounds a value, and no other: edges come with the first one
	if l, e := naive.Rounds(winding()); !slices.Equal(l, []int{400}) || e != api.OK {
		t.Errorf("winding: Rounds tells %v, %d", l, e)
	}
	full := with(plain(at(edge, c(0), c(0))), plain(at(lone, v(0)), is(at(edge, v(0), v(1)))))
	for i := range api.MaxConst {
		full.Rules = append(full.Rules, plain(at(edge, c(i), c(i+1))))
	}
	full.Rules = append(full.Rules,
		plain(at(edge, v(0), v(2)), is(at(edge, v(0), v(1))), is(at(edge, v(1), v(2)))),
		plain(at(edge, v(1), v(0)), is(at(edge, v(0), v(1)))))
	if f, e := naive.Model(full); len(f) != 30 || e != api.OK {
		t.Errorf("full: Model tells %v, %d", f, e)
	}
}

// room lays a list ahead of spare room, which is marked, so that a write there is seen.
func room[T any](l []T, mark T) []T {
	return append(append(make([]T, 0, len(l)+2), l...), mark, mark)[:len(l)]
}

// roomy is a program all of whose lists have spare room.
func roomy(p api.Prog) api.Prog {
	for i, r := range p.Rules {
		p.Rules[i].Head.Args = room(r.Head.Args, c(77))
		for k, x := range r.Body {
			r.Body[k].Atom.Args = room(x.Atom.Args, c(77))
		}
		p.Rules[i].Body = room(r.Body, not(at(77)))
	}
	p.Preds = room(p.Preds, api.Pred{Name: "spare"})
	p.Rules = room(p.Rules, api.Rule{N: 77})
	return p
}

// spread is all of a program's lists, with their spare room.
func spread(p api.Prog) []any {
	out := []any{p.Preds[:cap(p.Preds)], p.Rules[:cap(p.Rules)]}
	for _, r := range p.Rules {
		out = append(out, r.Head.Args[:cap(r.Head.Args)], r.Body[:cap(r.Body)])
		for _, x := range r.Body {
			out = append(out, x.Atom.Args[:cap(x.Atom.Args)])
		}
	}
	return out
}

func TestP2OnlyRead(t *testing.T) {
	for _, lay := range []func() api.Prog{roads, winding, func() api.Prog { return with(roads().Rules[6]) }} {
		p := roomy(lay())
		naive.Model(p)
		naive.Rounds(p)
		if !reflect.DeepEqual(spread(p), spread(roomy(lay()))) {
			t.Errorf("the program is %v", spread(p))
		}
	}
}

// TestP2NewMemory writes into what was answered, and into what was handed in: neither is seen in the other.
func TestP2NewMemory(t *testing.T) {
	p := roads()
	want, _ := naive.Model(roads())
	f, _ := naive.Model(p)
	l, _ := naive.Rounds(p)
	clear(f)
	clear(l)
	f, _ = naive.Model(p)
	l, _ = naive.Rounds(p)
	if !slices.Equal(f, want) || !slices.Equal(l, []int{4, 1}) {
		t.Errorf("a change of the answer was seen: %v, %v", f, l)
	}
	clear(p.Preds)
	clear(p.Rules)
	if !slices.Equal(f, want) || !slices.Equal(l, []int{4, 1}) {
		t.Errorf("a change of what was handed in was seen: %v, %v", f, l)
	}
}

// TestP3 asks the same between others: they may not be seen in it.
func TestP3(t *testing.T) {
	want, _ := naive.Model(roads())
	for range 3 {
		if f, e := naive.Model(roads()); !slices.Equal(f, want) || len(f) != 17 || e != api.OK {
			t.Errorf("Model tells %v, %d, want %v", f, e, want)
		}
		if l, e := naive.Rounds(roads()); !slices.Equal(l, []int{4, 1}) || e != api.OK {
			t.Errorf("Rounds tells %v, %d", l, e)
		}
		tellError(t, "no name", api.Prog{Preds: make([]api.Pred, 1)}, api.ErrName)
		naive.Model(winding())
		naive.Rounds(with())
	}
}
