package semi_test

import (
	"reflect"
	"slices"
	"testing"

	"treillage/api"
	"treillage/naive"
	"treillage/prog"
	"treillage/semi"
)

func v(n int) api.Term { return api.Term{Var: true, N: n} }

func c(n int) api.Term { return api.Term{N: n} }

func at(pred int, l ...api.Term) api.Atom { return api.Atom{Pred: pred, Args: l} }

func is(a api.Atom) api.Lit { return api.Lit{Atom: a} }

func not(a api.Atom) api.Lit { return api.Lit{Not: true, Atom: a} }

// plain is a rule whose value is 0.
func plain(head api.Atom, body ...api.Lit) api.Rule {
	return api.Rule{Head: head, From: -1, Body: body}
}

// valued is a rule whose value is n, lifting that of a literal or (from -1) by itself.
func valued(head api.Atom, from, n int, body ...api.Lit) api.Rule {
	return api.Rule{Head: head, From: from, N: n, Body: body}
}

// Numbers of the predicates of roads, and of shelves.
const (
	edge = iota
	far
	lone
	load
	mark
	none // there is no such one
)

// roads: edges; far: how far at least; lone: which of them nobody comes back to.
func roads() api.Prog {
	return api.Prog{
		Preds: preds()[:load],
		Rules: []api.Rule{
			plain(at(edge, c(0), c(1))),
			plain(at(edge, c(1), c(2))),
			plain(at(edge, c(2), c(0))),
			plain(at(edge, c(3), c(0))),
			valued(at(far, v(0), v(1)), -1, 1, is(at(edge, v(0), v(1)))),
			valued(at(far, v(0), v(2)), 0, 1, is(at(far, v(0), v(1))), is(at(edge, v(1), v(2)))),
			plain(at(lone, v(0)), is(at(edge, v(0), v(1))), not(at(far, v(0), v(0)))),
		},
	}
}

func preds() []api.Pred {
	return []api.Pred{
		edge: {Name: "edge", Arity: 2},
		far:  {Name: "far", Arity: 2, Kind: api.Min},
		lone: {Name: "lone", Arity: 1},
		load: {Name: "load", Arity: 1, Kind: api.Max},
		mark: {Name: "mark", Kind: api.Bits},
	}
}

// with is a program of all predicates, and some rules.
func with(l ...api.Rule) api.Prog { return api.Prog{Preds: preds(), Rules: l} }

// winding is a program whose rounds are many: each value goes through all 25 facts of far ahead of the next one.
func winding() api.Prog {
	p := with(
		plain(at(edge, c(0), c(1))),
		plain(at(edge, c(1), c(2))),
		plain(at(edge, c(2), c(3))),
		plain(at(edge, c(3), c(4))),
		valued(at(far, c(0), c(0)), -1, 0),
		valued(at(far, v(0), v(2)), 0, 0, is(at(far, v(0), v(1))), is(at(edge, v(1), v(2)))),
		valued(at(far, v(1), c(0)), 0, 0, is(at(far, v(0), c(4))), is(at(edge, v(0), v(1)))),
		valued(at(far, c(0), c(0)), 0, 1, is(at(far, c(4), c(4)))),
	)
	p.Preds[far].Kind = api.Max
	return p
}

// tellError asks for one error: with it, there is nothing else.
func tellError(t *testing.T, what string, p api.Prog, want api.Errno) {
	t.Helper()
	if f, held, e := semi.Model(p); len(f) != 0 || held != 0 || e != want {
		t.Errorf("%s: Model tells %v, %d, %d, want %d", what, f, held, e, want)
	}
}

// wrongPrograms are turns of the roads, and the error of each.
func wrongPrograms() []wrong {
	return []wrong{
		{"six predicates", func(p *api.Prog) { p.Preds = append(preds(), api.Pred{Name: "a"}) }, api.ErrMany},
		{"nine rules", func(p *api.Prog) { p.Rules = slices.Repeat(p.Rules[:1], 9) }, api.ErrMany},
		{"no name", func(p *api.Prog) { p.Preds[lone].Name = "" }, api.ErrName},
		{"two of one name", func(p *api.Prog) { p.Preds[lone].Name = "edge" }, api.ErrThere},
		{"arity 3", func(p *api.Prog) { p.Preds[lone].Arity = 3 }, api.ErrRange},
		{"kind 4", func(p *api.Prog) { p.Preds[lone].Kind = 4 }, api.ErrKind},
		{"no such predicate", func(p *api.Prog) { p.Rules[6].Head.Pred = load }, api.ErrNone},
		{"an argument less", func(p *api.Prog) { p.Rules[6].Head.Args = nil }, api.ErrForm},
		{"constant 5", func(p *api.Prog) { p.Rules[0].Head.Args[1].N = 5 }, api.ErrRange},
		{"a free variable", func(p *api.Prog) { p.Rules[4].Head.Args[1].N = 2 }, api.ErrFree},
		{"four literals", func(p *api.Prog) { p.Rules[4].Body = slices.Repeat(p.Rules[4].Body, 4) }, api.ErrMany},
		{"N 16", func(p *api.Prog) { p.Rules[4].N = 16 }, api.ErrRange},
		{"a value of a plain one", func(p *api.Prog) { p.Rules[0].N = 1 }, api.ErrForm},
		{"a round", func(p *api.Prog) {
			p.Rules[4].Body = append(p.Rules[4].Body, not(at(lone, v(0))))
		}, api.ErrRound},
		{"many rules", func(p *api.Prog) { p.Rules = make([]api.Rule, 1<<16) }, api.ErrMany},
		{"many predicates", func(p *api.Prog) { p.Preds = make([]api.Pred, 1<<16) }, api.ErrMany},
	}
}

type wrong struct {
	what string
	turn func(p *api.Prog)
	want api.Errno
}

func TestH1Errors(t *testing.T) {
	for _, x := range wrongPrograms() {
		p := roads()
		x.turn(&p)
		tellError(t, x.what, p, x.want)
	}
}

// TestH1FirstError mends one fault after the other: each time the next one is told.
func TestH1FirstError(t *testing.T) {
	p := roads()
	p.Preds = append(p.Preds, make([]api.Pred, 3)...)
	p.Preds[far].Arity, p.Preds[lone].Kind = -1, -1
	p.Rules[0].Head.Args[0].N = -1
	p.Rules[4].Body = append(p.Rules[4].Body, not(at(lone, v(0))))
	for _, x := range []struct {
		mend func()
		want api.Errno
	}{
		{func() {}, api.ErrMany},
		{func() { p.Preds = p.Preds[:load+1] }, api.ErrName},
		{func() { p.Preds[load].Name = "edge" }, api.ErrThere},
		{func() { p.Preds[load].Name = "load" }, api.ErrRange},
		{func() { p.Preds[far].Arity = 2 }, api.ErrKind},
		{func() { p.Preds[lone].Kind = api.Plain }, api.ErrRange},
		{func() { p.Rules[0].Head.Args[0].N = 0 }, api.ErrRound},
	} {
		x.mend()
		tellError(t, "a fault after the other", p, x.want)
	}
	p.Rules[4].Body = p.Rules[4].Body[:1]
	if f, held, e := semi.Model(p); len(f) != 17 || held != 21 || e != api.OK {
		t.Errorf("all mended: Model tells %v, %d, %d", f, held, e)
	}
}

func TestH1(t *testing.T) {
	turned := roads()
	slices.Reverse(turned.Rules)
	unfounded := roads()
	unfounded.Rules = unfounded.Rules[4:]
	way := plain(at(edge, c(0), c(1)))
	back := plain(at(edge, v(1), v(0)), is(at(edge, v(0), v(1))))
	one := valued(at(load, c(1)), -1, 1)
	noLone := plain(at(lone, c(0)), not(at(edge, c(0), c(0))))
	nextLone := plain(at(lone, v(1)), is(at(lone, v(0))), is(at(edge, v(0), v(1))))
	for _, x := range []struct {
		what string
		p    api.Prog
		held int
	}{
		{"example 8", roads(), 21},
		{"rules the other way round", turned, 21},
		{"nothing to begin with", unfounded, 0},
		{"no rules", with(), 0},
		{"nothing at all", api.Prog{}, 0},
		{"a step without literals holds once", with(way), 1},
		{"two that tell the same", with(way, way), 2},
		{"what was told again is not new", with(way, back), 3},
		{"a step with two new literals is one", with(way, plain(at(lone, v(0)), is(at(edge, v(0), v(1))), is(at(edge, v(0), v(1))))), 2},
		{"one literal is new, the other is not", with(way, back, plain(at(lone, v(0)), is(at(edge, v(0), v(1))), is(at(edge, v(1), v(0))))), 5},
		{"the last round tells nothing", with(one, valued(at(load, v(0)), 0, 0, is(at(load, v(0))))), 2},
		{"a value that was changed is new", with(one, valued(at(load, v(0)), 0, 3, is(at(load, v(0))))), 7},
		{"its step holds, whether or not it hands the value on", with(one, valued(at(load, c(1)), -1, 9, is(at(load, v(0)))), plain(at(lone, v(0)), is(at(load, v(0))))), 5},
		{"a value that was not changed is not", with(one, valued(at(load, c(1)), -1, 1, is(at(load, v(0))))), 2},
		{"a lesser value", with(way, valued(at(far, c(0), c(0)), -1, 9), valued(at(far, v(0), c(0)), -1, 2, is(at(edge, v(0), v(1)))), valued(at(far, c(1), c(1)), 0, 1, is(at(far, c(0), c(0))))), 5},
		{"bits", with(valued(at(mark), -1, 1), valued(at(mark), 0, 2, is(at(mark)))), 3},
		{"a stratum above", with(noLone, way), 2},
		{"what is not there holds once, and so does what lies below", with(noLone, way, plain(at(edge, c(1), c(2))), nextLone), 5},
		{"a higher stratum begins with all that is there", with(way, noLone, plain(at(lone, v(0)), is(at(edge, v(0), v(1))), is(at(edge, v(0), v(1))))), 3},
		{"a stratum without rules", with(noLone), 1},
		{"variables that stand nowhere", with(plain(at(lone, v(2)), is(at(edge, v(2), v(2)))), plain(at(edge, c(3), c(3)))), 2},
	} {
		want, _ := naive.Model(x.p)
		if f, held, e := semi.Model(x.p); !slices.Equal(f, want) || held != x.held || e != api.OK {
			t.Errorf("%s: Model tells %v, %d, %d, want %v, %d", x.what, f, held, e, want, x.held)
		}
	}
	if f, _, _ := semi.Model(roads()); len(f) != 17 {
		t.Errorf("roads: Model tells %v", f)
	}
}

// draw: numbers, the same each time.
type draw uint64

func (d *draw) n(n int) int {
	*d = *d*6364136223846793005 + 1442695040888963407
	return int(uint64(*d) >> 33 % uint64(n))
}

// drawnAtom of a predicate: of ten terms so many are constants.
func drawnAtom(r *draw, pred, consts int) api.Atom {
	a := api.Atom{Pred: pred}
	for range preds()[pred].Arity {
		if r.n(10) < consts {
			a.Args = append(a.Args, c(r.n(api.MaxConst+1)))
		} else {
			a.Args = append(a.Args, v(r.n(api.MaxVars)))
		}
	}
	return a
}

// drawnRule of a predicate leans mostly on what other rules tell, and hands a value on, where it can; of ten literals so many are Not.
func drawnRule(r *draw, others []api.Rule, pred, nots int) api.Rule {
	x := api.Rule{Head: drawnAtom(r, pred, 2), From: -1, N: r.n(4)}
	for i := range 1 + r.n(api.MaxBody) {
		y := api.Lit{Not: r.n(10) < nots, Atom: drawnAtom(r, others[r.n(len(others))].Head.Pred, 1)}
		if r.n(3) == 0 {
			y.Atom = drawnAtom(r, r.n(none), 1)
		}
		x.Body = append(x.Body, y)
		if y.Atom.Pred == pred && r.n(4) > 0 {
			x.From = i
		}
	}
	if preds()[pred].Kind == api.Plain {
		x.From, x.N = -1, 0
	}
	return x
}

// givenRule tells a fact.
func givenRule(r *draw, pred int) api.Rule {
	x := plain(drawnAtom(r, pred, 10))
	if preds()[pred].Kind != api.Plain {
		x.N = r.n(api.MaxVal + 1)
	}
	return x
}

// drawnProg tells a program that is right: some rules that tell facts, and others.
func drawnProg(r *draw, nots int) api.Prog {
	p := with()
	given := 1 + r.n(4)
	all := given + 1 + r.n(api.MaxRules-given)
	for len(p.Rules) < all {
		pred := r.n(none)
		next := func() api.Prog {
			if len(p.Rules) < given {
				return with(append(slices.Clone(p.Rules), givenRule(r, pred))...)
			}
			return with(append(slices.Clone(p.Rules), drawnRule(r, p.Rules, pred, nots))...)
		}
		q := next()
		for prog.Check(q) != api.OK {
			q = next()
		}
		p = q
	}
	return p
}

// shelf has each fact's value where it belongs (-1: it does not hold): facts, kept in another way.
type shelf [none][5][5]int

func bareShelf() shelf {
	var s shelf
	for i := range s {
		for k := range s[i] {
			s[i][k] = [5]int{-1, -1, -1, -1, -1}
		}
	}
	return s
}

func (s *shelf) facts() []api.Fact {
	var out []api.Fact
	for i := range s {
		for k := range s[i] {
			for j, val := range s[i][k] {
				if val >= 0 {
					out = append(out, api.Fact{Pred: i, A: k, B: j, Val: val})
				}
			}
		}
	}
	return out
}

// of is where the value of an atom is.
func (s *shelf) of(a api.Atom, stand [3]int) *int {
	var args [api.MaxArity]int
	for i, t := range a.Args {
		args[i] = t.N
		if t.Var {
			args[i] = stand[t.N]
		}
	}
	return &s[a.Pred][args[0]][args[1]]
}

// holds tells whether the body of r holds.
func (s *shelf) holds(r api.Rule, stand [3]int) bool {
	fails := func(x api.Lit) bool { return (*s.of(x.Atom, stand) >= 0) == x.Not }
	return !slices.ContainsFunc(r.Body, fails)
}

// tell what r, which holds, tells of s to o.
func (s *shelf) tell(r api.Rule, stand [3]int, o *shelf) {
	val, to := r.N, o.of(r.Head, stand)
	if r.From >= 0 {
		from := *s.of(r.Body[r.From].Atom, stand)
		if val = min(from+r.N, 15); r.Head.Pred == mark {
			val = from | r.N
		}
	}
	switch {
	case *to < 0:
		*to = val
	case r.Head.Pred == far:
		*to = min(*to, val)
	case r.Head.Pred == load:
		*to = max(*to, val)
	case r.Head.Pred == mark:
		*to |= val
	}
}

// stands are all that the variables of r may stand for: 0, where one does not stand in it.
func stands(r api.Rule) [][3]int {
	var used [3]bool
	see := func(a api.Atom) {
		for _, t := range a.Args {
			if t.Var {
				used[t.N] = true
			}
		}
	}
	see(r.Head)
	for _, x := range r.Body {
		see(x.Atom)
	}
	var out [][3]int
	for n := range 125 {
		stand := [3]int{n / 25, n / 5 % 5, n % 5}
		unused := func(i int) bool { return stand[i] > 0 && !used[i] }
		if !unused(0) && !unused(1) && !unused(2) {
			out = append(out, stand)
		}
	}
	return out
}

// reckoned is the Model of p, told fact by fact on a shelf, and how many steps held; again: and how many would hold, if all of them were used in each round.
func reckoned(p api.Prog) (s shelf, held, again int) {
	strata, _ := prog.Strata(p)
	s = bareShelf()
	for stratum := range none {
		ahead, first := s, true
		for {
			o := s
			isNew := func(x api.Lit, stand [3]int) bool {
				return !x.Not && strata[x.Atom.Pred] == stratum && *ahead.of(x.Atom, stand) != *s.of(x.Atom, stand)
			}
			for _, r := range p.Rules {
				for _, stand := range stands(r) {
					if strata[r.Head.Pred] != stratum || !s.holds(r, stand) {
						continue
					}
					again++
					if first || slices.ContainsFunc(r.Body, func(x api.Lit) bool { return isNew(x, stand) }) {
						held++
						s.tell(r, stand, &o)
					}
				}
			}
			if o == s {
				break
			}
			ahead, s, first = s, o, false
		}
	}
	return s, held, again
}

// TestH1Drawn holds what is told against chapter 7, too.
func TestH1Drawn(t *testing.T) {
	r := draw(3)
	spared := 0
	for i := range 400 {
		p := drawnProg(&r, i%4)
		s, want, again := reckoned(p)
		f, held, e := semi.Model(p)
		if !slices.Equal(f, s.facts()) || held != want || e != api.OK {
			t.Fatalf("%d: %v: Model tells %v, %d, %d, want %v, %d", i, p.Rules, f, held, e, s.facts(), want)
		}
		if all, e := naive.Model(p); !slices.Equal(f, all) || e != api.OK {
			t.Fatalf("%d: %v: Model tells %v, and of chapter 7 %v, %d", i, p.Rules, f, all, e)
		}
		if held*2 < again {
			spared++
		}
	}
	if spared < 50 {
		t.Errorf("%d: too few to tell", spared)
	}
}

// TestH1Order tells rules in other orders: the same follows, by as many steps.
func TestH1Order(t *testing.T) {
	r := draw(11)
	for range 60 {
		p := drawnProg(&r, 2)
		f, held, _ := semi.Model(p)
		for range 4 {
			q := with(slices.Clone(p.Rules)...)
			for i := range q.Rules {
				k := r.n(i + 1)
				q.Rules[i], q.Rules[k] = q.Rules[k], q.Rules[i]
			}
			if got, n, e := semi.Model(q); !slices.Equal(got, f) || n != held || e != api.OK {
				t.Errorf("%v: Model tells %v, %d, %d, want %v, %d", q.Rules, got, n, e, f, held)
			}
		}
	}
}

// TestP1 asks for many rounds.
func TestP1(t *testing.T) {
	want, _ := naive.Model(winding())
	// five facts that are given, and of each of 25, with each of 16 values, one step
	if f, held, e := semi.Model(winding()); !slices.Equal(f, want) || len(f) != 29 || held != 405 || e != api.OK {
		t.Errorf("winding: Model tells %v, %d, %d", f, held, e)
	}
}

// room lays a list ahead of spare room, which is marked, so that a write there is seen.
func room[T any](l []T, mark T) []T {
	return append(append(make([]T, 0, len(l)+2), l...), mark, mark)[:len(l)]
}

// roomy is a program all of whose lists have spare room.
func roomy(p api.Prog) api.Prog {
	for i, r := range p.Rules {
		p.Rules[i].Head.Args = room(r.Head.Args, c(77))
		for k, x := range r.Body {
			r.Body[k].Atom.Args = room(x.Atom.Args, c(77))
		}
		p.Rules[i].Body = room(r.Body, not(at(77)))
	}
	p.Preds = room(p.Preds, api.Pred{Name: "spare"})
	p.Rules = room(p.Rules, api.Rule{N: 77})
	return p
}

// spread is all of a program's lists, with their spare room.
func spread(p api.Prog) []any {
	out := []any{p.Preds[:cap(p.Preds)], p.Rules[:cap(p.Rules)]}
	for _, r := range p.Rules {
		out = append(out, r.Head.Args[:cap(r.Head.Args)], r.Body[:cap(r.Body)])
		for _, x := range r.Body {
			out = append(out, x.Atom.Args[:cap(x.Atom.Args)])
		}
	}
	return out
}

func TestP2OnlyRead(t *testing.T) {
	for _, lay := range []func() api.Prog{roads, winding, func() api.Prog { return with(roads().Rules[6]) }} {
		p := roomy(lay())
		semi.Model(p)
		if !reflect.DeepEqual(spread(p), spread(roomy(lay()))) {
			t.Errorf("the program is %v", spread(p))
		}
	}
}

// TestP2NewMemory writes into what was answered, and into what was handed in: neither is seen in the other.
func TestP2NewMemory(t *testing.T) {
	p := roads()
	want, _, _ := semi.Model(roads())
	f, _, _ := semi.Model(p)
	clear(f)
	f, held, _ := semi.Model(p)
	if !slices.Equal(f, want) || held != 21 {
		t.Errorf("a change of the answer was seen: %v, %d", f, held)
	}
	clear(p.Preds)
	clear(p.Rules)
	if !slices.Equal(f, want) {
		t.Errorf("a change of what was handed in was seen: %v", f)
	}
}

// TestP3 asks the same between others: they may not be seen in it.
func TestP3(t *testing.T) {
	want, _ := naive.Model(roads())
	for range 3 {
		if f, held, e := semi.Model(roads()); !slices.Equal(f, want) || held != 21 || e != api.OK {
			t.Errorf("Model tells %v, %d, %d, want %v", f, held, e, want)
		}
		tellError(t, "no name", api.Prog{Preds: make([]api.Pred, 1)}, api.ErrName)
		semi.Model(winding())
		semi.Model(with())
	}
}
