package sum_test

import (
	"math"
	"reflect"
	"slices"
	"testing"

	"treillage/api"
	"treillage/base"
	"treillage/naive"
	"treillage/prog"
	"treillage/sum"
)

func v(n int) api.Term { return api.Term{Var: true, N: n} }

func c(n int) api.Term { return api.Term{N: n} }

func at(pred int, l ...api.Term) api.Atom { return api.Atom{Pred: pred, Args: l} }

func is(a api.Atom) api.Lit { return api.Lit{Atom: a} }

func not(a api.Atom) api.Lit { return api.Lit{Not: true, Atom: a} }

// plain is a rule whose value is 0.
func plain(head api.Atom, body ...api.Lit) api.Rule {
	return api.Rule{Head: head, From: -1, Body: body}
}

// valued is a rule whose value is n, lifting that of a literal or (from -1) by itself.
func valued(head api.Atom, from, n int, body ...api.Lit) api.Rule {
	return api.Rule{Head: head, From: from, N: n, Body: body}
}

// Numbers of the predicates of roads, and of shelves.
const (
	edge = iota
	far
	lone
	load
	mark
	none // there is no such one
)

// roads: edges; far: how far at least; lone: which of them nobody comes back to.
func roads() api.Prog {
	return api.Prog{
		Preds: preds()[:load],
		Rules: []api.Rule{
			plain(at(edge, c(0), c(1))),
			plain(at(edge, c(1), c(2))),
			plain(at(edge, c(2), c(0))),
			plain(at(edge, c(3), c(0))),
			valued(at(far, v(0), v(1)), -1, 1, is(at(edge, v(0), v(1)))),
			valued(at(far, v(0), v(2)), 0, 1, is(at(far, v(0), v(1))), is(at(edge, v(1), v(2)))),
			plain(at(lone, v(0)), is(at(edge, v(0), v(1))), not(at(far, v(0), v(0)))),
		},
	}
}

func preds() []api.Pred {
	return []api.Pred{
		edge: {Name: "edge", Arity: 2},
		far:  {Name: "far", Arity: 2, Kind: api.Min},
		lone: {Name: "lone", Arity: 1},
		load: {Name: "load", Arity: 1, Kind: api.Max},
		mark: {Name: "mark", Kind: api.Bits},
	}
}

// with is a program of all predicates, and some rules.
func with(l ...api.Rule) api.Prog { return api.Prog{Preds: preds(), Rules: l} }

// winding is a program whose rounds are many: each value goes through all 25 facts of far ahead of the next one.
func winding() api.Prog {
	p := with(
		plain(at(edge, c(0), c(1))),
		plain(at(edge, c(1), c(2))),
		plain(at(edge, c(2), c(3))),
		plain(at(edge, c(3), c(4))),
		valued(at(far, c(0), c(0)), -1, 0),
		valued(at(far, v(0), v(2)), 0, 0, is(at(far, v(0), v(1))), is(at(edge, v(1), v(2)))),
		valued(at(far, v(1), c(0)), 0, 0, is(at(far, v(0), c(4))), is(at(edge, v(0), v(1)))),
		valued(at(far, c(0), c(0)), 0, 1, is(at(far, c(4), c(4)))),
	)
	p.Preds[far].Kind = api.Max
	return p
}

// of a program, some of the rules.
func of(p api.Prog, numbers ...int) api.Prog {
	q := api.Prog{Preds: p.Preds}
	for _, n := range numbers {
		q.Rules = append(q.Rules, p.Rules[n])
	}
	return q
}

// alike tells whether two programs are the same; an empty list may be nil or not.
func alike(p, q api.Prog) bool {
	sameTerms := func(a, b api.Atom) bool { return a.Pred == b.Pred && slices.Equal(a.Args, b.Args) }
	sameLits := func(a, b api.Lit) bool { return a.Not == b.Not && sameTerms(a.Atom, b.Atom) }
	return slices.Equal(p.Preds, q.Preds) && slices.EqualFunc(p.Rules, q.Rules, func(a, b api.Rule) bool {
		return a.From == b.From && a.N == b.N && sameTerms(a.Head, b.Head) && slices.EqualFunc(a.Body, b.Body, sameLits)
	})
}

// unionError asks Union for an error: with it, there is no program.
func unionError(t *testing.T, what string, p, q api.Prog, want api.Errno) {
	t.Helper()
	if u, e := sum.Union(p, q); !reflect.DeepEqual(u, api.Prog{}) || e != want {
		t.Errorf("%s: Union tells %v, %d, want %d", what, u, e, want)
	}
}

// withoutError asks Without for an error: with it, there is no program.
func withoutError(t *testing.T, what string, p api.Prog, n int, want api.Errno) {
	t.Helper()
	if u, e := sum.Without(p, n); !reflect.DeepEqual(u, api.Prog{}) || e != want {
		t.Errorf("%s: Without %d tells %v, %d, want %d", what, n, u, e, want)
	}
}

// tellError asks both calls for one error of the program, whatever else is wrong.
func tellError(t *testing.T, what string, p api.Prog, want api.Errno) {
	t.Helper()
	unionError(t, what+", ahead", p, of(roads(), 0), want)
	unionError(t, what+", behind", of(roads(), 0), p, want)
	unionError(t, what+", other predicates ahead", with(), p, want)
	unionError(t, what+", other predicates behind", p, with(), want)
	unionError(t, what+", nothing ahead", api.Prog{}, p, want)
	for _, n := range []int{0, 6, 9, -1} {
		withoutError(t, what, p, n, want)
	}
}

// wrongPrograms are turns of the roads, and the error of each.
func wrongPrograms() []wrong {
	return []wrong{
		{"six predicates", func(p *api.Prog) { p.Preds = append(preds(), api.Pred{Name: "a"}) }, api.ErrMany},
		{"nine rules", func(p *api.Prog) { p.Rules = slices.Repeat(p.Rules[:1], 9) }, api.ErrMany},
		{"no name", func(p *api.Prog) { p.Preds[lone].Name = "" }, api.ErrName},
		{"two of one name", func(p *api.Prog) { p.Preds[lone].Name = "edge" }, api.ErrThere},
		{"arity 3", func(p *api.Prog) { p.Preds[lone].Arity = 3 }, api.ErrRange},
		{"kind 4", func(p *api.Prog) { p.Preds[lone].Kind = 4 }, api.ErrKind},
		{"no such predicate", func(p *api.Prog) { p.Rules[6].Head.Pred = load }, api.ErrNone},
		{"an argument less", func(p *api.Prog) { p.Rules[6].Head.Args = nil }, api.ErrForm},
		{"constant 5", func(p *api.Prog) { p.Rules[0].Head.Args[1].N = 5 }, api.ErrRange},
		{"a free variable", func(p *api.Prog) { p.Rules[4].Head.Args[1].N = 2 }, api.ErrFree},
		{"four literals", func(p *api.Prog) { p.Rules[4].Body = slices.Repeat(p.Rules[4].Body, 4) }, api.ErrMany},
		{"N 16", func(p *api.Prog) { p.Rules[4].N = 16 }, api.ErrRange},
		{"a value of a plain one", func(p *api.Prog) { p.Rules[0].N = 1 }, api.ErrForm},
		{"a round", func(p *api.Prog) {
			p.Rules[4].Body = append(p.Rules[4].Body, not(at(lone, v(0))))
		}, api.ErrRound},
		{"many rules", func(p *api.Prog) { p.Rules = make([]api.Rule, 1<<16) }, api.ErrMany},
		{"many predicates", func(p *api.Prog) { p.Preds = make([]api.Pred, 1<<16) }, api.ErrMany},
	}
}

type wrong struct {
	what string
	turn func(p *api.Prog)
	want api.Errno
}

func TestL1Errors(t *testing.T) {
	for _, x := range wrongPrograms() {
		p := roads()
		x.turn(&p)
		tellError(t, x.what, p, x.want)
		for _, y := range wrongPrograms() {
			q := roads()
			y.turn(&q)
			unionError(t, x.what+", then "+y.what, p, q, x.want)
		}
	}
}

// TestL1FirstError mends one fault after the other: each time the next one is told.
func TestL1FirstError(t *testing.T) {
	p := roads()
	p.Preds = append(p.Preds, make([]api.Pred, 3)...)
	p.Preds[far].Arity, p.Preds[lone].Kind = -1, -1
	p.Rules[0].Head.Args[0].N = -1
	p.Rules[4].Body = append(p.Rules[4].Body, not(at(lone, v(0))))
	for _, x := range []struct {
		mend func()
		want api.Errno
	}{
		{func() {}, api.ErrMany},
		{func() { p.Preds = p.Preds[:load+1] }, api.ErrName},
		{func() { p.Preds[load].Name = "edge" }, api.ErrThere},
		{func() { p.Preds[load].Name = "load" }, api.ErrRange},
		{func() { p.Preds[far].Arity = 2 }, api.ErrKind},
		{func() { p.Preds[lone].Kind = api.Plain }, api.ErrRange},
		{func() { p.Rules[0].Head.Args[0].N = 0 }, api.ErrRound},
	} {
		x.mend()
		tellError(t, "a fault after the other", p, x.want)
	}
	p.Rules[4].Body = p.Rules[4].Body[:1]
	withoutError(t, "the program is mended", p, 7, api.ErrNone)
	q := of(roads(), 0, 4)
	q.Rules[1].Body = append(slices.Clone(q.Rules[1].Body), not(at(lone, v(0))))
	q.Rules[1].Head.Args[0].N = 2
	unionError(t, "the first program is mended", p, q, api.ErrFree)
	q.Rules[1].Head.Args[0].N = 0
	unionError(t, "the second program is mended", p, q, api.ErrForm)
	p.Preds = p.Preds[:load]
	unionError(t, "the predicates are mended", p, q, api.ErrMany)
	p.Rules = p.Rules[1:]
	unionError(t, "the number of rules is mended", p, q, api.ErrRound)
	q.Rules[1].Body = q.Rules[1].Body[:1]
	if u, e := sum.Union(p, q); len(u.Rules) != 8 || e != api.OK {
		t.Errorf("all mended: Union tells %v, %d", u, e)
	}
}

func TestL1Union(t *testing.T) {
	p := roads()
	for _, x := range []struct {
		what string
		p, q api.Prog
		want api.Prog
	}{
		{"example 12", of(p, 0, 1, 2, 3, 4, 5), of(p, 6), p},
		{"the second one comes behind", of(p, 4, 0), of(p, 6, 1), of(p, 4, 0, 6, 1)},
		{"and not ahead", of(p, 6, 1), of(p, 4, 0), of(p, 6, 1, 4, 0)},
		{"a rule of both stays twice", of(p, 4, 5), of(p, 5, 0), of(p, 4, 5, 5, 0)},
		{"with itself", of(p, 4, 5), of(p, 4, 5), of(p, 4, 5, 4, 5)},
		{"as many as there may be", p, of(p, 3), of(p, 0, 1, 2, 3, 4, 5, 6, 3)},
		{"no rules behind", p, of(p), p},
		{"no rules ahead", of(p), p, p},
		{"no rules", with(), with(), with()},
		{"nothing at all", api.Prog{}, api.Prog{}, api.Prog{}},
		{"values", with(valued(at(mark), -1, 9)), with(valued(at(mark), 0, 3, is(at(mark)))), with(valued(at(mark), -1, 9), valued(at(mark), 0, 3, is(at(mark))))},
	} {
		if u, e := sum.Union(x.p, x.q); !alike(u, x.want) || e != api.OK {
			t.Errorf("%s: Union tells %v, %d, want %v", x.what, u, e, x.want)
		}
	}
}

func TestL1UnionErrors(t *testing.T) {
	bare := func(turn func(l []api.Pred) []api.Pred) api.Prog { return api.Prog{Preds: turn(preds())} }
	for _, x := range []struct {
		what string
		q    api.Prog
	}{
		{"another name", bare(func(l []api.Pred) []api.Pred { l[edge].Name = "edges"; return l })},
		{"another arity", bare(func(l []api.Pred) []api.Pred { l[mark].Arity = 1; return l })},
		{"another kind", bare(func(l []api.Pred) []api.Pred { l[far].Kind = api.Max; return l })},
		{"a predicate less", bare(func(l []api.Pred) []api.Pred { return l[:mark] })},
		{"the first one less", bare(func(l []api.Pred) []api.Pred { return l[1:] })},
		{"another order", bare(func(l []api.Pred) []api.Pred { slices.Reverse(l); return l })},
		{"none", api.Prog{}},
	} {
		unionError(t, x.what, with(), x.q, api.ErrForm)
		unionError(t, x.what+", ahead", x.q, with(), api.ErrForm)
	}
	p := roads()
	other := roads()
	other.Preds[lone].Name = "sole"
	unionError(t, "nine rules", p, of(p, 0, 0), api.ErrMany)
	unionError(t, "nine rules, and other predicates", p, of(other, 0, 0), api.ErrForm)
	unionError(t, "sixteen rules", of(p, 0, 1, 2, 3, 4, 5, 6, 6), of(p, 0, 1, 2, 3, 4, 5, 6, 6), api.ErrMany)
	edgeOfLone := plain(at(edge, v(0), v(0)), is(at(lone, v(0))))
	loneOfNoEdge := plain(at(lone, c(0)), not(at(edge, c(0), c(0))))
	unionError(t, "a round of both", with(edgeOfLone), with(loneOfNoEdge), api.ErrRound)
	unionError(t, "a round of both, the other way", with(loneOfNoEdge), with(edgeOfLone), api.ErrRound)
	eight := with(slices.Repeat([]api.Rule{loneOfNoEdge}, 8)...)
	unionError(t, "a round of nine rules", eight, with(edgeOfLone), api.ErrMany)
}

func TestL1Without(t *testing.T) {
	p := roads()
	for _, x := range []struct {
		what string
		p    api.Prog
		n    int
		want api.Prog
	}{
		{"the first", p, 0, of(p, 1, 2, 3, 4, 5, 6)},
		{"one between", p, 3, of(p, 0, 1, 2, 4, 5, 6)},
		{"the last", p, 6, of(p, 0, 1, 2, 3, 4, 5)},
		{"one of two that are the same", of(p, 4, 4, 0), 1, of(p, 4, 0)},
		{"the only one", of(p, 5), 0, of(p)},
	} {
		if u, e := sum.Without(x.p, x.n); !alike(u, x.want) || e != api.OK {
			t.Errorf("%s: Without %d tells %v, %d, want %v", x.what, x.n, u, e, x.want)
		}
	}
	for _, n := range []int{-1, 7, 8, math.MinInt, math.MaxInt} {
		withoutError(t, "no such rule", p, n, api.ErrNone)
	}
	withoutError(t, "no rules", with(), 0, api.ErrNone)
	withoutError(t, "nothing at all", api.Prog{}, 0, api.ErrNone)
}

// draw: numbers, the same each time.
type draw uint64

func (d *draw) n(n int) int {
	*d = *d*6364136223846793005 + 1442695040888963407
	return int(uint64(*d) >> 33 % uint64(n))
}

// drawnAtom of a predicate: of ten terms so many are constants.
func drawnAtom(r *draw, pred, consts int) api.Atom {
	a := api.Atom{Pred: pred}
	for range preds()[pred].Arity {
		if r.n(10) < consts {
			a.Args = append(a.Args, c(r.n(api.MaxConst+1)))
		} else {
			a.Args = append(a.Args, v(r.n(api.MaxVars)))
		}
	}
	return a
}

// drawnRule of a predicate leans mostly on what other rules tell, and hands a value on, where it can; of ten literals so many are Not.
func drawnRule(r *draw, others []api.Rule, pred, nots int) api.Rule {
	x := api.Rule{Head: drawnAtom(r, pred, 2), From: -1, N: r.n(4)}
	for i := range 1 + r.n(api.MaxBody) {
		y := api.Lit{Not: r.n(10) < nots, Atom: drawnAtom(r, others[r.n(len(others))].Head.Pred, 1)}
		if r.n(3) == 0 {
			y.Atom = drawnAtom(r, r.n(none), 1)
		}
		x.Body = append(x.Body, y)
		if y.Atom.Pred == pred && r.n(4) > 0 {
			x.From = i
		}
	}
	if preds()[pred].Kind == api.Plain {
		x.From, x.N = -1, 0
	}
	return x
}

// givenRule tells a fact.
func givenRule(r *draw, pred int) api.Rule {
	x := plain(drawnAtom(r, pred, 10))
	if preds()[pred].Kind != api.Plain {
		x.N = r.n(api.MaxVal + 1)
	}
	return x
}

// drawnProg tells a program that is right: some rules that tell facts, and others.
func drawnProg(r *draw, nots int) api.Prog {
	p := with()
	given := 1 + r.n(4)
	all := given + 1 + r.n(api.MaxRules-given)
	for len(p.Rules) < all {
		pred := r.n(none)
		next := func() api.Prog {
			if len(p.Rules) < given {
				return with(append(slices.Clone(p.Rules), givenRule(r, pred))...)
			}
			return with(append(slices.Clone(p.Rules), drawnRule(r, p.Rules, pred, nots))...)
		}
		q := next()
		for prog.Check(q) != api.OK {
			q = next()
		}
		p = q
	}
	return p
}

// TestL1Drawn parts programs in two, and lays them together again.
func TestL1Drawn(t *testing.T) {
	r := draw(3)
	for i := range 300 {
		p := drawnProg(&r, i%4)
		k := r.n(len(p.Rules) + 1)
		if u, e := sum.Union(with(p.Rules[:k]...), with(p.Rules[k:]...)); !alike(u, p) || e != api.OK {
			t.Fatalf("%d: Union tells %v, %d, want %v", i, u, e, p)
		}
		n := r.n(len(p.Rules))
		want := with(slices.Delete(slices.Clone(p.Rules), n, n+1)...)
		if u, e := sum.Without(p, n); !alike(u, want) || e != api.OK {
			t.Fatalf("%d: Without %d tells %v, %d, want %v", i, n, u, e, want)
		}
	}
}

// TestL2: if no literal is Not, all that follows from either follows from both.
func TestL2(t *testing.T) {
	r := draw(7)
	more := 0
	for i := 0; i < 400; {
		p, q := drawnProg(&r, 0), drawnProg(&r, 0)
		if len(p.Rules)+len(q.Rules) > api.MaxRules {
			continue
		}
		i++
		u, e := sum.Union(p, q)
		if e != api.OK {
			t.Fatalf("%d: Union of %v and %v tells %d", i, p.Rules, q.Rules, e)
		}
		all, _ := naive.Model(u)
		of, _ := naive.Model(p)
		ofOther, _ := naive.Model(q)
		under, _ := base.Under(u.Preds, of, all)
		underToo, _ := base.Under(u.Preds, ofOther, all)
		if !under || !underToo {
			t.Fatalf("%d: %v and %v tell %v and %v, and both %v", i, p.Rules, q.Rules, of, ofOther, all)
		}
		if !slices.Equal(all, of) && !slices.Equal(all, ofOther) {
			more++
		}
	}
	if more < 100 {
		t.Errorf("%d: too few to tell", more)
	}
}

// TestP1 hands in programs whose parts are many.
func TestP1(t *testing.T) {
	many := make([]api.Rule, 1<<16)
	unionError(t, "many rules of both", with(many...), with(many...), api.ErrMany)
	long := with(plain(at(edge, make([]api.Term, 1<<16)...)))
	unionError(t, "many terms", long, long, api.ErrForm)
	withoutError(t, "many terms", long, 0, api.ErrForm)
}

// room lays a list ahead of spare room, which is marked, so that a write there is seen.
func room[T any](l []T, mark T) []T {
	return append(append(make([]T, 0, len(l)+2), l...), mark, mark)[:len(l)]
}

// roomy is a program all of whose lists have spare room.
func roomy(p api.Prog) api.Prog {
	for i, r := range p.Rules {
		p.Rules[i].Head.Args = room(r.Head.Args, c(77))
		for k, x := range r.Body {
			r.Body[k].Atom.Args = room(x.Atom.Args, c(77))
		}
		p.Rules[i].Body = room(r.Body, not(at(77)))
	}
	p.Preds = room(p.Preds, api.Pred{Name: "spare"})
	p.Rules = room(p.Rules, api.Rule{N: 77})
	return p
}

// spread is all of a program's lists, with their spare room.
func spread(p api.Prog) []any {
	out := []any{p.Preds[:cap(p.Preds)], p.Rules[:cap(p.Rules)]}
	for _, r := range p.Rules {
		out = append(out, r.Head.Args[:cap(r.Head.Args)], r.Body[:cap(r.Body)])
		for _, x := range r.Body {
			out = append(out, x.Atom.Args[:cap(x.Atom.Args)])
		}
	}
	return out
}

// apart writes into each list of an answer in turn, its spare room too: no other list may change by it.
func apart(t *testing.T, what string, answer func() api.Prog) {
	t.Helper()
	lists := func(p api.Prog) (terms [][]api.Term, bodies [][]api.Lit) {
		for _, r := range p.Rules {
			terms, bodies = append(terms, r.Head.Args), append(bodies, r.Body)
			for _, x := range r.Body {
				terms = append(terms, x.Atom.Args)
			}
		}
		return terms, bodies
	}
	want, wantBodies := lists(answer())
	for i := range want {
		have, _ := lists(answer())
		spoil(have[i], c(77))
		have[i] = want[i]
		if !reflect.DeepEqual(have, want) {
			t.Errorf("%s: the terms are %v, want %v", what, have, want)
		}
	}
	for i := range wantBodies {
		_, have := lists(answer())
		spoil(have[i], not(at(77)))
		have[i] = wantBodies[i]
		if !reflect.DeepEqual(have, wantBodies) {
			t.Errorf("%s: the bodies are %v, want %v", what, have, wantBodies)
		}
	}
}

// spoil a list, and its spare room.
func spoil[T any](l []T, mark T) {
	for i := range l[:cap(l)] {
		l[:cap(l)][i] = mark
	}
}

func TestP2OnlyRead(t *testing.T) {
	for _, lay := range []func() (api.Prog, api.Prog){
		func() (api.Prog, api.Prog) { return of(roads(), 0, 1, 2, 3), of(roads(), 4, 5, 6) },
		func() (api.Prog, api.Prog) { return roads(), roads() },
		func() (api.Prog, api.Prog) { return winding(), roads() },
		func() (api.Prog, api.Prog) {
			return with(plain(at(edge, v(0), v(0)), is(at(lone, v(0))))), with(plain(at(lone, c(0)), not(at(edge, c(0), c(0)))))
		},
	} {
		p, q := lay()
		p, q = roomy(p), roomy(q)
		for n := -1; n < 9; n++ {
			sum.Union(p, q)
			sum.Union(q, p)
			sum.Union(p, p)
			sum.Without(p, n)
		}
		wantP, wantQ := lay()
		if !reflect.DeepEqual(spread(p), spread(roomy(wantP))) || !reflect.DeepEqual(spread(q), spread(roomy(wantQ))) {
			t.Errorf("the programs are %v and %v", spread(p), spread(q))
		}
	}
}

// deep is a program that shares nothing with another.
func deep(p api.Prog) api.Prog {
	q := api.Prog{Preds: slices.Clone(p.Preds)}
	for _, r := range p.Rules {
		body := slices.Clone(r.Body)
		for k, x := range body {
			body[k].Atom.Args = slices.Clone(x.Atom.Args)
		}
		r.Head.Args, r.Body = slices.Clone(r.Head.Args), body
		q.Rules = append(q.Rules, r)
	}
	return q
}

// wipe all lists of a program, and their spare room.
func wipe(p api.Prog) {
	for _, r := range p.Rules {
		for _, x := range r.Body {
			spoil(x.Atom.Args, c(77))
		}
		spoil(r.Head.Args, c(77))
		spoil(r.Body, not(at(77)))
	}
	spoil(p.Preds, api.Pred{Name: "spare"})
	spoil(p.Rules, api.Rule{N: 77})
}

// TestP2NewMemory writes into what was answered, and into what was handed in: neither is seen in the other.
func TestP2NewMemory(t *testing.T) {
	for _, x := range []struct {
		what  string
		call  func(p, q api.Prog) (api.Prog, api.Errno)
		rules []int
	}{
		{"Union", sum.Union, []int{4, 5, 6, 5}},
		{"Union of one with itself", func(p, _ api.Prog) (api.Prog, api.Errno) { return sum.Union(p, p) }, []int{4, 5, 4, 5}},
		{"Without", func(p, _ api.Prog) (api.Prog, api.Errno) { return sum.Without(p, 0) }, []int{5}},
		{"Without the last", func(p, _ api.Prog) (api.Prog, api.Errno) { return sum.Without(p, 1) }, []int{4}},
	} {
		p, q := roomy(deep(of(roads(), 4, 5))), roomy(deep(of(roads(), 6, 5)))
		u, _ := x.call(p, q)
		wipe(u)
		if !alike(p, of(roads(), 4, 5)) || !alike(q, of(roads(), 6, 5)) {
			t.Errorf("%s: a change of the answer was seen: %v and %v", x.what, p, q)
		}
		apart(t, x.what, func() api.Prog { u, _ := x.call(p, q); return u })
		u, _ = x.call(p, q)
		wipe(p)
		wipe(q)
		if !alike(u, of(roads(), x.rules...)) {
			t.Errorf("%s: a change of what was handed in was seen: %v", x.what, u)
		}
	}
}

// TestP2Shared hands in a program whose rules share their lists: those of the answer do not.
func TestP2Shared(t *testing.T) {
	terms := []api.Term{v(0), v(1)}
	body := []api.Lit{is(at(edge, terms...)), is(at(edge, terms...))}
	one := plain(at(edge, terms...), body...)
	p := with(one, one)
	apart(t, "Union", func() api.Prog { u, _ := sum.Union(p, p); return u })
	apart(t, "Without", func() api.Prog { u, _ := sum.Without(with(one, one, one), 1); return u })
}

// TestP3 asks the same between others: they may not be seen in it.
func TestP3(t *testing.T) {
	p := roads()
	for range 3 {
		if u, e := sum.Union(of(p, 0, 1), of(p, 4)); !alike(u, of(p, 0, 1, 4)) || e != api.OK {
			t.Errorf("Union tells %v, %d", u, e)
		}
		if u, e := sum.Without(of(p, 0, 1, 4), 1); !alike(u, of(p, 0, 4)) || e != api.OK {
			t.Errorf("Without tells %v, %d", u, e)
		}
		tellError(t, "no name", api.Prog{Preds: make([]api.Pred, 1)}, api.ErrName)
		sum.Union(winding(), winding())
		sum.Without(winding(), 7)
	}
}
