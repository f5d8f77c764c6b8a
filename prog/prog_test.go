package prog_test

import (
	"math"
	"reflect"
	"slices"
	"strings"
	"testing"

	"treillage/api"
	"treillage/prog"
)

func v(n int) api.Term { return api.Term{Var: true, N: n} }

func c(n int) api.Term { return api.Term{N: n} }

func at(pred int, l ...api.Term) api.Atom { return api.Atom{Pred: pred, Args: l} }

func is(a api.Atom) api.Lit { return api.Lit{Atom: a} }

func not(a api.Atom) api.Lit { return api.Lit{Not: true, Atom: a} }

// Numbers of the predicates of roads.
const (
	edge = iota
	far
	lone
	none // there is no such one
)

// roads: edges; far: how far at least; lone: which of them nobody comes back to.
func roads() api.Prog {
	return api.Prog{
		Preds: []api.Pred{
			edge: {Name: "edge", Arity: 2},
			far:  {Name: "far", Arity: 2, Kind: api.Min},
			lone: {Name: "lone", Arity: 1},
		},
		Rules: []api.Rule{
			{Head: at(edge, c(0), c(1)), From: -1},
			{Head: at(edge, c(1), c(2)), From: -1},
			{Head: at(edge, c(3), c(0)), From: -1},
			{Head: at(far, v(0), v(1)), From: -1, N: 1, Body: []api.Lit{is(at(edge, v(0), v(1)))}},
			{Head: at(far, v(0), v(2)), From: 0, N: 1, Body: []api.Lit{is(at(far, v(0), v(1))), is(at(edge, v(1), v(2)))}},
			{Head: at(lone, v(0)), From: -1, Body: []api.Lit{is(at(edge, v(0), v(1))), not(at(far, v(0), v(0)))}},
		},
	}
}

// flags is a program of so many plain predicates without args.
func flags(n int, rules ...api.Rule) api.Prog {
	p := api.Prog{Rules: rules}
	for i := range n {
		p.Preds = append(p.Preds, api.Pred{Name: string(rune('a' + i))})
	}
	return p
}

// use is a rule of flags.
func use(head int, body ...api.Lit) api.Rule { return api.Rule{Head: at(head), From: -1, Body: body} }

func yes(pred int) api.Lit { return is(at(pred)) }

func no(pred int) api.Lit { return not(at(pred)) }

func TestC1Name(t *testing.T) {
	for _, x := range []struct {
		s    string
		want bool
	}{
		{"", false}, {"a", true}, {"z", true}, {"edge", true}, {"pred", true}, {"not", true},
		{"abcdefgh", true}, {"zzzzzzzz", true}, {"abcdefghi", false}, {strings.Repeat("a", 1<<16), false},
		{"A", false}, {"Z", false}, {"aB", false}, {"a1", false}, {"0", false}, {" ", false}, {"a ", false}, {" a", false},
		{"a\n", false}, {"\x00", false}, {"a_b", false}, {"`", false}, {"{", false}, {"\xe1", false}, {"\xff\xfe", false},
		{"é", false}, {"aé", false}, {"abcdefg.", false}, {".bcdefgh", false},
	} {
		if got := prog.Name(x.s); got != x.want {
			t.Errorf("%q: Name tells %v, want %v", x.s, got, x.want)
		}
	}
}

func TestC1NameEveryByte(t *testing.T) {
	for b := range 256 {
		want := strings.IndexByte("abcdefghijklmnopqrstuvwxyz", byte(b)) >= 0
		for _, s := range []string{string([]byte{byte(b)}), string([]byte{'m', byte(b), 'm'})} {
			if got := prog.Name(s); got != want {
				t.Errorf("%q: Name tells %v, want %v", s, got, want)
			}
		}
	}
}

// tellError asks all three calls for one error: with it, there is nothing else.
func tellError(t *testing.T, what string, p api.Prog, want api.Errno) {
	t.Helper()
	if got := prog.Check(p); got != want {
		t.Errorf("%s: Check tells %d, want %d", what, got, want)
	}
	strata, e := prog.Strata(p)
	if e != want || e != api.OK && len(strata) != 0 {
		t.Errorf("%s: Strata tells %v, %d, want %d", what, strata, e, want)
	}
	if want == api.OK {
		return
	}
	for _, pred := range []int{0, -1, none} {
		if needs, e := prog.Needs(p, pred); e != want || len(needs) != 0 {
			t.Errorf("%s: Needs of %d tells %v, %d, want %d", what, pred, needs, e, want)
		}
	}
}

func TestC1Predicates(t *testing.T) {
	for _, x := range []struct {
		what string
		turn func(p *api.Prog)
		want api.Errno
	}{
		{"as it is", func(p *api.Prog) {}, api.OK},
		{"five predicates", func(p *api.Prog) { p.Preds = append(p.Preds, api.Pred{Name: "d"}, api.Pred{Name: "e"}) }, api.OK},
		{"six predicates", func(p *api.Prog) { *p = flags(6) }, api.ErrMany},
		{"eight rules", func(p *api.Prog) { p.Rules = append(p.Rules, p.Rules[0], p.Rules[0]) }, api.OK},
		{"nine rules", func(p *api.Prog) { p.Rules = append(p.Rules, p.Rules[0], p.Rules[0], p.Rules[0]) }, api.ErrMany},
		{"no name", func(p *api.Prog) { p.Preds[lone].Name = "" }, api.ErrName},
		{"a name of nine bytes", func(p *api.Prog) { p.Preds[far].Name = "abcdefghi" }, api.ErrName},
		{"a name of eight bytes", func(p *api.Prog) { p.Preds[far].Name = "abcdefgh" }, api.OK},
		{"a name with another byte", func(p *api.Prog) { p.Preds[edge].Name = "Edge" }, api.ErrName},
		{"first and last of one name", func(p *api.Prog) { p.Preds[lone].Name = "edge" }, api.ErrThere},
		{"neighbours of one name", func(p *api.Prog) { p.Preds[edge].Name = "far" }, api.ErrThere},
		{"a name that another begins with", func(p *api.Prog) { p.Preds[edge].Name = "fa" }, api.OK},
		{"arity 3", func(p *api.Prog) { p.Preds[lone].Arity = 3 }, api.ErrRange},
		{"arity -1", func(p *api.Prog) { p.Preds[lone].Arity = -1 }, api.ErrRange},
		{"least arity", func(p *api.Prog) { p.Preds[edge].Arity = math.MinInt }, api.ErrRange},
		{"greatest arity", func(p *api.Prog) { p.Preds[edge].Arity = math.MaxInt }, api.ErrRange},
		{"another arity", func(p *api.Prog) { p.Preds[lone].Arity = 2 }, api.ErrForm},
		{"kind 4", func(p *api.Prog) { p.Preds[far].Kind = 4 }, api.ErrKind},
		{"kind -1", func(p *api.Prog) { p.Preds[lone].Kind = -1 }, api.ErrKind},
		{"least kind", func(p *api.Prog) { p.Preds[edge].Kind = math.MinInt }, api.ErrKind},
		{"greatest kind", func(p *api.Prog) { p.Preds[edge].Kind = math.MaxInt }, api.ErrKind},
		{"kind Max", func(p *api.Prog) { p.Preds[far].Kind = api.Max }, api.OK},
		{"kind Bits", func(p *api.Prog) { p.Preds[far].Kind = api.Bits }, api.OK},
		{"kind Plain, where there are values", func(p *api.Prog) { p.Preds[far].Kind = api.Plain }, api.ErrForm},
		{"no rules", func(p *api.Prog) { p.Rules = nil }, api.OK},
		{"nothing", func(p *api.Prog) { *p = api.Prog{} }, api.OK},
		{"rules, and no predicates", func(p *api.Prog) { p.Preds = nil }, api.ErrNone},
	} {
		p := roads()
		x.turn(&p)
		tellError(t, x.what, p, x.want)
	}
}

// TestC1Rules: each error of a rule comes out, whichever rule has it; of several rules, that of the first one does.
func TestC1Rules(t *testing.T) {
	for _, x := range []struct {
		what string
		turn func(p *api.Prog)
		want api.Errno
	}{
		{"a head of no predicate", func(p *api.Prog) { p.Rules[0].Head.Pred = none }, api.ErrNone},
		{"a head with too few args", func(p *api.Prog) { p.Rules[5].Head.Args = nil }, api.ErrForm},
		{"a constant out of bounds", func(p *api.Prog) { p.Rules[1].Head.Args[0].N = 5 }, api.ErrRange},
		{"a literal of no predicate", func(p *api.Prog) { p.Rules[4].Body[1].Atom.Pred = -1 }, api.ErrNone},
		{"four literals", func(p *api.Prog) { p.Rules[5].Body = make([]api.Lit, 4) }, api.ErrMany},
		{"a free variable", func(p *api.Prog) { p.Rules[5].Body = p.Rules[5].Body[1:] }, api.ErrFree},
		{"From out of bounds", func(p *api.Prog) { p.Rules[4].From = 2 }, api.ErrRange},
		{"From of another kind", func(p *api.Prog) { p.Rules[4].From = 1 }, api.ErrForm},
		{"N out of bounds", func(p *api.Prog) { p.Rules[4].N = 16 }, api.ErrRange},
		{"N of a plain one", func(p *api.Prog) { p.Rules[5].N = 1 }, api.ErrForm},
		{"ErrFree ahead of ErrNone", func(p *api.Prog) { p.Rules[3].Body = nil; p.Rules[4].Head.Pred = none }, api.ErrFree},
		{"ErrNone ahead of ErrFree", func(p *api.Prog) { p.Rules[3].Head.Pred = none; p.Rules[4].Body = nil }, api.ErrNone},
		{"ErrRange ahead of ErrForm", func(p *api.Prog) { p.Rules[0].Head.Args[1].N = -1; p.Rules[5].Head.Args = nil }, api.ErrRange},
	} {
		p := roads()
		x.turn(&p)
		tellError(t, x.what, p, x.want)
	}
}

// TestC1Order begins with a program that has all faults, and mends that which must be told first, one by one. Faults that are told later lie ahead in the lists.
func TestC1Order(t *testing.T) {
	p := api.Prog{
		Preds: []api.Pred{{Name: "a", Kind: 4}, {Name: "b", Arity: 3}, {Name: "a"}, {Name: "A"}, {Name: "e"}, {Name: "f"}},
		Rules: make([]api.Rule, 9),
	}
	for i := range p.Rules {
		p.Rules[i] = use(4, no(4))
	}
	p.Rules[7] = use(6)
	for _, x := range []struct {
		want api.Errno
		mend func()
	}{
		{api.ErrMany, func() { p.Preds = p.Preds[:5] }},
		{api.ErrMany, func() { p.Rules = p.Rules[:8] }},
		{api.ErrName, func() { p.Preds[3].Name = "d" }},
		{api.ErrThere, func() { p.Preds[2].Name = "c" }},
		{api.ErrRange, func() { p.Preds[1].Arity = 0 }},
		{api.ErrKind, func() { p.Preds[0].Kind = 0 }},
		{api.ErrNone, func() { p.Rules[7] = use(4) }},
		{api.ErrRound, func() { p.Rules = p.Rules[7:] }},
		{api.OK, func() {}},
	} {
		tellError(t, "a ladder", p, x.want)
		x.mend()
	}
}

func TestC1SameWrongNames(t *testing.T) {
	p := flags(3)
	p.Preds[0].Name, p.Preds[1].Name = "", ""
	tellError(t, "two without a name", p, api.ErrName)
}

func TestC1Rounds(t *testing.T) {
	for _, x := range []struct {
		what string
		p    api.Prog
		want api.Errno
	}{
		{"if not itself", flags(1, use(0, no(0))), api.ErrRound},
		{"if itself", flags(1, use(0, yes(0))), api.OK},
		{"if itself, and not itself", flags(1, use(0, yes(0), no(0))), api.ErrRound},
		{"two, each if not the other", flags(2, use(0, no(1)), use(1, no(0))), api.ErrRound},
		{"two, one of them if not the other", flags(2, use(0, no(1)), use(1, yes(0))), api.ErrRound},
		{"two, each if the other", flags(2, use(0, yes(1)), use(1, yes(0))), api.OK},
		{"a long round", flags(5, use(0, yes(1)), use(1, yes(2)), use(2, yes(3)), use(3, yes(4)), use(4, no(0))), api.ErrRound},
		{"a long round without Not", flags(5, use(0, yes(1)), use(1, yes(2)), use(2, yes(3)), use(3, yes(4)), use(4, yes(0))), api.OK},
		{"a round beside others", flags(5, use(1, no(0)), use(4, yes(3)), use(3, yes(1), no(4))), api.ErrRound},
		{"Not into a round, and out of it", flags(4, use(1, yes(2), no(0)), use(2, yes(1)), use(3, no(2))), api.OK},
		{"all Not, and no round", flags(5, use(4, no(3)), use(3, no(2)), use(2, no(1)), use(1, no(0))), api.OK},
		{"a third literal", flags(2, use(1, yes(0)), use(0, yes(0), yes(0), no(1))), api.ErrRound},
	} {
		tellError(t, x.what, x.p, x.want)
	}
}

func TestC2(t *testing.T) {
	for _, x := range []struct {
		what string
		p    api.Prog
		want []int
	}{
		{"example 3", roads(), []int{0, 0, 1}},
		{"no rules", flags(5), []int{0, 0, 0, 0, 0}},
		{"nothing", api.Prog{}, []int{}},
		{"one", flags(1, use(0)), []int{0}},
		{"a Not", flags(2, use(0, no(1))), []int{1, 0}},
		{"two Nots of one are no more", flags(3, use(0, no(1), no(2))), []int{1, 0, 0}},
		{"Nots behind one another", flags(5, use(0, no(1)), use(1, no(2)), use(2, no(3)), use(3, no(4))), []int{4, 3, 2, 1, 0}},
		{"the other way round", flags(5, use(4, no(3)), use(3, no(2)), use(2, no(1)), use(1, no(0))), []int{0, 1, 2, 3, 4}},
		{"told the other way round", flags(5, use(1, no(0)), use(2, no(1)), use(3, no(2)), use(4, no(3))), []int{0, 1, 2, 3, 4}},
		{"what is not Not is no step", flags(3, use(0, yes(1)), use(1, no(2))), []int{1, 1, 0}},
		{"the greatest of a body", flags(4, use(0, yes(1), yes(2)), use(2, no(3)), use(1, no(2))), []int{2, 2, 1, 0}},
		{"the greatest of all rules", flags(4, use(0, no(1)), use(0, no(2)), use(0), use(2, no(3))), []int{2, 0, 1, 0}},
		{"a round goes up as one", flags(4, use(0, yes(1)), use(1, yes(2)), use(2, yes(0)), use(1, no(3))), []int{1, 1, 1, 0}},
	} {
		got, e := prog.Strata(x.p)
		if !slices.Equal(got, x.want) || e != api.OK {
			t.Errorf("%s: Strata tells %v, %d, want %v", x.what, got, e, x.want)
		}
	}
}

// draw: numbers, the same each time.
type draw uint64

func (d *draw) n(n int) int {
	*d = *d*6364136223846793005 + 1442695040888963407
	return int(uint64(*d) >> 33 % uint64(n))
}

func drawn(r *draw) api.Prog {
	n := 1 + r.n(5)
	p := flags(n)
	for range r.n(9) {
		var body []api.Lit
		for range r.n(4) {
			body = append(body, api.Lit{Not: r.n(4) == 0, Atom: at(r.n(n))})
		}
		p.Rules = append(p.Rules, use(r.n(n), body...))
	}
	return p
}

// mayBe asks whether these may be strata of p, the least ones or not.
func mayBe(p api.Prog, strata []int) bool {
	for _, r := range p.Rules {
		for _, x := range r.Body {
			head, body := strata[r.Head.Pred], strata[x.Atom.Pred]
			if head < body || x.Not && head == body {
				return false
			}
		}
	}
	return true
}

// leastOfAll goes through all numbers that may be strata, and takes of each predicate the least one.
func leastOfAll(p api.Prog) []int {
	n := len(p.Preds)
	all := 1
	for range n {
		all *= n
	}
	var out []int
	for i := range all {
		strata := make([]int, n)
		for k := range strata {
			strata[k] = i % n
			i /= n
		}
		if !mayBe(p, strata) {
			continue
		}
		if out == nil {
			out = slices.Clone(strata)
		}
		for k := range out {
			out[k] = min(out[k], strata[k])
		}
	}
	return out
}

// TestC2Least holds Strata against all numbers that may be.
func TestC2Least(t *testing.T) {
	r := draw(7)
	have := [2]int{}
	for range 400 {
		p := drawn(&r)
		got, e := prog.Strata(p)
		want := leastOfAll(p)
		if want == nil {
			have[0]++
			tellError(t, "a drawn round", p, api.ErrRound)
			continue
		}
		have[1]++
		if !slices.Equal(got, want) || e != api.OK || !mayBe(p, got) {
			t.Errorf("%v: Strata tells %v, %d, want %v", p.Rules, got, e, want)
		}
	}
	if have[0] < 50 || have[1] < 50 {
		t.Errorf("%d rounds and %d without: too few to tell", have[0], have[1])
	}
}

func TestC3(t *testing.T) {
	chain := flags(5, use(0, yes(1)), use(1, no(2)), use(2, yes(3)))
	for _, x := range []struct {
		what string
		p    api.Prog
		pred int
		want []bool
		e    api.Errno
	}{
		{"edges alone", roads(), edge, []bool{true, false, false}, api.OK},
		{"what far needs", roads(), far, []bool{true, true, false}, api.OK},
		{"what lone needs", roads(), lone, []bool{true, true, true}, api.OK},
		{"behind the last one", roads(), none, nil, api.ErrNone},
		{"ahead of the first one", roads(), -1, nil, api.ErrNone},
		{"the least", roads(), math.MinInt, nil, api.ErrNone},
		{"the greatest", roads(), math.MaxInt, nil, api.ErrNone},
		{"of nothing", api.Prog{}, 0, nil, api.ErrNone},
		{"itself alone", flags(3), 1, []bool{false, true, false}, api.OK},
		{"through a Not", chain, 0, []bool{true, true, true, true, false}, api.OK},
		{"from the middle on", chain, 2, []bool{false, false, true, true, false}, api.OK},
		{"the last one", chain, 4, []bool{false, false, false, false, true}, api.OK},
		{"told the other way round", flags(4, use(2, yes(3)), use(1, yes(2)), use(0, yes(1))), 0, []bool{true, true, true, true}, api.OK},
		{"a round", flags(3, use(0, yes(1)), use(1, yes(0))), 1, []bool{true, true, false}, api.OK},
		{"all literals, all rules", flags(5, use(0, yes(1), yes(2), no(3)), use(0, yes(4))), 0, []bool{true, true, true, true, true}, api.OK},
		{"it is needed by others", flags(3, use(0, yes(2)), use(1, yes(2))), 2, []bool{false, false, true}, api.OK},
		{"a round of which it is no part", flags(2, use(0, no(0))), 1, nil, api.ErrRound},
		{"a round, and no such one", flags(2, use(0, no(0))), 2, nil, api.ErrRound},
	} {
		got, e := prog.Needs(x.p, x.pred)
		if !slices.Equal(got, x.want) || e != x.e {
			t.Errorf("%s: Needs tells %v, %d, want %v, %d", x.what, got, e, x.want, x.e)
		}
	}
}

// reached tells which predicates hang on which, by way of each one in turn.
func reached(p api.Prog) [api.MaxPreds][api.MaxPreds]bool {
	var out [api.MaxPreds][api.MaxPreds]bool
	for i := range out {
		out[i][i] = true
	}
	for _, r := range p.Rules {
		for _, x := range r.Body {
			out[r.Head.Pred][x.Atom.Pred] = true
		}
	}
	for by := range out {
		for from := range out {
			for to := range out {
				out[from][to] = out[from][to] || out[from][by] && out[by][to]
			}
		}
	}
	return out
}

func TestC3Drawn(t *testing.T) {
	r := draw(11)
	for range 400 {
		p := drawn(&r)
		if prog.Check(p) != api.OK {
			continue
		}
		want := reached(p)
		for pred := range p.Preds {
			got, e := prog.Needs(p, pred)
			if !slices.Equal(got, want[pred][:len(p.Preds)]) || e != api.OK {
				t.Errorf("%v: Needs of %d tells %v, %d, want %v", p.Rules, pred, got, e, want[pred])
			}
		}
	}
}

// TestP1 hands in what is far beyond all bounds.
func TestP1(t *testing.T) {
	tellError(t, "long lists", api.Prog{Preds: make([]api.Pred, 1<<16), Rules: make([]api.Rule, 1<<16)}, api.ErrMany)
	tellError(t, "a long name", api.Prog{Preds: []api.Pred{{Name: strings.Repeat("a", 1<<20)}}}, api.ErrName)
	tellError(t, "a long body", flags(1, use(0, make([]api.Lit, 1<<16)...)), api.ErrMany)
	tellError(t, "long args", flags(1, api.Rule{Head: api.Atom{Args: make([]api.Term, 1<<16)}, From: -1}), api.ErrForm)
	tellError(t, "rules alone", api.Prog{Rules: make([]api.Rule, 1)}, api.ErrNone)
}

// withRoom lays what is handed in ahead of spare room, which is marked, so that a write there is seen.
func withRoom[T any](mark T, l ...T) []T {
	return append(append([]T{}, l...), mark, mark)[:len(l)]
}

// roomy roads, all of whose lists have room behind.
func roomy() api.Prog {
	p := roads()
	term := func(a *api.Atom) { a.Args = withRoom(c(77), a.Args...) }
	for i := range p.Rules {
		r := &p.Rules[i]
		term(&r.Head)
		r.Body = withRoom(not(at(77)), r.Body...)
		for k := range r.Body {
			term(&r.Body[k].Atom)
		}
	}
	p.Preds = withRoom(api.Pred{Name: "mark"}, p.Preds...)
	p.Rules = withRoom(use(77), p.Rules...)
	return p
}

// whole shows lists with the room behind them.
func whole(p api.Prog) []any {
	out := []any{p.Preds[:cap(p.Preds)], p.Rules[:cap(p.Rules)]}
	for _, r := range p.Rules {
		out = append(out, r.Head.Args[:cap(r.Head.Args)], r.Body[:cap(r.Body)])
		for _, x := range r.Body {
			out = append(out, x.Atom.Args[:cap(x.Atom.Args)])
		}
	}
	return out
}

func TestP2OnlyRead(t *testing.T) {
	for _, turn := range []func(p *api.Prog){
		func(p *api.Prog) {},
		func(p *api.Prog) { p.Preds[far].Name = "edge" },
		func(p *api.Prog) { p.Rules[3].Body[0].Not = true },
		func(p *api.Prog) { p.Rules[4].Body[1] = not(at(lone, v(0))) },
	} {
		p, want := roomy(), roomy()
		turn(&p)
		turn(&want)
		prog.Check(p)
		prog.Strata(p)
		for pred := -1; pred <= none; pred++ {
			prog.Needs(p, pred)
		}
		if !reflect.DeepEqual(whole(p), whole(want)) {
			t.Errorf("what was handed in was %v and is %v", want, p)
		}
	}
}

// TestP2NewMemory writes into what was answered, and changes what was handed in: neither may be seen elsewhere.
func TestP2NewMemory(t *testing.T) {
	p := roads()
	strata, _ := prog.Strata(p)
	needs, _ := prog.Needs(p, far)
	p.Rules[5].Body[1].Not = false
	p.Rules[3].Body[0] = is(at(lone, v(0)))
	p.Rules[3].Head.Args[1] = v(0)
	if !slices.Equal(strata, []int{0, 0, 1}) || !slices.Equal(needs, []bool{true, true, false}) {
		t.Errorf("a change of the program was seen in %v, %v", strata, needs)
	}
	for i := range strata {
		strata[i], needs[i] = 9, true
	}
	strata, _ = prog.Strata(p)
	needs, _ = prog.Needs(p, edge)
	if !slices.Equal(strata, []int{0, 0, 0}) || !slices.Equal(needs, []bool{true, false, false}) {
		t.Errorf("of the new program: %v, %v", strata, needs)
	}
}

// TestP3 asks the same between others that have errors: they may not be seen in it.
func TestP3(t *testing.T) {
	round := flags(2, use(0, no(1)), use(1, yes(0)))
	twice := flags(2)
	twice.Preds[1].Name = "a"
	for range 3 {
		tellError(t, "roads", roads(), api.OK)
		tellError(t, "a round", round, api.ErrRound)
		tellError(t, "a name twice", twice, api.ErrThere)
		strata, e := prog.Strata(roads())
		if !slices.Equal(strata, []int{0, 0, 1}) || e != api.OK {
			t.Errorf("Strata tells %v, %d", strata, e)
		}
		needs, e := prog.Needs(roads(), far)
		if !slices.Equal(needs, []bool{true, true, false}) || e != api.OK {
			t.Errorf("Needs tells %v, %d", needs, e)
		}
	}
}
