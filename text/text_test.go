package text_test

import (
	"math"
	"reflect"
	"slices"
	"strings"
	"testing"

	"treillage/api"
	"treillage/prog"
	"treillage/text"
)

func v(n int) api.Term { return api.Term{Var: true, N: n} }

func c(n int) api.Term { return api.Term{N: n} }

func at(pred int, l ...api.Term) api.Atom { return api.Atom{Pred: pred, Args: l} }

func is(a api.Atom) api.Lit { return api.Lit{Atom: a} }

func not(a api.Atom) api.Lit { return api.Lit{Not: true, Atom: a} }

// plain is a rule whose value is 0.
func plain(head api.Atom, body ...api.Lit) api.Rule {
	return api.Rule{Head: head, From: -1, Body: body}
}

// valued is a rule whose value is n, lifting that of a literal or (from -1) by itself.
func valued(head api.Atom, from, n int, body ...api.Lit) api.Rule {
	return api.Rule{Head: head, From: from, N: n, Body: body}
}

// Numbers of the predicates of roads, and of shelves.
const (
	edge = iota
	far
	lone
	load
	mark
	none // there is no such one
)

// roads: edges; far: how far at least; lone: which of them nobody comes back to.
func roads() api.Prog {
	return api.Prog{
		Preds: preds()[:load],
		Rules: []api.Rule{
			plain(at(edge, c(0), c(1))),
			plain(at(edge, c(1), c(2))),
			plain(at(edge, c(2), c(0))),
			plain(at(edge, c(3), c(0))),
			valued(at(far, v(0), v(1)), -1, 1, is(at(edge, v(0), v(1)))),
			valued(at(far, v(0), v(2)), 0, 1, is(at(far, v(0), v(1))), is(at(edge, v(1), v(2)))),
			plain(at(lone, v(0)), is(at(edge, v(0), v(1))), not(at(far, v(0), v(0)))),
		},
	}
}

func preds() []api.Pred {
	return []api.Pred{
		edge: {Name: "edge", Arity: 2},
		far:  {Name: "far", Arity: 2, Kind: api.Min},
		lone: {Name: "lone", Arity: 1},
		load: {Name: "load", Arity: 1, Kind: api.Max},
		mark: {Name: "mark", Kind: api.Bits},
	}
}

// with is a program of all predicates, and some rules.
func with(l ...api.Rule) api.Prog { return api.Prog{Preds: preds(), Rules: l} }

// winding is a program whose rounds are many: each value goes through all 25 facts of far ahead of the next one.
func winding() api.Prog {
	p := with(
		plain(at(edge, c(0), c(1))),
		plain(at(edge, c(1), c(2))),
		plain(at(edge, c(2), c(3))),
		plain(at(edge, c(3), c(4))),
		valued(at(far, c(0), c(0)), -1, 0),
		valued(at(far, v(0), v(2)), 0, 0, is(at(far, v(0), v(1))), is(at(edge, v(1), v(2)))),
		valued(at(far, v(1), c(0)), 0, 0, is(at(far, v(0), c(4))), is(at(edge, v(0), v(1)))),
		valued(at(far, c(0), c(0)), 0, 1, is(at(far, c(4), c(4)))),
	)
	p.Preds[far].Kind = api.Max
	return p
}

// facts of numbers: Pred, A, B, Val.
func facts(l ...[4]int) []api.Fact {
	var out []api.Fact
	for _, x := range l {
		out = append(out, api.Fact{Pred: x[0], A: x[1], B: x[2], Val: x[3]})
	}
	return out
}

// shown is how the roads are shown.
const shown = `pred edge 2 0
pred far 2 2
pred lone 1 0
edge(0,1).
edge(1,2).
edge(2,0).
edge(3,0).
far(A,B) = 1 :- edge(A,B).
far(A,C) = #0+1 :- far(A,B), edge(B,C).
lone(A) :- edge(A,B), !far(A,A).
`

// all is how all predicates are shown.
const all = `pred edge 2 0
pred far 2 2
pred lone 1 0
pred load 1 1
pred mark 0 3
`

// alike tells whether two programs are the same; an empty list may be nil or not.
func alike(p, q api.Prog) bool {
	sameTerms := func(a, b api.Atom) bool { return a.Pred == b.Pred && slices.Equal(a.Args, b.Args) }
	sameLits := func(a, b api.Lit) bool { return a.Not == b.Not && sameTerms(a.Atom, b.Atom) }
	return slices.Equal(p.Preds, q.Preds) && slices.EqualFunc(p.Rules, q.Rules, func(a, b api.Rule) bool {
		return a.From == b.From && a.N == b.N && sameTerms(a.Head, b.Head) && slices.EqualFunc(a.Body, b.Body, sameLits)
	})
}

// tellError asks Show and Facts for one error of the program: with it, there is no text.
func tellError(t *testing.T, what string, p api.Prog, want api.Errno) {
	t.Helper()
	if s, e := text.Show(p); s != "" || e != want {
		t.Errorf("%s: Show tells %q, %d, want %d", what, s, e, want)
	}
	for _, f := range [][]api.Fact{nil, facts([4]int{edge, 0, 1}), facts([4]int{9})} {
		factsError(t, what, p, f, want)
	}
}

// factsError asks Facts for an error: with it, there is no text.
func factsError(t *testing.T, what string, p api.Prog, f []api.Fact, want api.Errno) {
	t.Helper()
	if s, e := text.Facts(p, f); s != "" || e != want {
		t.Errorf("%s: Facts tells %q, %d, want %d", what, s, e, want)
	}
}

// readError asks Read for an error: with it, there is no program.
func readError(t *testing.T, what, s string, want api.Errno) {
	t.Helper()
	if p, e := text.Read(s); !reflect.DeepEqual(p, api.Prog{}) || e != want {
		t.Errorf("%s: Read of %.300q tells %v, %d, want %d", what, s, p, e, want)
	}
}

// wrongPrograms are turns of the roads, and the error of each.
func wrongPrograms() []wrong {
	return []wrong{
		{"six predicates", func(p *api.Prog) { p.Preds = append(preds(), api.Pred{Name: "a"}) }, api.ErrMany},
		{"nine rules", func(p *api.Prog) { p.Rules = slices.Repeat(p.Rules[:1], 9) }, api.ErrMany},
		{"no name", func(p *api.Prog) { p.Preds[lone].Name = "" }, api.ErrName},
		{"two of one name", func(p *api.Prog) { p.Preds[lone].Name = "edge" }, api.ErrThere},
		{"arity 3", func(p *api.Prog) { p.Preds[lone].Arity = 3 }, api.ErrRange},
		{"kind 4", func(p *api.Prog) { p.Preds[lone].Kind = 4 }, api.ErrKind},
		{"no such predicate", func(p *api.Prog) { p.Rules[6].Head.Pred = load }, api.ErrNone},
		{"an argument less", func(p *api.Prog) { p.Rules[6].Head.Args = nil }, api.ErrForm},
		{"constant 5", func(p *api.Prog) { p.Rules[0].Head.Args[1].N = 5 }, api.ErrRange},
		{"a free variable", func(p *api.Prog) { p.Rules[4].Head.Args[1].N = 2 }, api.ErrFree},
		{"four literals", func(p *api.Prog) { p.Rules[4].Body = slices.Repeat(p.Rules[4].Body, 4) }, api.ErrMany},
		{"N 16", func(p *api.Prog) { p.Rules[4].N = 16 }, api.ErrRange},
		{"a value of a plain one", func(p *api.Prog) { p.Rules[0].N = 1 }, api.ErrForm},
		{"a round", func(p *api.Prog) {
			p.Rules[4].Body = append(p.Rules[4].Body, not(at(lone, v(0))))
		}, api.ErrRound},
		{"many rules", func(p *api.Prog) { p.Rules = make([]api.Rule, 1<<16) }, api.ErrMany},
		{"many predicates", func(p *api.Prog) { p.Preds = make([]api.Pred, 1<<16) }, api.ErrMany},
	}
}

type wrong struct {
	what string
	turn func(p *api.Prog)
	want api.Errno
}

func TestKErrors(t *testing.T) {
	for _, x := range wrongPrograms() {
		p := roads()
		x.turn(&p)
		tellError(t, x.what, p, x.want)
	}
}

// TestKFirstError mends one fault after the other: each time the next one is told.
func TestKFirstError(t *testing.T) {
	p := roads()
	p.Preds = append(p.Preds, make([]api.Pred, 3)...)
	p.Preds[far].Arity, p.Preds[lone].Kind = -1, -1
	p.Rules[0].Head.Args[0].N = -1
	p.Rules[4].Body = append(p.Rules[4].Body, not(at(lone, v(0))))
	for _, x := range []struct {
		mend func()
		want api.Errno
	}{
		{func() {}, api.ErrMany},
		{func() { p.Preds = p.Preds[:load+1] }, api.ErrName},
		{func() { p.Preds[load].Name = "edge" }, api.ErrThere},
		{func() { p.Preds[load].Name = "load" }, api.ErrRange},
		{func() { p.Preds[far].Arity = 2 }, api.ErrKind},
		{func() { p.Preds[lone].Kind = api.Plain }, api.ErrRange},
		{func() { p.Rules[0].Head.Args[0].N = 0 }, api.ErrRound},
	} {
		x.mend()
		tellError(t, "a fault after the other", p, x.want)
	}
	p.Rules[4].Body, p.Preds = p.Rules[4].Body[:1], p.Preds[:load]
	factsError(t, "the program is mended", p, facts([4]int{load}), api.ErrForm)
	if s, e := text.Show(p); s != shown || e != api.OK {
		t.Errorf("all mended: Show tells %q, %d", s, e)
	}
}

// texts of programs, all right ones.
func texts() []told {
	chain := is(at(far, v(0), v(1)))
	named := func(name string, arity, kind int, l ...api.Rule) api.Prog {
		return api.Prog{Preds: []api.Pred{{Name: name, Arity: arity, Kind: kind}}, Rules: l}
	}
	return []told{
		{"example 11", roads(), shown},
		{"nothing at all", api.Prog{}, ""},
		{"no rules", with(), all},
		{"a constant of each term", with(plain(at(edge, c(4), c(0)))), all + "edge(4,0).\n"},
		{"one term", with(plain(at(lone, c(2)))), all + "lone(2).\n"},
		{"no terms", with(valued(at(mark), -1, 0)), all + "mark = 0.\n"},
		{"a value of two digits", with(valued(at(load, c(1)), -1, 15)), all + "load(1) = 15.\n"},
		{"a value, and a body", with(valued(at(load, v(2)), -1, 10, is(at(lone, v(2))))), all + "load(C) = 10 :- lone(C).\n"},
		{"a value that is handed on", with(valued(at(mark), 0, 12, is(at(mark)))), all + "mark = #0+12 :- mark.\n"},
		{"it is not lifted", with(valued(at(mark), 0, 0, is(at(mark)))), all + "mark = #0+0 :- mark.\n"},
		{"from the last literal", with(valued(at(far, v(1), v(2)), 2, 3, is(at(edge, v(0), v(1))), not(at(edge, v(1), c(3))), is(at(far, v(1), v(2))))), all + "far(B,C) = #2+3 :- edge(A,B), !edge(B,3), far(B,C).\n"},
		{"from the second one", with(valued(at(far, c(0), v(1)), 1, 15, is(at(mark)), chain)), all + "far(0,B) = #1+15 :- mark, far(A,B).\n"},
		{"a body that is Not", with(plain(at(lone, c(0)), not(at(mark)))), all + "lone(0) :- !mark.\n"},
		{"all of it is Not", with(plain(at(lone, c(0)), not(at(mark)), not(at(load, c(1))), not(at(edge, c(1), c(2))))), all + "lone(0) :- !mark, !load(1), !edge(1,2).\n"},
		{"two rules of one", with(plain(at(lone, c(0))), plain(at(lone, c(0)))), all + "lone(0).\nlone(0).\n"},
		{"the longest name", named("abcxyzzz", 0, api.Plain, plain(at(0))), "pred abcxyzzz 0 0\nabcxyzzz.\n"},
		{"the shortest name", named("z", 0, api.Max), "pred z 0 1\n"},
		{"a name that is the word", named("pred", 0, api.Plain, plain(at(0)), plain(at(0), is(at(0)))), "pred pred 0 0\npred.\npred :- pred.\n"},
		{"that one, and a body at once", named("pred", 0, api.Plain, plain(at(0), is(at(0)))), "pred pred 0 0\npred :- pred.\n"},
		{"that one, with terms", named("pred", 1, api.Plain, plain(at(0, c(0)))), "pred pred 1 0\npred(0).\n"},
		{"that one, with values", named("pred", 0, api.Bits, valued(at(0), -1, 3), valued(at(0), 0, 1, is(at(0)))), "pred pred 0 3\npred = 3.\npred = #0+1 :- pred.\n"},
		{"names of which one begins another", api.Prog{Preds: []api.Pred{{Name: "a", Arity: 1}, {Name: "ab", Arity: 1}}, Rules: []api.Rule{plain(at(1, v(0)), is(at(0, v(0))))}}, "pred a 1 0\npred ab 1 0\nab(A) :- a(A).\n"},
		{"the longest one first", api.Prog{Preds: []api.Pred{{Name: "preds"}, {Name: "pred"}, {Name: "pre"}}, Rules: []api.Rule{plain(at(2), is(at(1)), not(at(0)))}}, "pred preds 0 0\npred pred 0 0\npred pre 0 0\npre :- pred, !preds.\n"},
	}
}

type told struct {
	what string
	p    api.Prog
	s    string
}

func TestK1Show(t *testing.T) {
	if len(shown) != 185 {
		t.Errorf("the roads have %d bytes", len(shown))
	}
	for _, x := range texts() {
		if s, e := text.Show(x.p); s != x.s || e != api.OK {
			t.Errorf("%s: Show tells %q, %d, want %q", x.what, s, e, x.s)
		}
	}
}

func TestK1Read(t *testing.T) {
	for _, x := range texts() {
		if p, e := text.Read(x.s); !alike(p, x.p) || e != api.OK {
			t.Errorf("%s: Read of %q tells %v, %d, want %v", x.what, x.s, p, e, x.p)
		}
	}
}

func TestK1ReadMany(t *testing.T) {
	most := strings.Repeat("x", api.MaxBytes)
	readError(t, "as many bytes as there may be", most, api.ErrForm)
	readError(t, "a byte more", most+"x", api.ErrMany)
	readError(t, "a right program, and too many bytes", shown+most, api.ErrMany)
	readError(t, "line feeds", strings.Repeat("\n", api.MaxBytes+1), api.ErrMany)
	readError(t, "very many bytes", strings.Repeat(shown, 1<<12), api.ErrMany)
	readError(t, "as many as there may be of predicates", strings.Repeat("pred a 0 0\n", api.MaxBytes/11), api.ErrForm)
	readError(t, "as many as there may be of rules", "pred a 0 0\n"+strings.Repeat("a.\n", (api.MaxBytes-11)/3), api.ErrForm)
	readError(t, "a long name", "pred "+strings.Repeat("a", api.MaxBytes-10)+" 0 0\n", api.ErrForm)
	readError(t, "a long number", "pred a "+strings.Repeat("1", api.MaxBytes-10)+" 0\n", api.ErrForm)
}

// wrongRules are lines that are shown of no rule, each by itself behind all predicates.
const wrongRules = `lone(1)
lone(1) .
lone(1)..
lone (1).
lone( 1).
lone(1 ).
lone(1.
lone1).
lone1.
lone[1].
lone(1))
(1).
lone(1);
!lone(1).
lone(1).lone(1).
lone(5).
lone(-1).
lone(01).
lone(00).
lone(10).
lone(a) :- lone(a).
lone(D) :- lone(D).
lone(AA) :- lone(AA).
lone(A0) :- lone(A0).
lone(@) :- lone(@).
lone(Z) :- lone(Z).
lone(#).
lone(4294967296).
lone.
lone().
lone(1,2).
lone(1,).
lone(,1).
edge.
edge(1).
edge(1,2,3).
edge(1 2).
edge(1, 2).
edge(1;2).
edge(12).
mark() = 1.
mark(1) = 1.
lon(1).
lones(1).
x.
lone(1) :- x.
pred.
pred = 1.
pred :- mark.
Lone(1).
lone(1) :- !x(1).
mark.
mark :- lone(1).
mark = .
mark =1.
mark= 1.
mark=1.
mark1.
mark 1.
mark#0+1 :- mark.
mark  = 1.
mark =  1.
mark = 01.
mark = 00.
mark = -1.
mark = +1.
mark = 16.
mark = 100.
mark = A.
mark = 1 = 1.
mark = 1 .
mark = 4294967297.
mark = 18446744073709551617.
mark = 1000000.
lone(1) = 0.
lone(1) = 1.
lone(1) = #0+0 :- lone(1).
mark = 0x1.
mark = 1_0.
mark = #0+1.
mark = #0 :- mark.
mark = #0+ :- mark.
mark = #+1 :- mark.
mark = # 0+1 :- mark.
mark = #0 + 1 :- mark.
mark = #0+1+1 :- mark.
mark = 0+1 :- mark.
mark = ##0+1 :- mark.
mark = #00+1 :- mark.
mark = #0+01 :- mark.
mark = #0+16 :- mark.
mark = #1+1 :- mark.
mark = #-1+1 :- mark.
mark = #0-1 :- mark.
mark = #A+1 :- mark.
mark = #0+1 :- load(1).
mark = #0+1 :- lone(1).
mark = #0+1 :- !load(1).
mark = #3+1 :- mark, mark, mark.
load(1) = #0+1 :- !mark.
lone(1) :- .
lone(1) :-.
lone(1) : - mark.
lone(1):- mark.
lone(1) :-mark.
lone(1) :- mark
lone(1) :- mark .
lone(1)  :- mark.
lone(1) :-  mark.
lone(1) :- mark,mark.
lone(1) :- mark,  mark.
lone(1) :- mark , mark.
lone(1) :- mark, .
lone(1) :- , mark.
lone(1) :- mark mark.
lone(1) :- mark :- mark.
lone(1), mark :- mark.
lone(1), mark.
lone(1) :- ! mark.
lone(1) :- !!mark.
lone(1) :- !.
lone(1) :- mark!.
lone(1) :- mark = 1.
lone(1) :- mark, mark, mark, mark.
lone(1) :- mark; mark.
lone(1) <- mark.
lone(A).
lone(A) :- lone(B).
lone(A) :- !lone(A).
lone(A) :- lone(A), !edge(A,B).
lone(0) :- !lone(0).
`

// TestK1ReadForm has texts that are shown of no right program.
func TestK1ReadForm(t *testing.T) {
	for line := range strings.Lines(wrongRules) {
		readError(t, "no rule", all+line, api.ErrForm)
	}
	for _, x := range []struct {
		what  string
		texts []string
	}{
		{"no line of a program", []string{
			"\n", " ", "x", "x\n", ".", ".\n", "%\n", "\x00", "\xff\xfe\n",
			"\n" + shown, " " + shown, shown + "\n", shown + " ", shown + "x", shown + "\x00", shown + shown,
		}},
		{"a line without its end", []string{
			"pred a 0 0", "pred a 0 0\npred b 0 0", "pred a 0 0\na", "pred a 0 0\na.", shown[:len(shown)-1], shown[:len(shown)-2],
			"pred a 0 0\r\n", "pred a 0 0\na.\r\n",
		}},
		{"no predicate", []string{
			"pred\n", "pred \n", "pred a\n", "pred a 0\n", "pred a 0 0 0\n", "pred a 0 0.\n",
			"pred  a 0 0\n", "pred a  0 0\n", "pred a 0  0\n", "pred a 0 0 \n", " pred a 0 0\n", "pred a\t0\t0\n",
			"pred a 00 0\n", "pred a 0 00\n", "pred a 01 0\n", "pred a 0 -0\n", "pred a +1 0\n", "pred a 0x1 0\n", "pred a A 0\n",
			"Pred a 0 0\n", "preda 0 0\n", "pred a0 0\n", "pred a 0 0\n\n",
		}},
		{"predicates that may not be", []string{
			"pred  0 0\n", "pred A 0 0\n", "pred aB 0 0\n", "pred a_b 0 0\n", "pred a1 0 0\n", "pred ä 0 0\n", "pred abcdefghi 0 0\n",
			"pred a 3 0\n", "pred a 0 4\n", "pred a 10 0\n", "pred a 0 10\n",
			"pred a 1000000 0\n", "pred a 4294967296 0\n", "pred a 0 18446744073709551616\n",
			"pred a 0 0\npred a 0 0\n", "pred a 0 0\npred b 0 0\npred a 1 1\n", all + "pred z 0 0\n",
		}},
		{"rules ahead of predicates", []string{
			"a.\n", "a.\npred a 0 0\n", "pred a 0 0\na.\npred b 0 0\n", "pred pred 0 0\npred.\npred a 0 0\n",
		}},
		{"blanks and line feeds", []string{
			all + " lone(1).\n", all + "lone(1). \n", all + "lone(1).\n\n", all + "\nlone(1).\n", all + "lone(1)\n.\n", all + "lone(1) :- mark,\nmark.\n",
		}},
		{"programs that may not be", []string{
			all + "lone(0) :- mark.\nmark = 1 :- !lone(0).\n", all + strings.Repeat("lone(0).\n", 9),
		}},
	} {
		for _, s := range x.texts {
			readError(t, x.what, s, api.ErrForm)
		}
	}
}

func TestK2(t *testing.T) {
	for _, x := range []struct {
		what string
		f    []api.Fact
		want string
	}{
		{"no facts", nil, ""},
		{"two terms", facts([4]int{edge, 0, 4}), "edge(0,4).\n"},
		{"one term", facts([4]int{lone, 3}), "lone(3).\n"},
		{"a value", facts([4]int{load, 3, 0, 15}), "load(3) = 15.\n"},
		{"no terms", facts([4]int{mark, 0, 0, 9}), "mark = 9.\n"},
		{"value 0", facts([4]int{far}, [4]int{load}, [4]int{mark}), "far(0,0) = 0.\nload(0) = 0.\nmark = 0.\n"},
		{"in their order", facts([4]int{edge, 1, 2}, [4]int{edge, 2, 1}, [4]int{far, 0, 0, 10}, [4]int{far, 0, 4, 2}, [4]int{lone}), "edge(1,2).\nedge(2,1).\nfar(0,0) = 10.\nfar(0,4) = 2.\nlone(0).\n"},
	} {
		if s, e := text.Facts(with(), x.f); s != x.want || e != api.OK {
			t.Errorf("%s: Facts tells %q, %d, want %q", x.what, s, e, x.want)
		}
	}
	bare := api.Prog{Preds: []api.Pred{{Name: "a"}}, Rules: []api.Rule{plain(at(0))}}
	if s, e := text.Facts(bare, facts([4]int{})); s != "a.\n" || e != api.OK {
		t.Errorf("neither terms nor a value: Facts tells %q, %d", s, e)
	}
	if s, e := text.Facts(bare, nil); s != "" || e != api.OK {
		t.Errorf("what rules tell is not handed in: Facts tells %q, %d", s, e)
	}
}

func TestK2Errors(t *testing.T) {
	for _, x := range []struct {
		what string
		f    []api.Fact
	}{
		{"no such predicate", facts([4]int{load})},
		{"predicate -1", facts([4]int{-1})},
		{"the least predicate", facts([4]int{math.MinInt})},
		{"constant 5", facts([4]int{edge, 5})},
		{"constant -1", facts([4]int{edge, 0, -1})},
		{"a second one of lone", facts([4]int{lone, 0, 1})},
		{"a value of a plain one", facts([4]int{edge, 0, 0, 1})},
		{"value 16", facts([4]int{far, 0, 0, 16})},
		{"value -1", facts([4]int{far, 0, 0, -1})},
		{"they do not rise", facts([4]int{edge, 1}, [4]int{edge, 0})},
		{"one twice", facts([4]int{far, 0, 0, 1}, [4]int{far, 0, 0, 2})},
		{"the last one", facts([4]int{edge}, [4]int{lone}, [4]int{lone, 5})},
		{"many facts", make([]api.Fact, 1<<16)},
	} {
		factsError(t, x.what, roads(), x.f, api.ErrForm)
	}
	factsError(t, "nothing at all", api.Prog{}, make([]api.Fact, 1), api.ErrForm)
}

// draw: numbers, the same each time.
type draw uint64

func (d *draw) n(n int) int {
	*d = *d*6364136223846793005 + 1442695040888963407
	return int(uint64(*d) >> 33 % uint64(n))
}

// drawnAtom of a predicate: of ten terms so many are constants.
func drawnAtom(r *draw, pred, consts int) api.Atom {
	a := api.Atom{Pred: pred}
	for range preds()[pred].Arity {
		if r.n(10) < consts {
			a.Args = append(a.Args, c(r.n(api.MaxConst+1)))
		} else {
			a.Args = append(a.Args, v(r.n(api.MaxVars)))
		}
	}
	return a
}

// drawnRule of a predicate leans mostly on what other rules tell, and hands a value on, where it can; of ten literals so many are Not.
func drawnRule(r *draw, others []api.Rule, pred, nots int) api.Rule {
	x := api.Rule{Head: drawnAtom(r, pred, 2), From: -1, N: r.n(4)}
	for i := range 1 + r.n(api.MaxBody) {
		y := api.Lit{Not: r.n(10) < nots, Atom: drawnAtom(r, others[r.n(len(others))].Head.Pred, 1)}
		if r.n(3) == 0 {
			y.Atom = drawnAtom(r, r.n(none), 1)
		}
		x.Body = append(x.Body, y)
		if y.Atom.Pred == pred && r.n(4) > 0 {
			x.From = i
		}
	}
	if preds()[pred].Kind == api.Plain {
		x.From, x.N = -1, 0
	}
	return x
}

// givenRule tells a fact.
func givenRule(r *draw, pred int) api.Rule {
	x := plain(drawnAtom(r, pred, 10))
	if preds()[pred].Kind != api.Plain {
		x.N = r.n(api.MaxVal + 1)
	}
	return x
}

// drawnProg tells a program that is right: some rules that tell facts, and others.
func drawnProg(r *draw, nots int) api.Prog {
	p := with()
	given := 1 + r.n(4)
	all := given + 1 + r.n(api.MaxRules-given)
	for len(p.Rules) < all {
		pred := r.n(none)
		next := func() api.Prog {
			if len(p.Rules) < given {
				return with(append(slices.Clone(p.Rules), givenRule(r, pred))...)
			}
			return with(append(slices.Clone(p.Rules), drawnRule(r, p.Rules, pred, nots))...)
		}
		q := next()
		for prog.Check(q) != api.OK {
			q = next()
		}
		p = q
	}
	return p
}

// TestK3 reads what was shown.
func TestK3(t *testing.T) {
	r := draw(3)
	for i := range 2000 {
		p := drawnProg(&r, i%5)
		s, e := text.Show(p)
		if e != api.OK {
			t.Fatalf("%d: Show of %v tells %d", i, p, e)
		}
		if q, e := text.Read(s); !alike(p, q) || e != api.OK {
			t.Fatalf("%d: Read of %q tells %v, %d, want %v", i, s, q, e, p)
		}
	}
}

// nothingElse asks whether s is read only if that is how a program is shown.
func nothingElse(t *testing.T, s string) api.Errno {
	t.Helper()
	p, e := text.Read(s)
	if e != api.OK {
		readError(t, "turned", s, api.ErrForm)
		return e
	}
	if again, e := text.Show(p); again != s || e != api.OK {
		t.Errorf("Read of %q tells %v, which Show tells as %q, %d", s, p, again, e)
	}
	return e
}

// TestK3Turned turns texts in each place: a byte is left out, or laid there, or another one.
func TestK3Turned(t *testing.T) {
	const signs = "0123456789ABCDZaefprz(),.!:-=#+ \n\t\r\x00\x80\xff"
	have := map[api.Errno]int{}
	for _, x := range texts() {
		for i := range x.s {
			have[nothingElse(t, x.s[:i]+x.s[i+1:])]++
			for k := range signs {
				have[nothingElse(t, x.s[:i]+signs[k:k+1]+x.s[i:])]++
				have[nothingElse(t, x.s[:i]+signs[k:k+1]+x.s[i+1:])]++
			}
		}
	}
	if have[api.OK] < 500 || have[api.ErrForm] < 50000 {
		t.Errorf("%v: too few to tell", have)
	}
}

// TestK3Lines lays lines in another order, and leaves some out.
func TestK3Lines(t *testing.T) {
	r := draw(5)
	have := map[api.Errno]int{}
	for range 2000 {
		s, _ := text.Show(drawnProg(&r, 3))
		lines := strings.SplitAfter(s, "\n")
		for range 1 + r.n(2) {
			i, k := r.n(len(lines)), r.n(len(lines))
			lines[i], lines[k] = lines[k], lines[i]
		}
		if r.n(2) == 0 {
			k := r.n(len(lines))
			lines = slices.Delete(lines, k, k+1)
		}
		have[nothingElse(t, strings.Join(lines, ""))]++
	}
	if have[api.OK] < 200 || have[api.ErrForm] < 200 {
		t.Errorf("%v: too few to tell", have)
	}
}

// TestP1 reads bytes, whatever they are.
func TestP1(t *testing.T) {
	const signs = "pred a0A1B(),.!:-=#+ \n"
	r := draw(7)
	for range 5000 {
		var b []byte
		for range r.n(60) {
			b = append(b, signs[r.n(len(signs))])
		}
		nothingElse(t, string(b))
		nothingElse(t, "pred a 0 0\n"+string(b))
		nothingElse(t, "pred a 1 1\n"+string(b)+"\n")
	}
	for n := range 256 {
		nothingElse(t, string([]byte{byte(n)}))
		nothingElse(t, shown+string([]byte{byte(n)}))
	}
}

// room lays a list ahead of spare room, which is marked, so that a write there is seen.
func room[T any](l []T, mark T) []T {
	return append(append(make([]T, 0, len(l)+2), l...), mark, mark)[:len(l)]
}

// roomy is a program all of whose lists have spare room.
func roomy(p api.Prog) api.Prog {
	for i, r := range p.Rules {
		p.Rules[i].Head.Args = room(r.Head.Args, c(77))
		for k, x := range r.Body {
			r.Body[k].Atom.Args = room(x.Atom.Args, c(77))
		}
		p.Rules[i].Body = room(r.Body, not(at(77)))
	}
	p.Preds = room(p.Preds, api.Pred{Name: "spare"})
	p.Rules = room(p.Rules, api.Rule{N: 77})
	return p
}

// spread is all of a program's lists, with their spare room.
func spread(p api.Prog) []any {
	out := []any{p.Preds[:cap(p.Preds)], p.Rules[:cap(p.Rules)]}
	for _, r := range p.Rules {
		out = append(out, r.Head.Args[:cap(r.Head.Args)], r.Body[:cap(r.Body)])
		for _, x := range r.Body {
			out = append(out, x.Atom.Args[:cap(x.Atom.Args)])
		}
	}
	return out
}

// apart writes into each list of an answer in turn, its spare room too: no other list may change by it.
func apart(t *testing.T, what string, answer func() api.Prog) {
	t.Helper()
	lists := func(p api.Prog) (terms [][]api.Term, bodies [][]api.Lit) {
		for _, r := range p.Rules {
			terms, bodies = append(terms, r.Head.Args), append(bodies, r.Body)
			for _, x := range r.Body {
				terms = append(terms, x.Atom.Args)
			}
		}
		return terms, bodies
	}
	want, wantBodies := lists(answer())
	for i := range want {
		have, _ := lists(answer())
		spoil(have[i], c(77))
		have[i] = want[i]
		if !reflect.DeepEqual(have, want) {
			t.Errorf("%s: the terms are %v, want %v", what, have, want)
		}
	}
	for i := range wantBodies {
		_, have := lists(answer())
		spoil(have[i], not(at(77)))
		have[i] = wantBodies[i]
		if !reflect.DeepEqual(have, wantBodies) {
			t.Errorf("%s: the bodies are %v, want %v", what, have, wantBodies)
		}
	}
}

// spoil a list, and its spare room.
func spoil[T any](l []T, mark T) {
	for i := range l[:cap(l)] {
		l[:cap(l)][i] = mark
	}
}

func TestP2OnlyRead(t *testing.T) {
	for _, lay := range []func() api.Prog{roads, winding, func() api.Prog { return with(roads().Rules[6]) }, func() api.Prog { return with(plain(at(none))) }} {
		for _, f := range [][]api.Fact{nil, facts([4]int{edge, 0, 1}, [4]int{far, 0, 1, 3}, [4]int{lone, 2}), facts([4]int{9})} {
			layToo := func() []api.Fact { return room(f, api.Fact{Pred: 77}) }
			p, have := roomy(lay()), layToo()
			text.Show(p)
			text.Facts(p, have)
			if !reflect.DeepEqual(spread(p), spread(roomy(lay()))) {
				t.Errorf("the program is %v", spread(p))
			}
			if !slices.Equal(have[:cap(have)], layToo()[:cap(have)]) {
				t.Errorf("the facts are %v", have[:cap(have)])
			}
		}
	}
}

func TestP2NewMemory(t *testing.T) {
	for _, x := range texts() {
		apart(t, x.what, func() api.Prog { p, _ := text.Read(x.s); return p })
		p, _ := text.Read(x.s)
		q, _ := text.Read(x.s)
		clear(p.Preds)
		clear(p.Rules)
		if !alike(q, x.p) {
			t.Errorf("%s: a change of an answer was seen in another one: %v", x.what, q)
		}
	}
}

// TestP3 asks the same between others: they may not be seen in it.
func TestP3(t *testing.T) {
	for range 3 {
		if s, e := text.Show(roads()); s != shown || e != api.OK {
			t.Errorf("Show tells %q, %d", s, e)
		}
		if p, e := text.Read(shown); !alike(p, roads()) || e != api.OK {
			t.Errorf("Read tells %v, %d", p, e)
		}
		if s, e := text.Facts(roads(), facts([4]int{far, 3, 1, 2})); s != "far(3,1) = 2.\n" || e != api.OK {
			t.Errorf("Facts tells %q, %d", s, e)
		}
		tellError(t, "no name", api.Prog{Preds: make([]api.Pred, 1)}, api.ErrName)
		readError(t, "a half", shown[:90], api.ErrForm)
		text.Read(all)
		text.Show(winding())
		text.Facts(with(), facts([4]int{mark, 0, 0, 5}))
	}
}
