package desk_test

import (
	"slices"
	"strconv"
	"strings"
	"testing"

	"treillage/api"
	"treillage/ask"
	"treillage/desk"
	"treillage/naive"
	"treillage/prog"
	"treillage/semi"
	"treillage/text"
	"treillage/trace"
)

func v(n int) api.Term { return api.Term{Var: true, N: n} }

func c(n int) api.Term { return api.Term{N: n} }

func at(pred int, l ...api.Term) api.Atom { return api.Atom{Pred: pred, Args: l} }

func is(a api.Atom) api.Lit { return api.Lit{Atom: a} }

func not(a api.Atom) api.Lit { return api.Lit{Not: true, Atom: a} }

// plain is a rule whose value is 0.
func plain(head api.Atom, body ...api.Lit) api.Rule {
	return api.Rule{Head: head, From: -1, Body: body}
}

// valued is a rule whose value is n, lifting that of a literal or (from -1) by itself.
func valued(head api.Atom, from, n int, body ...api.Lit) api.Rule {
	return api.Rule{Head: head, From: from, N: n, Body: body}
}

// Numbers of the predicates of roads, and of shelves.
const (
	edge = iota
	far
	lone
	load
	mark
	none // there is no such one
)

// roads: edges; far: how far at least; lone: which of them nobody comes back to.
func roads() api.Prog {
	return api.Prog{
		Preds: preds()[:load],
		Rules: []api.Rule{
			plain(at(edge, c(0), c(1))),
			plain(at(edge, c(1), c(2))),
			plain(at(edge, c(2), c(0))),
			plain(at(edge, c(3), c(0))),
			valued(at(far, v(0), v(1)), -1, 1, is(at(edge, v(0), v(1)))),
			valued(at(far, v(0), v(2)), 0, 1, is(at(far, v(0), v(1))), is(at(edge, v(1), v(2)))),
			plain(at(lone, v(0)), is(at(edge, v(0), v(1))), not(at(far, v(0), v(0)))),
		},
	}
}

func preds() []api.Pred {
	return []api.Pred{
		edge: {Name: "edge", Arity: 2},
		far:  {Name: "far", Arity: 2, Kind: api.Min},
		lone: {Name: "lone", Arity: 1},
		load: {Name: "load", Arity: 1, Kind: api.Max},
		mark: {Name: "mark", Kind: api.Bits},
	}
}

// with is a program of all predicates, and some rules.
func with(l ...api.Rule) api.Prog { return api.Prog{Preds: preds(), Rules: l} }

// winding is a program whose rounds are many: each value goes through all 25 facts of far ahead of the next one.
func winding() api.Prog {
	p := with(
		plain(at(edge, c(0), c(1))),
		plain(at(edge, c(1), c(2))),
		plain(at(edge, c(2), c(3))),
		plain(at(edge, c(3), c(4))),
		valued(at(far, c(0), c(0)), -1, 0),
		valued(at(far, v(0), v(2)), 0, 0, is(at(far, v(0), v(1))), is(at(edge, v(1), v(2)))),
		valued(at(far, v(1), c(0)), 0, 0, is(at(far, v(0), c(4))), is(at(edge, v(0), v(1)))),
		valued(at(far, c(0), c(0)), 0, 1, is(at(far, c(4), c(4)))),
	)
	p.Preds[far].Kind = api.Max
	return p
}

// shown is a program as text, which is right.
func shown(t *testing.T, p api.Prog) string {
	t.Helper()
	s, e := text.Show(p)
	if e != api.OK {
		t.Fatalf("Show of %v tells %d", p, e)
	}
	return s
}

// giveError asks Play for an error: with it, there are no lines.
func giveError(t *testing.T, what, s, script string, want api.Errno) {
	t.Helper()
	if l, e := desk.Play(s, script); l != "" || e != want {
		t.Errorf("%s: Play of %.60q tells %.60q, %d, want %d", what, script, l, e, want)
	}
}

// give asks Play for lines; each line of a script stands ahead of what it gives, a > between.
func give(t *testing.T, what, s string, pairs ...string) {
	t.Helper()
	script, want := "", ""
	for _, x := range pairs {
		line, given, _ := strings.Cut(x, ">")
		script, want = script+line+"\n", want+given+"\n"
	}
	if l, e := desk.Play(s, script); l != want || e != api.OK {
		t.Errorf("%s: Play of %q tells %q, %d, want %q", what, script, l, e, want)
	}
}

func TestM1(t *testing.T) {
	s := shown(t, roads())
	whole := shown(t, with(
		plain(at(edge, c(0), c(1))),
		plain(at(edge, c(1), c(1))),
		valued(at(load, v(1)), -1, 3, is(at(edge, v(0), v(1)))),
		valued(at(load, v(0)), 0, 5, is(at(load, v(0)))),
		valued(at(mark), -1, 9, is(at(load, c(1)))),
		plain(at(lone, c(2)), not(at(load, c(2)))),
		valued(at(mark), -1, 2, is(at(lone, c(2)))),
		valued(at(far, c(0), v(0)), -1, 15, is(at(lone, v(0)))),
	))
	give(t, "no lines", s)
	give(t, "example 13", s, "drop 3>ok", "model>12")
	give(t, "model", s, "model>17")
	give(t, "strata", s, "strata>0 0 1")
	give(t, "rounds", s, "rounds>4 1")
	give(t, "steps", s, "steps>17 21")
	give(t, "all of them", whole, "model>6", "strata>0 1 1 0 1", "rounds>5 2", "steps>10 12")
	give(t, "nothing at all", "", "model>0", "strata>", "rounds>", "steps>0 0", "ask a>error 1", "drop 0>error 7")
	give(t, "no rules", shown(t, with()), "model>0", "strata>0 0 0 0 0", "rounds>0", "steps>0 0", "ask mark>none", "ask edge(A,B)>none", "drop 0>error 7")
	give(t, "one over and over", s, "model>17", "model>17", "steps>17 21", "steps>17 21", "model>17")
	give(t, "ask", whole, "ask edge(A,B)>edge(0,1); edge(1,1)", "ask edge(A,A)>edge(1,1)", "ask edge(C,1)>edge(0,1); edge(1,1)",
		"ask edge(0,B)>edge(0,1)", "ask edge(0,1)>edge(0,1)", "ask edge(1,0)>none", "ask load(A)>load(1) = 15", "ask load(4)>none", "ask mark>mark = 11", "ask lone(B)>lone(2)", "ask far(A,B)>far(0,2) = 15")
	give(t, "ask of roads", s, "ask lone(A)>lone(3)", "ask lone(3)>lone(3)", "ask lone(0)>none", "ask far(A,A)>far(0,0) = 3; far(1,1) = 3; far(2,2) = 3", "ask far(3,C)>far(3,0) = 1; far(3,1) = 2; far(3,2) = 3")
}

func TestM1Drop(t *testing.T) {
	s := shown(t, roads())
	give(t, "rules have new numbers then", s, "drop 0>ok", "ask edge(A,B)>edge(1,2); edge(2,0); edge(3,0)", "drop 0>ok", "ask edge(A,B)>edge(2,0); edge(3,0)", "drop 1>ok", "ask edge(A,B)>edge(2,0)", "model>3")
	give(t, "what there is not is not dropped", s, "drop 7>error 7", "model>17", "drop 6>ok", "drop 6>error 7", "model>16", "ask lone(A)>none", "drop 999999>error 7", "model>16")
	give(t, "all are dropped", s, "drop 6>ok", "drop 5>ok", "drop 4>ok", "drop 3>ok", "drop 2>ok", "drop 1>ok", "drop 0>ok", "drop 0>error 7", "model>0", "rounds>0", "steps>0 0", "strata>0 0 0")
	give(t, "strata become less", s, "strata>0 0 1", "rounds>4 1", "drop 6>ok", "strata>0 0 0", "rounds>4", "steps>16 20")
	give(t, "a Not that is dropped", s, "drop 4>ok", "model>8", "ask lone(A)>lone(0); lone(1); lone(2); lone(3)")
	give(t, "another script begins anew", s, "model>17")
}

// TestM1Form has lines that are none of those that there are.
func TestM1Form(t *testing.T) {
	s := shown(t, roads())
	all := shown(t, with())
	for _, line := range []string{
		"", " ", "x", "model ", " model", "Model", "models", "mode", "model 1", "model\r", "model\tx", "model\x00", "\xff",
		"strata ", "strata 0", "rounds ", "round", "rounds 1", "steps ", "step", "steps 2",
		"ask", "ask ", "ask  ", "asklone(A)", "Ask lone(A)", "ask\tlone(A)", "ask  lone(A)", "ask lone(A) ", "ask lone(A).", "ask lone(A),", "ask !lone(A)", "ask lone(A), lone(B)",
		"ask x", "ask x(A)", "ask lon(A)", "ask lones(A)", "ask Lone(A)", "ask 0", "ask A", "ask (A)",
		"ask lone", "ask lone()", "ask lone(A,B)", "ask lone(A", "ask loneA)", "ask lone A", "ask lone (A)", "ask lone( A)", "ask lone(A )",
		"ask far(A)", "ask far", "ask far(A,B,C)", "ask far(A, B)", "ask far(A B)", "ask far(A,)", "ask far(,A)", "ask far(A,B)=1", "ask far(A,B) = 1", "ask far(0,1) = 1",
		"ask lone(D)", "ask lone(Z)", "ask lone(a)", "ask lone(5)", "ask lone(9)", "ask lone(10)", "ask lone(00)", "ask lone(01)", "ask lone(-1)", "ask lone(+1)", "ask lone(AA)", "ask lone(#)", "ask far(A,5)", "ask far(A,D)", "ask lone(1000000)",
		"drop", "drop ", "drop  0", "drop 0 ", "drop x", "drop -1", "drop +1", "drop 00", "drop 01", "drop 007", "drop 1000000", "drop 0000000", "drop 18446744073709551616", "drop 0x1", "drop 0 1", "drop A", "drop0", "Drop 0", "drop 1.", "drop 1_0",
	} {
		give(t, "no such line", s, line+">error 1")
		give(t, "no such line, between others", s, "model>17", line+">error 1", "model>17", "drop 3>ok", line+">error 1", "model>12")
	}
	give(t, "no terms", all, "ask mark()>error 1", "ask mark(A)>error 1", "ask mark(0)>error 1", "ask mark >error 1", "ask mark>none", "ask mark = 0>error 1")
	give(t, "the greatest number", s, "drop 999999>error 7", "drop 100000>error 7", "drop 1000000>error 1", "drop 10>error 7")
}

// wrongTexts are programs as text that text.Read tells an error of.
func wrongTexts() []wrongText {
	return []wrongText{
		{"no program", "x", api.ErrForm},
		{"a line feed", "\n", api.ErrForm},
		{"no such predicate", "a.\n", api.ErrForm},
		{"a free variable", "pred a 1 0\na(A).\n", api.ErrForm},
		{"a round", "pred a 0 0\na :- !a.\n", api.ErrForm},
		{"many bytes", strings.Repeat("x", api.MaxBytes+1), api.ErrMany},
		{"very many bytes", strings.Repeat("pred a 0 0\n", 1<<16), api.ErrMany},
	}
}

type wrongText struct {
	what, s string
	want    api.Errno
}

// TestM1Errors asks for the errors of a program ahead of those of a script, and of these for ErrMany ahead of ErrForm.
func TestM1Errors(t *testing.T) {
	s := shown(t, roads())
	most := strings.Repeat("x", api.MaxBytes)
	for _, x := range []struct {
		what, script string
		want         api.Errno
	}{
		{"a byte too many", most[1:] + "\n\n", api.ErrMany},
		{"a byte too many, and no line feed", most + "x", api.ErrMany},
		{"very many bytes", strings.Repeat("model\n", 1<<16), api.ErrMany},
		{"a line too many", strings.Repeat("model\n", api.MaxLines+1), api.ErrMany},
		{"line feeds", strings.Repeat("\n", api.MaxLines+1), api.ErrMany},
		{"a line too many, and no line feed", strings.Repeat("\n", api.MaxLines+1) + "x", api.ErrMany},
		{"no line feed", "model", api.ErrForm},
		{"no line feed behind the last", "model\nmodel", api.ErrForm},
		{"no line feed behind a blank", "model\n ", api.ErrForm},
		{"no line feed, and as many lines as there may be", strings.Repeat("\n", api.MaxLines) + "x", api.ErrForm},
		{"no line feed, and as many bytes as there may be", most, api.ErrForm},
		{"another sign behind it", "model\n\x00", api.ErrForm},
	} {
		giveError(t, x.what, s, x.script, x.want)
		giveError(t, x.what+", nothing at all", "", x.script, x.want)
		for _, y := range wrongTexts() {
			giveError(t, y.what+", and "+x.what, y.s, x.script, y.want)
		}
	}
	for _, y := range wrongTexts() {
		giveError(t, y.what, y.s, "", y.want)
		giveError(t, y.what, y.s, "model\n", y.want)
	}
}

// TestM2 plays as many lines as there may be, and as many bytes.
func TestM2(t *testing.T) {
	s := shown(t, roads())
	give(t, "as many lines as there may be", s, slices.Repeat([]string{"model>17"}, api.MaxLines)...)
	give(t, "as many empty lines", s, slices.Repeat([]string{">error 1"}, api.MaxLines)...)
	give(t, "as many bytes as there may be", s, strings.Repeat("x", api.MaxBytes-1)+">error 1")
	give(t, "a long atom", s, "ask "+strings.Repeat("a", api.MaxBytes-5)+">error 1")
	give(t, "a long number", s, "drop "+strings.Repeat("1", api.MaxBytes-6)+">error 1")
	give(t, "errors and others", s, "x>error 1", "model>17", ">error 1", "drop 9>error 7", "drop 0>ok", "ask edge(0,A)>none", "ask>error 1", "strata>0 0 1")
}

// draw: numbers, the same each time.
type draw uint64

func (d *draw) n(n int) int {
	*d = *d*6364136223846793005 + 1442695040888963407
	return int(uint64(*d) >> 33 % uint64(n))
}

// drawnAtom of a predicate: of ten terms so many are constants.
func drawnAtom(r *draw, pred, consts int) api.Atom {
	a := api.Atom{Pred: pred}
	for range preds()[pred].Arity {
		if r.n(10) < consts {
			a.Args = append(a.Args, c(r.n(api.MaxConst+1)))
		} else {
			a.Args = append(a.Args, v(r.n(api.MaxVars)))
		}
	}
	return a
}

// drawnRule of a predicate leans mostly on what other rules tell, and hands a value on, where it can; of ten literals so many are Not.
func drawnRule(r *draw, others []api.Rule, pred, nots int) api.Rule {
	x := api.Rule{Head: drawnAtom(r, pred, 2), From: -1, N: r.n(4)}
	for i := range 1 + r.n(api.MaxBody) {
		y := api.Lit{Not: r.n(10) < nots, Atom: drawnAtom(r, others[r.n(len(others))].Head.Pred, 1)}
		if r.n(3) == 0 {
			y.Atom = drawnAtom(r, r.n(none), 1)
		}
		x.Body = append(x.Body, y)
		if y.Atom.Pred == pred && r.n(4) > 0 {
			x.From = i
		}
	}
	if preds()[pred].Kind == api.Plain {
		x.From, x.N = -1, 0
	}
	return x
}

// givenRule tells a fact.
func givenRule(r *draw, pred int) api.Rule {
	x := plain(drawnAtom(r, pred, 10))
	if preds()[pred].Kind != api.Plain {
		x.N = r.n(api.MaxVal + 1)
	}
	return x
}

// drawnProg tells a program that is right: some rules that tell facts, and others.
func drawnProg(r *draw, nots int) api.Prog {
	p := with()
	given := 1 + r.n(4)
	all := given + 1 + r.n(api.MaxRules-given)
	for len(p.Rules) < all {
		pred := r.n(none)
		next := func() api.Prog {
			if len(p.Rules) < given {
				return with(append(slices.Clone(p.Rules), givenRule(r, pred))...)
			}
			return with(append(slices.Clone(p.Rules), drawnRule(r, p.Rules, pred, nots))...)
		}
		q := next()
		for prog.Check(q) != api.OK {
			q = next()
		}
		p = q
	}
	return p
}

// answer tells what a line gives, by the calls of the chapters, and the program from then on.
func answer(p api.Prog, what int, a api.Atom, n int) (line, given string, next api.Prog) {
	list := func(l []int) string {
		out := ""
		for _, x := range l {
			out += " " + strconv.Itoa(x)
		}
		return strings.TrimPrefix(out, " ")
	}
	switch what {
	case 0:
		f, _ := naive.Model(p)
		return "model", strconv.Itoa(len(f)), p
	case 1:
		l, _ := prog.Strata(p)
		return "strata", list(l), p
	case 2:
		l, _ := naive.Rounds(p)
		return "rounds", list(l), p
	case 3:
		l, _ := trace.Trace(p)
		_, held, _ := semi.Model(p)
		return "steps", list([]int{len(l), held}), p
	case 4:
		if line = "drop " + strconv.Itoa(n); n >= len(p.Rules) {
			return line, "error 7", p
		}
		return line, "ok", with(slices.Delete(slices.Clone(p.Rules), n, n+1)...)
	}
	f, _ := naive.Model(p)
	f, _ = ask.Match(p, f, a)
	for _, x := range f {
		s, _ := text.Facts(p, []api.Fact{x})
		given += strings.TrimSuffix(s, ".\n") + "; "
	}
	if given == "" {
		given = "none"
	}
	return "ask " + atomText(a), strings.TrimSuffix(given, "; "), p
}

// atomText shows an atom as the head of a rule that needs it.
func atomText(a api.Atom) string {
	p := with(plain(a, is(a)))
	for i := range p.Preds {
		p.Preds[i].Kind = api.Plain
	}
	s, _ := text.Show(p)
	s, _, _ = strings.Cut(s, " :- ")
	return s[strings.LastIndex(s, "\n")+1:]
}

// TestM1Drawn plays drawn scripts of drawn programs.
func TestM1Drawn(t *testing.T) {
	r := draw(3)
	facts := 0
	for i := range 600 {
		first := drawnProg(&r, i%4)
		p, s := first, shown(t, first)
		var pairs []string
		for range r.n(12) {
			pred := first.Rules[r.n(len(first.Rules))].Head.Pred // mostly there is something to tell of it
			line, given, next := answer(p, r.n(8), drawnAtom(&r, pred, 2), r.n(9))
			pairs, p = append(pairs, line+">"+given), next
			facts += strings.Count(given, ";")
		}
		give(t, "drawn", s, pairs...)
	}
	if facts < 100 {
		t.Errorf("%d: too few to tell", facts)
	}
}

// TestP1 plays bytes, whatever they are, and a program whose rounds are many.
func TestP1(t *testing.T) {
	s := shown(t, roads())
	r := draw(5)
	const signs = "askdrop loneA0(),>\n\x00\xff;.!"
	for range 2000 {
		script := ""
		for range r.n(40) {
			script += signs[r.n(len(signs)):][:1]
		}
		script += "\n"
		l, e := desk.Play(s, script)
		if lines := strings.Count(script, "\n"); e != api.OK || strings.Count(l, "\n") != lines || !strings.HasSuffix(l, "\n") {
			t.Errorf("Play of %q tells %q, %d", script, l, e)
		}
		desk.Play(script, s)
		desk.Play(script, script)
	}
	give(t, "winding", shown(t, winding()), "model>29", "rounds>400", "steps>404 405", "ask far(A,A)>far(0,0) = 15; far(1,1) = 15; far(2,2) = 15; far(3,3) = 15; far(4,4) = 15")
}

// TestP3 asks the same between others: they may not be seen in it.
func TestP3(t *testing.T) {
	s := shown(t, roads())
	for range 3 {
		give(t, "the same", s, "model>17", "drop 6>ok", "model>16", "ask lone(A)>none")
		give(t, "another program", "pred a 0 0\na.\n", "model>1", "ask a>a", "drop 0>ok", "ask a>none")
		giveError(t, "no program", "x", "model\n", api.ErrForm)
		giveError(t, "no script", s, "model", api.ErrForm)
	}
}
