package line_test

import (
	"math"
	"strings"
	"testing"

	"treillage/api"
	"treillage/line"
)

func preds() []api.Pred {
	return []api.Pred{{Name: "edge", Arity: 2}, {Name: "lone", Arity: 1}, {Name: "mark", Kind: api.Bits}}
}

func v(n int) api.Term { return api.Term{Var: true, N: n} }

func c(n int) api.Term { return api.Term{N: n} }

func at(pred int, l ...api.Term) api.Atom { return api.Atom{Pred: pred, Args: l} }

func TestNumbers(t *testing.T) {
	for _, x := range []struct {
		between string
		l       []int
		want    string
	}{
		{" ", nil, ""},
		{" ", []int{0}, "0"},
		{" ", []int{4, 1}, "4 1"},
		{"+", []int{0, 15}, "0+15"},
		{"", []int{1, 2, 3}, "123"},
		{", ", []int{-1, 1000000}, "-1, 1000000"},
		{" ", []int{math.MaxInt}, "9223372036854775807"},
	} {
		if s := line.Numbers(x.between, x.l...); s != x.want {
			t.Errorf("%v: Numbers tells %q, want %q", x.l, s, x.want)
		}
	}
}

// atoms is how atoms are told, and read.
var atoms = []struct {
	a    api.Atom
	text string
}{
	{at(0, c(0), c(4)), "edge(0,4)"},
	{at(0, v(0), v(1)), "edge(A,B)"},
	{at(0, v(2), c(2)), "edge(C,2)"},
	{at(1, c(3)), "lone(3)"},
	{at(1, v(1)), "lone(B)"},
	{at(2), "mark"},
}

func TestAtom(t *testing.T) {
	for _, x := range atoms {
		if s := line.Atom(preds(), x.a); s != x.text {
			t.Errorf("%v: Atom tells %q, want %q", x.a, s, x.text)
		}
		var got string
		right := line.Whole(x.text, func(r *line.Rest) { got = line.Atom(preds(), r.Atom(preds())) })
		if !right || got != x.text {
			t.Errorf("%q: read as %q, %v", x.text, got, right)
		}
	}
}

// refused tells whether s is left by a panic, which is recovered.
func refused(s string, read func(r *line.Rest)) bool {
	through := false
	right := line.Whole(s, func(r *line.Rest) {
		read(r)
		through = true
	})
	return !right && !through
}

func TestAtomRefused(t *testing.T) {
	for _, s := range []string{
		"", " ", "x", "edg(0,1)", "edges(0,1)", "Edge(0,1)", "(0)",
		"edge", "edge()", "edge(0)", "edge(0,", "edge(0,1", "edge(0,1,2)", "edge(,1)", "edge 0,1", "edge(0 1)", "edge(0, 1)",
		"lone(5)", "lone(D)", "lone(a)", "lone(-1)", "lone(01)", "lone(10)", "lone(AB)", "lone(1,2)", "lone(\x00)",
	} {
		if !refused(s, func(r *line.Rest) { r.Atom(preds()) }) {
			t.Errorf("%q is read", s)
		}
	}
	if !refused("mark", func(r *line.Rest) { r.Atom(nil) }) {
		t.Error("an atom of no predicate is read")
	}
}

func TestNumber(t *testing.T) {
	for s, want := range map[string]int{"0": 0, "7": 7, "10": 10, "15": 15, "999999": 999999, "100000": 100000} {
		got := -1
		if !line.Whole(s, func(r *line.Rest) { got = r.Number() }) || got != want {
			t.Errorf("%q is read as %d", s, got)
		}
	}
	for _, s := range []string{"", "a", "-1", "+1", " 1", "00", "01", "007", "1000000", "0000000", strings.Repeat("9", 100)} {
		if !refused(s, func(r *line.Rest) { r.Number() }) {
			t.Errorf("%q is read", s)
		}
	}
}

func TestName(t *testing.T) {
	for s, want := range map[string]string{"a": "a", "zebra": "zebra", "az": "az"} {
		got := ""
		if !line.Whole(s, func(r *line.Rest) { got = r.Name() }) || got != want {
			t.Errorf("%q is read as %q", s, got)
		}
	}
	for _, s := range []string{"", "A", "0", " a", "`", "{", "\xff"} {
		if !refused(s, func(r *line.Rest) { r.Name() }) {
			t.Errorf("%q is read", s)
		}
	}
}

// TestRest reads a text piece by piece: each takes what it reads, and nothing else.
func TestRest(t *testing.T) {
	right := line.Whole("ab 12:-x", func(r *line.Rest) {
		if r.Begins("b") || !r.Begins("ab") || r.Takes("b") {
			t.Error("the text begins with ab")
		}
		if s := r.Name(); s != "ab" {
			t.Errorf("the name is %q", s)
		}
		r.Must(" ")
		if n := r.Number(); n != 12 {
			t.Errorf("the number is %d", n)
		}
		if r.Begins("-") || !r.Takes(":-") || r.IsEmpty() {
			t.Error("the rest is :-x")
		}
		if !r.Takes("x") || !r.IsEmpty() || r.Takes("x") || !r.Takes("") {
			t.Error("the rest is x")
		}
	})
	if !right {
		t.Error("the text is not read")
	}
}

func TestWhole(t *testing.T) {
	for _, x := range []struct {
		what, s string
		read    func(r *line.Rest)
		want    bool
	}{
		{"nothing is read of nothing", "", func(r *line.Rest) {}, true},
		{"all is read", "a", func(r *line.Rest) { r.Must("a") }, true},
		{"something is left", "ab", func(r *line.Rest) { r.Must("a") }, false},
		{"nothing is read", "a", func(r *line.Rest) {}, false},
		{"something else comes", "a", func(r *line.Rest) { r.Must("b") }, false},
		{"it ends too early", "", func(r *line.Rest) { r.Must("b") }, false},
		{"all is read, and left by a panic", "a", func(r *line.Rest) { r.Must("a"); panic("b") }, false},
	} {
		if got := line.Whole(x.s, x.read); got != x.want {
			t.Errorf("%s: Whole tells %v", x.what, got)
		}
	}
}
