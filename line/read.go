package line

import (
	"slices"
	"strconv"
	"strings"

	"treillage/api"
)

// maxDigits is how many digits a number may have: so each number that is read is a small one.
const maxDigits = 6

// Rest is what is still to be read of a text.
type Rest struct{ text string }

// Whole tells whether read gets through all of s. A text that is not as it must be is left by a panic, wherever that is seen; it ends here.
func Whole(s string, read func(t *Rest)) (right bool) {
	defer func() {
		if recover() != nil {
			right = false
		}
	}()
	t := &Rest{text: s}
	read(t)
	return t.IsEmpty()
}

// IsEmpty tells whether all is read.
func (t *Rest) IsEmpty() bool { return t.text == "" }

// Begins tells whether s comes next, and leaves it there.
func (t *Rest) Begins(s string) bool { return strings.HasPrefix(t.text, s) }

// Takes tells whether s comes next, and reads it then.
func (t *Rest) Takes(s string) bool {
	after, comes := strings.CutPrefix(t.text, s)
	t.text = after
	return comes
}

// Must reads s.
func (t *Rest) Must(s string) {
	if !t.Takes(s) {
		panic(api.ErrForm)
	}
}

// Name reads letters a to z, one at least.
func (t *Rest) Name() string { return t.run('a', 'z') }

// Number reads decimal digits; there is one way only to tell a number.
func (t *Rest) Number() int {
	digits := t.run('0', '9')
	if len(digits) > maxDigits || len(digits) > 1 && digits[0] == '0' {
		panic(api.ErrForm)
	}
	n, _ := strconv.Atoi(digits) // no error: these are digits, and not many
	return n
}

// Atom reads an atom of the predicates l.
func (t *Rest) Atom(l []api.Pred) api.Atom {
	name := t.Name()
	a := api.Atom{Pred: slices.IndexFunc(l, func(x api.Pred) bool { return x.Name == name })}
	if a.Pred < 0 {
		panic(api.ErrForm)
	}
	ahead := "("
	for range l[a.Pred].Arity {
		t.Must(ahead)
		a.Args = append(a.Args, t.term())
		ahead = ","
	}
	if len(a.Args) > 0 {
		t.Must(")")
	}
	return a
}

// term reads one of those that there are.
func (t *Rest) term() api.Term {
	for n := range api.MaxVars {
		if x := (api.Term{Var: true, N: n}); t.Takes(term(x)) {
			return x
		}
	}
	for n := range api.MaxConst + 1 {
		if x := (api.Term{N: n}); t.Takes(term(x)) {
			return x
		}
	}
	panic(api.ErrForm)
}

// run reads bytes from first to last, as many as come next, and one at least.
func (t *Rest) run(first, last byte) string {
	n := 0
	for n < len(t.text) && t.text[n] >= first && t.text[n] <= last {
		n++
	}
	if n == 0 {
		panic(api.ErrForm)
	}
	out := t.text[:n]
	t.text = t.text[n:]
	return out
}
