// Package line: the pieces that lines of text are made of, told and read again.
package line

import (
	"strconv"
	"strings"

	"treillage/api"
)

// Numbers tells numbers by their decimal digits.
func Numbers(between string, l ...int) string {
	told := make([]string, len(l))
	for i, n := range l {
		told[i] = strconv.Itoa(n)
	}
	return strings.Join(told, between)
}

// Atom tells a; it leans on a being an atom of the predicates l.
func Atom(l []api.Pred, a api.Atom) string {
	name := l[a.Pred].Name
	if len(a.Args) == 0 {
		return name
	}
	told := make([]string, len(a.Args))
	for i, t := range a.Args {
		told[i] = term(t)
	}
	return name + "(" + strings.Join(told, ",") + ")"
}

// term leans on t being in its bounds, so that a variable has a letter.
func term(t api.Term) string {
	if t.Var {
		return string([]byte{'A' + byte(t.N)})
	}
	return Numbers("", t.N)
}
