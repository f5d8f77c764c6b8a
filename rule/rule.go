// Package rule: rules: see doc/02-rule.md.
package rule

import "treillage/api"

// Atom tells whether a is an atom of the predicates l.
func Atom(l []api.Pred, a api.Atom) api.Errno {
	if a.Pred < 0 || a.Pred >= len(l) {
		return api.ErrNone
	}
	if len(a.Args) != l[a.Pred].Arity {
		return api.ErrForm
	}
	for _, t := range a.Args {
		if !inBounds(t) {
			return api.ErrRange
		}
	}
	return api.OK
}

// Check tells whether r is a rule of the predicates l.
func Check(l []api.Pred, r api.Rule) api.Errno {
	if e := Atom(l, r.Head); e != api.OK {
		return e
	}
	if len(r.Body) > api.MaxBody {
		return api.ErrMany
	}
	for _, x := range r.Body {
		if e := Atom(l, x.Atom); e != api.OK {
			return e
		}
	}
	if hasFree(r) {
		return api.ErrFree
	}
	return checkValue(l, r)
}

// Ground tells the fact that a is, its variables standing for vars.
func Ground(a api.Atom, vars [api.MaxVars]int) (api.Fact, api.Errno) {
	if len(a.Args) > api.MaxArity {
		return api.Fact{}, api.ErrForm
	}
	var args [api.MaxArity]int
	for i, t := range a.Args {
		if !inBounds(t) {
			return api.Fact{}, api.ErrRange
		}
		n := t.N
		if t.Var {
			n = vars[t.N]
		}
		if !isConstant(n) {
			return api.Fact{}, api.ErrRange
		}
		args[i] = n
	}
	return api.Fact{Pred: a.Pred, A: args[0], B: args[1]}, api.OK
}

func isConstant(n int) bool { return n >= 0 && n <= api.MaxConst }

func inBounds(t api.Term) bool {
	if t.Var {
		return t.N >= 0 && t.N < api.MaxVars
	}
	return isConstant(t.N)
}

// hasFree asks only what must be there: that something is not there binds nothing.
func hasFree(r api.Rule) bool {
	bound := variables(atoms(r.Body, false)...)
	asked := variables(append(atoms(r.Body, true), r.Head)...)
	for v := range api.MaxVars {
		if asked[v] > 0 && bound[v] == 0 {
			return true
		}
	}
	return false
}

// atoms of the literals that are Not, or of those that are not.
func atoms(body []api.Lit, not bool) []api.Atom {
	var out []api.Atom
	for _, x := range body {
		if x.Not == not {
			out = append(out, x.Atom)
		}
	}
	return out
}

// variables of all these atoms, and in how many places each stands.
func variables(told ...api.Atom) map[int]int {
	places := map[int]int{}
	for _, a := range told {
		for _, t := range a.Args {
			if t.Var {
				places[t.N]++
			}
		}
	}
	return places
}

// checkValue leans on all atoms of r being right ones of l.
func checkValue(l []api.Pred, r api.Rule) api.Errno {
	if r.From < -1 || r.From >= len(r.Body) {
		return api.ErrRange
	}
	kind := l[r.Head.Pred].Kind
	if kind == api.Plain && (r.From != -1 || r.N != 0) {
		return api.ErrForm
	}
	if r.From >= 0 && !hands(l, r.Body[r.From], kind) {
		return api.ErrForm
	}
	if r.N < 0 || r.N > api.MaxVal {
		return api.ErrRange
	}
	return api.OK
}

// hands asks whether a literal has a value of that kind to hand on: what is not there has none.
func hands(l []api.Pred, x api.Lit, kind int) bool {
	return !x.Not && l[x.Atom.Pred].Kind == kind
}
