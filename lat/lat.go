// Package lat: values: see doc/01-lat.md.
package lat

import "treillage/api"

// kinds is how many kinds there are: Bits is the last one.
const kinds = api.Bits + 1

// Check tells whether v is a value of that kind.
func Check(kind, v int) api.Errno {
	if kind < 0 || kind >= kinds {
		return api.ErrKind
	}
	if v < 0 || v > greatest(kind) {
		return api.ErrRange
	}
	return api.OK
}

// Join tells what two values of one fact are together.
func Join(kind, a, b int) (int, api.Errno) {
	return reckon(joins(), kind, a, b)
}

// Lift tells what a value becomes on its way from a literal to a head.
func Lift(kind, v, n int) (int, api.Errno) {
	return reckon(lifts(), kind, v, n)
}

// Leq tells whether a adds nothing to b.
func Leq(kind, a, b int) (bool, api.Errno) {
	both, e := Join(kind, a, b)
	return e == api.OK && both == b, e
}

// greatest number that may stand as a value of the kind.
func greatest(kind int) int {
	if kind == api.Plain {
		return 0
	}
	return api.MaxVal
}

// joins are made anew for each call, as no table of functions may stand at package level.
func joins() [kinds]func(a, b int) int {
	return [kinds]func(a, b int) int{
		api.Plain: func(a, b int) int { return 0 },
		api.Max:   func(a, b int) int { return max(a, b) },
		api.Min:   func(a, b int) int { return min(a, b) },
		api.Bits:  func(a, b int) int { return a | b },
	}
}

// lifts are made anew for each call, as joins are.
func lifts() [kinds]func(v, n int) int {
	return [kinds]func(v, n int) int{
		api.Plain: func(v, n int) int { return 0 },
		api.Max:   func(v, n int) int { return min(v+n, api.MaxVal) },
		api.Min:   func(v, n int) int { return min(v+n, api.MaxVal) },
		api.Bits:  func(v, n int) int { return v | n },
	}
}

// reckon holds the second number, too, against the bounds of the kind: what a value is lifted by has those of Max, and all kinds but Plain have these.
func reckon(table [kinds]func(a, b int) int, kind, a, b int) (int, api.Errno) {
	if e := Check(kind, a); e != api.OK {
		return 0, e
	}
	if e := Check(kind, b); e != api.OK {
		return 0, e
	}
	return table[kind](a, b), api.OK
}
