package lat_test

import (
	"math"
	"testing"

	"treillage/api"
	"treillage/lat"
)

// numbers around every bound that the chapter names, and the ends of int.
func numbers() []int {
	return []int{math.MinInt, math.MinInt + 1, -16, -2, -1, 0, 1, 2, 3, 4, 7, 8, 9, 14, 15, 16, 17, 31, 1 << 32, math.MaxInt - 1, math.MaxInt}
}

func kinds() []int {
	return []int{math.MinInt, -1, api.Plain, api.Max, api.Min, api.Bits, api.Bits + 1, 1 << 32, math.MaxInt}
}

// values of a kind, all of them.
func values(kind int) []int {
	if kind == api.Plain {
		return []int{0}
	}
	var out []int
	for v := 0; v <= 15; v++ {
		out = append(out, v)
	}
	return out
}

func valued() []int { return []int{api.Plain, api.Max, api.Min, api.Bits} }

// wantCheck says A1 by sets, where the program says it by bounds.
func wantCheck(kind, v int) api.Errno {
	switch kind {
	case 0, 1, 2, 3:
	default:
		return api.ErrKind
	}
	for _, x := range values(kind) {
		if x == v {
			return api.OK
		}
	}
	return api.ErrRange
}

func TestA1Check(t *testing.T) {
	for _, kind := range kinds() {
		for _, v := range numbers() {
			if got, want := lat.Check(kind, v), wantCheck(kind, v); got != want {
				t.Errorf("Check(%d, %d) = %d, want %d", kind, v, got, want)
			}
		}
	}
}

func TestA1CheckEdges(t *testing.T) {
	for _, x := range []struct {
		kind, v int
		want    api.Errno
	}{
		{-1, 0, api.ErrKind},
		{4, 0, api.ErrKind},
		{4, 16, api.ErrKind}, // the kind is told first
		{-1, -1, api.ErrKind},
		{api.Plain, 0, api.OK},
		{api.Plain, 1, api.ErrRange},
		{api.Plain, -1, api.ErrRange},
		{api.Plain, 15, api.ErrRange},
		{api.Max, 0, api.OK},
		{api.Max, 15, api.OK},
		{api.Max, 16, api.ErrRange},
		{api.Min, -1, api.ErrRange},
		{api.Min, 15, api.OK},
		{api.Bits, 15, api.OK},
		{api.Bits, 16, api.ErrRange},
	} {
		if got := lat.Check(x.kind, x.v); got != x.want {
			t.Errorf("Check(%d, %d) = %d, want %d", x.kind, x.v, got, x.want)
		}
	}
}

// wantBoth: the first number's error goes ahead of the second's.
func wantBoth(kind, a, b int) api.Errno {
	if e := wantCheck(kind, a); e != api.OK {
		return e
	}
	return wantCheck(kind, b)
}

func TestA1ErrorsOfTheOthers(t *testing.T) {
	for _, kind := range kinds() {
		for _, a := range numbers() {
			for _, b := range numbers() {
				want := wantBoth(kind, a, b)
				j, je := lat.Join(kind, a, b)
				l, le := lat.Lift(kind, a, b)
				q, qe := lat.Leq(kind, a, b)
				if je != want || le != want || qe != want {
					t.Errorf("kind %d, %d and %d: Join %d, Lift %d, Leq %d, want %d", kind, a, b, je, le, qe, want)
				}
				if want != api.OK && (j != 0 || l != 0 || q) {
					t.Errorf("P1: kind %d, %d and %d: with an error, %d, %d and %v", kind, a, b, j, l, q)
				}
			}
		}
	}
}

// bits of both, one by one.
func bits(a, b int) int {
	sum := 0
	for bit := 1; bit <= 8; bit *= 2 {
		if a/bit%2 == 1 || b/bit%2 == 1 {
			sum += bit
		}
	}
	return sum
}

func wantJoin(kind, a, b int) int {
	switch {
	case kind == api.Plain:
		return 0
	case kind == api.Bits:
		return bits(a, b)
	case (kind == api.Max) == (a > b):
		return a
	}
	return b
}

func wantLift(kind, v, n int) int {
	switch {
	case kind == api.Plain:
		return 0
	case kind == api.Bits:
		return bits(v, n)
	case v+n > 15:
		return 15
	}
	return v + n
}

func TestA2AllValues(t *testing.T) {
	for _, kind := range valued() {
		for _, a := range values(kind) {
			for _, b := range values(kind) {
				j, je := lat.Join(kind, a, b)
				if want := wantJoin(kind, a, b); j != want || je != api.OK {
					t.Errorf("Join(%d, %d, %d) = %d, %d, want %d", kind, a, b, j, je, want)
				}
				l, le := lat.Lift(kind, a, b)
				if want := wantLift(kind, a, b); l != want || le != api.OK {
					t.Errorf("Lift(%d, %d, %d) = %d, %d, want %d", kind, a, b, l, le, want)
				}
				q, qe := lat.Leq(kind, a, b)
				if want := wantJoin(kind, a, b) == b; q != want || qe != api.OK {
					t.Errorf("Leq(%d, %d, %d) = %v, %d, want %v", kind, a, b, q, qe, want)
				}
			}
		}
	}
}

// TestA2Told has answers written out, so that the reckoning above may not be wrong in the same way as the program.
func TestA2Told(t *testing.T) {
	for _, x := range []struct {
		kind, a, b, join, lift int
		leq                    bool
	}{
		{api.Min, 3, 7, 3, 10, false}, // example 1
		{api.Min, 7, 3, 3, 10, true},
		{api.Min, 9, 9, 9, 15, true}, // example 1
		{api.Max, 3, 7, 7, 10, true},
		{api.Max, 7, 3, 7, 10, false},
		{api.Max, 9, 9, 9, 15, true},
		{api.Max, 7, 8, 8, 15, true},
		{api.Max, 15, 15, 15, 15, true},
		{api.Max, 0, 0, 0, 0, true},
		{api.Bits, 5, 6, 7, 7, false},
		{api.Bits, 5, 13, 13, 13, true},
		{api.Bits, 8, 8, 8, 8, true},
		{api.Bits, 10, 5, 15, 15, false},
		{api.Plain, 0, 0, 0, 0, true},
	} {
		j, _ := lat.Join(x.kind, x.a, x.b)
		l, _ := lat.Lift(x.kind, x.a, x.b)
		q, _ := lat.Leq(x.kind, x.a, x.b)
		if j != x.join || l != x.lift || q != x.leq {
			t.Errorf("kind %d, %d and %d: %d, %d, %v, want %d, %d, %v", x.kind, x.a, x.b, j, l, q, x.join, x.lift, x.leq)
		}
	}
}

func join(t *testing.T, kind, a, b int) int {
	t.Helper()
	x, e := lat.Join(kind, a, b)
	if e != api.OK {
		t.Fatalf("Join(%d, %d, %d): error %d", kind, a, b, e)
	}
	return x
}

func lift(t *testing.T, kind, v, n int) int {
	t.Helper()
	x, e := lat.Lift(kind, v, n)
	if e != api.OK {
		t.Fatalf("Lift(%d, %d, %d): error %d", kind, v, n, e)
	}
	return x
}

func leq(t *testing.T, kind, a, b int) bool {
	t.Helper()
	x, e := lat.Leq(kind, a, b)
	if e != api.OK {
		t.Fatalf("Leq(%d, %d, %d): error %d", kind, a, b, e)
	}
	return x
}

func TestJoinIsTheLeastAboveBoth(t *testing.T) {
	for _, kind := range valued() {
		for _, a := range values(kind) {
			for _, b := range values(kind) {
				j := join(t, kind, a, b)
				if !leq(t, kind, a, j) || !leq(t, kind, b, j) {
					t.Errorf("kind %d: %d is not above %d and %d", kind, j, a, b)
				}
				for _, c := range values(kind) {
					if leq(t, kind, a, c) && leq(t, kind, b, c) && !leq(t, kind, j, c) {
						t.Errorf("kind %d: %d is above %d and %d, but not above %d", kind, c, a, b, j)
					}
				}
			}
		}
	}
}

func TestWhatIsBelowIsBelowLiftedToo(t *testing.T) {
	for _, kind := range valued() {
		for _, a := range values(kind) {
			for _, b := range values(kind) {
				if !leq(t, kind, a, b) {
					continue
				}
				for _, n := range values(kind) {
					if !leq(t, kind, lift(t, kind, a, n), lift(t, kind, b, n)) {
						t.Errorf("kind %d: %d is below %d, but not lifted by %d", kind, a, b, n)
					}
				}
			}
		}
	}
}

// TestP3 asks all in one order and again in the other: no call may be seen by a later one.
func TestP3(t *testing.T) {
	type answer struct {
		join, lift int
		leq        bool
		e, f, g, h api.Errno
	}
	var first []answer
	ask := func(kind, a, b int) answer {
		var x answer
		x.join, x.e = lat.Join(kind, a, b)
		x.lift, x.f = lat.Lift(kind, a, b)
		x.leq, x.g = lat.Leq(kind, a, b)
		x.h = lat.Check(kind, a)
		return x
	}
	var asked [][3]int
	for _, kind := range kinds() {
		for _, a := range numbers() {
			for _, b := range numbers() {
				asked = append(asked, [3]int{kind, a, b})
				first = append(first, ask(kind, a, b))
			}
		}
	}
	for i := len(asked) - 1; i >= 0; i-- {
		x := asked[i]
		if again := ask(x[0], x[1], x[2]); again != first[i] {
			t.Errorf("%v: %v, and %v when asked again", x, first[i], again)
		}
	}
}
