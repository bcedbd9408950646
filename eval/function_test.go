package eval_test

import (
	"math/rand"
	"slices"
	"strings"
	"testing"

	"longstop/api"
	"longstop/eval"
)

// called complains unless the function comes to what is told.
func called(t *testing.T, name string, want answer, l ...Value) {
	t.Helper()
	same(t, "Function "+short(name), of(eval.Function(name, l...)), want, l)
}

// calls: lines of a name, values, a colon, and what the function comes to.
func calls(t *testing.T, lines string) {
	t.Helper()
	for line := range strings.Lines(lines) {
		w := strings.Fields(line)
		if len(w) == 0 {
			continue
		}
		if len(w) < 3 || w[len(w)-2] != ":" {
			t.Fatalf("a line that says nothing: %s", line)
		}
		var l []Value
		for _, in := range w[1 : len(w)-2] {
			l = append(l, value(t, in))
		}
		called(t, w[0], wanted(t, w[len(w)-1]), l...)
	}
}

func TestP702Functions(t *testing.T) {
	calls(t, `
		length '' : 0
		length 'abc' : 3
		length 'it''s' : 4
		length 'é' : 2
		length '日本' : 6
		abs 5 : 5
		abs -5 : 5
		abs 0 : 0
		abs -2.50 : 2.50
		abs 2.50 : 2.50
		abs 0.00 : 0.00
		abs -3. : 3.
		norm <3,4> : 25
		norm <0,0> : 0
		norm <-3,-4> : 25
		norm <1048576,-1048576> : 2199023255552
		point 1 2 : <1,2>
		point -1 0 : <-1,0>
		px <3,-4> : 3
		py <3,-4> : -4
		px <-1048576,1048576> : -1048576
		py <-1048576,1048576> : 1048576
		coalesce 1 : 1
		coalesce 'a' 2 : 'a'
		coalesce null 2 : 2
		coalesce null null <1,2> true : <1,2>
		coalesce null null null 1.50 : 1.50
		coalesce null false true : false
		coalesce '' 'a' : ''
	`)
	called(t, "length", is(whole(api.MaxValue)), textOf(api.MaxValue))
	called(t, "coalesce", is(textOf(api.MaxValue)), null, textOf(api.MaxValue))
}

func TestP702AbsAtTheEnds(t *testing.T) {
	calls(t, `
		abs 9223372036854775807 : 9223372036854775807
		abs -9223372036854775807 : 9223372036854775807
		abs -9223372036854775808 : over
		abs -9223372036854775808. : over
		abs -9223372036854.775808 : over
		abs -9223372036854.775807 : 9223372036854.775807
		abs 9223372036854.775807 : 9223372036854.775807
	`)
}

func TestP702PointsThatMayNotBe(t *testing.T) {
	calls(t, `
		point 1048576 -1048576 : <1048576,-1048576>
		point -1048576 1048576 : <-1048576,1048576>
		point 1048577 0 : over
		point 0 1048577 : over
		point -1048577 0 : over
		point 0 -1048577 : over
		point 9223372036854775807 -9223372036854775808 : over
		point 4294967296 0 : over
		point 1.5 2 : type
		point 1 2. : type
		point 'a' 1048577 : type
		point 1048577 'a' : type
		point null 1048577 : null
		point 1048577 null : null
	`)
}

func TestP702Round(t *testing.T) {
	calls(t, `
		round 2.5 0 : 2.
		round 3.5 0 : 4.
		round -2.5 0 : -2.
		round 2.51 0 : 3.
		round 2.45 1 : 2.4
		round 2.55 1 : 2.6
		round 2.5 1 : 2.5
		round 2.5 6 : 2.500000
		round 2 0 : 2.
		round 2 3 : 2.000
		round -2 6 : -2.000000
		round 0.000001 0 : 0.
		round 0.000001 6 : 0.000001
		round 1.123456 5 : 1.12346
		round 2 7 : over
		round 2.5 7 : over
		round 2.5 -1 : over
		round 2.5 9223372036854775807 : over
		round 2.5 -9223372036854775808 : over
		round 2.5 4294967296 : over
		round 9223372036854775807 0 : 9223372036854775807.
		round 9223372036854775807 1 : over
		round 9223372036854 6 : 9223372036854.000000
		round 9223372036855 6 : over
		round -9223372036854775808 1 : over
		round 9223372036854.775807 0 : 9223372036855.
		round -9223372036854.775808 6 : -9223372036854.775808
		round 2 1. : type
		round 2.5 1.0 : type
		round 2.5 7. : type
		round 'a' 7 : type
		round true 0 : type
		round <1,2> 0 : type
		round 2.5 true : type
		round null 7 : null
		round 2.5 null : null
		round null null : null
		round 'a' null : null
		round null 'a' : null
	`)
}

func TestP702Coalesce(t *testing.T) {
	for n := 1; n <= 4; n++ {
		called(t, "coalesce", is(null), make([]Value, n)...)
	}
	for n := 1; n <= 4; n++ {
		for at := range n {
			for _, v := range some() {
				l := make([]Value, n)
				l[at] = v
				called(t, "coalesce", is(v), l...)
			}
		}
	}
}

// Each function with each count of arguments, some of which would fit.
func TestP702CountsOfArguments(t *testing.T) {
	counts := map[string][]int{"length": {1}, "abs": {1}, "norm": {1}, "point": {2}, "px": {1}, "py": {1}, "round": {2}, "coalesce": {1, 2, 3, 4}}
	for _, name := range names {
		for _, v := range few() {
			for count := range 70 {
				got := of(eval.Function(name, slices.Repeat([]Value{v}, count)...))
				if (got.e == api.ErrName) == slices.Contains(counts[name], count) {
					t.Errorf("%s of %d: %s", name, count, got)
				}
			}
		}
	}
}

func TestP702NamesOfNoFunction(t *testing.T) {
	for _, name := range nameless {
		for _, v := range few() {
			for count := range 6 {
				called(t, name, fails(api.ErrName), slices.Repeat([]Value{v}, count)...)
			}
		}
	}
}

// Every function of up to three of every kind, and of five.
func TestP702FunctionsAsTold(t *testing.T) {
	t.Parallel()
	for _, name := range append(names, nameless...) {
		for size := range 4 {
			lists(few(), size, func(l []Value) { called(t, name, toldFunction(name, l...), l...) })
		}
		called(t, name, fails(api.ErrName), few()[:5]...)
	}
}

func TestP702FunctionsAtEveryEdge(t *testing.T) {
	t.Parallel()
	scales := []Value{whole(-1), whole(0), whole(1), whole(2), whole(3), whole(4), whole(5), whole(6), whole(7), whole(great), whole(least)}
	for _, v := range some() {
		for _, name := range names {
			called(t, name, toldFunction(name, v), v)
			for _, w := range append(scales, some()...) {
				called(t, name, toldFunction(name, v, w), v, w)
			}
		}
	}
}

func TestP702FunctionsOfRandomValues(t *testing.T) {
	t.Parallel()
	r := rand.New(rand.NewSource(71))
	for range 100000 {
		name := pick(r, names...)
		l := make([]Value, r.Intn(6))
		for i := range l {
			l[i] = pick(r, wild, mild)(r)
		}
		called(t, name, toldFunction(name, l...), l...)
	}
}

// A value that may not be is told ahead of a wrong name or count, and wherever
// it stands, also where coalesce would not come to it.
func TestP702FunctionsOfWrongValues(t *testing.T) {
	for _, name := range append(names, nameless...) {
		for _, v := range wrong() {
			for count := 1; count < 7; count++ {
				for at := range count {
					for _, beside := range []Value{null, whole(1), text("a")} {
						l := slices.Repeat([]Value{beside}, count)
						l[at] = v
						called(t, name, fails(api.ErrArg), l...)
					}
				}
			}
		}
		long := slices.Repeat([]Value{whole(1)}, 100000)
		called(t, name, fails(api.ErrName), long...)
		long[len(long)-1] = dec(1, 7)
		called(t, name, fails(api.ErrArg), long...)
	}
}
