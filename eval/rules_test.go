package eval_test

import (
	"slices"
	"strings"
	"testing"
	"unsafe"

	"longstop/api"
	"longstop/datum"
	"longstop/eval"
	"longstop/expr"
)

// within tells whether two texts have memory in common.
func within(a, b string) bool {
	if a == "" || b == "" {
		return false
	}
	from, to := uintptr(unsafe.Pointer(unsafe.StringData(a))), uintptr(unsafe.Pointer(unsafe.StringData(b)))
	return from < to+uintptr(len(b)) && to < from+uintptr(len(a))
}

// apart complains if a value's text shares its memory with one of l.
func apart(t *testing.T, what string, v Value, l ...Value) {
	t.Helper()
	if v.Kind != api.Text || len(v.B) < 2 {
		t.Fatalf("%s gave %s", what, short(v))
	}
	for _, in := range l {
		if within(v.B, in.B) {
			t.Errorf("%s: %q shares its memory with what was handed in, or answered", what, v.B)
		}
	}
}

func TestP701NewMemory(t *testing.T) {
	a, b, empty := text(strings.Clone("first")), text(strings.Clone("second")), text("")
	for _, l := range [][2]Value{{a, empty}, {empty, a}, {a, b}} {
		v, _ := eval.Binary(expr.Add, l[0], l[1])
		again, _ := eval.Binary(expr.Add, l[0], l[1])
		apart(t, "Add", v, l[0], l[1], again)
	}
	for _, l := range [][]Value{{a}, {a, b}, {null, a}, {null, null, null, b}} {
		v, _ := eval.Function("coalesce", l...)
		again, _ := eval.Function("coalesce", l...)
		apart(t, "coalesce", v, append(l, again)...)
	}
	s, row := columns("t.a", "t.b"), []Value{a, b}
	for _, in := range []string{"a", "t.b", "'third'", "a + ''", "'' + b", "coalesce(a, b)", "coalesce('third')"} {
		l := nodes(t, in)
		given := slices.Clone(row)
		for _, n := range l {
			given = append(given, n.Value)
		}
		v, _ := eval.Eval(l, s, row)
		again, _ := eval.Eval(l, s, row)
		apart(t, "Eval of "+in, v, append(given, again)...)
	}
}

// room gives l with more behind it, and what all of that was.
func room[T any](l []T, more ...T) (given, was []T) {
	all := slices.Concat(l, more)
	return all[:len(l)], slices.Clone(all)
}

func TestP701ArgumentsStay(t *testing.T) {
	s := sampleScope()
	for _, in := range []string{"1", "t.a + 1", "coalesce(u.a, t.b) + 'x'", "point(t.a, 2) * p", "z", "1 / 0", "not (q and t.a = 7)"} {
		l, wasNodes := room(nodes(t, in), Node{Op: 99, Name: "behind"})
		tables, wasTables := room(s.Tables, "behind")
		columnNames, wasNames := room(s.Names, "behind")
		row, wasRow := room(sampleRow(), text("behind"))
		eval.Eval(l, Scope{tables, columnNames}, row)
		eval.Holds(l, Scope{tables, columnNames}, row)
		eval.Find(Scope{tables, columnNames}, "t", "a")
		if !slices.Equal(l[:len(wasNodes)], wasNodes) || !slices.Equal(tables[:len(wasTables)], wasTables) || !slices.Equal(columnNames[:len(wasNames)], wasNames) || !slices.Equal(row[:len(wasRow)], wasRow) {
			t.Errorf("%s: an argument, or the room behind it, was changed", in)
		}
	}
	for _, name := range names {
		lists(few(), 2, func(l []Value) {
			given, was := room(l, text("behind"))
			eval.Function(name, given...)
			eval.Function(name, given[:1]...)
			if !slices.Equal(given[:len(was)], was) {
				t.Errorf("%s: an argument, or the room behind it, was changed", name)
			}
		})
	}
}

// What is answered does not hang on what was called before.
func TestP701Again(t *testing.T) {
	s, row := sampleScope(), sampleRow()
	for _, in := range []string{"t.a + 1", "z", "1 / 0", "u.a", "q", "coalesce(u.a, b)", "p * p"} {
		l := nodes(t, in)
		want := of(eval.Eval(l, s, row))
		eval.Eval(nodes(t, "1 / 0"), s, row)
		eval.Eval(nodes(t, "'other' + b"), s, row)
		eval.Eval(nil, Scope{}, nil)
		eval.Find(Scope{Names: []string{"z"}, Tables: []string{"z"}}, "z", "z")
		eval.Function("z", null)
		asWanted(t, l, s, row, want)
	}
}

// Beside an error there is nothing; what comes without one may be.
func TestP701NothingBesideErrors(t *testing.T) {
	check := func(v Value, e api.Errno) {
		t.Helper()
		if e != api.OK && v != (Value{}) || !datum.Right(v) {
			t.Fatalf("%s beside %d", short(v), e)
		}
	}
	all := append(some(), wrong()...)
	for _, a := range all {
		for op := -1; op < 22; op++ {
			check(eval.Unary(op, a))
			for _, b := range all {
				check(eval.Binary(op, a, b))
			}
		}
		for _, name := range append(names, nameless...) {
			check(eval.Function(name, a))
			for _, b := range few() {
				check(eval.Function(name, a, b))
				check(eval.Function(name, b, a))
			}
		}
	}
}

// Nil and empty lists mean the same.
func TestP701NilAndEmpty(t *testing.T) {
	for _, s := range []Scope{{}, {Tables: []string{}}, {Names: []string{}}, {Tables: []string{}, Names: []string{}}} {
		for _, row := range [][]Value{nil, {}} {
			comesTo(t, "'a' + 'b'", s, row, is(text("ab")))
			comesTo(t, "a", s, row, fails(api.ErrName))
			for _, l := range [][]Node{nil, {}} {
				asWanted(t, l, s, row, fails(api.ErrArg))
			}
		}
		found(t, s, "", "", 0, api.ErrName)
	}
	for _, name := range append(names, nameless...) {
		called(t, name, fails(api.ErrName))
		called(t, name, fails(api.ErrName), nil...)
		called(t, name, fails(api.ErrName), []Value{}...)
	}
}
