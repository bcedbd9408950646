package eval_test

import (
	"math/rand"
	"slices"
	"strings"
	"testing"

	"longstop/api"
	"longstop/eval"
	"longstop/expr"
)

// sampleScope and sampleRow: a column that is alone with its name, one of no
// table, one that two tables have.
func sampleScope() Scope { return columns("t.a", "t.b", "u.a", "n", "u.p", "u.q") }

func sampleRow() []Value {
	return []Value{whole(7), text("it"), null, dec(25, 1), point(3, 4), truth(1)}
}

func TestP704Expressions(t *testing.T) {
	for s, want := range map[string]string{
		"1": "1", "'a'": "'a'", "null": "null", "true": "true", "2.50": "2.50",
		"t.a": "7", "b": "'it'", "t.b": "'it'", "u.a": "null", "n": "2.5", "p": "<3,4>", "u.p": "<3,4>", "q": "true",
		"1 / 3.0": "0.333333", "null and false": "false",
		"t.a + 2 * 3": "13", "(t.a + 2) * 3": "27", "1 - 2 - 3": "-4", "1 - (2 - 3)": "2", "100 / 10 / 5": "2",
		"-t.a": "-7", "- - t.a": "7", "not q": "false", "not not q": "true", "u.a is null": "true", "t.a is not null": "true",
		"t.a > n": "true", "t.a = 7.0": "true", "b = 'it'": "true", "p < point(3, 5)": "true", "q and t.a < 8": "true", "q or u.a": "true", "u.a = u.a": "null",
		"b + b": "'itit'", "length(b + 'x')": "3", "px(p) * py(p)": "12", "norm(p * p)": "625", "p / point(0, 1)": "<4,-3>",
		"coalesce(u.a, b)": "'it'", "coalesce(null, null, u.a)": "null", "round(n, 0)": "2.", "abs(-n)": "2.5", "abs(t.a - 10)": "3",
		"u.a + b": "null", "u.a / 0": "null", "point(u.a, b)": "null", "coalesce(point(u.a, b), 1 < 2)": "true",
	} {
		comesTo(t, s, sampleScope(), sampleRow(), wanted(t, want))
	}
}

func TestP704Errors(t *testing.T) {
	for s, want := range map[string]string{
		"a": "name", "z": "name", "t.z": "name", "u.b": "name", "t.n": "name", "z.a": "name", "foo(1)": "name", "foo()": "name", "length()": "name", "length(b, b)": "name", "coalesce()": "name", "sum(t.a)": "name",
		"t.a / 0": "zero", "t.a % 0": "zero", "n / 0": "zero", "p / point(0, 0)": "zero", "p % (p - p)": "zero",
		"t.a + b": "type", "t.a = b": "type", "b and true": "type", "not t.a": "type", "-b": "type", "-q": "type", "length(1)": "type", "n % 2": "type", "p + 1": "type", "q < 1": "type",
		"9223372036854775807 + 1": "over", "point(2000000, 0)": "over", "round(n, 7)": "over", "- (0 - 9223372036854775807 - 1)": "over", "p * point(1048576, 0)": "over",
	} {
		comesTo(t, s, sampleScope(), sampleRow(), wanted(t, want))
	}
}

// The first error in the order of nodes: operands first, the left one ahead of
// the right one; nothing is left out because it could not matter.
func TestP704TheFirstError(t *testing.T) {
	for s, want := range map[string]string{
		"1 / 0 + z": "zero", "z + 1 / 0": "name", "1 / 0 + ('a' + 1)": "zero", "('a' + 1) + 1 / 0": "type", "foo(1 / 0)": "zero", "foo(z)": "name", "foo(1 + 'a')": "type", "foo(9223372036854775807 + 1)": "over",
		"length(1, 1 / 0)": "zero", "coalesce(1, 1 / 0)": "zero", "coalesce(1, z)": "name", "false and z": "name", "false and 1 / 0 = 1": "zero", "true or 1": "type", "true or 1 + 'a' = 1": "type",
		"null + z": "name", "null + 1 / 0": "zero", "not 1 / 0": "zero", "-z": "name", "- 'a' + z": "type", "z + - 'a'": "name", "point(2000000, 0) + z": "over", "z + point(2000000, 0)": "name", "length(-'a') + foo()": "type",
	} {
		comesTo(t, s, sampleScope(), sampleRow(), wanted(t, want))
	}
}

func TestP704Holds(t *testing.T) {
	for s, want := range map[string]bool{
		"true": true, "false": false, "null": false, "q": true, "not q": false, "u.a": false, "u.a = 1": false, "not u.a = 1": false, "u.a is null": true, "t.a = 7": true, "t.a <> 7": false, "u.a = 1 or q": true, "u.a = 1 and q": false,
	} {
		if ok, e := eval.Holds(nodes(t, s), sampleScope(), sampleRow()); ok != want || e != api.OK {
			t.Errorf("Holds of %s: %v, %d", s, ok, e)
		}
	}
	for s, want := range map[string]api.Errno{"1": api.ErrType, "0": api.ErrType, "1.0": api.ErrType, "'true'": api.ErrType, "''": api.ErrType, "p": api.ErrType, "t.a": api.ErrType, "1 / 0": api.ErrZero, "z": api.ErrName, "foo(true)": api.ErrName, "true and 1": api.ErrType} {
		if ok, e := eval.Holds(nodes(t, s), sampleScope(), sampleRow()); ok || e != want {
			t.Errorf("Holds of %s: %v, %d", s, ok, e)
		}
	}
}

// Every value of a row can be asked for as it is.
func TestP704ColumnsOfEveryValue(t *testing.T) {
	all := some()
	s := Scope{}
	for i := range all {
		s.Tables, s.Names = append(s.Tables, "t"), append(s.Names, "c"+strings.Repeat("x", i%20)+string(rune('a'+i/20)))
	}
	for i, v := range all {
		asWanted(t, []Node{{Op: expr.Column, Name: s.Names[i]}}, s, all, is(v))
		asWanted(t, []Node{{Op: expr.Column, Table: "t", Name: s.Names[i]}}, s, all, is(v))
	}
}

// A scope without columns, and one with more than a row that is kept may have.
func TestP704FewAndManyColumns(t *testing.T) {
	comesTo(t, "1 + 1", Scope{}, nil, is(whole(2)))
	comesTo(t, "1 + 1", Scope{Tables: []string{}, Names: []string{}}, []Value{}, is(whole(2)))
	comesTo(t, "a", Scope{}, nil, fails(api.ErrName))
	for _, n := range []int{63, 64, 65, 256, 1000} {
		s := Scope{Tables: make([]string, n), Names: slices.Repeat([]string{"b"}, n)}
		row := slices.Repeat([]Value{whole(5)}, n)
		s.Names[n-1] = "a"
		comesTo(t, "a * 2", s, row, is(whole(10)))
		comesTo(t, "b", s, row, fails(api.ErrName))
		row[n/2] = truth(2)
		comesTo(t, "a * 2", s, row, fails(api.ErrArg))
	}
}

// deep gives l under that many ops.
func deep(l []Node, op, times int) []Node {
	return slices.Concat(l, slices.Repeat([]Node{{Op: op}}, times))
}

func TestP704ExpressionsOfMaxDepth(t *testing.T) {
	s, row := sampleScope(), sampleRow()
	asWanted(t, deep(nodes(t, "t.a"), expr.Neg, 15), s, row, is(whole(-7)))
	asWanted(t, deep(nodes(t, "t.a"), expr.Neg, 14), s, row, is(whole(7)))
	asWanted(t, deep(nodes(t, "t.a"), expr.Neg, 16), s, row, fails(api.ErrArg))
	asWanted(t, deep(nodes(t, "q"), expr.Not, 15), s, row, is(truth(0)))
	asWanted(t, deep(nodes(t, "q"), expr.Not, 16), s, row, fails(api.ErrArg))
	asWanted(t, deep(nodes(t, "z"), expr.Neg, 15), s, row, fails(api.ErrName))
	asWanted(t, deep(nodes(t, "z"), expr.Neg, 16), s, row, fails(api.ErrArg))
	// The deepest on the right: all values wait at once. 1 less (1 less (..7)).
	l := slices.Concat(slices.Repeat(nodes(t, "1"), 15), nodes(t, "t.a"), slices.Repeat([]Node{{Op: expr.Sub}}, 15))
	asWanted(t, l, s, row, is(whole(-6)))
	asWanted(t, slices.Concat(nodes(t, "1"), l, []Node{{Op: expr.Sub}}), s, row, fails(api.ErrArg))
}

// wide gives a sum of that many ones, as flat as it can be.
func wide(t *testing.T, ones int) []Node {
	if ones == 1 {
		return nodes(t, "1")
	}
	return slices.Concat(wide(t, ones/2), wide(t, ones-ones/2), []Node{{Op: expr.Add}})
}

func TestP704ExpressionsOfManyNodes(t *testing.T) {
	asWanted(t, wide(t, 128), Scope{}, nil, is(whole(128)))
	asWanted(t, deep(wide(t, 128), expr.Neg, 1), Scope{}, nil, is(whole(-128)))
	asWanted(t, deep(wide(t, 128), expr.Neg, 2), Scope{}, nil, fails(api.ErrArg))
	asWanted(t, wide(t, 129), Scope{}, nil, fails(api.ErrArg))
}

// wrongRows gives rows of nodes that are no expressions.
func wrongRows(t *testing.T) [][]Node {
	one, a := nodes(t, "1"), nodes(t, "t.a")
	out := [][]Node{
		nil, {}, {{}}, {{Op: expr.Neg}}, {{Op: expr.Add}}, {{Op: expr.Call, Name: "abs", Args: 1}},
		slices.Concat(one, one), slices.Concat(one, []Node{{Op: expr.Add}}), slices.Concat(one, one, one, []Node{{Op: expr.Add}}), slices.Concat([]Node{{Op: expr.Neg}}, one),
		slices.Concat(a, []Node{{Op: expr.Call, Name: "point", Args: 2}}), slices.Concat(a, []Node{{Op: expr.Call, Name: "foo", Args: -1}}), slices.Concat(a, []Node{{Op: expr.Call, Name: "foo"}}),
		slices.Concat(slices.Repeat(a, 5), []Node{{Op: expr.Call, Name: "coalesce", Args: 5}}), {{Op: expr.Call, Name: "foo", Args: great}}, {{Op: expr.Call, Name: "foo", Args: least}},
		{{Op: expr.Column}}, {{Op: expr.Column, Name: "select"}}, {{Op: expr.Column, Name: "A"}}, {{Op: expr.Column, Table: "is", Name: "a"}}, {{Op: expr.Column, Table: "t"}}, {{Op: expr.Column, Name: "n", Args: 1}},
		{{Op: expr.Value, Value: whole(-1)}}, {{Op: expr.Value, Value: dec(-1, 2)}}, {{Op: expr.Value, Value: point(1, 2)}}, {{Op: expr.Value, Name: "a"}}, {{Op: expr.Value, Value: whole(1), Table: "t"}},
		slices.Concat(one, []Node{{Op: expr.Neg, Name: "a"}}), slices.Concat(one, []Node{{Op: expr.Neg, Args: 1}}),
	}
	for _, v := range wrong() {
		out = append(out, []Node{{Op: expr.Value, Value: v}})
	}
	for _, op := range opless {
		if op != expr.Value && op != expr.Column && op != expr.Call {
			out = append(out, []Node{{Op: op}}, []Node{{Op: op, Name: "n"}}, deep(one, op, 1), deep(slices.Concat(one, one), op, 1))
		}
	}
	return out
}

func TestP704NoExpression(t *testing.T) {
	for _, l := range wrongRows(t) {
		asWanted(t, l, sampleScope(), sampleRow(), fails(api.ErrArg))
		asWanted(t, l, Scope{}, nil, fails(api.ErrArg))
		asWanted(t, l, Scope{Names: []string{"a"}}, []Value{truth(2)}, fails(api.ErrArg))
	}
}

// cut gives lists of each length up to that of two more than l.
func cut[T any](l []T) [][]T {
	var out [][]T
	for n := range len(l) + 3 {
		out = append(out, slices.Concat(l, l[:1], l[:1])[:n])
	}
	return out
}

// Scopes whose lists, and rows that are not of one length: told ahead of names
// that there are not, and of divisions by 0.
func TestP704UnlikeLengths(t *testing.T) {
	s, row := columns("t.a", "t.b", "u.c"), []Value{whole(1), text("b"), null}
	for _, in := range []string{"1", "t.b", "true", "z", "1 / 0", "foo()"} {
		l := nodes(t, in)
		for _, tables := range cut(s.Tables) {
			for _, columnNames := range cut(s.Names) {
				for _, values := range cut(row) {
					got := of(eval.Eval(l, Scope{tables, columnNames}, values))
					if unlike := len(tables) != len(columnNames) || len(values) != len(tables); unlike != (got.e == api.ErrArg) {
						t.Errorf("Eval of %s, %d, %d, %d: %s", in, len(tables), len(columnNames), len(values), got)
					} else if unlike {
						asWanted(t, l, Scope{tables, columnNames}, values, fails(api.ErrArg))
					}
				}
			}
		}
	}
}

// A value that may not be, wherever it stands, whether it is named or not: told
// ahead of all that goes by nodes.
func TestP704WrongValuesInRows(t *testing.T) {
	for _, v := range wrong() {
		for at := range sampleRow() {
			row := sampleRow()
			row[at] = v
			for _, in := range []string{"1", "t.a", "b", "true", "z", "1 / 0", "foo()", "n + p", "coalesce(1, u.a)"} {
				comesTo(t, in, sampleScope(), row, fails(api.ErrArg))
			}
		}
	}
}

// Trees come to what is told of them, limb by limb.
func TestP704ExpressionsAsTold(t *testing.T) {
	t.Parallel()
	r := rand.New(rand.NewSource(74))
	count := map[api.Errno]int{}
	for range 100000 {
		in := grow(r, 1+r.Intn(6), wildKind(r))
		s, row := wildScope(r)
		want := in.told(s, row)
		if !expr.Right(in.row()) {
			want = fails(api.ErrArg)
		}
		count[want.e]++
		asWanted(t, in.row(), s, row, want)
	}
	for _, e := range []api.Errno{api.OK, api.ErrType, api.ErrOver, api.ErrZero, api.ErrName} {
		if count[e] < 300 {
			t.Errorf("error %d came %d times: too seldom", e, count[e])
		}
	}
}
