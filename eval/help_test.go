package eval_test

import (
	"fmt"
	"math"
	"math/rand"
	"slices"
	"strings"
	"testing"

	"longstop/api"
	"longstop/datum"
	"longstop/eval"
	"longstop/expr"
)

type (
	Node  = expr.Node
	Scope = eval.Scope
	Value = api.Value
)

const (
	least = math.MinInt
	great = math.MaxInt
	most  = api.MaxPoint
)

var null = Value{}

func whole(n int) Value { return Value{Kind: api.Int, N: n} }

func dec(units, scale int) Value { return Value{Kind: api.Dec, N: units, M: scale} }

func text(s string) Value { return Value{Kind: api.Text, B: s} }

func truth(n int) Value { return Value{Kind: api.Bool, N: n} }

func point(x, y int) Value { return Value{Kind: api.Point, N: x, M: y} }

// answer holds what a call gave, so that it can be compared.
type answer struct {
	Value
	e api.Errno
}

func of(v Value, e api.Errno) answer { return answer{v, e} }

func is(v Value) answer { return answer{Value: v} }

func fails(e api.Errno) answer { return answer{e: e} }

// String tells an answer in few words.
func (a answer) String() string {
	if a.e != api.OK || !datum.Right(a.Value) {
		return fmt.Sprintf("error %d %s", a.e, short(a.Value))
	}
	return datum.Print(a.Value)
}

// short tells x in a line that can be read.
func short(x any) string {
	s := fmt.Sprintf("%+v", x)
	return s[:min(len(s), 300)]
}

// same complains where what a call of that name gave is not what it should.
func same(t *testing.T, name string, got, want answer, given ...any) {
	t.Helper()
	if got != want {
		t.Fatalf("%s of %s: %s, not %s", name, short(given), got, want)
	}
}

// value is of texts that are values'.
func value(t *testing.T, s string) Value {
	t.Helper()
	v, e := datum.Parse(s)
	if e != api.OK {
		t.Fatalf("%s is no value's text", s)
	}
	return v
}

// errorWords: how the tests' tables tell errors.
var errorWords = map[string]api.Errno{"arg": api.ErrArg, "type": api.ErrType, "over": api.ErrOver, "zero": api.ErrZero, "name": api.ErrName}

// wanted gives the answer that a word of a table tells: an error, or a value.
func wanted(t *testing.T, s string) answer {
	t.Helper()
	if e, ok := errorWords[s]; ok {
		return fails(e)
	}
	return is(value(t, s))
}

// ops of two operands, by their signs.
var ops = map[string]int{
	"*": expr.Mul, "/": expr.Div, "%": expr.Rem, "+": expr.Add, "-": expr.Sub,
	"=": expr.Eq, "<>": expr.Ne, "<": expr.Lt, "<=": expr.Le, ">": expr.Gt, ">=": expr.Ge,
	"and": expr.And, "or": expr.Or,
}

var (
	unaries  = []int{expr.Neg, expr.Not, expr.IsNull}
	binaries = []int{expr.Mul, expr.Div, expr.Rem, expr.Add, expr.Sub, expr.Eq, expr.Ne, expr.Lt, expr.Le, expr.Gt, expr.Ge, expr.And, expr.Or}
	names    = []string{"length", "abs", "norm", "point", "px", "py", "round", "coalesce"}
	// nameless: what is no function's name.
	nameless = []string{"", "foo", "Length", "length ", " length", "lengt", "lengths", "coalesc", "coalesce(", "ABS", "sum", "count", "min", "max", "avg", "and", "not", "points", "p", "x", "\x00", "\xff", strings.Repeat("abs", 1000)}
	// opless: what is no op at all, or one of nodes alone and of calls.
	opless = []int{least, -1, 0, expr.Value, expr.Column, expr.Call, 20, 21, 255, 256, 259, 265, 1 << 32, 1<<32 + 3, 1<<32 + 9, great}
)

// someNumbers: around every border that the reckoning has.
var someNumbers = []int{
	0, 1, -1, 2, -2, 3, 5, -5, 7, 10, 15, -25, 1000000, -1000000, 1500000, most, most + 1, -most - 1,
	1 << 31, 3037000499, 3037000500, -3037000500, 1 << 62, -1 << 62,
	great / 1000000, great/1000000 + 1, least / 1000000, least/1000000 - 1,
	great / 2, great/2 + 1, least / 2, least/2 - 1, great - 1, great, least + 1, least,
}

// someUnits: those of decimals, of which there are more.
var someUnits = []int{0, 1, -1, 3, 10, -10, 15, 25, 100, 1000000, -1000000, 1500000, 3037000500, great / 1000000, great/1000000 + 1, great, least}

var coordinates = []int{0, 1, -1, 2, -3, 1024, 1025, most - 1, most, -most}

func someTexts() []string {
	return []string{
		"", "a", "ab", "b", "A", "\x00", "it's", "1", "null", "é", "\U0010ffff",
		strings.Repeat("a", api.MaxValue), strings.Repeat("a", api.MaxValue-1), strings.Repeat("b", api.MaxValue/2), strings.Repeat("é", api.MaxValue/2), strings.Repeat("é", api.MaxValue/4),
	}
}

// some gives values that may be, of every Kind at its edges.
func some() []Value {
	all := []Value{null, truth(0), truth(1)}
	for _, n := range someNumbers {
		all = append(all, whole(n))
	}
	for i, n := range someUnits {
		for scale := range api.MaxScale + 1 {
			if scale == 0 || scale == api.MaxScale || (scale+i)%3 == 0 {
				all = append(all, dec(n, scale))
			}
		}
	}
	for _, s := range someTexts() {
		all = append(all, text(s))
	}
	for i, x := range coordinates {
		for k, y := range coordinates {
			if (i+k)%3 == 0 || x == 0 || y == most {
				all = append(all, point(x, y))
			}
		}
	}
	return all
}

// few gives some of every Kind.
func few() []Value {
	return []Value{
		null, whole(0), whole(3), whole(-7), whole(least), dec(0, 2), dec(25, 1), dec(-314, 2), dec(least, 0),
		text(""), text("ab"), text(strings.Repeat("a", api.MaxValue)), truth(0), truth(1), point(0, 0), point(3, -4), point(most, -most),
	}
}

// wrong gives values that may not be.
func wrong() []Value {
	return []Value{
		{Kind: -1}, {Kind: 6}, {Kind: 256}, {Kind: 1 << 32}, {Kind: least}, {Kind: great, N: 1, M: 1, B: "a"},
		{N: 1}, {M: 1}, {B: "a"}, {Kind: api.Int, N: 5, M: 1}, {Kind: api.Int, N: 5, B: "a"},
		{Kind: api.Dec, N: 5, M: 2, B: "5"}, dec(0, -1), dec(5, 7), dec(5, least), dec(5, great),
		{Kind: api.Text, N: 1, B: "a"}, {Kind: api.Text, M: 1}, text(strings.Repeat("a", api.MaxValue+1)), text("\xff"), text("a\xc3"),
		truth(2), truth(-1), {Kind: api.Bool, N: 1, M: 1}, {Kind: api.Bool, N: 1, B: "true"},
		point(most+1, 0), point(0, most+1), point(-most-1, 0), point(0, -most-1), point(least, great), {Kind: api.Point, N: 1, M: 1, B: "a"},
	}
}

// wild gives a value that may be, often one whose reckoning is near a border.
func wild(r *rand.Rand) Value {
	switch r.Intn(8) {
	case 0, 1:
		return whole(wildNumber(r))
	case 2, 3:
		return dec(wildNumber(r), r.Intn(api.MaxScale+1))
	case 4:
		return text(strings.Repeat(pick(r, "a", "b", "é", ""), r.Intn(api.MaxValue/2)) + pick(r, "", "c"))
	case 5:
		return truth(r.Intn(2))
	case 6:
		return point(wildCoordinate(r), wildCoordinate(r))
	}
	return null
}

// mild gives a value that is more often alike to another one, and of which
// reckoning more often comes to something.
func mild(r *rand.Rand) Value {
	switch r.Intn(6) {
	case 0:
		return whole(r.Intn(7) - 3)
	case 1:
		return dec(r.Intn(700)-300, r.Intn(4))
	case 2:
		return text(pick(r, "", "a", "ab", "b"))
	case 3:
		return truth(r.Intn(2))
	case 4:
		return point(r.Intn(5)-2, r.Intn(5)-2)
	}
	return null
}

func pick[T any](r *rand.Rand, l ...T) T { return l[r.Intn(len(l))] }

func wildNumber(r *rand.Rand) int {
	if r.Intn(4) == 0 {
		return pick(r, someNumbers...)
	}
	return int(r.Uint64()) >> r.Intn(64)
}

func wildCoordinate(r *rand.Rand) int {
	n := r.Intn(2*most+1) - most
	return n >> r.Intn(21)
}

// textOf gives a text of that many bytes.
func textOf(n int) Value { return text(strings.Repeat("x", n)) }

// columns gives a scope out of words such as t.a and a.
func columns(words ...string) Scope {
	s := Scope{}
	for _, w := range words {
		table, name, ok := strings.Cut(w, ".")
		if !ok {
			table, name = "", w
		}
		s.Tables, s.Names = append(s.Tables, table), append(s.Names, name)
	}
	return s
}

// nodes is of texts that are expressions'.
func nodes(t *testing.T, s string) []Node {
	t.Helper()
	l, e := expr.Parse(s)
	if e != api.OK {
		t.Fatalf("%q is no expression's text", s)
	}
	return l
}

// comesTo complains unless the expression of that text comes to what is told,
// and Holds says the same of it.
func comesTo(t *testing.T, s string, scope Scope, row []Value, want answer) {
	t.Helper()
	asWanted(t, nodes(t, s), scope, row, want)
}

func asWanted(t *testing.T, l []Node, scope Scope, row []Value, want answer) {
	t.Helper()
	if got := of(eval.Eval(l, scope, row)); got != want {
		t.Fatalf("Eval of %s, %s, %s: %s, not %s", short(expr.Print(l)), short(scope), short(row), got, want)
	}
	ok, e := eval.Holds(l, scope, row)
	wantOK, wantE := held(want)
	if ok != wantOK || e != wantE {
		t.Fatalf("Holds of %s, %s, %s: %v, %d, not %v, %d", short(expr.Print(l)), short(scope), short(row), ok, e, wantOK, wantE)
	}
}

// held gives Holds' answer where Eval's is a.
func held(a answer) (bool, api.Errno) {
	switch {
	case a.e != api.OK:
		return false, a.e
	case a.Kind == api.Bool:
		return a.N == 1, api.OK
	case a.Kind == api.Null:
		return false, api.OK
	}
	return false, api.ErrType
}

// lists goes through all lists of so many of l.
func lists(l []Value, size int, do func([]Value)) {
	if size == 0 {
		do(nil)
		return
	}
	for _, v := range l {
		lists(l, size-1, func(rest []Value) { do(slices.Concat([]Value{v}, rest)) })
	}
}
