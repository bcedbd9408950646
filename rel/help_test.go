package rel_test

import (
	"fmt"
	"math"
	"math/rand"
	"slices"
	"strings"
	"testing"

	"longstop/api"
	"longstop/datum"
	"longstop/expr"
	"longstop/rel"
	"longstop/schema"
	"longstop/stmt"
)

type (
	Column = schema.Column
	Core   = stmt.Core
	Data   = rel.Data
	Item   = stmt.Item
	Node   = expr.Node
	Order  = stmt.Order
	Query  = stmt.Query
	Source = stmt.Source
	Table  = schema.Table
	Value  = api.Value
)

const (
	least = math.MinInt
	great = math.MaxInt
)

var null = Value{}

func whole(n int) Value { return Value{Kind: api.Int, N: n} }

func dec(units, scale int) Value { return Value{Kind: api.Dec, N: units, M: scale} }

func text(s string) Value { return Value{Kind: api.Text, B: s} }

func truth(n int) Value { return Value{Kind: api.Bool, N: n} }

func point(x, y int) Value { return Value{Kind: api.Point, N: x, M: y} }

func row(l ...Value) []Value { return l }

func pick[T any](r *rand.Rand, l ...T) T { return l[r.Intn(len(l))] }

// short tells x in a line that can be read.
func short(x any) string {
	s := fmt.Sprintf("%+v", x)
	return s[:min(len(s), 600)]
}

// nodes is of texts that are expressions'; "" is of none.
func nodes(s string) []Node {
	if s == "" {
		return nil
	}
	l, e := expr.Parse(s)
	if e != api.OK {
		panic(s + " is no expression's text")
	}
	return l
}

// query is of texts that are selects'.
func query(s string) Query {
	x, e := stmt.Parse(s)
	if e != api.OK || x.Kind != stmt.Select {
		panic(short(s) + " is no select's text")
	}
	return x.Query
}

// values is of values' texts, commas between; "" is of none.
func values(s string) []Value {
	if s == "" {
		return nil
	}
	var l []Value
	for _, part := range strings.Split(s, ", ") {
		v, e := datum.Parse(part)
		if e != api.OK {
			panic(part + " is no value's text")
		}
		l = append(l, v)
	}
	return l
}

// rowsOf is of rows' texts, strokes between; "" is of none.
func rowsOf(s string) [][]Value {
	if s == "" {
		return nil
	}
	var l [][]Value
	for _, part := range strings.Split(s, " | ") {
		l = append(l, values(part))
	}
	return l
}

// data is of a table's columns, and of rows' texts.
func data(name, columns, rows string) Data {
	x, e := stmt.Parse("create table " + name + " (" + columns + ")")
	if e != api.OK {
		panic(columns + " are no columns")
	}
	return Data{Table: x.Table, Rows: rowsOf(rows)}
}

// numbered gives a table of that many rows, of one column called as the table.
func numbered(name string, count int) Data {
	d := data(name, name+" int", "")
	for i := range count {
		d.Rows = append(d.Rows, row(whole(i)))
	}
	return d
}

// db: t and u have a column of the same name, e and o no rows.
func db() []Data {
	return []Data{
		data("t", "k int, a text", "1, 'x' | 2, 'y' | 3, null | 2, 'z'"),
		data("u", "k int, b dec (1)", "1, 1.5 | 2, 2.0 | 2, 0.5 | null, 4.0"),
		data("e", "x int, y bool", ""),
		data("o", "k int", ""),
		data("m", "i int, d dec (2), s text, f bool, p point", "2, 2.00, 'a', true, <1,2> | null, 3.00, 'b', null, <1,2> | 3, null, null, false, null | 2, 2.00, 'a', true, <1,2>"),
	}
}

// printed gives the rows' texts; no two lists of rows with values that may be
// have the same.
func printed(rows [][]Value) string {
	var l []string
	for _, row := range rows {
		var parts []string
		for _, v := range row {
			parts = append(parts, datum.Print(v))
		}
		l = append(l, strings.Join(parts, ", "))
	}
	return strings.Join(l, " | ")
}

func sameRows(a, b [][]Value) bool { return slices.EqualFunc(a, b, slices.Equal[[]Value]) }

// runs complains unless q comes to those rows.
func runs(t *testing.T, q Query, db []Data, want string) {
	t.Helper()
	_, rows, e := rel.Run(q, db)
	if e != api.OK || printed(rows) != want {
		t.Fatalf("Run of %s: %s, %d, not %s", short(q), short(printed(rows)), e, short(want))
	}
	if (len(rows) == 0) != (want == "") && !(len(rows) == 1 && len(rows[0]) == 0) {
		t.Fatalf("Run of %s: %d rows", short(q), len(rows))
	}
}

// gives is runs of a select's text and the database of all these tests.
func gives(t *testing.T, s, want string) {
	t.Helper()
	_, rows, e := rel.Run(query(s), db())
	if e != api.OK || printed(rows) != want {
		t.Fatalf("%s: %s, %d, not %s", s, printed(rows), e, want)
	}
}

// fails complains unless Run answers that error, and nothing beside it.
func fails(t *testing.T, q Query, db []Data, want api.Errno) {
	t.Helper()
	if names, rows, e := rel.Run(q, db); e != want || len(names) != 0 || len(rows) != 0 {
		t.Fatalf("Run of %s: %s, %s, %d, not %d", short(q), short(names), short(rows), e, want)
	}
}

// refused is fails of a select's text and the database of all these tests.
func refused(t *testing.T, s string, want api.Errno) {
	t.Helper()
	if names, rows, e := rel.Run(query(s), db()); e != want || len(names) != 0 || len(rows) != 0 {
		t.Fatalf("%s: %s, %s, %d, not %d", s, short(names), short(rows), e, want)
	}
}

// named complains unless the columns of s have those names.
func named(t *testing.T, s string, want ...string) {
	t.Helper()
	names, _, e := rel.Run(query(s), db())
	if e != api.OK || !slices.Equal(names, want) {
		t.Fatalf("%s: %q, %d, not %q", s, names, e, want)
	}
}

// one gives the query of one Core, without anything behind it.
func one(c Core) Query { return Query{Cores: []Core{c}, Limit: -1} }

func items(l ...string) []Item {
	var out []Item
	for _, s := range l {
		out = append(out, Item{Expr: nodes(s)})
	}
	return out
}

// wrongValues gives values that may not be.
func wrongValues() []Value {
	return []Value{
		{Kind: -1}, {Kind: 6}, {Kind: least}, {Kind: great, N: 1, M: 1, B: "a"},
		{N: 1}, {M: 1}, {B: "a"}, {Kind: api.Int, N: 5, M: 1}, {Kind: api.Int, N: 5, B: "a"},
		{Kind: api.Dec, N: 5, M: 2, B: "5"}, dec(0, -1), dec(5, 7), dec(5, great),
		{Kind: api.Text, N: 1, B: "a"}, {Kind: api.Text, M: 1}, text(strings.Repeat("a", api.MaxValue+1)), text("\xff"),
		truth(2), truth(-1), {Kind: api.Bool, N: 1, M: 1}, {Kind: api.Bool, N: 1, B: "true"},
		point(api.MaxPoint+1, 0), point(0, -api.MaxPoint-1), {Kind: api.Point, N: 1, M: 1, B: "a"},
	}
}

// wrongExpressions gives what is no expression; nothing is none, too, but may
// stand where one may be left away.
func wrongExpressions() [][]Node {
	deep := nodes("1")
	for range api.MaxDepth {
		deep = append(deep, Node{Op: expr.Neg})
	}
	var long []Node
	for range 129 {
		long = append(long, nodes("1")...)
	}
	return [][]Node{
		deep, long,
		{{}}, {{Op: least}}, {{Op: 20}}, {{Op: expr.Add}},
		{{Op: expr.Value, Value: whole(1)}, {Op: expr.Value, Value: whole(1)}},
		{{Op: expr.Value, Value: whole(-1)}}, {{Op: expr.Value, Value: point(1, 2)}}, {{Op: expr.Value, Value: truth(2)}},
		{{Op: expr.Column}}, {{Op: expr.Column, Name: "select"}}, {{Op: expr.Column, Name: "k", Args: 1}}, {{Op: expr.Column, Table: "T", Name: "k"}},
		{{Op: expr.Call, Name: "count", Args: 1}}, {{Op: expr.Call, Name: "count", Args: -1}}, {{Op: expr.Call, Args: 0}},
	}
}
