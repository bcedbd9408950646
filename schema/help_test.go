package schema_test

import (
	"fmt"
	"math"
	"math/rand"
	"slices"
	"strings"
	"testing"

	"longstop/api"
	"longstop/datum"
	"longstop/expr"
	"longstop/schema"
)

type (
	Column = schema.Column
	Node   = expr.Node
	Table  = schema.Table
	Value  = api.Value
)

const (
	least = math.MinInt
	great = math.MaxInt
)

var null = Value{}

func whole(n int) Value { return Value{Kind: api.Int, N: n} }

func dec(units, scale int) Value { return Value{Kind: api.Dec, N: units, M: scale} }

func text(s string) Value { return Value{Kind: api.Text, B: s} }

func truth(n int) Value { return Value{Kind: api.Bool, N: n} }

func point(x, y int) Value { return Value{Kind: api.Point, N: x, M: y} }

func row(l ...Value) []Value { return l }

func pick[T any](r *rand.Rand, l ...T) T { return l[r.Intn(len(l))] }

// short tells x in a line that can be read.
func short(x any) string {
	s := fmt.Sprintf("%+v", x)
	return s[:min(len(s), 400)]
}

// nodes is of texts that are expressions'; "" is of none.
func nodes(s string) []Node {
	if s == "" {
		return nil
	}
	l, e := expr.Parse(s)
	if e != api.OK {
		panic(s + " is no expression's text")
	}
	return l
}

// rowOf is of values' texts, commas between.
func rowOf(t *testing.T, s string) []Value {
	t.Helper()
	var l []Value
	for _, part := range strings.Split(s, ", ") {
		v, e := datum.Parse(part)
		if e != api.OK {
			t.Fatalf("%s is no value's text", part)
		}
		l = append(l, v)
	}
	return l
}

// sample has a column of each Kind, and one more Text.
func sample() Table {
	return Table{
		Name: "t",
		Columns: []Column{
			{Name: "i", Kind: api.Int, Must: true},
			{Name: "d", Kind: api.Dec, Scale: 2},
			{Name: "s", Kind: api.Text},
			{Name: "b", Kind: api.Bool},
			{Name: "p", Kind: api.Point},
			{Name: "k", Kind: api.Text},
		},
		Key:     []int{5, 0},
		Uniques: [][]int{{1, 2}, {4}},
		Check:   nodes("i > 0 or t.b"),
	}
}

func sampleRow() []Value {
	return row(whole(7), dec(250, 2), text("first"), truth(1), point(3, -4), text("second"))
}

// with gives the sample, changed.
func with(change func(*Table)) Table {
	t := sample()
	change(&t)
	return t
}

// one gives a table of one column of that Kind, called a.
func one(kind, scale int, check string) Table {
	return Table{Name: "t", Columns: []Column{{Name: "a", Kind: kind, Scale: scale}}, Check: nodes(check)}
}

// columnsOf gives so many columns, that may be.
func columnsOf(n int) []Column {
	l := make([]Column, n)
	for i := range l {
		l[i] = Column{Name: fmt.Sprintf("c%d", i), Kind: 1 + i%5}
	}
	return l
}

// upTo gives the places ahead of n.
func upTo(n int) []int {
	l := make([]int, n)
	for i := range l {
		l[i] = i
	}
	return l
}

// sized gives a Check that holds, and whose text has that many bytes.
func sized(t *testing.T, size int) []Node {
	t.Helper()
	four := func(s string) string { return "coalesce(" + strings.Join([]string{s, s, s, s}, ", ") + ")" }
	texts := four(four("''"))
	l := nodes("coalesce(true, " + texts + ", " + texts + ", " + texts + ")")
	// The texts get their bytes behind Parse, which takes none that are longer
	// than MaxSource.
	left := size - len(expr.Print(l))
	for i, n := range l {
		if n.Value.Kind == api.Text {
			more := min(left, api.MaxValue)
			l[i].Value.B = strings.Repeat("x", more)
			left -= more
		}
	}
	if s := expr.Print(l); len(s) != size {
		t.Fatalf("a text of %d bytes, not of %d", len(s), size)
	}
	return l
}

// nameable, nameless: what may be a name, and what may not.
func nameable() []string {
	return []string{"a", "z", "_", "__", "a1", "_1", "ab_9z", "nulls", "tables", "sum", "count", "length", "int", "dec", "text", "bool", "point", "asce", "an", "key_", strings.Repeat("a", api.MaxName), strings.Repeat("_", api.MaxName)}
}

const reserved = "and or not is null true false select distinct from where group by having order asc desc limit union all join left cross on as insert into values update set delete create table drop primary key unique check begin commit rollback"

func nameless() []string {
	l := []string{"", " ", "A", "aB", "1", "1a", "9", "a b", " a", "a ", "a.b", "a-b", "'a'", "a\n", "a\x00", "\xff", "é", "ä", "*", "(", strings.Repeat("a", api.MaxName+1), strings.Repeat("_", api.MaxName+1), strings.Repeat("a", 100000)}
	return append(l, strings.Fields(reserved)...)
}

// wrongValues gives values that may not be.
func wrongValues() []Value {
	return []Value{
		{Kind: -1}, {Kind: 6}, {Kind: 256}, {Kind: least}, {Kind: great, N: 1, M: 1, B: "a"},
		{N: 1}, {M: 1}, {B: "a"}, {Kind: api.Int, N: 5, M: 1}, {Kind: api.Int, N: 5, B: "a"},
		{Kind: api.Dec, N: 5, M: 2, B: "5"}, dec(0, -1), dec(5, 7), dec(5, great),
		{Kind: api.Text, N: 1, B: "a"}, {Kind: api.Text, M: 1}, text(strings.Repeat("a", api.MaxValue+1)), text("\xff"),
		truth(2), truth(-1), {Kind: api.Bool, N: 1, M: 1}, {Kind: api.Bool, N: 1, B: "true"},
		point(api.MaxPoint+1, 0), point(0, -api.MaxPoint-1), {Kind: api.Point, N: 1, M: 1, B: "a"},
	}
}

// someValues gives values that may be, of every Kind at its edges.
func someValues() []Value {
	l := []Value{
		null, truth(0), truth(1), text(""), text("a"), text("it's"), text("\x00"), text("é"), text(strings.Repeat("a", api.MaxValue)),
		point(0, 0), point(3, -4), point(api.MaxPoint, -api.MaxPoint),
	}
	for _, n := range []int{0, 1, -1, 3, 5, -5, 15, 25, 35, -25, 45, 49, 50, 51, 99, 150, 250, 2250, great / 1000000, great/1000000 + 1, least / 1000000, least/1000000 - 1, great / 100, great/100 + 1, great - 4, great, least + 4, least} {
		l = append(l, whole(n))
		for scale := range api.MaxScale + 1 {
			l = append(l, dec(n, scale))
		}
	}
	return l
}

// sameList tells whether two lists have the same in them, nil or not.
func sameList[T comparable](a, b []T) bool { return slices.Equal(a, b) }

// sameTable tells whether two tables have the same in them, nil or not; unlike
// Same of those, too, that may not be.
func sameTable(a, b Table) bool {
	return a.Name == b.Name && sameList(a.Columns, b.Columns) && sameList(a.Key, b.Key) &&
		slices.EqualFunc(a.Uniques, b.Uniques, sameList[int]) && sameList(a.Check, b.Check)
}

// copied gives a table that has nothing in common with t's memory but texts.
func copied(t Table) Table {
	t.Columns, t.Key, t.Check = slices.Clone(t.Columns), slices.Clone(t.Key), slices.Clone(t.Check)
	t.Uniques = slices.Clone(t.Uniques)
	for i, u := range t.Uniques {
		t.Uniques[i] = slices.Clone(u)
	}
	return t
}

// fits complains unless Fit makes that row, and Keys agrees that it does.
func fits(t *testing.T, table Table, given, want []Value) {
	t.Helper()
	got, e := schema.Fit(table, given)
	if e != api.OK || !sameList(got, want) {
		t.Fatalf("Fit of %s to %s: %s, %d, not %s", short(given), short(table), short(got), e, short(want))
	}
	if l, e := schema.Keys(table, given); e != api.OK || len(l) != 1+len(table.Uniques) {
		t.Fatalf("Keys of %s to %s: %q, %d", short(given), short(table), l, e)
	}
}

// fails complains unless Fit and Keys answer that error, and nothing beside it.
func fails(t *testing.T, table Table, given []Value, want api.Errno) {
	t.Helper()
	if got, e := schema.Fit(table, given); e != want || len(got) != 0 {
		t.Fatalf("Fit of %s to %s: %s, %d, not %d", short(given), short(table), short(got), e, want)
	}
	if l, e := schema.Keys(table, given); e != want || len(l) != 0 {
		t.Fatalf("Keys of %s to %s: %q, %d, not %d", short(given), short(table), l, e, want)
	}
}

// bytesOf gives the bytes of a table that may be.
func bytesOf(t *testing.T, table Table) []byte {
	t.Helper()
	b, e := schema.Put(table)
	if e != api.OK || len(b) == 0 {
		t.Fatalf("Put of %s: %x, %d", short(table), b, e)
	}
	return b
}

// noTable complains unless Get says that b are no table's bytes.
func noTable(t *testing.T, what string, b []byte) {
	t.Helper()
	if table, e := schema.Get(b); e != api.ErrForm || !sameTable(table, Table{}) {
		t.Fatalf("%s: Get of %s: %s, %d", what, short(fmt.Sprintf("%x", b)), short(table), e)
	}
}
