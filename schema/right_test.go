package schema_test

import (
	"math/rand"
	"slices"
	"testing"

	"longstop/api"
	"longstop/expr"
	"longstop/schema"
)

// right complains unless every call takes t.
func right(t *testing.T, table Table) {
	t.Helper()
	if !schema.Right(table) || !schema.Same(table, table) {
		t.Fatalf("%s may not be", short(table))
	}
	if s := schema.Scope(table, "x"); len(s.Names) != len(table.Columns) || len(s.Tables) != len(table.Columns) {
		t.Fatalf("Scope of %s: %s", short(table), short(s))
	}
	if b, e := schema.Put(table); e != api.OK || len(b) == 0 {
		t.Fatalf("Put of %s: %x, %d", short(table), b, e)
	}
	fails(t, table, nil, api.ErrArg)
}

// wrong complains unless no call takes t, whatever stands beside it.
func wrong(t *testing.T, table Table) {
	t.Helper()
	if schema.Right(table) {
		t.Fatalf("%s may be", short(table))
	}
	if schema.Same(table, table) || schema.Same(table, sample()) || schema.Same(sample(), table) {
		t.Fatalf("%s is the same", short(table))
	}
	for _, alias := range []string{"", "t", "x"} {
		if s := schema.Scope(table, alias); len(s.Names) != 0 || len(s.Tables) != 0 {
			t.Fatalf("Scope of %s: %s", short(table), short(s))
		}
	}
	if b, e := schema.Put(table); e != api.ErrArg || len(b) != 0 {
		t.Fatalf("Put of %s: %x, %d", short(table), b, e)
	}
	for _, given := range [][]Value{nil, sampleRow(), make([]Value, len(table.Columns)), {null, {Kind: 9}}} {
		fails(t, table, given, api.ErrArg)
	}
}

func TestP801OrdinaryTables(t *testing.T) {
	right(t, sample())
	right(t, one(api.Int, 0, ""))
	right(t, Table{Name: "u", Columns: columnsOf(3), Key: []int{1}, Uniques: [][]int{{0}, {2, 0}}, Check: nodes("c0 > 1 and u.c2 <> 'x'")})
	wrong(t, Table{})
	wrong(t, Table{Name: "t"})
	wrong(t, Table{Columns: columnsOf(1)})
}

func TestP801CountsOfColumns(t *testing.T) {
	for n := range 40 {
		table := Table{Name: "t", Columns: columnsOf(n)}
		if 1 <= n && n <= api.MaxColumns {
			right(t, table)
			table.Key = upTo(n)
			right(t, table)
			continue
		}
		wrong(t, table)
	}
	wrong(t, Table{Name: "t", Columns: make([]Column, 1<<20)})
	wrong(t, Table{Name: "t", Columns: columnsOf(100000)})
}

func TestP801Names(t *testing.T) {
	for _, s := range nameable() {
		table := one(api.Int, 0, "")
		table.Name = s
		right(t, table)
		table.Columns[0].Name = s
		right(t, table)
		right(t, with(func(t *Table) { t.Columns[4].Name = s }))
	}
	for _, s := range nameless() {
		table := one(api.Int, 0, "")
		table.Name = s
		wrong(t, table)
		for i := range sample().Columns {
			wrong(t, with(func(t *Table) { t.Columns[i].Name = s; t.Check = nil }))
		}
	}
}

func TestP801NoNameTwice(t *testing.T) {
	table := Table{Name: "t", Columns: columnsOf(api.MaxColumns)}
	for i := range table.Columns {
		for k := range i {
			twice := copied(table)
			twice.Columns[i].Name = twice.Columns[k].Name
			wrong(t, twice)
		}
	}
	// The table's own name is no column's.
	right(t, with(func(t *Table) { t.Columns[4].Name = "t" }))
}

func TestP801KindsAndScales(t *testing.T) {
	for kind := -3; kind < 12; kind++ {
		for scale := -3; scale < 12; scale++ {
			table := one(kind, scale, "")
			fine := scale == 0 && 1 <= kind && kind <= 5 || kind == 2 && 0 <= scale && scale <= 6
			for _, must := range []bool{false, true} {
				table.Columns[0].Must = must
				if fine {
					right(t, table)
				} else {
					wrong(t, table)
				}
			}
		}
		for _, n := range []int{least, great, 256, 257, 258, 1 << 32, 1<<32 + 2} {
			wrong(t, one(kind, n, ""))
			wrong(t, one(n, 0, ""))
			wrong(t, one(n, kind, ""))
		}
	}
	for i := range sample().Columns {
		wrong(t, with(func(t *Table) { t.Columns[i].Kind = api.Null; t.Columns[i].Scale = 0 }))
		wrong(t, with(func(t *Table) { t.Columns[i].Scale = 7 }))
		wrong(t, with(func(t *Table) { t.Columns[i].Scale = -1 }))
	}
}

// rightPlaces, wrongPlaces: of a table of six columns.
var rightPlaces = [][]int{{0}, {5}, {0, 5}, {5, 0}, {3, 1, 2}, {0, 1, 2, 3, 4, 5}, {5, 4, 3, 2, 1, 0}}

var wrongPlaces = [][]int{
	{-1}, {6}, {7}, {least}, {great}, {256}, {1 << 32}, {0, -1}, {-1, 0}, {0, 6}, {6, 0}, {1, -2},
	{0, 0}, {5, 5}, {0, 1, 0}, {1, 0, 0}, {0, 1, 2, 3, 4, 5, 0}, {0, 1, 2, 3, 4, 5, 6}, {0, 1, 2, 3, 4, 5, -1}, {6, 6}, {-1, -1},
}

func TestP801Keys(t *testing.T) {
	for _, l := range append(rightPlaces, nil, []int{}) {
		right(t, with(func(t *Table) { t.Key = l }))
	}
	for i := range sample().Columns {
		right(t, with(func(t *Table) { t.Key = []int{i}; t.Uniques = [][]int{{i}} }))
	}
	for _, l := range wrongPlaces {
		wrong(t, with(func(t *Table) { t.Key = l }))
	}
	wrong(t, with(func(t *Table) { t.Key = make([]int, 1<<20) }))
	wrong(t, with(func(t *Table) { t.Key = upTo(1 << 20) }))
}

func TestP801Uniques(t *testing.T) {
	for n := range 7 {
		for _, l := range rightPlaces {
			table := with(func(t *Table) { t.Uniques = slices.Repeat([][]int{l}, n) })
			if n <= 4 {
				right(t, table)
			} else {
				wrong(t, table)
			}
		}
	}
	right(t, with(func(t *Table) { t.Uniques = rightPlaces[:4] }))
	right(t, with(func(t *Table) { t.Uniques = rightPlaces[3:] }))
	wrong(t, with(func(t *Table) { t.Uniques = rightPlaces[:5] }))
	wrong(t, with(func(t *Table) { t.Uniques = make([][]int, 1<<20) }))
	for _, l := range append(wrongPlaces, nil, []int{}) {
		for at := range 4 {
			wrong(t, with(func(t *Table) {
				t.Uniques = slices.Clone(rightPlaces[:4])
				t.Uniques[at] = l
			}))
		}
		wrong(t, with(func(t *Table) { t.Uniques = [][]int{l} }))
	}
}

func TestP801Checks(t *testing.T) {
	for _, s := range []string{
		"", "true", "null", "7", "i", "t.i", "i > 0", "t.i > 0 and i < 9", "foo(i)", "foo(t.i, d, s, b)", "1 / 0 = 1", "not b",
		"i + t.d > length(s) or p = point(1, 2) and k is not null", "count(i)", "t.k = k",
	} {
		right(t, with(func(t *Table) { t.Check = nodes(s) }))
	}
	for _, s := range []string{"z", "t", "t.z", "u.i", "i.i", "i > 0 and z", "z and i > 0", "i > 0 and u.i > 0", "foo(i, d, s, z)", "t.t", "ii", "not u.b", "a"} {
		wrong(t, with(func(t *Table) { t.Check = nodes(s) }))
	}
	// A table of another name has another scope.
	right(t, with(func(t *Table) { t.Name = "u"; t.Check = nodes("u.i = i") }))
	wrong(t, with(func(t *Table) { t.Name = "u"; t.Check = nodes("t.i = i") }))
	right(t, with(func(t *Table) { t.Name = "i"; t.Check = nodes("i.i = i") }))
}

func TestP801ChecksThatAreNone(t *testing.T) {
	column := Node{Op: expr.Column, Name: "i"}
	deep := []Node{column}
	for range api.MaxDepth - 1 {
		deep = append(deep, Node{Op: expr.Neg})
	}
	right(t, with(func(t *Table) { t.Check = deep }))
	deeper := append(slices.Clone(deep), Node{Op: expr.Neg})
	for _, l := range [][]Node{
		deeper, {{}}, {{Op: expr.Column}}, {{Op: expr.Column, Name: "I"}}, {{Op: expr.Column, Name: "null"}}, {{Op: expr.Column, Name: "i", Args: 1}},
		{column, column}, {column, {Op: expr.Add}}, {{Op: expr.Not}}, {column, {Op: 20}}, {column, {Op: -1}}, {column, {Op: expr.Call}},
		{{Op: expr.Value, Value: whole(-1)}}, {{Op: expr.Value, Value: point(1, 2)}}, {{Op: expr.Value, Value: Value{Kind: 9}}}, {{Op: expr.Value, Name: "i"}},
		slices.Repeat([]Node{column}, 257), slices.Repeat([]Node{column}, 1<<20),
		slices.Concat(slices.Repeat([]Node{column}, 200), slices.Repeat([]Node{{Op: expr.Add}}, 199)),
	} {
		wrong(t, with(func(t *Table) { t.Check = l }))
	}
}

func TestP801Scope(t *testing.T) {
	names := []string{"i", "d", "s", "b", "p", "k"}
	for _, alias := range []string{"t", "u", "", "i", "not a word", "select", "\xff"} {
		s := schema.Scope(sample(), alias)
		if !slices.Equal(s.Names, names) || !slices.Equal(s.Tables, slices.Repeat([]string{alias}, 6)) {
			t.Errorf("Scope under %q: %s", alias, short(s))
		}
	}
	full := Table{Name: "t", Columns: columnsOf(api.MaxColumns)}
	if s := schema.Scope(full, "u"); len(s.Names) != 16 || s.Names[15] != "c15" || len(s.Tables) != 16 || s.Tables[15] != "u" {
		t.Errorf("Scope: %s", short(s))
	}
}

// Tables that may be, some with one thing changed, against the second teller.
func TestP801AsTold(t *testing.T) {
	t.Parallel()
	r := rand.New(rand.NewSource(801))
	fine := 0
	for range 60000 {
		table := wildTable(r)
		if !schema.Right(table) || !toldRight(table) {
			t.Fatalf("%s may not be", short(table))
		}
		other := spoiled(r, table)
		want := toldRight(other)
		if schema.Right(other) != want {
			t.Fatalf("%s: not %v", short(other), want)
		}
		if want {
			fine++
			right(t, other)
		} else {
			wrong(t, other)
		}
	}
	if fine < 10000 || fine > 40000 {
		t.Errorf("%d tables may be", fine)
	}
}
