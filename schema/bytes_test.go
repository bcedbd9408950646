package schema_test

import (
	"bytes"
	"math/rand"
	"slices"
	"strings"
	"testing"

	"longstop/api"
	"longstop/expr"
	"longstop/schema"
)

// back complains unless t's bytes are as told, and Get gives t of them.
func back(t *testing.T, table Table) {
	t.Helper()
	b := bytesOf(t, table)
	if !bytes.Equal(b, toldBytes(table)) {
		t.Fatalf("Put of %s: %x, not %x", short(table), b, toldBytes(table))
	}
	got, e := schema.Get(b)
	if e != api.OK || !sameTable(got, table) || !schema.Same(got, table) {
		t.Fatalf("Get of Put of %s: %s, %d", short(table), short(got), e)
	}
	if again := bytesOf(t, got); !bytes.Equal(again, b) {
		t.Fatalf("Put of Get of %x: %x", b, again)
	}
}

func TestP804Bytes(t *testing.T) {
	if b := bytesOf(t, one(api.Int, 0, "")); string(b) != "\x02t\x02\x02a\x02\x00\x00\x00\x00\x00" {
		t.Errorf("%q", b)
	}
	table := Table{
		Name:    "ab",
		Columns: []Column{{Name: "i", Kind: api.Point, Must: true}, {Name: "dd", Kind: api.Dec, Scale: 6}},
		Key:     []int{1, 0},
		Uniques: [][]int{{0}, {1}, {1, 0}},
		Check:   nodes("dd > 1"),
	}
	want := "\x04ab\x04" + "\x02i\x0a\x00\x02" + "\x04dd\x04\x0c\x00" + "\x04\x02\x00" + "\x06\x02\x00\x02\x02\x04\x02\x00" + "\x10(dd > 1)"
	if b := bytesOf(t, table); string(b) != want {
		t.Errorf("%q, not %q", b, want)
	}
}

func TestP806ThereAndBack(t *testing.T) {
	back(t, sample())
	back(t, one(api.Int, 0, ""))
	for n := 1; n <= api.MaxColumns; n++ {
		back(t, Table{Name: "t", Columns: columnsOf(n), Key: upTo(n), Uniques: slices.Repeat([][]int{upTo(n)}, 4)})
	}
	for _, s := range nameable() {
		back(t, Table{Name: s, Columns: []Column{{Name: s, Kind: api.Text}}, Check: []Node{{Op: expr.Column, Table: s, Name: s}}})
	}
	for kind := api.Int; kind <= api.Point; kind++ {
		for scale := range api.MaxScale + 1 {
			if kind == api.Dec || scale == 0 {
				back(t, one(kind, scale, "a is null"))
			}
		}
	}
	for _, s := range []string{"true", "null", "i", "t.i", "foo()", "-i < 2.50 and s <> 'it''s'", "coalesce(1, 2., 'é', null) = i", "not not b is null"} {
		back(t, with(func(t *Table) { t.Check = nodes(s) }))
	}
}

func TestP806WildTables(t *testing.T) {
	t.Parallel()
	r := rand.New(rand.NewSource(806))
	for range 30000 {
		back(t, wildTable(r))
	}
}

// A Check's text that is longer than MaxSource is written, but not read.
func TestP806LongChecks(t *testing.T) {
	table := one(api.Int, 0, "")
	for _, size := range []int{2000, api.MaxSource - 1, api.MaxSource} {
		table.Check = sized(t, size)
		back(t, table)
	}
	for _, size := range []int{api.MaxSource + 1, api.MaxSource + 2, 3 * api.MaxSource} {
		table.Check = sized(t, size)
		b := bytesOf(t, table)
		if !bytes.Equal(b, toldBytes(table)) || !schema.Same(table, table) {
			t.Errorf("Put of a Check of %d bytes: %d bytes, not %d", size, len(b), len(toldBytes(table)))
		}
		noTable(t, "a long Check", b)
	}
}

func TestP804CutShort(t *testing.T) {
	for _, table := range []Table{sample(), one(api.Dec, 3, ""), one(api.Int, 0, "a > 0")} {
		b := bytesOf(t, table)
		for n := range b {
			noTable(t, "cut short", b[:n])
			noTable(t, "without its beginning", b[n+1:])
		}
		noTable(t, "nil", nil)
		for _, more := range []string{"\x00", "\x02", "\xff", "\x02a", string(b)} {
			noTable(t, "more behind it", append(bytes.Clone(b), more...))
			noTable(t, "more ahead of it", append([]byte(more), b...))
		}
		noTable(t, "a number written too long", append(bytes.Clone(b[:len(b)-1]), b[len(b)-1]|128, 0))
	}
}

// What another byte makes of a table's bytes is no table's, or another one's.
func TestP804OtherBytes(t *testing.T) {
	for _, table := range []Table{sample(), one(api.Dec, 3, ""), one(api.Text, 0, "a > 'x'")} {
		b := bytesOf(t, table)
		tables := 0
		for at := range b {
			for c := range 256 {
				other := bytes.Clone(b)
				other[at] = byte(c)
				got, e := schema.Get(other)
				if e != api.OK {
					noTable(t, "another byte", other)
					continue
				}
				tables++
				if !toldRight(got) || !bytes.Equal(toldBytes(got), other) || sameTable(got, table) != (b[at] == byte(c)) {
					t.Fatalf("Get of %x: %s", other, short(got))
				}
			}
		}
		if tables < len(b)+20 {
			t.Errorf("%d are a table's", tables)
		}
	}
}

// A table's bytes, part by part, with one part that may not stand there.
func TestP804WrongParts(t *testing.T) {
	whole := []any{"t", 2, "a", 2, 3, true, "b", 3, 0, false, []int{1, 0}, 2, []int{0}, []int{1, 0}, "(a > 0)"}
	if got, e := schema.Get(toldBytes(whole...)); e != api.OK || len(got.Columns) != 2 || !got.Columns[0].Must || got.Columns[1].Must || got.Columns[0].Scale != 3 || len(got.Check) != 3 {
		t.Fatalf("Get: %s, %d", short(got), e)
	}
	counts := []any{-1, 0, 1, 3, 4, 5, 16, 17, 18, 256, 1 << 20, 1 << 40, least, great}
	for at, parts := range map[int][]any{
		0:  {"", "T", "select", "a b", strings.Repeat("a", api.MaxName+1), 0, 5},
		1:  counts,
		2:  {"", "b", "A", "null", strings.Repeat("a", api.MaxName+1)},
		3:  {-1, 0, 6, 7, 256 + 2, least, great, 1, 3, 4, 5},
		4:  {-1, 7, 8, 256 + 3, least, great},
		5:  {2, -1, 3, 256, 257, least, great, "\x01"},
		6:  {"", "a", "B", "check"},
		7:  {-1, 0, 6, least, great},
		8:  {-1, 1, 6, 7, least, great},
		9:  {2, -1, least, great},
		10: {[]int{0, 0}, []int{1, 1}, []int{2}, []int{-1}, []int{0, 1, 2}, []int{0, 1, 0}, []int{great}, -1, 3, 16, 17, 1 << 40, great, least},
		11: {-1, 0, 1, 3, 4, 5, 6, 1 << 40, least, great},
		12: {[]int{}, []int{0, 0}, []int{2}, []int{-1}, []int{0, 1, 2}, -1, 17, great},
		13: {[]int{}, []int{1, 1}, []int{5}, []int{least}, []int{0, 1, 1}, -1, 17, great},
		14: {"a > 0", "(a>0)", "(a  > 0)", " (a > 0)", "(a > 0) ", "((a > 0))", "(a > 0", "a >", ")", " ", "\n", "(z > 0)", "z", "u.a", "(u.a > 0)", "(a > 00)", "(A > 0)", "select", "a b", "-1", "(-1)", "<1,2>", "\xff", "\x00", "(x", "'", "(not (not a)) is null", "not a", "a is null", "foo( )", "foo(a,a)", "a . a", "(a is not null)", strings.Repeat(" ", api.MaxSource), strings.Repeat("(", 4000), -1, great},
	} {
		for _, p := range parts {
			parts := slices.Clone(whole)
			parts[at] = p
			noTable(t, short(p), toldBytes(parts...))
		}
	}
}

// Counts that say more than may be, with all of it behind them.
func TestP804CountsTooGreat(t *testing.T) {
	for _, n := range []int{0, api.MaxColumns + 1, api.MaxColumns + 2, 300} {
		noTable(t, "columns", toldBytes(Table{Name: "t", Columns: columnsOf(n)}))
	}
	for n := range 40 {
		b := toldBytes(with(func(t *Table) { t.Uniques = slices.Repeat([][]int{{0}}, n) }))
		if _, e := schema.Get(b); e == api.OK != (n <= 4) {
			t.Errorf("%d Uniques: %d", n, e)
		}
		full := Table{Name: "t", Columns: columnsOf(api.MaxColumns), Key: upTo(n)}
		if _, e := schema.Get(toldBytes(full)); e == api.OK != (n <= api.MaxColumns) {
			t.Errorf("%d places: %d", n, e)
		}
		full.Key, full.Uniques = nil, [][]int{upTo(n)}
		if _, e := schema.Get(toldBytes(full)); e == api.OK != (1 <= n && n <= api.MaxColumns) {
			t.Errorf("%d places of a Unique: %d", n, e)
		}
	}
	noTable(t, "zeros", make([]byte, 1<<20))
	noTable(t, "ones", bytes.Repeat([]byte{255}, 1<<20))
}

// Of spoiled tables' bytes Get says what Right says of the table.
func TestP804SpoiledTables(t *testing.T) {
	t.Parallel()
	r := rand.New(rand.NewSource(804))
	wrongs := 0
	for range 30000 {
		table := spoiled(r, wildTable(r))
		if len(table.Check) > 0 && !expr.Right(table.Check) {
			continue // it has no text
		}
		if toldRight(table) {
			back(t, table)
			continue
		}
		wrongs++
		noTable(t, "a table that may not be", toldBytes(table))
	}
	if wrongs < 5000 {
		t.Errorf("%d were wrong", wrongs)
	}
}

// Noise, and tables' bytes with some of them changed.
func TestP804Noise(t *testing.T) {
	t.Parallel()
	r := rand.New(rand.NewSource(8040))
	for range 60000 {
		b := make([]byte, r.Intn(20))
		r.Read(b)
		if r.Intn(4) > 0 {
			b = bytesOf(t, wildTable(r))
			for range 1 + r.Intn(3) {
				at := r.Intn(len(b))
				switch r.Intn(4) {
				case 0:
					b = slices.Delete(b, at, at+1)
				case 1:
					b = slices.Insert(b, at, byte(r.Intn(256)))
				default:
					b[at] = byte(int(b[at]) + pick(r, -4, -2, -1, 1, 2, 4, 128, r.Intn(256)))
				}
				if len(b) == 0 {
					break
				}
			}
		}
		got, e := schema.Get(b)
		if e != api.OK {
			noTable(t, "noise", b)
			continue
		}
		if !toldRight(got) || !bytes.Equal(toldBytes(got), b) {
			t.Fatalf("Get of %x: %s", b, short(got))
		}
	}
}

// unlike gives tables that are all unlike the sample in one thing.
func unlike() []Table {
	l := []Table{
		with(func(t *Table) { t.Name = "u"; t.Check = nodes("i > 0 or b") }),
		with(func(t *Table) { t.Columns = t.Columns[:5]; t.Key = []int{4, 0} }),
		with(func(t *Table) { t.Columns = append(t.Columns, Column{Name: "z", Kind: api.Int}) }),
		with(func(t *Table) { t.Columns[4], t.Columns[5] = t.Columns[5], t.Columns[4] }),
		with(func(t *Table) { t.Columns[1].Scale = 3 }),
		with(func(t *Table) { t.Key = []int{0, 5} }),
		with(func(t *Table) { t.Key = []int{5} }),
		with(func(t *Table) { t.Key = []int{5, 1} }),
		with(func(t *Table) { t.Key = nil }),
		with(func(t *Table) { t.Key = []int{5, 0, 1} }),
		with(func(t *Table) { t.Uniques = nil }),
		with(func(t *Table) { t.Uniques = [][]int{{1, 2}} }),
		with(func(t *Table) { t.Uniques = [][]int{{4}, {1, 2}} }),
		with(func(t *Table) { t.Uniques = [][]int{{2, 1}, {4}} }),
		with(func(t *Table) { t.Uniques = [][]int{{1, 2}, {4}, {4}} }),
		with(func(t *Table) { t.Uniques = [][]int{{1}, {2, 4}} }),
		with(func(t *Table) { t.Uniques = [][]int{{1, 2, 4}} }),
		with(func(t *Table) { t.Check = nil }),
		with(func(t *Table) { t.Check = nodes("i > 0") }),
		with(func(t *Table) { t.Check = nodes("i > 0 or b") }),
		with(func(t *Table) { t.Check = nodes("i > 1 or t.b") }),
		with(func(t *Table) { t.Check = nodes("i >= 0 or t.b") }),
		with(func(t *Table) { t.Check = nodes("d > 0 or t.b") }),
		with(func(t *Table) { t.Check = nodes("i > 0. or t.b") }),
		with(func(t *Table) { t.Check = nodes("t.b or i > 0") }),
		with(func(t *Table) { t.Check = nodes("abs(i) > 0 or t.b") }),
		with(func(t *Table) { t.Check = nodes("foo(i) > 0 or t.b") }),
	}
	for i, c := range sample().Columns {
		l = append(l, with(func(t *Table) { t.Columns[i].Must = !c.Must }))
	}
	for i := range 3 {
		l = append(l, with(func(t *Table) { t.Columns[2+i].Kind = 3 + (i+1)%3 }))
	}
	return append(l, with(func(t *Table) { t.Columns[4].Name = "q" }), with(func(t *Table) { t.Columns[5].Name = "q" }))
}

func TestP804Same(t *testing.T) {
	all := append(unlike(), sample())
	for i, a := range all {
		for k, b := range all {
			if schema.Same(a, copied(b)) != (i == k) {
				t.Errorf("Same of %s and %s: not %v", short(a), short(b), i == k)
			}
		}
		back(t, a)
	}
	empty := one(api.Int, 0, "")
	empty.Key, empty.Uniques, empty.Check = []int{}, [][]int{}, []Node{}
	if !schema.Same(empty, one(api.Int, 0, "")) || !schema.Same(one(api.Int, 0, ""), empty) {
		t.Errorf("nil and empty lists are not the same")
	}
}

func TestP804SameAsTold(t *testing.T) {
	t.Parallel()
	r := rand.New(rand.NewSource(8041))
	for range 30000 {
		a := wildTable(r)
		b := copied(a)
		if r.Intn(4) > 0 {
			b = spoiled(r, b)
		}
		want := sameTable(a, b) && toldRight(b)
		if schema.Same(a, b) != want || schema.Same(b, a) != want {
			t.Fatalf("Same of %s and %s: not %v", short(a), short(b), want)
		}
	}
}
