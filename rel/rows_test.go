package rel_test

import (
	"math/rand"
	"slices"
	"strings"
	"testing"

	"longstop/api"
	"longstop/datum"
	"longstop/rel"
)

// unlike gives rows of which no two are the same, though some would be if their
// parts were told without saying where each one ends, or of which Kind it is.
func unlike() [][]Value {
	rows := [][]Value{
		{}, {null}, {null, null}, {whole(0)}, {dec(0, 0)}, {dec(0, 1)}, {dec(0, 6)}, {truth(0)}, {point(0, 0)}, {text("")}, {text("0")},
		{whole(1)}, {whole(-1)}, {whole(11)}, {whole(1), whole(1)}, {dec(1, 1)}, {dec(11, 0)}, {dec(10, 1)}, {dec(100, 2)}, {truth(1)}, {text("1")}, {text("-1")},
		{point(1, 0)}, {point(0, 1)}, {point(1, 1)}, {point(11, 1)}, {point(1, 11)}, {point(101, 0)}, {point(1, 100)}, {point(-1, 1)}, {point(1, -1)},
		{text("a"), text("b")}, {text("ab"), text("")}, {text(""), text("ab")}, {text("ab")}, {text("a"), text("")}, {text("a")}, {text("b"), text("a")}, {text("a b")}, {text("a"), text(" b")},
		{text("a3 0 0 1 b")}, {text("a"), whole(0)}, {text("a1 0 0 0 ")}, {text("a1 0 0 ")}, {text("a1 0 ")}, {text("a1000")}, {text("a100")}, {text("a1")}, {whole(1), null}, {null, whole(1)}, {text("1 0 0 0 ")}, {text("\x00")}, {text("\x00\x00")}, {text("é")}, {text("e")},
		{whole(great)}, {whole(least)}, {dec(great, 6)}, {dec(least, 6)}, {text("A")}, {text(" ")}, {text("  ")},
		slices.Repeat(row(whole(1)), 64), slices.Repeat(row(whole(1)), 65), slices.Repeat(row(whole(1)), 66), append(slices.Repeat(row(whole(1)), 64), whole(2)),
	}
	for _, v := range wrongValues() {
		rows = append(rows, row(v), row(v, null), row(null, v))
	}
	return rows
}

// copies gives rows with the same in them, in other memory.
func copies(rows [][]Value) [][]Value {
	out := make([][]Value, len(rows))
	for i, row := range rows {
		out[i] = slices.Clone(row)
		for j := range row {
			out[i][j].B = strings.Clone(row[j].B)
		}
	}
	return out
}

func TestP1003Distinct(t *testing.T) {
	for given, want := range map[string]string{
		"": "", "1": "1", "1 | 1": "1", "1 | 2": "1 | 2", "2 | 1 | 2 | 1 | 3 | 2": "2 | 1 | 3", "null | null": "null",
		"1 | 1.0 | 1. | 1.00 | 1 | 1.0": "1 | 1.0 | 1. | 1.00", "1, 2 | 1 | 1, 2 | 2 | 1": "1, 2 | 1 | 2",
		"'a', 'b' | 'ab', '' | 'a', 'b'": "'a', 'b' | 'ab', ''", "true | 1 | '1' | 'true' | true": "true | 1 | '1' | 'true'",
	} {
		if got := rel.Distinct(rowsOf(given)); printed(got) != want {
			t.Errorf("Distinct of %s: %s, not %s", given, printed(got), want)
		}
	}
	rows := unlike()
	if got := rel.Distinct(rows); !sameRows(got, rows) {
		t.Errorf("rows that are unlike: %d of %d are left", len(got), len(rows))
	}
	twice := append(copies(rows), rows...)
	if got := rel.Distinct(twice); !sameRows(got, rows) {
		t.Errorf("rows twice: %d of %d are left", len(got), len(rows))
	}
	for i := range rows {
		for j := range rows {
			got := rel.Distinct([][]Value{rows[i], rows[j], copies(rows)[i]})
			if want := 2; i == j && len(got) != 1 || i != j && (len(got) != want || !slices.Equal(got[1], rows[j])) || !slices.Equal(got[0], rows[i]) {
				t.Fatalf("Distinct of %s and %s: %d", short(rows[i]), short(rows[j]), len(got))
			}
		}
	}
	// Rows without values are rows, nil or not.
	if got := rel.Distinct([][]Value{nil, {}, nil}); len(got) != 1 || len(got[0]) != 0 {
		t.Errorf("rows without values: %v", got)
	}
	if got := rel.Distinct(nil); len(got) != 0 {
		t.Errorf("no rows: %v", got)
	}
}

func TestP1003Sort(t *testing.T) {
	for _, c := range []struct {
		given string
		desc  []bool
		want  string
	}{
		{"", nil, ""},
		{"2", nil, "2"},
		{"3 | 1 | 2 | 1", nil, "1 | 1 | 2 | 3"},
		{"3 | 1 | 2 | 1", []bool{true}, "3 | 2 | 1 | 1"},
		{"3 | 1 | 2 | 1", []bool{false}, "1 | 1 | 2 | 3"},
		{"3 | 1 | 2", []bool{false, true}, "1 | 2 | 3"},
		{"3 | 1 | 2", []bool{true, false, false, true}, "3 | 2 | 1"},
		{"1, 'b' | 2, 'a' | 1, 'a' | 2, 'b'", nil, "1, 'a' | 1, 'b' | 2, 'a' | 2, 'b'"},
		{"1, 'b' | 2, 'a' | 1, 'a' | 2, 'b'", []bool{true}, "2, 'a' | 2, 'b' | 1, 'a' | 1, 'b'"},
		{"1, 'b' | 2, 'a' | 1, 'a' | 2, 'b'", []bool{false, true}, "1, 'b' | 1, 'a' | 2, 'b' | 2, 'a'"},
		{"1, 'b' | 2, 'a' | 1, 'a' | 2, 'b'", []bool{true, true}, "2, 'b' | 2, 'a' | 1, 'b' | 1, 'a'"},
		{"1, 1, 2 | 1, 1, 1 | 1, 2, 0 | 0, 9, 9", []bool{true, false, true}, "1, 1, 2 | 1, 1, 1 | 1, 2, 0 | 0, 9, 9"},
		{"true | 'b' | 1.0 | null | <1,2> | 1 | 'a' | false | 0.5 | <1,-2> | 1.", nil, "null | 0.5 | 1 | 1. | 1.0 | 'a' | 'b' | false | true | <1,-2> | <1,2>"},
		{"true | 'b' | 1.0 | null | <1,2> | 1 | 'a' | false | 0.5 | <1,-2> | 1.", []bool{true}, "<1,2> | <1,-2> | true | false | 'b' | 'a' | 1.0 | 1. | 1 | 0.5 | null"},
		// A row that begins another one is ahead of it, as chapter 4 has it;
		// what desc turns round is values.
		{"1, 2 | 1 | 0, 5 | 1, 2, 3 | 2", nil, "0, 5 | 1 | 1, 2 | 1, 2, 3 | 2"},
		{"1, 2 | 1 | 0, 5 | 1, 2, 3 | 2", []bool{true}, "2 | 1 | 1, 2 | 1, 2, 3 | 0, 5"},
		{"1, 2 | 1 | 0, 5 | 1, 3 | 1, 2, 3 | 2", []bool{true, true, true}, "2 | 1 | 1, 3 | 1, 2 | 1, 2, 3 | 0, 5"},
		{"1, null | 1", []bool{false, true}, "1 | 1, null"},
	} {
		if got := rel.Sort(rowsOf(c.given), c.desc); printed(got) != c.want {
			t.Errorf("Sort of %s by %v: %s, not %s", c.given, c.desc, printed(got), c.want)
		}
	}
	got := rel.Sort([][]Value{row(whole(1)), nil, {}, row(null)}, []bool{true})
	if len(got) != 4 || len(got[0]) != 0 || len(got[1]) != 0 || got[2][0] != whole(1) || got[3][0] != null {
		t.Errorf("rows without values: %v", got)
	}
	if got := rel.Sort(nil, []bool{true}); len(got) != 0 {
		t.Errorf("no rows: %v", got)
	}
	if got := rel.Sort([][]Value{nil, nil}, nil); len(got) != 2 {
		t.Errorf("two rows without values: %v", got)
	}
}

// Values that may not be stand by their parts, as chapter 4 compares them.
func TestP1003SortOfAnyValues(t *testing.T) {
	var rows [][]Value
	for _, v := range wrongValues() {
		rows = append(rows, row(v))
	}
	for _, desc := range [][]bool{nil, {true}} {
		got := rel.Sort(rows, desc)
		for i := range got[1:] {
			c := datum.Compare(got[i][0], got[i+1][0])
			if c == 0 || (c > 0) != (desc != nil) {
				t.Fatalf("%v: %v ahead of %v", desc, got[i], got[i+1])
			}
		}
		if !rel.Bag(got, rows) {
			t.Fatal("other rows")
		}
	}
}

func TestP1003Aggregate(t *testing.T) {
	for _, c := range []struct{ given, count, sum, least, most, avg string }{
		{"", "0", "null", "null", "null", "null"},
		{"null", "0", "null", "null", "null", "null"},
		{"null, null, null", "0", "null", "null", "null", "null"},
		{"5", "1", "5", "5", "5", "5.000000"},
		{"-5", "1", "-5", "-5", "-5", "-5.000000"},
		{"2.50", "1", "2.50", "2.50", "2.50", "2.500000"},
		{"2.", "1", "2.", "2.", "2.", "2.000000"},
		{"0.000001", "1", "0.000001", "0.000001", "0.000001", "0.000001"},
		{"null, 5, null", "1", "5", "5", "5", "5.000000"},
		{"3, 1, 2", "3", "6", "1", "3", "2.000000"},
		{"3, null, 1, 2, null", "3", "6", "1", "3", "2.000000"},
		{"1, 0.5", "2", "1.5", "0.5", "1", "0.750000"},
		{"0.5, 1", "2", "1.5", "0.5", "1", "0.750000"},
		{"0.50, 1, 0.250", "3", "1.750", "0.250", "1", "0.583333"},
		{"1, 1.0, 1., 1.00", "4", "4.00", "1", "1.00", "1.000000"},
		{"1.00, 1., 1", "3", "3.00", "1", "1.00", "1.000000"},
		{"1, 1, 0", "3", "2", "0", "1", "0.666667"},
		{"0.000001, 0", "2", "0.000001", "0", "0.000001", "0.000000"},
		{"0.000003, 0", "2", "0.000003", "0", "0.000003", "0.000002"},
		{"-0.000001, 0", "2", "-0.000001", "-0.000001", "0", "0.000000"},
		{"-0.000003, 0", "2", "-0.000003", "-0.000003", "0", "-0.000002"},
		{"0.000001, 0, 0", "3", "0.000001", "0", "0.000001", "0.000000"},
		{"0.000002, 0, 0", "3", "0.000002", "0", "0.000002", "0.000001"},
		{"9223372036854775807", "1", "9223372036854775807", "9223372036854775807", "9223372036854775807", "ErrOver"},
		{"-9223372036854775808", "1", "-9223372036854775808", "-9223372036854775808", "-9223372036854775808", "ErrOver"},
		{"9223372036854, 9223372036854", "2", "18446744073708", "9223372036854", "9223372036854", "9223372036854.000000"},
		{"9223372036855, 9223372036855", "2", "18446744073710", "9223372036855", "9223372036855", "ErrOver"},
		{"9223372036854775807, 1", "2", "ErrOver", "1", "9223372036854775807", "ErrOver"},
		{"9223372036854775807, 1, -1", "3", "ErrOver", "-1", "9223372036854775807", "ErrOver"},
		{"9223372036854775807, -1, 1", "3", "9223372036854775807", "-1", "9223372036854775807", "ErrOver"},
		{"9223372036854775807, -9223372036854775807", "2", "0", "-9223372036854775807", "9223372036854775807", "0.000000"},
		{"-9223372036854775808, -1", "2", "ErrOver", "-9223372036854775808", "-1", "ErrOver"},
		{"922337203685477580.7, 0.1", "2", "ErrOver", "0.1", "922337203685477580.7", "ErrOver"},
		{"9223372036854775807, 0.0", "2", "ErrOver", "0.0", "9223372036854775807", "ErrOver"},
		{"'b', 'a', null, 'ab'", "3", "ErrType", "'a'", "'b'", "ErrType"},
		{"''", "1", "ErrType", "''", "''", "ErrType"},
		{"true, false, true", "3", "ErrType", "false", "true", "ErrType"},
		{"<1,2>, <1,-2>, <0,5>", "3", "ErrType", "<0,5>", "<1,2>", "ErrType"},
		{"<1,2>", "1", "ErrType", "<1,2>", "<1,2>", "ErrType"},
		{"1, 'a'", "2", "ErrType", "1", "'a'", "ErrType"},
		{"'a', 1", "2", "ErrType", "1", "'a'", "ErrType"},
		{"true, 'a', 7.5, <1,2>, 7", "5", "ErrType", "7", "<1,2>", "ErrType"},
		// One after the other: what is wrong first tells.
		{"9223372036854775807, 1, 'a'", "3", "ErrOver", "1", "'a'", "ErrOver"},
		{"9223372036854775807, 'a', 1", "3", "ErrType", "1", "'a'", "ErrType"},
	} {
		for name, want := range map[string]string{"count": c.count, "sum": c.sum, "min": c.least, "max": c.most, "avg": c.avg} {
			got, e := rel.Aggregate(name, values(c.given))
			if told := toldAnswer(got, e); told != want {
				t.Errorf("%s of %s: %s, not %s", name, c.given, told, want)
			}
		}
	}
}

// toldAnswer tells a value, or an error with nothing beside it.
func toldAnswer(v Value, e api.Errno) string {
	switch {
	case e == api.OK:
		return datum.Print(v)
	case v != null:
		return "a value beside an error"
	case e == api.ErrOver:
		return "ErrOver"
	case e == api.ErrType:
		return "ErrType"
	}
	return "another error"
}

func TestP1003AggregateWrong(t *testing.T) {
	for _, name := range []string{"", "Count", "COUNT", "counts", "coun", "count ", "length", "abs", "coalesce", "first", "\xff", "null", strings.Repeat("a", 100000)} {
		for _, given := range []string{"", "null", "1", "1, 2", "'a', 1", "9223372036854775807, 1"} {
			if got, e := rel.Aggregate(name, values(given)); e != api.ErrName || got != null {
				t.Errorf("%q of %s: %v, %d", short(name), given, got, e)
			}
		}
	}
	for _, wrong := range wrongValues() {
		for _, name := range []string{"count", "sum", "min", "max", "avg", "nobody", ""} {
			for _, l := range [][]Value{{wrong}, {whole(1), wrong}, {wrong, whole(1)}, {text("a"), wrong}, {whole(great), whole(1), wrong}, {null, wrong, null}} {
				if got, e := rel.Aggregate(name, l); e != api.ErrArg || got != null {
					t.Errorf("%q of %s: %v, %d", name, short(l), got, e)
				}
			}
		}
	}
	// More values than a row has.
	many := slices.Repeat(row(whole(2), null), 5000)
	for name, want := range map[string]Value{"count": whole(5000), "sum": whole(10000), "min": whole(2), "max": whole(2), "avg": dec(2000000, 6)} {
		if got, e := rel.Aggregate(name, many); e != api.OK || got != want {
			t.Errorf("%s of many: %v, %d", name, got, e)
		}
	}
}

func TestP1003Bag(t *testing.T) {
	for _, c := range []struct {
		a, b string
		want bool
	}{
		{"", "", true}, {"1", "", false}, {"", "1", false}, {"1", "1", true}, {"1", "2", false},
		{"1 | 2", "2 | 1", true}, {"1 | 2 | 3", "3 | 1 | 2", true}, {"1 | 1", "1", false}, {"1", "1 | 1", false}, {"1 | 1", "1 | 1", true},
		{"1 | 1 | 2", "1 | 2 | 2", false}, {"1 | 2 | 2", "1 | 1 | 2", false}, {"1 | 2 | 1", "1 | 1 | 2", true}, {"1 | 2", "1 | 3", false}, {"1 | 2 | 3", "1 | 2", false},
		{"1", "1.0", false}, {"1.0", "1.00", false}, {"1, 2", "2, 1", false}, {"1, 2", "1 | 2", false}, {"1", "1, null", false}, {"null", "null", true},
		{"'a', 'b'", "'ab', ''", false}, {"'1'", "1", false}, {"true", "1", false},
	} {
		if got := rel.Bag(rowsOf(c.a), rowsOf(c.b)); got != c.want {
			t.Errorf("Bag of %s and %s: %v", c.a, c.b, got)
		}
	}
	rows := unlike()
	for i := range rows {
		for j := range rows {
			if got := rel.Bag(rows[i:i+1], copies(rows[j:j+1])); got != (i == j) {
				t.Fatalf("Bag of %s and %s: %v", short(rows[i]), short(rows[j]), got)
			}
		}
		turned := append(copies(rows[i:]), rows[:i]...)
		if !rel.Bag(rows, turned) || !rel.Bag(turned, rows) {
			t.Fatal("rows that stand otherwise")
		}
		turned[0] = append(turned[0], null)
		if rel.Bag(rows, turned) || rel.Bag(turned, rows) {
			t.Fatal("a row with a Null more")
		}
	}
	if !rel.Bag(nil, [][]Value{}) || !rel.Bag([][]Value{nil}, [][]Value{{}}) || rel.Bag([][]Value{nil}, nil) || rel.Bag(nil, [][]Value{{}}) || rel.Bag([][]Value{nil}, [][]Value{nil, nil}) {
		t.Error("rows without values")
	}
}

// someRows gives rows of few values, so that many are the same.
func someRows(r *rand.Rand, most int) [][]Value {
	rows := make([][]Value, r.Intn(most))
	length := r.Intn(4)
	for i := range rows {
		if r.Intn(3) == 0 {
			length = r.Intn(4)
		}
		for range length {
			rows[i] = append(rows[i], pick(r, null, whole(1), whole(2), dec(10, 1), dec(100, 2), dec(5, 1), text(""), text("a"), text("ab"), truth(0), truth(1), point(1, 2), point(1, -2)))
		}
	}
	return rows
}

// P1005, with chapter 4's order and all rows held against all others.
func TestP1005Sorted(t *testing.T) {
	r := rand.New(rand.NewSource(5))
	for range 3000 {
		rows := someRows(r, 40)
		desc := make([]bool, r.Intn(5))
		for i := range desc {
			desc[i] = r.Intn(2) == 0
		}
		got := rel.Sort(rows, desc)
		if len(got) != len(rows) || !rel.Bag(got, rows) || !toldBag(got, rows) {
			t.Fatalf("Sort of %s: other rows: %s", printed(rows), printed(got))
		}
		for i := range got {
			for j := range i {
				if toldAhead(got[i], got[j], desc) {
					t.Fatalf("Sort of %s by %v: %s ahead of %s", printed(rows), desc, printed(got[j:j+1]), printed(got[i:i+1]))
				}
			}
		}
		if plain := rel.Sort(rows, nil); !slices.IsSortedFunc(plain, datum.Rows) {
			t.Fatalf("Sort of %s: %s", printed(rows), printed(plain))
		}
		if again := rel.Sort(got, desc); !sameRows(again, got) {
			t.Fatalf("Sort of %s: %s, again %s", printed(rows), printed(got), printed(again))
		}
	}
}

func TestP1005Distinct(t *testing.T) {
	r := rand.New(rand.NewSource(6))
	for range 3000 {
		rows := someRows(r, 40)
		got := rel.Distinct(rows)
		if want := toldOnce(rows); !sameRows(got, want) {
			t.Fatalf("Distinct of %s: %s, not %s", printed(rows), printed(got), printed(want))
		}
		for i := range got {
			for j := range i {
				if slices.Equal(got[i], got[j]) {
					t.Fatalf("Distinct of %s: %s twice", printed(rows), printed(got[i:i+1]))
				}
			}
		}
	}
}

func TestP1003BagAtRandom(t *testing.T) {
	r := rand.New(rand.NewSource(7))
	same := 0
	for range 5000 {
		a := someRows(r, 6)
		b := copies(a)
		r.Shuffle(len(b), func(i, j int) { b[i], b[j] = b[j], b[i] })
		if len(b) > 0 && r.Intn(2) == 0 {
			b[r.Intn(len(b))] = slices.Clone(pick(r, append(someRows(r, 3), a...)...))
		}
		want := toldBag(a, b)
		if got := rel.Bag(a, b); got != want {
			t.Fatalf("Bag of %s and %s: %v", printed(a), printed(b), got)
		}
		if want {
			same++
		}
	}
	if same < 500 || same > 4500 {
		t.Errorf("%d of 5000 are the same", same)
	}
}

func TestP1003AggregateAtRandom(t *testing.T) {
	r := rand.New(rand.NewSource(8))
	numbers := func() Value {
		n := pick(r, 0, 1, -1, 2, 3, 5, 7, -7, 15, 25, 1000000, -999999, great, least, great-1, great/2, least/2, great/1000000, great/10, r.Int(), -r.Int())
		return pick(r, null, whole(n), whole(n%100), dec(n, r.Intn(7)), dec(n%1000, r.Intn(7)))
	}
	seen := map[api.Errno]int{}
	for range 20000 {
		l := make([]Value, r.Intn(6))
		for i := range l {
			l[i] = numbers()
			if r.Intn(20) == 0 {
				l[i] = pick(r, text("a"), truth(1), point(1, 1))
			}
		}
		for _, name := range []string{"count", "sum", "min", "max", "avg", "nobody"} {
			want, f := toldAggregate(name, l)
			got, e := rel.Aggregate(name, l)
			if got != want || e != f {
				t.Fatalf("%s of %v: %v, %d, not %v, %d", name, l, got, e, want, f)
			}
			seen[e]++
		}
	}
	for _, e := range []api.Errno{api.OK, api.ErrOver, api.ErrType, api.ErrName} {
		if seen[e] < 1000 {
			t.Errorf("%d only %d times", e, seen[e])
		}
	}
}
