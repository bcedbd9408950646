package schema_test

import (
	"math/rand"
	"slices"
	"strings"
	"testing"

	"longstop/api"
	"longstop/schema"
)

func TestP802TheExample(t *testing.T) {
	fits(t, one(api.Dec, 2, ""), row(whole(3)), row(dec(300, 2)))
}

func TestP802OrdinaryRows(t *testing.T) {
	fits(t, sample(), sampleRow(), sampleRow())
	fits(t, sample(), rowOf(t, "1, 2, 'a', false, <1,2>, ''"), row(whole(1), dec(200, 2), text("a"), truth(0), point(1, 2), text("")))
	fits(t, sample(), rowOf(t, "1, null, null, null, null, 'x'"), row(whole(1), null, null, null, null, text("x")))
	full := Table{Name: "t", Columns: columnsOf(api.MaxColumns), Key: upTo(api.MaxColumns)}
	kinds := rowOf(t, "1, 2., 'a', true, <1,2>, 3, 4., 'b', false, <3,4>, 5, 6., 'c', true, <5,6>, 7")
	fits(t, full, kinds, kinds)
}

func TestP802RowsOfOtherLengths(t *testing.T) {
	for n := range 70 {
		if n != 6 {
			fails(t, sample(), slices.Repeat(row(whole(1)), n), api.ErrArg)
			fails(t, sample(), append(sampleRow(), make([]Value, 70)...)[:n], api.ErrArg)
		}
	}
	fails(t, sample(), make([]Value, 1<<20), api.ErrArg)
}

func TestP802WrongValues(t *testing.T) {
	for _, v := range wrongValues() {
		for i := range sampleRow() {
			given := sampleRow()
			given[i] = v
			fails(t, sample(), given, api.ErrArg)
		}
		for kind := api.Int; kind <= api.Point; kind++ {
			fails(t, one(kind, 0, ""), row(v), api.ErrArg)
		}
	}
}

func TestP802Nulls(t *testing.T) {
	for kind := api.Int; kind <= api.Point; kind++ {
		table := one(kind, 0, "")
		fits(t, table, row(null), row(null))
		table.Uniques = [][]int{{0}}
		fits(t, table, row(null), row(null))
		table.Columns[0].Must = true
		fails(t, table, row(null), api.ErrNull)
		table.Key = []int{0}
		fails(t, table, row(null), api.ErrNull)
		table.Columns[0].Must = false
		fails(t, table, row(null), api.ErrNull)
	}
	// Column 0 Must, 5 and 0 are in the Key, the Uniques have 1, 2 and 4.
	for i, want := range []api.Errno{api.ErrNull, api.OK, api.OK, api.OK, api.OK, api.ErrNull} {
		given := sampleRow()
		given[i] = null
		if want == api.OK {
			fits(t, sample(), given, given)
		} else {
			fails(t, sample(), given, want)
		}
	}
	// A place in the Key, not its column's number in it, is what must not be Null.
	table := Table{Name: "t", Columns: columnsOf(4), Key: []int{2, 3}}
	fits(t, table, rowOf(t, "null, null, 'a', true"), rowOf(t, "null, null, 'a', true"))
	fails(t, table, rowOf(t, "1, 2., null, true"), api.ErrNull)
	fails(t, table, rowOf(t, "1, 2., 'a', null"), api.ErrNull)
}

func TestP802Decimals(t *testing.T) {
	for _, x := range []struct {
		scale       int
		given, want string
	}{
		{2, "3", "3.00"}, {2, "-3", "-3.00"}, {2, "0", "0.00"}, {0, "3", "3."}, {6, "3", "3.000000"},
		{2, "3.", "3.00"}, {2, "3.1", "3.10"}, {2, "3.14", "3.14"}, {2, "3.145", "3.14"}, {2, "3.155", "3.16"}, {2, "3.1451", "3.15"},
		{2, "-3.145", "-3.14"}, {2, "-3.155", "-3.16"}, {2, "0.004", "0.00"}, {2, "-0.005", "0.00"}, {1, "2.25", "2.2"}, {0, "2.5", "2."}, {0, "3.5", "4."}, {0, "0.499999", "0."},
		{6, "1.5", "1.500000"}, {6, "1.234567", "1.234567"}, {5, "1.234565", "1.23456"},
		{0, "9223372036854775807", "9223372036854775807."}, {0, "-9223372036854775808", "-9223372036854775808."},
		{2, "92233720368547758", "92233720368547758.00"}, {2, "92233720368547758.07", "92233720368547758.07"}, {6, "9223372036854", "9223372036854.000000"},
		{0, "92233720368547758.07", "92233720368547758."},
	} {
		fits(t, one(api.Dec, x.scale, ""), rowOf(t, x.given), rowOf(t, x.want))
	}
	for _, x := range []struct {
		scale int
		given string
	}{
		{1, "9223372036854775807"}, {1, "-9223372036854775808"}, {1, "922337203685477581"}, {2, "92233720368547759"}, {2, "-92233720368547759"},
		{6, "9223372036855"}, {6, "9223372036854775807."}, {2, "922337203685477580.7"}, {6, "92233720368547758.07"},
	} {
		fails(t, one(api.Dec, x.scale, ""), rowOf(t, x.given), api.ErrOver)
	}
}

// Only a Dec column takes another Kind.
func TestP802Kinds(t *testing.T) {
	of := []Value{null, whole(7), dec(7, 0), text("7"), truth(1), point(7, 0)}
	for kind := api.Int; kind <= api.Point; kind++ {
		for _, v := range of[1:] {
			table := one(kind, 0, "")
			switch {
			case v.Kind == kind:
				fits(t, table, row(v), row(v))
			case kind == api.Dec && v.Kind == api.Int:
				fits(t, table, row(v), row(dec(7, 0)))
			default:
				fails(t, table, row(v), api.ErrType)
			}
		}
	}
	fails(t, one(api.Int, 0, ""), row(dec(7, 0)), api.ErrType)
	fails(t, one(api.Int, 0, ""), row(dec(700, 2)), api.ErrType)
	for i := range sampleRow() {
		for _, v := range of[1:] {
			given := sampleRow()
			if v.Kind != given[i].Kind && !(i == 1 && v.Kind == api.Int) {
				given[i] = v
				fails(t, sample(), given, api.ErrType)
			}
		}
	}
}

func TestP802Checks(t *testing.T) {
	for _, x := range []struct {
		check, row string
		want       api.Errno
	}{
		{"true", "1", api.OK}, {"false", "1", api.ErrCheck}, {"null", "1", api.OK},
		{"a > 0", "1", api.OK}, {"a > 0", "0", api.ErrCheck}, {"a > 0", "null", api.OK}, {"t.a > 0", "-1", api.ErrCheck},
		{"a is null", "null", api.OK}, {"a is null", "1", api.ErrCheck}, {"a is not null", "null", api.ErrCheck},
		{"a > 0 and null", "1", api.OK}, {"a > 0 and null", "0", api.ErrCheck}, {"a > 0 or null", "0", api.OK},
		{"a", "1", api.ErrType}, {"a", "null", api.OK}, {"1", "1", api.ErrType}, {"0", "1", api.ErrType}, {"1.5", "1", api.ErrType}, {"'true'", "1", api.ErrType}, {"point(a, a)", "1", api.ErrType}, {"a + 1", "1", api.ErrType},
		{"a = 'x'", "1", api.ErrType}, {"not a", "1", api.ErrType}, {"a and true", "1", api.ErrType},
		{"1 / a > 0", "0", api.ErrZero}, {"1 / a > 0", "1", api.OK}, {"1 / a > 0", "-1", api.ErrCheck}, {"1 / a > 0", "null", api.OK},
		{"a + 1 > 0", "9223372036854775807", api.ErrOver}, {"a + 1 > 0", "1", api.OK}, {"round(a, 7) > 0", "1", api.ErrOver},
		{"foo(a)", "1", api.ErrName}, {"count(a) > 0", "1", api.ErrName}, {"abs(a, a) > 0", "1", api.ErrName}, {"sum(a) > 0", "null", api.ErrName},
		{"a > 0 or 1 / 0 = 1", "1", api.ErrZero}, {"false and 1 / 0 = 1", "1", api.ErrZero},
	} {
		given := rowOf(t, x.row)
		if x.want == api.OK {
			fits(t, one(api.Int, 0, x.check), given, given)
		} else {
			fails(t, one(api.Int, 0, x.check), given, x.want)
		}
	}
}

// A Check names the columns by their names, wherever they stand.
func TestP802ChecksOfSeveralColumns(t *testing.T) {
	table := Table{Name: "t", Columns: []Column{{Name: "b", Kind: api.Int}, {Name: "a", Kind: api.Int}, {Name: "t", Kind: api.Text}}, Check: nodes("t.a < b and t.t = 'x' and t = 'x'")}
	fits(t, table, rowOf(t, "2, 1, 'x'"), rowOf(t, "2, 1, 'x'"))
	fails(t, table, rowOf(t, "1, 2, 'x'"), api.ErrCheck)
	fails(t, table, rowOf(t, "2, 1, 'y'"), api.ErrCheck)
}

// A Check is told of the row that was made.
func TestP802ChecksOfWhatWasMade(t *testing.T) {
	for _, x := range []struct {
		scale        int
		check, given string
		want         api.Errno
	}{
		{1, "a = 2.2", "2.25", api.OK}, {1, "a = 2.25", "2.25", api.ErrCheck}, {1, "a <> 2.25", "2.25", api.OK},
		{0, "a / 2 = 1.5", "3", api.OK}, {0, "a / 2 = 1", "3", api.ErrCheck}, {2, "a > 0", "0.005", api.ErrCheck}, {2, "a > 0", "0.0051", api.OK},
		{2, "1 / a > 0", "0.005", api.ErrZero}, {0, "a % 2 = 1", "3", api.ErrType}, {2, "a is not null", "0.001", api.OK},
	} {
		table := one(api.Dec, x.scale, x.check)
		got, e := schema.Fit(table, rowOf(t, x.given))
		if e != x.want || (e == api.OK) != (len(got) == 1) {
			t.Errorf("Fit of %s, %s: %s, %d, not %d", x.check, x.given, short(got), e, x.want)
		}
	}
}

func TestP802GreatChecks(t *testing.T) {
	for _, size := range []int{api.MaxSource, api.MaxSource + 1, 2 * api.MaxSource} {
		table := one(api.Int, 0, "")
		table.Check = sized(t, size)
		fits(t, table, row(whole(1)), row(whole(1)))
	}
}

// Of two faults the one that is named first is told.
func TestP802TwoFaults(t *testing.T) {
	table := Table{
		Name:    "t",
		Columns: []Column{{Name: "a", Kind: api.Int, Must: true}, {Name: "b", Kind: api.Dec, Scale: 2}, {Name: "c", Kind: api.Text}},
		Key:     []int{2},
		Check:   nodes("1 / a > 0 and b > 0"),
	}
	huge, bad := whole(great), text("\xff")
	for _, x := range []struct {
		row  []Value
		want api.Errno
	}{
		{row(null, huge), api.ErrArg}, {row(null, huge, text("x"), null), api.ErrArg}, {row(null, whole(1), bad), api.ErrArg}, {row(text("x"), huge, bad), api.ErrArg}, {row(whole(0), whole(1), bad), api.ErrArg}, {row(bad, null, null), api.ErrArg},
		{row(null, huge, whole(1)), api.ErrNull}, {row(null, text("x"), text("x")), api.ErrNull},
		// Column by column: the first column's fault, whichever it is.
		{row(text("x"), huge, null), api.ErrType}, {row(text("x"), whole(1), null), api.ErrType}, {row(whole(1), huge, null), api.ErrOver}, {row(whole(1), huge, whole(1)), api.ErrOver}, {row(whole(1), text("x"), null), api.ErrType}, {row(dec(1, 0), huge, null), api.ErrType},
		// Columns come ahead of the Check.
		{row(whole(0), huge, text("x")), api.ErrOver}, {row(whole(0), whole(1), null), api.ErrNull}, {row(whole(0), whole(1), truth(1)), api.ErrType}, {row(whole(-1), whole(-1), null), api.ErrNull},
		{row(whole(0), whole(-1), text("x")), api.ErrZero}, {row(whole(1), whole(-1), text("x")), api.ErrCheck},
	} {
		fails(t, table, x.row, x.want)
	}
	table.Columns[0].Name = "select"
	fails(t, table, row(null, huge, null), api.ErrArg)
	fails(t, table, nil, api.ErrArg)
}

// All of the edges' values, in columns of every Kind and scale.
func TestP802EdgesAsTold(t *testing.T) {
	for kind := api.Int; kind <= api.Point; kind++ {
		for scale := range api.MaxScale + 1 {
			for _, check := range []string{"", "a is not null", "a = a", "a > 0"} {
				table := one(kind, scale, check)
				if kind != api.Dec {
					table.Columns[0].Scale = 0
				}
				for _, v := range slices.Concat(someValues(), wrongValues()) {
					asTold(t, table, row(v))
				}
			}
		}
	}
}

// asTold complains unless Fit and Keys answer as the second teller does, and
// gives Fit's error.
func asTold(t *testing.T, table Table, given []Value) api.Errno {
	t.Helper()
	want, e := toldFit(table, given)
	if e != api.OK {
		fails(t, table, given, e)
		return e
	}
	fits(t, table, given, want)
	if keys, _ := schema.Keys(table, given); !slices.Equal(keys, toldKeys(table, want)) {
		t.Fatalf("Keys of %s to %s: %q, not %q", short(given), short(table), keys, toldKeys(table, want))
	}
	return api.OK
}

func TestP802AsTold(t *testing.T) {
	t.Parallel()
	r := rand.New(rand.NewSource(802))
	count := map[api.Errno]int{}
	for range 30000 {
		table := wildTable(r)
		for range 3 {
			count[asTold(t, table, wildRow(r, table))]++
		}
	}
	for _, e := range []api.Errno{api.OK, api.ErrArg, api.ErrType, api.ErrOver, api.ErrZero, api.ErrName, api.ErrNull, api.ErrCheck} {
		if count[e] < 100 {
			t.Errorf("error %d came %d times: %v", e, count[e], count)
		}
	}
}

// P805: a row that Fit made fits as it is.
func TestP805FitsAgain(t *testing.T) {
	t.Parallel()
	r := rand.New(rand.NewSource(805))
	made := 0
	for range 30000 {
		table := wildTable(r)
		given := wildRow(r, table)
		fit, e := schema.Fit(table, given)
		if e != api.OK {
			continue
		}
		made++
		fits(t, table, fit, fit)
		first, _ := schema.Keys(table, given)
		again, _ := schema.Keys(table, fit)
		if !slices.Equal(first, again) {
			t.Fatalf("Keys of %s: %q, and again %q", short(given), first, again)
		}
	}
	if made < 5000 {
		t.Errorf("%d rows were made", made)
	}
}

func TestP805RoundedRowsFitAgain(t *testing.T) {
	for scale := range api.MaxScale + 1 {
		table := one(api.Dec, scale, "")
		for _, v := range someValues() {
			fit, e := schema.Fit(table, row(v))
			if e == api.OK {
				fits(t, table, fit, fit)
			}
		}
	}
	long := text(strings.Repeat("é", api.MaxValue/2))
	fits(t, one(api.Text, 0, ""), row(long), row(long))
}
