package schema_test

import (
	"slices"
	"testing"

	"longstop/api"
	"longstop/datum"
	"longstop/schema"
)

// keyed gives the key of those values; "" of none.
func keyed(t *testing.T, l ...Value) string {
	t.Helper()
	if len(l) == 0 {
		return ""
	}
	key, e := datum.Key(l...)
	if e != api.OK || key == "" {
		t.Fatalf("no key of %s", short(l))
	}
	return key
}

func hasKeys(t *testing.T, table Table, given []Value, want ...string) {
	t.Helper()
	got, e := schema.Keys(table, given)
	if e != api.OK || !slices.Equal(got, want) {
		t.Fatalf("Keys of %s to %s: %q, %d, not %q", short(given), short(table), got, e, want)
	}
}

func TestP803OrdinaryKeys(t *testing.T) {
	l := sampleRow()
	hasKeys(t, sample(), l, keyed(t, l[5], l[0]), keyed(t, l[1], l[2]), keyed(t, l[4]))
	// A key is of bytes that chapter 4 tells.
	hasKeys(t, Table{Name: "t", Columns: []Column{{Name: "a", Kind: api.Text}, {Name: "b", Kind: api.Bool}}, Key: []int{1, 0}}, rowOf(t, "'a', true"), "\x04\x01\x03a\x00\x01\x00")
}

func TestP803NoKey(t *testing.T) {
	l := sampleRow()
	for _, empty := range [][]int{nil, {}} {
		hasKeys(t, with(func(t *Table) { t.Key = empty; t.Uniques = nil }), l, "")
		hasKeys(t, with(func(t *Table) { t.Key = empty }), l, "", keyed(t, l[1], l[2]), keyed(t, l[4]))
	}
	hasKeys(t, with(func(t *Table) { t.Uniques = nil }), l, keyed(t, l[5], l[0]))
	hasKeys(t, with(func(t *Table) { t.Uniques = [][]int{} }), l, keyed(t, l[5], l[0]))
}

func TestP803Uniques(t *testing.T) {
	l := sampleRow()
	four := with(func(t *Table) { t.Uniques = [][]int{{5, 4, 3, 2, 1, 0}, {2}, {2}, {0, 1}} })
	hasKeys(t, four, l, keyed(t, l[5], l[0]), keyed(t, l[5], l[4], l[3], l[2], l[1], l[0]), keyed(t, l[2]), keyed(t, l[2]), keyed(t, l[0], l[1]))
	turned := with(func(t *Table) { t.Uniques = [][]int{{4}, {2, 1}} })
	hasKeys(t, turned, l, keyed(t, l[5], l[0]), keyed(t, l[4]), keyed(t, l[2], l[1]))
}

func TestP803UniquesWithNulls(t *testing.T) {
	for i := range 16 {
		l := sampleRow()
		want := []string{keyed(t, l[5], l[0]), keyed(t, l[1], l[2]), keyed(t, l[4])}
		for bit, place := range []int{1, 2, 3, 4} {
			if i>>bit&1 == 1 {
				l[place] = null
			}
		}
		if l[1] == null || l[2] == null {
			want[1] = ""
		}
		if l[4] == null {
			want[2] = ""
		}
		hasKeys(t, sample(), l, want...)
	}
}

// Keys are those of the row that was made: numbers that come to the same Dec
// have the same key.
func TestP803KeysOfWhatWasMade(t *testing.T) {
	table := Table{Name: "t", Columns: []Column{{Name: "a", Kind: api.Dec, Scale: 1}}, Key: []int{0}, Uniques: [][]int{{0}}}
	key := keyed(t, dec(22, 1))
	for _, v := range []Value{dec(22, 1), dec(220, 2), dec(225, 2), dec(2249999, 6), dec(215, 2)} {
		hasKeys(t, table, row(v), key, key)
	}
	hasKeys(t, table, row(whole(2)), keyed(t, dec(20, 1)), keyed(t, dec(20, 1)))
}

func TestP803KeysTellRows(t *testing.T) {
	table := Table{Name: "t", Columns: columnsOf(3), Key: []int{0, 2}}
	seen := map[string]bool{}
	for _, s := range []string{"1, 2., 'a'", "1, 2., 'b'", "2, 2., 'a'", "-1, 2., ''", "1, 2., ''"} {
		keys, e := schema.Keys(table, rowOf(t, s))
		if e != api.OK || len(keys) != 1 || seen[keys[0]] {
			t.Fatalf("Keys of %s: %q, %d", s, keys, e)
		}
		seen[keys[0]] = true
	}
	one, _ := schema.Keys(table, rowOf(t, "1, 2., 'a'"))
	other, _ := schema.Keys(table, rowOf(t, "1, null, 'a'"))
	if !slices.Equal(one, other) {
		t.Errorf("a column outside of the Key changes it: %q, %q", one, other)
	}
}
