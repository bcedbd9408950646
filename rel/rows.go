package rel

import (
	"cmp"
	"slices"
	"strconv"
	"strings"

	"longstop/api"
	"longstop/datum"
)

// Distinct gives each row once, where it stands first.
func Distinct(rows [][]api.Value) [][]api.Value {
	return copiedRows(once(rows))
}

// Sort gives the rows by all their values, place by place, turned round where
// desc says so; those that are alike as they stood.
func Sort(rows [][]api.Value, desc []bool) [][]api.Value {
	sorted := copiedRows(rows)
	slices.SortStableFunc(sorted, func(a, b []api.Value) int { return compare(a, b, desc) })
	return sorted
}

// Bag tells whether a and b have the same rows, each as often.
func Bag(a, b [][]api.Value) bool {
	left := map[string]int{} // how many of a nobody of b was yet
	for _, row := range a {
		left[keyOf(row)]++
	}
	for _, row := range b {
		key := keyOf(row)
		if left[key] == 0 {
			return false
		}
		left[key]--
	}
	return len(a) == len(b)
}

// once is Distinct, with the very rows that it was given.
func once(rows [][]api.Value) [][]api.Value {
	var first [][]api.Value
	count := map[string]int{}
	for _, row := range rows {
		key := keyOf(row)
		count[key]++
		if count[key] == 1 {
			first = append(first, row)
		}
	}
	return first
}

// keyOf gives a text that no other row has. (datum.Key has none for long rows,
// as several tables make them, and for values that may not be.)
func keyOf(row []api.Value) string {
	var key []byte
	for _, v := range row {
		for _, n := range [...]int{v.Kind, v.N, v.M, len(v.B)} {
			key = strconv.AppendInt(key, int64(n), 10)
			key = append(key, ' ')
		}
		key = append(key, v.B...)
	}
	return string(key)
}

// compare gives -1, 0 or 1, as a stands ahead of, at or behind b. A row that
// begins another one is ahead of it: that is no value, which desc might turn.
func compare(a, b []api.Value, desc []bool) int {
	for i := range min(len(a), len(b)) {
		c := datum.Compare(a[i], b[i])
		if i < len(desc) && desc[i] {
			c = -c
		}
		if c != 0 {
			return c
		}
	}
	return cmp.Compare(len(a), len(b))
}

// copiedRows gives rows that have no memory in common with those, nor with each
// other.
func copiedRows(rows [][]api.Value) [][]api.Value {
	out := make([][]api.Value, len(rows))
	for i, row := range rows {
		out[i] = make([]api.Value, len(row))
		for j, v := range row {
			out[i][j] = apart(v)
		}
	}
	return out
}

func copiedTexts(l []string) []string {
	out := make([]string, len(l))
	for i, s := range l {
		out[i] = strings.Clone(s)
	}
	return out
}

// apart gives v with a text of its own.
func apart(v api.Value) api.Value {
	v.B = strings.Clone(v.B)
	return v
}
