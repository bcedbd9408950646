package schema_test

import (
	"bytes"
	"slices"
	"strings"
	"testing"
	"unsafe"

	"longstop/api"
	"longstop/schema"
)

// span: where something lies in memory.
type span struct{ from, to uintptr }

func textSpan(s string) span {
	from := uintptr(unsafe.Pointer(unsafe.StringData(s)))
	return span{from, from + uintptr(len(s))}
}

// listSpan reaches to the end of the room behind l.
func listSpan[T any](l []T) span {
	from := uintptr(unsafe.Pointer(unsafe.SliceData(l)))
	var one T
	return span{from, from + uintptr(cap(l))*unsafe.Sizeof(one)}
}

func textSpans(l ...string) []span {
	var out []span
	for _, s := range l {
		out = append(out, textSpan(s))
	}
	return out
}

func rowSpans(l []Value) []span {
	out := []span{listSpan(l)}
	for _, v := range l {
		out = append(out, textSpan(v.B))
	}
	return out
}

func tableSpans(t Table) []span {
	out := []span{textSpan(t.Name), listSpan(t.Columns), listSpan(t.Key), listSpan(t.Uniques), listSpan(t.Check)}
	for _, c := range t.Columns {
		out = append(out, textSpan(c.Name))
	}
	for _, u := range t.Uniques {
		out = append(out, listSpan(u))
	}
	for _, n := range t.Check {
		out = append(out, textSpans(n.Table, n.Name, n.Value.B)...)
	}
	return out
}

// apart complains if one of a has memory in common with one of b.
func apart(t *testing.T, what string, a, b []span) {
	t.Helper()
	for _, x := range a {
		for _, y := range b {
			if x.from < y.to && y.from < x.to {
				t.Fatalf("%s: memory is shared", what)
			}
		}
	}
}

// eachApart complains if two of l have memory in common.
func eachApart(t *testing.T, what string, l []span) {
	t.Helper()
	for i := range l {
		apart(t, what, l[:i], l[i:i+1])
	}
}

// owned gives the sample with texts that have memory of their own, and are long
// enough that nobody keeps them elsewhere.
func owned() Table {
	t := sample()
	t.Name = strings.Clone("the_table")
	for i, c := range t.Columns {
		t.Columns[i].Name = strings.Clone("column_" + c.Name)
	}
	t.Check = nodes("column_i > 0 or the_table.column_b and 'some text' <> column_s")
	return t
}

func TestP801NewMemory(t *testing.T) {
	table, alias, given := owned(), strings.Clone("another_name"), sampleRow()
	for i := range given {
		given[i].B = strings.Clone(given[i].B)
	}
	in := slices.Concat(tableSpans(table), textSpans(alias), rowSpans(given))

	scope := func() []span {
		s := schema.Scope(table, alias)
		return slices.Concat(textSpans(s.Tables...), textSpans(s.Names...), []span{listSpan(s.Tables), listSpan(s.Names)})
	}
	fit := func() []span {
		l, _ := schema.Fit(table, given)
		return rowSpans(l)
	}
	keys := func() []span {
		l, _ := schema.Keys(table, given)
		return append(textSpans(l...), listSpan(l))
	}
	put := func() []span {
		b, _ := schema.Put(table)
		return []span{listSpan(b)}
	}
	for what, call := range map[string]func() []span{"Scope": scope, "Fit": fit, "Keys": keys, "Put": put} {
		first, again := call(), call()
		if len(first) == 0 || first[len(first)-1].from == 0 {
			t.Fatalf("%s gave nothing", what)
		}
		apart(t, what, first, in)
		apart(t, what+" twice", first, again)
		eachApart(t, what, first)
	}

	b := bytesOf(t, table)
	got, _ := schema.Get(b)
	again, _ := schema.Get(b)
	apart(t, "Get", tableSpans(got), append(in, listSpan(b)))
	apart(t, "Get twice", tableSpans(got), tableSpans(again))
	if len(got.Uniques) != 2 || len(got.Check) == 0 {
		t.Fatalf("Get gave %s", short(got))
	}
	eachApart(t, "Get", []span{listSpan(got.Columns), listSpan(got.Key), listSpan(got.Uniques), listSpan(got.Uniques[0]), listSpan(got.Uniques[1]), listSpan(got.Check)})
}

// room gives l with more behind it, and what all of that was.
func room[T any](l []T, more ...T) (given, was []T) {
	all := slices.Concat(l, more)
	return all[:len(l)], slices.Clone(all)
}

func TestP801ArgumentsStay(t *testing.T) {
	for _, check := range []string{"", "i > 0", "i < 0", "1 / 0 = 1", "i", "s = 'x'"} {
		table := sample()
		columns, wasColumns := room(table.Columns, Column{Name: "behind"})
		key, wasKey := room(table.Key, 77)
		first, wasFirst := room(table.Uniques[0], 77)
		uniques, wasUniques := room([][]int{first, table.Uniques[1]}, []int{77})
		nodes, wasNodes := room(nodes(check), Node{Name: "behind"})
		given, wasGiven := room(sampleRow(), text("behind"))
		table = Table{Name: "t", Columns: columns, Key: key, Uniques: uniques, Check: nodes}
		b, wasBytes := room(bytesOf(t, table), 77)

		schema.Right(table)
		schema.Scope(table, "u")
		schema.Fit(table, given)
		schema.Keys(table, given)
		schema.Put(table)
		schema.Get(b)
		schema.Get(b[:len(b)-1])
		schema.Same(table, table)
		schema.Same(table, sample())
		if !slices.Equal(columns[:len(wasColumns)], wasColumns) || !slices.Equal(key[:len(wasKey)], wasKey) || !slices.Equal(first[:len(wasFirst)], wasFirst) ||
			!slices.EqualFunc(uniques[:len(wasUniques)], wasUniques, slices.Equal[[]int]) || !slices.Equal(nodes[:len(wasNodes)], wasNodes) ||
			!slices.Equal(given[:len(wasGiven)], wasGiven) || !bytes.Equal(b[:len(wasBytes)], wasBytes) {
			t.Errorf("%s: an argument, or the room behind it, was changed", check)
		}
	}
}

// What is answered is not kept, either: who changes it changes no later answer.
func TestP801AnswersAreNotKept(t *testing.T) {
	table := sample()
	for range 3 {
		s := schema.Scope(table, "u")
		fit, _ := schema.Fit(table, sampleRow())
		keys, _ := schema.Keys(table, sampleRow())
		b := bytesOf(t, table)
		got, e := schema.Get(b)
		if !slices.Equal(s.Names, []string{"i", "d", "s", "b", "p", "k"}) || !slices.Equal(s.Tables, slices.Repeat([]string{"u"}, 6)) || !slices.Equal(fit, sampleRow()) ||
			!slices.Equal(keys, toldKeys(table, fit)) || !bytes.Equal(b, toldBytes(table)) || e != api.OK || !sameTable(got, sample()) {
			t.Fatal("an answer is another one the second time")
		}
		clear(s.Names)
		clear(s.Tables)
		clear(fit)
		clear(keys)
		clear(b)
		clear(got.Columns)
		clear(got.Key)
		clear(got.Uniques[0])
		clear(got.Check)
	}
}

// What is answered does not hang on what was called before.
func TestP801Again(t *testing.T) {
	other := one(api.Dec, 3, "a > 1")
	for range 3 {
		fits(t, other, row(whole(2)), row(dec(2000, 3)))
		fails(t, other, row(whole(0)), api.ErrCheck)
		fits(t, sample(), sampleRow(), sampleRow())
		fails(t, sample(), row(whole(0)), api.ErrArg)
		back(t, other)
		back(t, sample())
		noTable(t, "nothing", nil)
		wrong(t, Table{})
	}
}

// Nil and empty lists mean the same.
func TestP801NilAndEmpty(t *testing.T) {
	for _, key := range [][]int{nil, {}} {
		for _, uniques := range [][][]int{nil, {}} {
			for _, check := range [][]Node{nil, {}} {
				table := Table{Name: "t", Columns: columnsOf(1), Key: key, Uniques: uniques, Check: check}
				right(t, table)
				back(t, table)
				fits(t, table, row(null), row(null))
				hasKeys(t, table, row(null), "")
				for _, given := range [][]Value{nil, {}} {
					fails(t, table, given, api.ErrArg)
				}
			}
		}
	}
	for _, columns := range [][]Column{nil, {}} {
		wrong(t, Table{Name: "t", Columns: columns})
	}
	noTable(t, "nil", nil)
	noTable(t, "empty", []byte{})
}
