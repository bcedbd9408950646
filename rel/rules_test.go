package rel_test

import (
	"reflect"
	"slices"
	"strings"
	"sync"
	"testing"
	"unsafe"

	"longstop/api"
	"longstop/rel"
	"longstop/stmt"
)

// span: where something lies in memory.
type span struct{ from, to uintptr }

// spans gives where the lists in x lie, with the room behind them, and where its
// texts lie.
func spans(x any) (lists, texts []span) {
	var walk func(v reflect.Value)
	walk = func(v reflect.Value) {
		switch v.Kind() {
		case reflect.Struct:
			for i := range v.NumField() {
				walk(v.Field(i))
			}
		case reflect.Slice:
			from := v.Pointer()
			lists = append(lists, span{from, from + uintptr(v.Cap())*v.Type().Elem().Size()})
			for i := range v.Len() {
				walk(v.Index(i))
			}
		case reflect.String:
			s := v.String()
			from := uintptr(unsafe.Pointer(unsafe.StringData(s)))
			texts = append(texts, span{from, from + uintptr(len(s))})
		}
	}
	walk(reflect.ValueOf(x))
	return lists, texts
}

func allSpans(l ...any) []span {
	var out []span
	for _, x := range l {
		lists, texts := spans(x)
		out = slices.Concat(out, lists, texts)
	}
	return out
}

// apart complains if one of a has memory in common with one of b.
func apart(t *testing.T, what string, a, b []span) {
	t.Helper()
	for _, x := range a {
		for _, y := range b {
			if x.from < y.to && y.from < x.to {
				t.Fatalf("%s: memory is shared", what)
			}
		}
	}
}

// eachApart complains if two parts of one answer have memory in common.
func eachApart(t *testing.T, what string, answer ...any) {
	t.Helper()
	l := allSpans(answer...)
	if len(l) < 3 {
		t.Fatalf("%s: next to nothing was answered", what)
	}
	for i := range l {
		apart(t, what, l[:i], l[i:i+1])
	}
}

// long: a database with names and texts that nobody keeps elsewhere.
func long() []Data {
	l := []Data{
		data("the_table", "column_a int, column_b text", "1, 'some text' | 2, 'another text' | 3, 'some text' | 1, null"),
		data("other_table", "column_c text, column_a int", "'further text', 2 | 'some text', 1"),
	}
	for _, d := range l {
		for _, row := range d.Rows {
			for i := range row {
				row[i].B = strings.Clone(row[i].B)
			}
		}
	}
	return l
}

var longQueries = []string{
	"select * from the_table",
	"select * from the_table as the_alias, other_table",
	"select * from the_table left join other_table on column_b = column_c",
	"select distinct column_b from the_table",
	"select column_b, column_b as another_name, 'literal text', column_b + ' and more' from the_table where column_b <> 'another text'",
	"select column_b, coalesce(column_b, 'literal text'), column_b from the_table group by column_b, column_a",
	"select min(column_b), max(column_b), column_b, 'literal text', coalesce(min(column_b), column_b), count() from the_table",
	"select column_b as the_name, 'literal text' from the_table union all select column_c, column_c from other_table order by the_name desc",
	"select column_b from the_table union select column_c from other_table order by column_b limit 2",
	"select 'literal text', 'literal text' union all select 'literal text', 'literal text'",
}

func TestP1001NewMemory(t *testing.T) {
	tables := long()
	for _, s := range longQueries {
		q := query(s)
		names, rows, e := rel.Run(q, tables)
		again, more, f := rel.Run(q, tables)
		if e != api.OK || f != api.OK {
			t.Fatalf("%s: %d, %d", s, e, f)
		}
		apart(t, s, allSpans(names, rows), allSpans(q, tables))
		apart(t, s+" twice", allSpans(names, rows), allSpans(again, more))
		eachApart(t, s, names, rows)
	}

	rows := slices.Concat(long()[0].Rows, long()[1].Rows)
	for what, call := range map[string]func() [][]Value{
		"Distinct": func() [][]Value { return rel.Distinct(rows) },
		"Sort":     func() [][]Value { return rel.Sort(rows, nil) },
		"Sort one": func() [][]Value { return rel.Sort(rows[:1], []bool{true}) },
	} {
		first, second := call(), call()
		apart(t, what, allSpans(first), allSpans(rows))
		apart(t, what+" twice", allSpans(first), allSpans(second))
		eachApart(t, what, first)
	}
	// Rows that share memory with each other come back without.
	one := rows[0]
	eachApart(t, "Sort of shared rows", rel.Sort([][]Value{one, one, one[:1], one}, nil))
	eachApart(t, "Distinct of shared rows", rel.Distinct([][]Value{one, one[:1], append(one[:2:2], one[1])}))
	for _, name := range []string{"min", "max"} {
		for _, l := range [][]Value{rows[0][1:], {rows[0][1], rows[1][1]}} {
			v, e := rel.Aggregate(name, l)
			again, _ := rel.Aggregate(name, l)
			if e != api.OK || v.B == "" {
				t.Fatalf("%s: %v, %d", name, v, e)
			}
			apart(t, name, allSpans(v), allSpans(l))
			apart(t, name+" twice", allSpans(v), allSpans(again))
		}
	}
}

// roomy gives x with more behind each of its lists, and tells what there is in
// all.
func roomy(v reflect.Value, told *[]reflect.Value) {
	switch v.Kind() {
	case reflect.Struct:
		for i := range v.NumField() {
			roomy(v.Field(i), told)
		}
	case reflect.Slice:
		n := v.Len()
		more := reflect.MakeSlice(v.Type(), n+3, n+3)
		reflect.Copy(more, v)
		*told = append(*told, more)
		v.Set(more.Slice(0, n))
		for i := range n {
			roomy(v.Index(i), told)
		}
	}
}

// copiedValue gives what has nothing in common with v's memory but texts.
func copiedValue(v reflect.Value) reflect.Value {
	out := reflect.New(v.Type()).Elem()
	switch v.Kind() {
	case reflect.Struct:
		for i := range v.NumField() {
			out.Field(i).Set(copiedValue(v.Field(i)))
		}
	case reflect.Slice:
		if !v.IsNil() {
			out.Set(reflect.MakeSlice(v.Type(), v.Len(), v.Len()))
		}
		for i := range v.Len() {
			out.Index(i).Set(copiedValue(v.Index(i)))
		}
	default:
		out.Set(v)
	}
	return out
}

// stays complains if call changes something of x, or of the room behind it.
func stays[T any](t *testing.T, what string, x T, call func(T)) {
	t.Helper()
	x = copiedValue(reflect.ValueOf(x)).Interface().(T)
	var lists []reflect.Value
	roomy(reflect.ValueOf(&x).Elem(), &lists)
	var was []any
	for _, l := range lists {
		was = append(was, copiedValue(l).Interface())
	}
	call(x)
	for i, l := range lists {
		if !reflect.DeepEqual(l.Interface(), was[i]) {
			t.Fatalf("%s: an argument, or the room behind it, was changed", what)
		}
	}
}

func TestP1001ArgumentsStay(t *testing.T) {
	type given struct {
		Q  Query
		DB []Data
	}
	more := []string{
		"select count(), k, a from t group by k, a having count() > 0 union select 1, 2, 3 order by k desc, a limit 2", "select k from t, t", "select nobody from t", "select * from t order by nobody", "select * from t group by k",
		"select * from t left join o on true join u on u.k = t.k where b > 0.5", "select 1 from t join u on 1", "select k from t union select 1, 2",
	}
	for _, s := range more {
		stays(t, s, given{query(s), db()}, func(x given) { rel.Run(x.Q, x.DB) })
	}
	for _, s := range longQueries {
		stays(t, s, given{query(s), long()}, func(x given) { rel.Run(x.Q, x.DB) })
	}
	q := wholeQuery()
	stays(t, "all", given{q, db()}, func(x given) { rel.Run(x.Q, x.DB) })
	q.Limit = -2
	stays(t, "no query", given{q, db()}, func(x given) { rel.Run(x.Q, x.DB) })
	stays(t, "no database", given{wholeQuery(), append(db(), db()...)}, func(x given) { rel.Run(x.Q, x.DB) })

	type lists struct {
		Rows, Others [][]Value
		Desc         []bool
		L            []Value
	}
	x := lists{rowsOf("3, 'a' | 1, 'b' | 3, 'a' | 2 | null, 'a'"), rowsOf("1, 'b' | 2 | 3, 'a' | null, 'a' | 3, 'a'"), []bool{true, false}, values("3, null, 1, 2, null")}
	stays(t, "lists", x, func(x lists) {
		rel.Distinct(x.Rows)
		rel.Sort(x.Rows, x.Desc)
		rel.Sort(x.Rows, nil)
		rel.Bag(x.Rows, x.Others)
		rel.Bag(x.Rows[1:], x.Others)
		for _, name := range []string{"count", "sum", "min", "max", "avg", "nobody"} {
			rel.Aggregate(name, x.L)
		}
	})
}

// What is answered is not kept: who changes it changes no later answer.
func TestP1001AnswersAreNotKept(t *testing.T) {
	tables := long()
	for _, s := range longQueries {
		want := ""
		for i := range 3 {
			names, rows, e := rel.Run(query(s), tables)
			told := strings.Join(names, ", ") + " | " + printed(rows)
			if e != api.OK || i > 0 && told != want {
				t.Fatalf("%s: another answer the second time: %s", s, told)
			}
			want = told
			for _, row := range rows {
				clear(row[:cap(row)])
			}
			clear(rows)
			clear(names)
		}
	}
}

// What is answered does not hang on what was called before, nor on who calls at
// the same time.
func TestP1001Again(t *testing.T) {
	calls := func() []any {
		var out []any
		for _, s := range []string{"select k, count() from t group by k", "select distinct k from t union select k from u", "select nobody from t", "select * from m order by i desc", "select 1 / 0", "select * from t, t"} {
			names, rows, e := rel.Run(query(s), db())
			out = append(out, names, rows, e)
		}
		for _, name := range []string{"count", "sum", "min", "max", "avg", "nobody"} {
			v, e := rel.Aggregate(name, values("3, null, 1.5, 2"))
			out = append(out, v, e)
		}
		rows := rowsOf("3, 'a' | 1, 'b' | 3, 'a' | 2 | null, 'a'")
		return append(out, rel.Distinct(rows), rel.Sort(rows, []bool{true}), rel.Bag(rows, rows[1:]), rel.Bag(rows, rows))
	}
	first := calls()
	if !reflect.DeepEqual(first, calls()) {
		t.Error("other answers the second time")
	}
	var group sync.WaitGroup
	for range 8 {
		group.Go(func() {
			if !reflect.DeepEqual(first, calls()) {
				t.Error("other answers beside others")
			}
		})
	}
	group.Wait()
}

// Groups stand in the order of their rows, however many there are.
func TestP1001ManyGroups(t *testing.T) {
	tables := []Data{numbered("c", api.MaxRows)}
	for range 3 {
		_, rows, e := rel.Run(query("select 2047 - c, count() from c group by 2047 - c"), tables)
		if e != api.OK || len(rows) != api.MaxRows {
			t.Fatalf("%d groups, %d", len(rows), e)
		}
		for i, row := range rows {
			if row[0] != whole(2047-i) || row[1] != whole(1) {
				t.Fatalf("group %d is %v", i, row)
			}
		}
	}
}

// Nil and empty lists mean the same.
func TestP1001NilAndEmpty(t *testing.T) {
	empty := Core{Items: items("1"), From: []Source{}, Where: []Node{}, Group: [][]Node{}, Having: []Node{}}
	for _, tables := range [][]Data{nil, {}} {
		for _, c := range []Core{empty, {Items: items("1")}} {
			for _, all := range [][]bool{nil, {}} {
				for _, order := range [][]Order{nil, {}} {
					runs(t, Query{Cores: []Core{c}, All: all, Order: order, Limit: -1}, tables, "1")
				}
			}
		}
	}
	for _, rows := range [][][]Value{nil, {}} {
		d := data("t", "k int", "")
		d.Rows = rows
		runs(t, query("select count(), k from t"), []Data{d}, "0, null")
		runs(t, query("select * from t"), []Data{d}, "")
		if len(rel.Distinct(rows)) != 0 || len(rel.Sort(rows, nil)) != 0 || len(rel.Sort(rows, []bool{})) != 0 || !rel.Bag(rows, nil) || !rel.Bag(rows, [][]Value{}) {
			t.Error("no rows")
		}
	}
	for _, l := range [][]Value{nil, {}} {
		if v, e := rel.Aggregate("count", l); e != api.OK || v != whole(0) {
			t.Errorf("count of nothing: %v, %d", v, e)
		}
	}
}

// Nobody panics, whatever comes in, and beside an error is nothing.
func TestP1001AnyArguments(t *testing.T) {
	wild := []Node{{Op: least, Args: great, Table: "\xff", Name: "\x00", Value: Value{Kind: least, N: least, M: great, B: "'"}}}
	queries := []Query{
		{}, {Limit: least}, {Cores: []Core{{}}}, {Cores: []Core{{}}, Limit: great}, {Cores: []Core{{Star: true}}}, {Cores: []Core{{}, {}, {}}, All: []bool{true, false}, Limit: -1},
		{Cores: []Core{{Items: []Item{{}}}}}, {Cores: []Core{{Items: []Item{{Expr: wild}}}}}, {Cores: []Core{{From: []Source{{Join: least, On: wild}}}}}, {Cores: []Core{{Group: [][]Node{nil, wild}}}},
		{Cores: []Core{{}}, Order: []Order{{}, {Expr: wild}}}, {All: make([]bool, 1000)}, {Cores: make([]Core, 1000), All: make([]bool, 999)}, {Cores: make([]Core, 1000), All: make([]bool, 1000)},
		one(Core{Star: true, From: make([]Source, 1000)}), one(Core{Star: true, From: slices.Repeat([]Source{{Table: "t", Join: stmt.Left, On: nodes("true")}}, 100)}),
	}
	bases := [][]Data{nil, db(), {{}}, {{Rows: [][]Value{nil}}}, make([]Data, 1000), {{Table: Table{Name: "t", Columns: []Column{{Kind: great, Scale: least}}, Key: []int{least}, Check: wild}}}}
	for _, q := range queries {
		for _, tables := range bases {
			if names, rows, e := rel.Run(q, tables); e != api.OK && len(names)+len(rows) != 0 {
				t.Errorf("%s: %v, %v beside %d", short(q), names, rows, e)
			}
		}
	}
	rows := append(unlike(), nil, make([]Value, 100000))
	for _, desc := range [][]bool{nil, {true}, make([]bool, 100000)} {
		if got := rel.Sort(rows, desc); len(got) != len(rows) || !rel.Bag(got, rows) {
			t.Error("Sort of any rows")
		}
	}
	if got := rel.Distinct(rows); len(got) != len(rows)-1 {
		t.Errorf("Distinct of any rows: %d of %d", len(got), len(rows))
	}
	// More rows than a table has.
	many := slices.Repeat([][]Value{values("2, 'a'"), values("1, 'b'")}, 5*api.MaxRows)
	if got := rel.Sort(many, nil); len(got) != len(many) || got[0][0] != whole(1) || got[len(many)/2][0] != whole(2) {
		t.Error("Sort of many rows")
	}
	if got := rel.Distinct(many); len(got) != 2 || !rel.Bag(many, rel.Sort(many, nil)) || rel.Bag(many, many[1:]) {
		t.Error("Distinct and Bag of many rows")
	}
}
