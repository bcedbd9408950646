package stmt_test

import (
	"reflect"
	"slices"
	"strings"
	"sync"
	"testing"
	"unsafe"

	"longstop/api"
	"longstop/expr"
	"longstop/stmt"
)

// span: where something lies in memory.
type span struct{ from, to uintptr }

func textSpan(s string) span {
	from := uintptr(unsafe.Pointer(unsafe.StringData(s)))
	return span{from, from + uintptr(len(s))}
}

// spans gives where the lists in x lie, with the room behind them, and where its
// texts lie.
func spans(x any) (lists, texts []span) {
	var walk func(v reflect.Value)
	walk = func(v reflect.Value) {
		switch v.Kind() {
		case reflect.Struct:
			for i := range v.NumField() {
				walk(v.Field(i))
			}
		case reflect.Slice:
			from := v.Pointer()
			lists = append(lists, span{from, from + uintptr(v.Cap())*v.Type().Elem().Size()})
			for i := range v.Len() {
				walk(v.Index(i))
			}
		case reflect.String:
			texts = append(texts, textSpan(v.String()))
		}
	}
	walk(reflect.ValueOf(x))
	return lists, texts
}

func allSpans(x any) []span {
	lists, texts := spans(x)
	return append(lists, texts...)
}

// apart complains if one of a has memory in common with one of b.
func apart(t *testing.T, what string, a, b []span) {
	t.Helper()
	for _, x := range a {
		for _, y := range b {
			if x.from < y.to && y.from < x.to {
				t.Fatalf("%s: memory is shared", what)
			}
		}
	}
}

// long: statements with names and texts that nobody keeps elsewhere.
var long = []string{
	"create table the_table (column_a int, column_b text not null, primary key (column_b, column_a), unique (column_a), unique (column_b), check (the_table.column_a > 0 or column_b = 'some text'))",
	"drop table the_table",
	"insert into the_table (column_a, column_b) values (column_a + 1, 'some text'), (a_function('another text'))",
	"update the_table set column_a = column_b, column_b = 'some text' where column_a <> 'another text'",
	"delete from the_table where a_function(the_table.column_a) = 'some text'",
	"select column_a as another_name, 'some text' from the_table as the_alias left join another_table on column_b where column_c group by column_d, column_e having column_f union all select * order by column_g, column_h desc limit 7",
}

func TestP901NewMemory(t *testing.T) {
	for _, text := range long {
		text = strings.Clone(text)
		one, other := read(t, text), read(t, text)
		apart(t, "Parse", allSpans(one), []span{textSpan(text)})
		apart(t, "Parse twice", allSpans(one), allSpans(other))
		lists, texts := spans(one)
		for i := range lists {
			apart(t, "two lists", lists[:i], lists[i:i+1])
		}
		apart(t, "a list and a text", lists, texts)

		a, e := stmt.Print(one)
		b, f := stmt.Print(one)
		if e != api.OK || f != api.OK || a == "" {
			t.Fatalf("Print of %s: %d, %d", text, e, f)
		}
		apart(t, "Print", []span{textSpan(a)}, append(allSpans(one), textSpan(text)))
		apart(t, "Print twice", []span{textSpan(a)}, []span{textSpan(b)})
	}
	// The texts that are the same whoever asks.
	for _, text := range []string{"begin", "commit", "rollback"} {
		a, _ := stmt.Print(read(t, text))
		b, _ := stmt.Print(read(t, text))
		apart(t, text, []span{textSpan(a)}, []span{textSpan(b)})
	}
}

// roomy gives x with one more element behind each of its lists, and tells what
// there is in all.
func roomy(v reflect.Value, told *[]reflect.Value) {
	switch v.Kind() {
	case reflect.Struct:
		for i := range v.NumField() {
			roomy(v.Field(i), told)
		}
	case reflect.Slice:
		n := v.Len()
		more := reflect.MakeSlice(v.Type(), n+2, n+2)
		reflect.Copy(more, v)
		*told = append(*told, more)
		v.Set(more.Slice(0, n))
		for i := range n {
			roomy(v.Index(i), told)
		}
	}
}

func TestP901ArgumentsStay(t *testing.T) {
	for _, text := range append(long, samples...) {
		s, other := copied(read(t, text)), copied(read(t, text))
		var lists []reflect.Value
		roomy(reflect.ValueOf(&s).Elem(), &lists)
		var was []any
		for _, l := range lists {
			was = append(was, copiedValue(l).Interface())
		}
		stmt.Print(s)
		stmt.Same(s, s)
		stmt.Same(s, other)
		stmt.Same(other, s)
		s.Kind = 10
		stmt.Print(s)
		for i, l := range lists {
			if !alike(l.Interface(), was[i]) {
				t.Fatalf("%s: an argument, or the room behind it, was changed", text)
			}
		}
	}
}

// What is answered is not kept: who changes it changes no later answer.
func TestP901AnswersAreNotKept(t *testing.T) {
	for _, text := range long {
		want := copied(read(t, text))
		for range 3 {
			s := read(t, text)
			if !alike(s, want) {
				t.Fatalf("%s: another answer the second time", text)
			}
			spoil(reflect.ValueOf(&s).Elem())
		}
	}
}

// spoil changes all that there is in v, and in the room behind it.
func spoil(v reflect.Value) {
	switch v.Kind() {
	case reflect.Struct:
		for i := range v.NumField() {
			spoil(v.Field(i))
		}
	case reflect.Slice:
		v = v.Slice(0, v.Cap())
		for i := range v.Len() {
			spoil(v.Index(i))
		}
	case reflect.Int:
		v.SetInt(99)
	case reflect.Bool:
		v.SetBool(true)
	case reflect.String:
		v.SetString("spoiled")
	}
}

// What is answered does not hang on what was called before, nor on who calls at
// the same time.
func TestP901Again(t *testing.T) {
	calls := func() []any {
		var out []any
		for _, text := range append(slices.Concat(long, samples), "", "select", "select 1 limit -1", "create table t (a int, a int)", "select "+deepText(), "drop table t @", strings.Repeat(" ", api.MaxSource+1)) {
			s, e := stmt.Parse(text)
			back, f := stmt.Print(s)
			out = append(out, []any{e, back, f, stmt.Same(s, s), stmt.Same(s, Stmt{})})
		}
		return out
	}
	first := calls()
	if !reflect.DeepEqual(first, calls()) {
		t.Error("other answers the second time")
	}
	var group sync.WaitGroup
	for range 8 {
		group.Go(func() {
			if !reflect.DeepEqual(first, calls()) {
				t.Error("other answers beside others")
			}
		})
	}
	group.Wait()
}

// Nobody panics, whatever comes in, and beside an error is nothing.
func TestP901AnyArguments(t *testing.T) {
	for _, s := range []string{"\x00", "\xff\xfe", "(", strings.Repeat("(", api.MaxSource), strings.Repeat("select ", 500), strings.Repeat("'", api.MaxSource), strings.Repeat("union select 1 ", 200), "select 1" + strings.Repeat(" union select 1", 200), strings.Repeat("a", 1<<20)} {
		if got, e := stmt.Parse(s); e != api.OK && !alike(got, Stmt{}) {
			t.Errorf("%s: %s beside %d", short(s), short(got), e)
		}
	}
	if got, e := stmt.Parse("select 1" + strings.Repeat(" union select 1", 200)); e != api.OK || len(got.Query.Cores) != 201 || len(got.Query.All) != 200 {
		t.Errorf("201 selects: %d", e)
	}
	wild := Node{Op: least, Args: great, Table: "\xff", Name: "\x00", Value: api.Value{Kind: least, N: least, M: great, B: "'"}}
	for kind := -1; kind <= 10; kind++ {
		s := full()
		s.Kind = kind
		unprinted(t, s)
		s = Stmt{Kind: kind, Name: "t", Names: []string{"\xff"}, Rows: [][][]Node{{{wild}}, nil, {nil}}, Sets: []Set{{Expr: []Node{wild}}}, Where: []Node{wild}}
		s.Table = Table{Name: "t", Columns: []Column{{Kind: great, Scale: least}}, Key: []int{least, great}, Uniques: [][]int{{7}}, Check: []Node{wild}}
		s.Query = Query{Cores: []Core{{}, {Items: []Item{{}}, From: []Source{{Join: least}}, Group: [][]Node{nil}}}, All: []bool{true, true, true}, Order: []Order{{}}, Limit: least}
		unprinted(t, s)
		if !stmt.Same(s, copied(s)) {
			t.Error("a wild statement is not the same as its copy")
		}
	}
	call := []Node{{Op: expr.Call, Name: "f", Args: least}}
	unprinted(t, Stmt{Kind: stmt.Delete, Name: "t", Where: call})
}
