package base_test

import (
	"fmt"
	"math"
	"math/rand"
	"reflect"
	"slices"
	"strings"
	"testing"

	"longstop/api"
	"longstop/base"
	"longstop/datum"
	"longstop/expr"
	"longstop/schema"
	"longstop/stmt"
)

type (
	Base   = base.Base
	Change = base.Change
	Column = schema.Column
	Node   = expr.Node
	Result = base.Result
	Set    = stmt.Set
	Stmt   = stmt.Stmt
	Table  = schema.Table
	Value  = api.Value
)

const (
	least = math.MinInt
	great = math.MaxInt
)

var null = Value{}

func whole(n int) Value { return Value{Kind: api.Int, N: n} }

func dec(units, scale int) Value { return Value{Kind: api.Dec, N: units, M: scale} }

func text(s string) Value { return Value{Kind: api.Text, B: s} }

func truth(n int) Value { return Value{Kind: api.Bool, N: n} }

func point(x, y int) Value { return Value{Kind: api.Point, N: x, M: y} }

func row(l ...Value) []Value { return l }

func pick[T any](r *rand.Rand, l ...T) T { return l[r.Intn(len(l))] }

// short tells x in a line that can be read.
func short(x any) string {
	s := fmt.Sprintf("%+v", x)
	return s[:min(len(s), 600)]
}

// nodes is of texts that are expressions'; "" is of none.
func nodes(s string) []Node {
	if s == "" {
		return nil
	}
	l, e := expr.Parse(s)
	if e != api.OK {
		panic(s + " is no expression's text")
	}
	return l
}

// statement is of texts that are statements'.
func statement(s string) Stmt {
	x, e := stmt.Parse(s)
	if e != api.OK {
		panic(short(s) + " is no statement's text")
	}
	return x
}

// table is of a name and what stands in the parentheses of a create.
func table(name, in string) Table {
	return statement("create table " + name + " (" + in + ")").Table
}

// values is of values' texts, commas between; "" is of none.
func values(s string) []Value {
	if s == "" {
		return nil
	}
	var l []Value
	for _, part := range strings.Split(s, ", ") {
		v, e := datum.Parse(part)
		if e != api.OK {
			panic(part + " is no value's text")
		}
		l = append(l, v)
	}
	return l
}

// rowsOf is of rows' texts, strokes between; "" is of none.
func rowsOf(s string) [][]Value {
	if s == "" {
		return nil
	}
	var l [][]Value
	for _, part := range strings.Split(s, " | ") {
		l = append(l, values(part))
	}
	return l
}

// printedRow gives the row's text; no two rows have the same.
func printedRow(row []Value) string {
	var l []string
	for _, v := range row {
		s := datum.Print(v)
		if s == "" {
			s = fmt.Sprintf("%#v", v)
		}
		l = append(l, s)
	}
	return strings.Join(l, ", ")
}

func printedRows(rows [][]Value) string {
	var l []string
	for _, row := range rows {
		l = append(l, printedRow(row))
	}
	return strings.Join(l, " | ")
}

func printedTable(t Table) string {
	s, e := stmt.Print(Stmt{Kind: stmt.Create, Table: t})
	if e != api.OK {
		return fmt.Sprintf("%+v", t)
	}
	return s
}

// Changes as texts: what a Kind names, and behind that whatever stands there
// beside it.
const (
	createWord = "create "
	dropWord   = "drop "
	insertWord = "insert "
	updateWord = "update "
	deleteWord = "delete "
)

func printedChange(x Change) string {
	rest := x
	rest.Kind, rest.Table = 0, ""
	var s string
	switch x.Kind {
	case base.Create, base.Drop:
		s = map[int]string{base.Create: createWord, base.Drop: dropWord}[x.Kind] + x.Table + ": " + printedTable(x.Schema)
		rest.Schema = Table{}
	case base.Insert:
		s = insertWord + x.Table + ": " + printedRow(x.Now)
		rest.Now = nil
	case base.Update:
		s = updateWord + x.Table + ": " + printedRow(x.Old) + " -> " + printedRow(x.Now)
		rest.Old, rest.Now = nil, nil
	case base.Delete:
		s = deleteWord + x.Table + ": " + printedRow(x.Old)
		rest.Old = nil
	default:
		rest.Kind = x.Kind
	}
	if !alike(rest, Change{}) {
		s += fmt.Sprintf(" BESIDE %+v", rest)
	}
	return s
}

func printedChanges(l []Change) string {
	var out []string
	for _, x := range l {
		out = append(out, printedChange(x))
	}
	return strings.Join(out, "; ")
}

// changes is of texts as printedChanges gives them; "" is of none.
func changes(s string) []Change {
	if s == "" {
		return nil
	}
	var l []Change
	for _, part := range strings.Split(s, "; ") {
		l = append(l, change(part))
	}
	return l
}

func change(s string) Change {
	head, tail, _ := strings.Cut(s, ":")
	word, name, _ := strings.Cut(head, " ")
	tail = strings.TrimPrefix(tail, " ")
	x := Change{Table: name}
	switch word + " " {
	case createWord, dropWord:
		x.Kind = map[string]int{createWord: base.Create, dropWord: base.Drop}[word+" "]
		x.Schema = statement(tail).Table
	case insertWord:
		x.Kind, x.Now = base.Insert, values(tail)
	case updateWord:
		old, now, _ := strings.Cut(tail, "->")
		x.Kind, x.Old, x.Now = base.Update, values(strings.TrimSpace(old)), values(strings.TrimSpace(now))
	case deleteWord:
		x.Kind, x.Old = base.Delete, values(tail)
	default:
		panic(s + " is no change")
	}
	return x
}

// alike tells whether two have the same in them, nil or empty lists being the
// same.
func alike(a, b any) bool { return alikeValues(reflect.ValueOf(a), reflect.ValueOf(b)) }

func alikeValues(a, b reflect.Value) bool {
	switch a.Kind() {
	case reflect.Struct:
		for i := range a.NumField() {
			if !alikeValues(a.Field(i), b.Field(i)) {
				return false
			}
		}
		return true
	case reflect.Slice:
		if a.Len() != b.Len() {
			return false
		}
		for i := range a.Len() {
			if !alikeValues(a.Index(i), b.Index(i)) {
				return false
			}
		}
		return true
	}
	return a.Interface() == b.Interface()
}

// copied gives what has nothing in common with x's memory but texts.
func copied[T any](x T) T { return copiedValue(reflect.ValueOf(x)).Interface().(T) }

func copiedValue(v reflect.Value) reflect.Value {
	out := reflect.New(v.Type()).Elem()
	switch v.Kind() {
	case reflect.Struct:
		for i := range v.NumField() {
			out.Field(i).Set(copiedValue(v.Field(i)))
		}
	case reflect.Slice:
		if !v.IsNil() {
			out.Set(reflect.MakeSlice(v.Type(), v.Len(), v.Len()))
		}
		for i := range v.Len() {
			out.Index(i).Set(copiedValue(v.Index(i)))
		}
	default:
		out.Set(v)
	}
	return out
}

// state tells all that can be seen of b, the rows as they stand.
func state(b *Base) string {
	var out strings.Builder
	for _, name := range b.Tables() {
		d, ok := b.Data(name)
		if !ok || d.Table.Name != name {
			return "Data of " + name + " tells nothing of it"
		}
		out.WriteString(printedTable(d.Table) + ": " + printedRows(d.Rows) + "\n")
	}
	return out.String()
}

// based gives a base in which these statements were done.
func based(t *testing.T, l ...string) *Base {
	t.Helper()
	b := base.New()
	for _, s := range l {
		done(t, b, s)
	}
	return b
}

// done complains unless b does the statement.
func done(t *testing.T, b *Base, s string) Result {
	t.Helper()
	r, e := b.Do(statement(s))
	if e != api.OK {
		t.Fatalf("%s: %d", short(s), e)
	}
	return r
}

// does complains unless b does the statement, with that count, and just those
// changes.
func does(t *testing.T, b *Base, s string, count int, want string) {
	t.Helper()
	r := done(t, b, s)
	if got := printedChanges(r.Changes); r.Count != count || got != want || len(r.Names) != 0 || len(r.Rows) != 0 {
		t.Fatalf("%s: %d, %s, not %d, %s; %v, %v", short(s), r.Count, got, count, want, r.Names, r.Rows)
	}
}

// refuses complains unless b answers the statement with that error, with nothing
// beside it, and stays as it was.
func refuses(t *testing.T, b *Base, s string, want api.Errno) {
	t.Helper()
	refusesStmt(t, b, statement(s), want)
}

func refusesStmt(t *testing.T, b *Base, s Stmt, want api.Errno) {
	t.Helper()
	was := state(b)
	r, e := b.Do(s)
	if e != want || !alike(r, Result{}) {
		t.Fatalf("Do of %s: %s, %d, not %d", short(s), short(r), e, want)
	}
	if now := state(b); now != was {
		t.Fatalf("Do of %s, that was refused, made of %s: %s", short(s), was, now)
	}
}

// stands complains unless the rows of b's table stand so.
func stands(t *testing.T, b *Base, name, want string) {
	t.Helper()
	d, ok := b.Data(name)
	if got := printedRows(d.Rows); !ok || got != want || d.Table.Name != name {
		t.Fatalf("%s: %s, %v, not %s", name, short(got), ok, short(want))
	}
}

// call: Redo or Undo.
type call func(*Base, []Change) api.Errno

func joined(l []string) string { return strings.Join(l, "; ") }

// redoes complains unless b does the changes.
func redoes(t *testing.T, b *Base, l ...string) {
	t.Helper()
	if e := b.Redo(changes(joined(l))); e != api.OK {
		t.Fatalf("Redo of %s: %d", short(l), e)
	}
}

func undoes(t *testing.T, b *Base, l ...string) {
	t.Helper()
	if e := b.Undo(changes(joined(l))); e != api.OK {
		t.Fatalf("Undo of %s: %d", short(l), e)
	}
}

// redoFails complains unless b answers the changes with that error, and stays
// as it was.
func redoFails(t *testing.T, b *Base, want api.Errno, l ...string) {
	t.Helper()
	fails(t, (*Base).Redo, b, want, changes(joined(l)))
}

func undoFails(t *testing.T, b *Base, want api.Errno, l ...string) {
	t.Helper()
	fails(t, (*Base).Undo, b, want, changes(joined(l)))
}

func fails(t *testing.T, c call, b *Base, want api.Errno, l []Change) {
	t.Helper()
	was := state(b)
	if e := c(b, l); e != want {
		t.Fatalf("Of %s: %d, not %d", short(printedChanges(l)), e, want)
	}
	if now := state(b); now != was {
		t.Fatalf("%s, that were refused, made of %s: %s", short(printedChanges(l)), was, now)
	}
}

// inserts gives Inserts of the Ints from 0 on into a table of one column.
func inserts(name string, count int) []Change {
	var l []Change
	for i := range count {
		l = append(l, Change{Kind: base.Insert, Table: name, Now: row(whole(i))})
	}
	return l
}

// full gives a base whose table t, of one column, has that many rows.
func full(t *testing.T, in string, count int) *Base {
	t.Helper()
	b := based(t, "create table t ("+in+")")
	if e := b.Redo(inserts("t", count)); e != api.OK {
		t.Fatalf("Redo of %d inserts: %d", count, e)
	}
	return b
}

// unmade gives bases that New did not make.
func unmade() []*Base { return []*Base{nil, {}, new(Base)} }

// wrongValues gives values that may not be.
func wrongValues() []Value {
	return []Value{
		{Kind: -1}, {Kind: 6}, {Kind: least}, {Kind: great, N: 1, M: 1, B: "a"},
		{N: 1}, {M: 1}, {B: "a"}, {Kind: api.Int, N: 5, M: 1}, {Kind: api.Int, N: 5, B: "a"},
		{Kind: api.Dec, N: 5, M: 2, B: "5"}, dec(0, -1), dec(5, 7), dec(5, great),
		{Kind: api.Text, N: 1, B: "a"}, {Kind: api.Text, M: 1}, text(strings.Repeat("a", api.MaxValue+1)), text("\xff"),
		truth(2), truth(-1), {Kind: api.Bool, N: 1, M: 1}, {Kind: api.Bool, N: 1, B: "true"},
		point(api.MaxPoint+1, 0), point(0, -api.MaxPoint-1), {Kind: api.Point, N: 1, M: 1, B: "a"},
	}
}

// wrongNames gives texts that are no free words.
func wrongNames() []string {
	return []string{
		"", " ", "T", "1", "1a", "a b", "a.b", "a-b", " t", "t ", "t\x00", "\xff", "ä", "select", "table", "null", "true", "and", "key", "begin",
		strings.Repeat("a", api.MaxName+1), strings.Repeat("a", api.MaxBytes+1),
	}
}

// wrongTables gives tables that may not be.
func wrongTables() []Table {
	one := []Column{{Name: "a", Kind: api.Int}}
	l := []Table{
		{}, {Name: "t"}, {Columns: one}, {Name: "t", Columns: []Column{{Name: "a"}}}, {Name: "t", Columns: []Column{{Name: "A", Kind: api.Int}}},
		{Name: "t", Columns: []Column{{Name: "a", Kind: 6}}}, {Name: "t", Columns: []Column{{Name: "a", Kind: api.Int, Scale: 1}}}, {Name: "t", Columns: slices.Repeat(one, 2)},
		{Name: "t", Columns: one, Key: []int{1}}, {Name: "t", Columns: one, Key: []int{-1}}, {Name: "t", Columns: one, Key: []int{0, 0}},
		{Name: "t", Columns: one, Uniques: [][]int{nil}}, {Name: "t", Columns: one, Uniques: [][]int{{great}}}, {Name: "t", Columns: one, Uniques: slices.Repeat([][]int{{0}}, 5)},
		{Name: "t", Columns: one, Check: []Node{{}}}, {Name: "t", Columns: one, Check: nodes("b > 1")}, {Name: "t", Columns: one, Check: nodes("u.a > 1")},
	}
	for _, name := range wrongNames() {
		l = append(l, Table{Name: name, Columns: one})
	}
	return l
}
