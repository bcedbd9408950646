package decode_test

import (
	"fmt"
	"math"
	"math/rand"
	"reflect"
	"slices"
	"strings"
	"testing"

	"longstop/api"
	"longstop/base"
	"longstop/datum"
	"longstop/decode"
	"longstop/expr"
	"longstop/schema"
	"longstop/stmt"
)

type (
	Base        = base.Base
	Change      = base.Change
	Column      = schema.Column
	Errno       = api.Errno
	Node        = expr.Node
	Part        = decode.Part
	Publication = decode.Publication
	Stmt        = stmt.Stmt
	Table       = schema.Table
	Value       = api.Value
)

const (
	least = math.MinInt
	great = math.MaxInt
)

var null = Value{}

func whole(n int) Value { return Value{Kind: api.Int, N: n} }

func dec(units, scale int) Value { return Value{Kind: api.Dec, N: units, M: scale} }

func text(s string) Value { return Value{Kind: api.Text, B: s} }

func pick[T any](r *rand.Rand, l ...T) T { return l[r.Intn(len(l))] }

// short tells x in a line that can be read.
func short(x any) string {
	s := fmt.Sprintf("%+v", x)
	return s[:min(len(s), 600)]
}

// nodes is of texts that are expressions'; "" is of none.
func nodes(s string) []Node {
	if s == "" {
		return nil
	}
	l, e := expr.Parse(s)
	if e != api.OK {
		panic(s + " is no expression's text")
	}
	return l
}

// statement is of texts that are statements'.
func statement(s string) Stmt {
	x, e := stmt.Parse(s)
	if e != api.OK {
		panic(short(s) + " is no statement's text")
	}
	return x
}

// table is of what stands behind create table.
func table(s string) Table { return statement("create table " + s).Table }

// part is of texts like t (a, b) where a > 1, of which all but the table may be
// left away.
func part(s string) Part {
	head, where, _ := strings.Cut(s, " where ")
	name, columns, named := strings.Cut(strings.TrimSuffix(head, ")"), " (")
	p := Part{Table: name, Where: nodes(where)}
	if named {
		p.Columns = strings.Split(columns, ", ")
	}
	return p
}

// published is of parts' texts, with "; " between; "" is of none.
func published(s string) Publication {
	p := Publication{Name: "p"}
	if s == "" {
		return p
	}
	for _, in := range strings.Split(s, "; ") {
		p.Parts = append(p.Parts, part(in))
	}
	return p
}

func printedPart(p Part) string {
	return fmt.Sprintf("%s %v where %s", p.Table, p.Columns, expr.Print(p.Where))
}

func printedPublication(p Publication) string {
	var l []string
	for _, in := range p.Parts {
		l = append(l, printedPart(in))
	}
	return strings.Join(l, "; ")
}

// values is of values' texts, commas between; "" is of none.
func values(s string) []Value {
	if s == "" {
		return nil
	}
	var l []Value
	for _, in := range strings.Split(s, ", ") {
		v, e := datum.Parse(in)
		if e != api.OK {
			panic(in + " is no value's text")
		}
		l = append(l, v)
	}
	return l
}

func printedRow(row []Value) string {
	var l []string
	for _, v := range row {
		l = append(l, datum.Print(v))
	}
	return strings.Join(l, ", ")
}

func printedRows(rows [][]Value) string {
	var l []string
	for _, row := range rows {
		l = append(l, printedRow(row))
	}
	return strings.Join(l, " | ")
}

func printedTable(t Table) string {
	s, e := stmt.Print(Stmt{Kind: stmt.Create, Table: t})
	if e != api.OK {
		return fmt.Sprintf("%+v", t)
	}
	return strings.TrimPrefix(s, "create table ")
}

// The words that changes' texts begin with.
var changeWords = [...]string{base.Create: "create", base.Drop: "drop", base.Insert: "insert", base.Update: "update", base.Delete: "delete"}

// printedChanges gives what the changes' Kinds name, strokes between.
func printedChanges(l []Change) string {
	var out []string
	for _, x := range l {
		in := ""
		switch x.Kind {
		case base.Create, base.Drop:
			in = printedTable(x.Schema)
		case base.Insert:
			in = printedRow(x.Now)
		case base.Update:
			in = printedRow(x.Old) + " -> " + printedRow(x.Now)
		case base.Delete:
			in = printedRow(x.Old)
		default:
			in = fmt.Sprintf("%+v", x)
			x.Kind = 0
		}
		out = append(out, changeWords[x.Kind]+" "+x.Table+": "+in)
	}
	return strings.Join(out, " | ")
}

// changes is of texts as printedChanges gives them; "" is of none.
func changes(s string) []Change {
	if s == "" {
		return nil
	}
	var l []Change
	for _, in := range strings.Split(s, " | ") {
		head, in, _ := strings.Cut(in, ": ")
		word, name, _ := strings.Cut(head, " ")
		x := Change{Kind: slices.Index(changeWords[:], word), Table: name}
		switch x.Kind {
		case base.Create, base.Drop:
			x.Schema = table(in)
		case base.Insert:
			x.Now = values(in)
		case base.Update:
			old, now, _ := strings.Cut(in, " -> ")
			x.Old, x.Now = values(old), values(now)
		case base.Delete:
			x.Old = values(in)
		default:
			panic(in + " is no change")
		}
		l = append(l, x)
	}
	return l
}

// alike tells whether two have the same in them, nil or empty lists being the
// same.
func alike(a, b any) bool { return alikeValues(reflect.ValueOf(a), reflect.ValueOf(b)) }

func alikeValues(a, b reflect.Value) bool {
	switch a.Kind() {
	case reflect.Struct:
		for i := range a.NumField() {
			if !alikeValues(a.Field(i), b.Field(i)) {
				return false
			}
		}
		return true
	case reflect.Slice:
		if a.Len() != b.Len() {
			return false
		}
		for i := range a.Len() {
			if !alikeValues(a.Index(i), b.Index(i)) {
				return false
			}
		}
		return true
	}
	return a.Interface() == b.Interface()
}

// copied gives what has nothing in common with x's memory but texts.
func copied[T any](x T) T { return copiedValue(reflect.ValueOf(x)).Interface().(T) }

func copiedValue(v reflect.Value) reflect.Value {
	out := reflect.New(v.Type()).Elem()
	switch v.Kind() {
	case reflect.Struct:
		for i := range v.NumField() {
			out.Field(i).Set(copiedValue(v.Field(i)))
		}
	case reflect.Slice:
		if !v.IsNil() {
			out.Set(reflect.MakeSlice(v.Type(), v.Len(), v.Len()))
		}
		for i := range v.Len() {
			out.Index(i).Set(copiedValue(v.Index(i)))
		}
	default:
		out.Set(v)
	}
	return out
}

// state tells all that can be seen of b, the rows as they stand.
func state(b *Base) string {
	var out strings.Builder
	for _, name := range b.Tables() {
		d, _ := b.Data(name)
		out.WriteString(printedTable(d.Table) + ": " + printedRows(d.Rows) + "\n")
	}
	return out.String()
}

// based gives a base in which these statements were done.
func based(t *testing.T, l ...string) *Base {
	t.Helper()
	b := base.New()
	for _, s := range l {
		done(t, b, s)
	}
	return b
}

// done complains unless b does the statement.
func done(t *testing.T, b *Base, s string) []Change {
	t.Helper()
	r, e := b.Do(statement(s))
	if e != api.OK {
		t.Fatalf("%s: error %d", short(s), e)
	}
	return r.Changes
}

// some gives a base with the tables t, that has a key, and u, that has none.
func some(t *testing.T) *Base {
	t.Helper()
	return based(t, "create table t (k int, a int, c text, primary key (k), unique (c), check (k < 100))", "create table u (b int, s text not null)", "insert into t values (2, 20, 'y'), (1, 10, 'x'), (3, null, null)", "insert into u values (3, 'p'), (1, 'q'), (3, 'p'), (null, 'r')")
}

// projects complains unless what is shown of b are just these tables, a line
// each, with these rows.
func projects(t *testing.T, p Publication, b *Base, want ...string) {
	t.Helper()
	was := state(b)
	got, e := decode.Project(p, b)
	if e != api.OK || state(got) != strings.Join(append(want, ""), "\n") {
		t.Fatalf("Project of %s: %s, error %d, not %s", printedPublication(p), state(got), e, want)
	}
	if state(b) != was {
		t.Fatalf("Project of %s made of %s: %s", printedPublication(p), was, state(b))
	}
}

func projectFails(t *testing.T, want Errno, p Publication, b *Base) {
	t.Helper()
	was := state(b)
	if got, e := decode.Project(p, b); e != want || got != nil {
		t.Fatalf("Project of %s: %s, error %d, not %d", printedPublication(p), state(got), e, want)
	}
	if state(b) != was {
		t.Fatalf("Project of %s made of %s: %s", printedPublication(p), was, state(b))
	}
}

// decodes complains unless the changes are those, and b stays as it was.
func decodes(t *testing.T, p Publication, b *Base, l []Change, want string) {
	t.Helper()
	was := state(b)
	got, e := decode.Decode(p, b, l)
	if e != api.OK || !alike(got, changes(want)) && len(got)+len(want) > 0 {
		t.Fatalf("Decode of %s by %s: %s, error %d, not %s", printedChanges(l), printedPublication(p), printedChanges(got), e, want)
	}
	if state(b) != was {
		t.Fatalf("Decode of %s made of %s: %s", printedChanges(l), was, state(b))
	}
}

func decodeFails(t *testing.T, want Errno, p Publication, b *Base, l []Change) {
	t.Helper()
	was := state(b)
	if got, e := decode.Decode(p, b, l); e != want || len(got) > 0 {
		t.Fatalf("Decode of %s by %s: %s, error %d, not %d", printedChanges(l), printedPublication(p), printedChanges(got), e, want)
	}
	if state(b) != was {
		t.Fatalf("Decode of %s made of %s: %s", printedChanges(l), was, state(b))
	}
}

// shapes complains unless that is the table which is shown.
func shapes(t *testing.T, p, of, want string) {
	t.Helper()
	got, e := decode.Shape(part(p), table(of))
	if e != api.OK || printedTable(got) != want || !alike(got, table(want)) {
		t.Fatalf("Shape of %s, %s: %s, error %d, not %s", p, of, printedTable(got), e, want)
	}
}

func shapeFails(t *testing.T, want Errno, p Part, of Table) {
	t.Helper()
	if got, e := decode.Shape(p, of); e != want || !alike(got, Table{}) {
		t.Fatalf("Shape of %s, %s: %s, error %d, not %d", printedPart(p), printedTable(of), printedTable(got), e, want)
	}
}

// unmade gives bases that base.New did not make.
func unmade() []*Base { return []*Base{nil, {}, new(Base)} }

// wrongNames gives texts that are no free words.
func wrongNames() []string {
	return []string{
		"", " ", "T", "1", "1a", "a b", "a.b", "a-b", " t", "t ", "t\x00", "\xff", "ä", "select", "table", "null", "true", "and", "key", "begin",
		strings.Repeat("a", api.MaxName+1), strings.Repeat("a", 100000),
	}
}

// wrongNodes gives lists that are neither empty nor expressions.
func wrongNodes() [][]Node {
	one := nodes("1")
	deep := nodes("k")
	for range api.MaxDepth {
		deep = append(deep, Node{Op: expr.Not})
	}
	wide := nodes("1")
	for range 128 {
		wide = slices.Concat(wide, one, []Node{{Op: expr.Add}})
	}
	return [][]Node{
		{{}}, {{Op: expr.Not}}, {{Op: 20}}, {{Op: -1}}, {{Op: great}}, {{Op: expr.Column}}, {{Op: expr.Column, Name: "A"}}, {{Op: expr.Column, Name: "null"}}, slices.Concat(one, one), slices.Concat(one, []Node{{Op: expr.Add}}),
		{{Op: expr.Value, Value: whole(-1)}}, {{Op: expr.Value, Value: Value{Kind: 9}}}, {{Op: expr.Value, Name: "a"}}, {{Op: expr.Call, Name: "f", Args: -1}}, {{Op: expr.Call, Name: "f", Args: 1}}, deep, wide, make([]Node, 1000),
	}
}

// wrongParts gives parts of the table t that may not be.
func wrongParts() []Part {
	l := []Part{{}, {Table: "t", Columns: []string{"k", "k"}}, {Table: "t", Columns: []string{"a", "k", "c", "a"}}, {Table: "t", Columns: []string{"nobody", "nobody"}}}
	for _, name := range wrongNames() {
		l = append(l, Part{Table: name}, Part{Table: "t", Columns: []string{name}}, Part{Table: "t", Columns: []string{"k", name}})
	}
	for _, where := range wrongNodes() {
		l = append(l, Part{Table: "t", Where: where}, Part{Table: "t", Columns: []string{"k"}, Where: where})
	}
	return l
}

// wrongPublications gives those that may not be.
func wrongPublications() []Publication {
	t, u := part("t (k)"), part("u")
	l := []Publication{
		{}, {Name: "p", Parts: make([]Part, 1)}, {Name: "p", Parts: []Part{t, t}}, {Name: "p", Parts: []Part{t, u, part("t (a)")}}, {Name: "p", Parts: []Part{part("nobody"), t, u, part("nobody")}},
	}
	for _, name := range wrongNames() {
		l = append(l, Publication{Name: name}, Publication{Name: name, Parts: []Part{t}})
	}
	for _, wrong := range wrongParts() {
		l = append(l, Publication{Name: "p", Parts: []Part{wrong}}, Publication{Name: "p", Parts: []Part{u, wrong}}, Publication{Name: "p", Parts: []Part{wrong, u}})
	}
	return l
}

// wrongTables gives tables that may not be.
func wrongTables() []Table {
	one := []Column{{Name: "k", Kind: api.Int}}
	l := []Table{
		{}, {Name: "t"}, {Columns: one}, {Name: "t", Columns: []Column{{Name: "k"}}}, {Name: "t", Columns: []Column{{Name: "K", Kind: api.Int}}},
		{Name: "t", Columns: []Column{{Name: "k", Kind: 6}}}, {Name: "t", Columns: []Column{{Name: "k", Kind: api.Int, Scale: 1}}}, {Name: "t", Columns: slices.Repeat(one, 2)},
		{Name: "t", Columns: one, Key: []int{1}}, {Name: "t", Columns: one, Key: []int{-1}}, {Name: "t", Columns: one, Key: []int{0, 0}},
		{Name: "t", Columns: one, Uniques: [][]int{nil}}, {Name: "t", Columns: one, Uniques: [][]int{{great}}}, {Name: "t", Columns: one, Uniques: slices.Repeat([][]int{{0}}, 5)},
		{Name: "t", Columns: one, Check: []Node{{}}}, {Name: "t", Columns: one, Check: nodes("b > 1")}, {Name: "t", Columns: one, Check: nodes("u.k > 1")},
	}
	for _, name := range wrongNames() {
		l = append(l, Table{Name: name, Columns: one})
	}
	return l
}
