package engine_test

import (
	"fmt"
	"math"
	"math/rand"
	"reflect"
	"slices"
	"strings"
	"testing"

	"longstop/api"
	"longstop/base"
	"longstop/datum"
	"longstop/engine"
	"longstop/expr"
	"longstop/schema"
	"longstop/stmt"
)

type (
	Base   = base.Base
	Change = base.Change
	Engine = engine.Engine
	Errno  = api.Errno
	Node   = expr.Node
	Result = base.Result
	Stmt   = stmt.Stmt
	Table  = schema.Table
	Value  = api.Value
)

const (
	least = math.MinInt
	great = math.MaxInt

	mostSessions = 64
	theList      = "" // the name of the list of tables
)

func pick[T any](r *rand.Rand, l ...T) T { return l[r.Intn(len(l))] }

// short tells x in a line that can be read.
func short(x any) string {
	s := fmt.Sprintf("%+v", x)
	return s[:min(len(s), 600)]
}

// statement is of texts that are statements'.
func statement(s string) Stmt {
	x, e := stmt.Parse(s)
	if e != api.OK {
		panic(short(s) + " is no statement's text")
	}
	return x
}

// nodes is of texts that are expressions'.
func nodes(s string) []expr.Node {
	l, e := expr.Parse(s)
	if e != api.OK {
		panic(s + " is no expression's text")
	}
	return l
}

// values is of values' texts, commas between; "" is of none.
func values(s string) []Value {
	if s == "" {
		return nil
	}
	var l []Value
	for _, part := range strings.Split(s, ", ") {
		v, e := datum.Parse(part)
		if e != api.OK {
			panic(part + " is no value's text")
		}
		l = append(l, v)
	}
	return l
}

func printedRow(row []Value) string {
	var l []string
	for _, v := range row {
		l = append(l, datum.Print(v))
	}
	return strings.Join(l, ", ")
}

func printedRows(rows [][]Value) string {
	var l []string
	for _, row := range rows {
		l = append(l, printedRow(row))
	}
	return strings.Join(l, " | ")
}

func printedTable(t Table) string {
	s, e := stmt.Print(Stmt{Kind: stmt.Create, Table: t})
	if e != api.OK {
		return fmt.Sprintf("%+v", t)
	}
	return s
}

// The words that changes' texts begin with.
var changeWords = [...]string{base.Create: "create", base.Drop: "drop", base.Insert: "insert", base.Update: "update", base.Delete: "delete"}

// printedChanges gives what the changes' Kinds name, strokes between.
func printedChanges(l []Change) string {
	var out []string
	for _, x := range l {
		in := ""
		switch x.Kind {
		case base.Create, base.Drop:
			in = printedTable(x.Schema)
		case base.Insert:
			in = printedRow(x.Now)
		case base.Update:
			in = printedRow(x.Old) + " -> " + printedRow(x.Now)
		case base.Delete:
			in = printedRow(x.Old)
		}
		out = append(out, changeWords[x.Kind]+" "+x.Table+": "+in)
	}
	return strings.Join(out, " | ")
}

// changes is of texts as printedChanges gives them; "" is of none.
func changes(s string) []Change {
	if s == "" {
		return nil
	}
	var l []Change
	for _, part := range strings.Split(s, " | ") {
		head, in, _ := strings.Cut(part, ": ")
		word, name, _ := strings.Cut(head, " ")
		x := Change{Kind: slices.Index(changeWords[:], word), Table: name}
		switch x.Kind {
		case base.Create, base.Drop:
			x.Schema = statement(in).Table
		case base.Insert:
			x.Now = values(in)
		case base.Update:
			old, now, _ := strings.Cut(in, " -> ")
			x.Old, x.Now = values(old), values(now)
		case base.Delete:
			x.Old = values(in)
		default:
			panic(part + " is no change")
		}
		l = append(l, x)
	}
	return l
}

// alike tells whether two have the same in them, nil or empty lists being the
// same.
func alike(a, b any) bool { return alikeValues(reflect.ValueOf(a), reflect.ValueOf(b)) }

func alikeValues(a, b reflect.Value) bool {
	switch a.Kind() {
	case reflect.Struct:
		for i := range a.NumField() {
			if !alikeValues(a.Field(i), b.Field(i)) {
				return false
			}
		}
		return true
	case reflect.Slice:
		if a.Len() != b.Len() {
			return false
		}
		for i := range a.Len() {
			if !alikeValues(a.Index(i), b.Index(i)) {
				return false
			}
		}
		return true
	}
	return a.Interface() == b.Interface()
}

// baseState tells all that can be seen of b, the rows as they stand.
func baseState(b *Base) string {
	var out strings.Builder
	for _, name := range b.Tables() {
		d, _ := b.Data(name)
		out.WriteString(printedTable(d.Table) + ": " + printedRows(d.Rows) + "\n")
	}
	return out.String()
}

// lockNames: of which tables it is asked who holds their locks.
var lockNames = []string{theList, "t", "u", "v", "w", "the_table", "nobody"}

// state tells all that can be seen of g.
func state(g *Engine) string {
	var out strings.Builder
	for session := -1; session <= mostSessions+1; session++ {
		if g.Open(session) {
			fmt.Fprintf(&out, "%d ", session)
		}
	}
	for _, name := range lockNames {
		if readers, writer := g.Locks(name); len(readers) > 0 || writer != 0 {
			fmt.Fprintf(&out, "%q: %d %d ", name, readers, writer)
		}
	}
	return out.String() + "\n" + baseState(g.Base())
}

// play is an engine that statements' texts are told to.
type play struct {
	t *testing.T
	g *Engine
}

// begun gives an engine in which the statements were done, without a transaction.
func begun(t *testing.T, l ...string) *play {
	t.Helper()
	p := &play{t, engine.New()}
	for _, s := range l {
		p.done(1, s)
	}
	return p
}

// some gives an engine with the tables t, that has a key, and u, that has none.
func some(t *testing.T) *play {
	t.Helper()
	return begun(t, "create table t (k int, a text, primary key (k), unique (a))", "create table u (b int)", "insert into t values (2, 'y'), (1, 'x'), (3, null)", "insert into u values (3), (1), (3)")
}

// done complains unless the engine does the statement.
func (p *play) done(session int, s string) Result {
	p.t.Helper()
	r, e := p.g.Do(session, statement(s))
	if e != api.OK {
		p.t.Fatalf("%d %s: error %d", session, short(s), e)
	}
	return r
}

// all does the statements of one session.
func (p *play) all(session int, l ...string) {
	p.t.Helper()
	for _, s := range l {
		p.done(session, s)
	}
}

// tells complains unless the engine does the statement, with that count and just
// these changes.
func (p *play) tells(session int, s string, count int, want string) {
	p.t.Helper()
	r := p.done(session, s)
	if !alike(r, Result{Count: count, Changes: changes(want)}) {
		p.t.Fatalf("%d %s: %s, not %d, %s", session, short(s), short(r), count, want)
	}
}

// shows complains unless the select comes to these rows.
func (p *play) shows(session int, s string, want string) {
	p.t.Helper()
	r := p.done(session, s)
	if got := printedRows(r.Rows); got != want || r.Count != len(r.Rows) || len(r.Names) == 0 || len(r.Changes) != 0 {
		p.t.Fatalf("%d %s: %s, not %s", session, short(s), short(r), want)
	}
}

// refuses complains unless the engine answers each with that error, with nothing
// beside it, and stays as it was.
func (p *play) refuses(session int, want Errno, l ...string) {
	p.t.Helper()
	for _, s := range l {
		p.refusesStmt(session, want, statement(s))
	}
}

func (p *play) refusesStmt(session int, want Errno, s Stmt) {
	p.t.Helper()
	was := state(p.g)
	if r, e := p.g.Do(session, s); e != want || !alike(r, Result{}) {
		p.t.Fatalf("%d %s: %s, error %d, not %d", session, short(s), short(r), e, want)
	}
	p.stays(was, short(s))
}

func (p *play) stays(was, what string) {
	p.t.Helper()
	if now := state(p.g); now != was {
		p.t.Fatalf("%s made of %s: %s", what, was, now)
	}
}

// call: Apply or Revert.
type call func(*Engine, []Change) Errno

// brings complains unless the engine takes the changes.
func (p *play) brings(c call, s string) {
	p.t.Helper()
	if e := c(p.g, changes(s)); e != api.OK {
		p.t.Fatalf("%s: error %d", s, e)
	}
}

// fails complains unless the engine answers the changes with that error, and
// stays as it was.
func (p *play) fails(c call, want Errno, l []Change) {
	p.t.Helper()
	was := state(p.g)
	if e := c(p.g, l); e != want {
		p.t.Fatalf("%s: error %d, not %d", short(l), e, want)
	}
	p.stays(was, short(l))
}

// stands complains unless the rows of the table stand so.
func (p *play) stands(name, want string) {
	p.t.Helper()
	d, ok := p.g.Base().Data(name)
	if got := printedRows(d.Rows); !ok || got != want {
		p.t.Fatalf("%s: %s, %v, not %s", name, short(got), ok, want)
	}
}

// holds complains unless just these hold the table's locks.
func (p *play) holds(name string, writer int, readers ...int) {
	p.t.Helper()
	if r, w := p.g.Locks(name); !slices.Equal(r, readers) || w != writer {
		p.t.Fatalf("%q: %d, %d, not %d, %d", name, r, w, readers, writer)
	}
}

// free complains if somebody holds a lock of one of the tables.
func (p *play) free(names ...string) {
	p.t.Helper()
	for _, name := range names {
		p.holds(name, 0)
	}
}

// isSame complains unless the engine's base is the same as b.
func (p *play) isSame(b *Base) {
	p.t.Helper()
	if now := p.g.Base(); !now.Same(b) || !b.Same(now) {
		p.t.Fatalf("%s, not %s", baseState(now), baseState(b))
	}
}

// folded gives what the changes make of an empty base.
func folded(t *testing.T, l []Change) *Base {
	t.Helper()
	b := base.New()
	if e := b.Redo(l); e != api.OK {
		t.Fatalf("%s: error %d", printedChanges(l), e)
	}
	return b
}

// notMade gives engines that New did not make.
func notMade() []*Engine { return []*Engine{nil, {}, new(Engine)} }

// withoutText gives statements that have no text.
func withoutText() []Stmt {
	one := nodes("1")
	none := stmt.Query{Limit: -1}
	from := stmt.Query{Cores: []stmt.Core{{Star: true, From: []stmt.Source{{Table: "t"}}}}, Limit: -1}
	from.Cores[0].From[0].Alias = "Not a word"
	return []Stmt{
		{}, {Kind: -1}, {Kind: 10}, {Kind: great}, {Kind: stmt.Begin, Name: "t"}, {Kind: stmt.Commit, Where: one}, {Kind: stmt.Rollback, Query: none}, {Kind: 256 + stmt.Begin},
		{Kind: stmt.Create}, {Kind: stmt.Create, Table: Table{Name: "v"}}, {Kind: stmt.Create, Name: "v", Table: Table{Name: "v", Columns: []schema.Column{{Name: "a", Kind: api.Int}}}},
		{Kind: stmt.Drop}, {Kind: stmt.Drop, Name: "T"}, {Kind: stmt.Drop, Name: "table"}, {Kind: stmt.Drop, Name: "t", Where: one}, {Kind: stmt.Drop, Name: strings.Repeat("t", api.MaxName+1)},
		{Kind: stmt.Insert, Name: "t"}, {Kind: stmt.Insert, Name: "", Rows: [][][]expr.Node{{one}}}, {Kind: stmt.Insert, Name: "t", Rows: [][][]expr.Node{{one, nil}}},
		{Kind: stmt.Update, Name: "t"}, {Kind: stmt.Update, Name: "t", Sets: []stmt.Set{{Name: "k"}}}, {Kind: stmt.Update, Name: "t", Sets: []stmt.Set{{Name: "k", Expr: one}}, Query: none},
		{Kind: stmt.Delete}, {Kind: stmt.Delete, Name: "t", Where: []expr.Node{{}}}, {Kind: stmt.Delete, Name: "t", Names: []string{"k"}},
		{Kind: stmt.Select}, {Kind: stmt.Select, Query: none}, {Kind: stmt.Select, Query: from}, {Kind: stmt.Select, Name: "t", Query: statement("select * from t").Query},
	}
}
