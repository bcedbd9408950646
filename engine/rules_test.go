package engine_test

import (
	"fmt"
	"reflect"
	"slices"
	"strings"
	"sync"
	"testing"
	"unsafe"

	"longstop/api"
	"longstop/base"
	"longstop/engine"
	"longstop/stmt"
)

func TestP1601NotMade(t *testing.T) {
	statements := append(withoutText(), statement("begin"), statement("commit"), statement("rollback"), statement("select 1"))
	for _, s := range oneEach {
		statements = append(statements, statement(s))
	}
	for i, g := range notMade() {
		for _, s := range statements {
			for _, session := range []int{1, 64, 0, 65, -1, least, great} {
				if r, e := g.Do(session, s); e != api.ErrArg || !alike(r, Result{}) {
					t.Errorf("%d: Do of %s: %s, error %d", i, short(s), short(r), e)
				}
				if g.Open(session) {
					t.Errorf("%d: Open of %d", i, session)
				}
			}
		}
		for _, l := range append(wrongLists(), nil, changes("create t: create table t (k int)")) {
			if e, f := g.Apply(l), g.Revert(l); e != api.ErrArg || f != api.ErrArg {
				t.Errorf("%d: %s: errors %d, %d", i, short(l), e, f)
			}
		}
		for _, name := range lockNames {
			if readers, writer := g.Locks(name); len(readers) > 0 || writer != 0 {
				t.Errorf("%d: Locks of %q: %d, %d", i, name, readers, writer)
			}
		}
		if n, b := g.Close(), g.Base(); n != 0 || b != nil {
			t.Errorf("%d: Close, Base: %d, %s", i, n, short(b))
		}
		// Whatever was called, they are no engines then.
		if g != nil && !reflect.DeepEqual(*g, Engine{}) {
			t.Errorf("%d: it was changed", i)
		}
	}
	p := some(t)
	*p.g = Engine{}
	if r, e := p.g.Do(1, statement("begin")); e != api.ErrArg || !alike(r, Result{}) || p.g.Base() != nil {
		t.Error(r, e)
	}
}

func TestP1601New(t *testing.T) {
	a, b := begun(t), begun(t)
	if a.g == nil || a.g == b.g || state(a.g) != "\n" || !a.g.Base().Same(base.New()) {
		t.Fatal(state(a.g))
	}
	a.all(1, "begin", "create table t (k int)", "insert into t values (1)")
	if state(b.g) != "\n" || state(engine.New()) != "\n" {
		t.Error(state(b.g))
	}
	b.all(1, "begin", "create table t (k text)", "rollback")
	a.tells(1, "commit", 0, "create t: create table t (k int) | insert t: 1")
	if state(b.g) != "\n" {
		t.Error(state(b.g))
	}
}

// span: where something lies in memory.
type span struct{ from, to uintptr }

// spans gives where the lists and maps in x lie, with the room behind lists,
// where its texts lie, and what its pointers point at.
func spans(l ...any) []span {
	var out []span
	add := func(from, size uintptr) {
		if size > 0 {
			out = append(out, span{from, from + size})
		}
	}
	var walk func(v reflect.Value)
	walk = func(v reflect.Value) {
		switch v.Kind() {
		case reflect.Struct:
			for i := range v.NumField() {
				walk(v.Field(i))
			}
		case reflect.Pointer:
			if !v.IsNil() {
				add(v.Pointer(), v.Type().Elem().Size())
				walk(v.Elem())
			}
		case reflect.Slice:
			add(v.Pointer(), uintptr(v.Cap())*v.Type().Elem().Size())
			for i := range v.Len() {
				walk(v.Index(i))
			}
		case reflect.Map:
			add(v.Pointer(), 1)
			for i := v.MapRange(); i.Next(); {
				walk(i.Key())
				walk(i.Value())
			}
		case reflect.String:
			// Texts of one byte stand in a table of the language's own.
			if s := v.String(); len(s) > 1 {
				add(uintptr(unsafe.Pointer(unsafe.StringData(s))), uintptr(len(s)))
			}
		case reflect.Func, reflect.Chan, reflect.Interface:
			panic("nobody looks into a " + v.Kind().String())
		}
	}
	for _, x := range l {
		walk(reflect.ValueOf(x))
	}
	return out
}

// apart complains if one of a has memory in common with one of b.
func apart(t *testing.T, what string, a, b []span) {
	t.Helper()
	for _, x := range a {
		for _, y := range b {
			if x.from < y.to && y.from < x.to {
				t.Fatalf("%s: memory is shared", what)
			}
		}
	}
}

// eachApart complains if two parts of one answer have memory in common.
func eachApart(t *testing.T, what string, answer ...any) {
	t.Helper()
	l := spans(answer...)
	for i := range l {
		apart(t, what, l[:i], l[i:i+1])
	}
}

// each goes through all parts of x.
func each(v reflect.Value, do func(reflect.Value)) {
	switch v.Kind() {
	case reflect.Struct:
		for i := range v.NumField() {
			each(v.Field(i), do)
		}
	case reflect.Slice:
		for i := range v.Len() {
			each(v.Index(i), do)
		}
	}
	do(v)
}

// apartOf gives x with lists and texts in memory of their own, each list with
// some room behind it.
func apartOf[T any](x T) T {
	each(reflect.ValueOf(&x).Elem(), func(v reflect.Value) {
		switch v.Kind() {
		case reflect.Slice:
			n := v.Len()
			l := reflect.MakeSlice(v.Type(), n+2, n+2)
			reflect.Copy(l, v)
			v.Set(l.Slice(0, n))
		case reflect.String:
			v.SetString(strings.Clone(v.String()))
		}
	})
	return x
}

// held keeps what was handed in and out, so that its memory is not given out
// anew while it is asked whether somebody shares it.
var held []any

// longSteps: what two sessions do, with texts that nobody keeps elsewhere.
var longSteps = []struct {
	session int
	s       string
}{
	{1, "create table the_table (column_a int, column_b text, column_c text not null, primary key (column_a), unique (column_b), check (column_b <> 'no text' or the_table.column_c = 'another no'))"},
	{1, "begin"},
	{1, "insert into the_table values (2, 'some text', 'further text'), (1, null, 'further text'), (3, 'other text', 'text of three')"},
	{2, "begin"},
	{2, "create table other_table (column_d text)"},
	{2, "insert into other_table values ('twice the same'), ('twice the same')"},
	{1, "update the_table set column_c = column_c + ' and more', column_b = coalesce(column_b, 'literal text') where column_a < 3"},
	{1, "select * from the_table"},
	{2, "select column_d, column_d as another_name, 'literal text' from other_table"},
	{2, "update other_table set column_d = 'twice another one'"},
	{1, "delete from the_table where column_a = 2"},
	{1, "commit"},
	{1, "select * from the_table as another_name"},
	{2, "drop table the_table"},
	{2, "commit"},
	{1, "begin"},
	{1, "drop table other_table"},
	{1, "create table the_table (column_e dec (2), column_f point)"},
	{1, "insert into the_table (column_e) values (1.5)"},
	{1, "rollback"},
	{2, "insert into other_table values ('the last text')"},
}

// longs does the steps, and tells of each.
func longs(t *testing.T, told func(p *play, i int, s Stmt, r Result)) *play {
	t.Helper()
	p := begun(t)
	for i, step := range longSteps {
		s := apartOf(statement(step.s))
		r, e := p.g.Do(step.session, s)
		if e != api.OK {
			t.Fatalf("%d %s: error %d", step.session, step.s, e)
		}
		told(p, i, s, r)
	}
	return p
}

func TestP1601NewMemory(t *testing.T) {
	var ahead []span // of all that was handed in and out
	some := 0
	longs(t, func(p *play, i int, s Stmt, r Result) {
		what := longSteps[i].s
		l := spans(r)
		apart(t, what, l, spans(s))
		apart(t, what, l, spans(p.g))
		apart(t, what, l, ahead)
		apart(t, what, spans(p.g), spans(s))
		eachApart(t, what, r)
		ahead = slices.Concat(ahead, l, spans(s))
		apart(t, what, spans(p.g), ahead)
		held = append(held, s, r)
		some += len(l)
		looksApart(t, what, p.g)
	})
	if some < 100 || len(ahead) < 300 {
		t.Error("next to nothing was answered", some, len(ahead))
	}
}

func looksApart(t *testing.T, what string, g *Engine) {
	t.Helper()
	for _, name := range []string{"the_table", "other_table", theList} {
		asked := strings.Clone(name)
		readers, _ := g.Locks(asked)
		again, _ := g.Locks(asked)
		apart(t, what+": Locks", spans(readers), spans(again))
		apart(t, what+": Locks", slices.Concat(spans(readers), spans(asked)), spans(g))
		held = append(held, asked)
	}
	b, c := g.Base(), g.Base()
	apart(t, what+": Base", spans(b), spans(c))
	apart(t, what+": Base", spans(b), spans(g))
	held = append(held, b, c)
}

func TestP1601ReadsNewMemory(t *testing.T) {
	for _, text := range []string{"select * from the_table, other_table as another_name, the_table", "update the_table set column_a = 1", "delete from the_table where column_a = 1", "select 1 from the_table union select 1 from other_table"} {
		s := apartOf(statement(text))
		l, again := engine.Reads(s), engine.Reads(s)
		if len(l) == 0 {
			t.Fatal(text)
		}
		eachApart(t, text, l)
		apart(t, text, spans(l), spans(s))
		apart(t, text, spans(l), spans(again))
	}
}

// spoil changes all that lies in lists, with the room behind them.
func spoil(x any) {
	each(reflect.ValueOf(x).Elem(), func(v reflect.Value) {
		if v.Kind() == reflect.Slice && v.Cap() > 0 {
			all := v.Slice(0, v.Cap())
			for i := range all.Len() {
				all.Index(i).SetZero()
			}
		}
	})
}

// Who changes what he was answered, or what he handed in, changes no engine.
func TestP1601AnswersAreNotKept(t *testing.T) {
	var states []string
	longs(t, func(p *play, i int, s Stmt, r Result) { states = append(states, state(p.g)+short(r)) })
	longs(t, func(p *play, i int, s Stmt, r Result) {
		got := state(p.g) + short(r)
		spoil(&s)
		spoil(&r)
		readers, _ := p.g.Locks("the_table")
		spoil(&readers)
		if got != states[i] {
			t.Fatalf("%s: %s, not %s", longSteps[i].s, got, states[i])
		}
	})
}

func TestP1601ChangesAreNotKept(t *testing.T) {
	for _, c := range []struct {
		call
		s string
	}{
		{applies, "insert the_table: 4, 'further text'"}, {reverts, "delete the_table: 4, 'further text'"},
	} {
		p := begun(t)
		p.brings(applies, "create the_table: create table the_table (column_a int, column_b text) | insert the_table: 1, 'some text' | insert the_table: 2, 'another text'")
		l := apartOf(changes(c.s))
		if e := c.call(p.g, l); e != api.OK {
			t.Fatal(e)
		}
		apart(t, c.s, spans(p.g), spans(l))
		held = append(held, l)
		spoil(&l)
		p.stands("the_table", "1, 'some text' | 2, 'another text' | 4, 'further text'")
	}
	p := begun(t)
	l := apartOf(changes("create the_table: create table the_table (column_a int, column_b text, check (the_table.column_a > 0))"))
	if e := p.g.Apply(l); e != api.OK {
		t.Fatal(e)
	}
	apart(t, "a create", spans(p.g), spans(l))
	held = append(held, l)
}

// stays complains if call changes something of x, or of the room behind it.
func stays[T any](t *testing.T, what string, x T, call func(T)) {
	t.Helper()
	x = apartOf(x)
	all := func() string {
		var out strings.Builder
		each(reflect.ValueOf(&x).Elem(), func(v reflect.Value) {
			if v.Kind() == reflect.Slice && !v.IsNil() {
				v = v.Slice(0, v.Cap())
			}
			fmt.Fprintf(&out, "%+v", v.Interface())
		})
		return out.String()
	}
	was := all()
	call(x)
	if all() != was {
		t.Fatalf("%s: an argument, or the room behind it, was changed", what)
	}
}

func TestP1601ArgumentsStay(t *testing.T) {
	p := begun(t)
	for _, step := range longSteps {
		stays(t, step.s, statement(step.s), func(s Stmt) { p.g.Do(step.session, s); engine.Reads(s) })
	}
	for _, s := range withoutText() {
		stays(t, short(s), s, func(s Stmt) { p.g.Do(1, s); engine.Reads(s) })
	}
	for _, l := range append(wrongLists(), changes("insert other_table: 'p' | delete other_table: 'the last text' | create t: create table t (k int, check (k > 0)) | insert t: 5 | update t: 5 -> 6")) {
		stays(t, short(l), l, func(l []Change) { p.g.Apply(l); p.g.Revert(l) })
	}
	p.all(1, "begin", "update other_table set column_d = 'locked'")
	stays(t, "a lock", changes("insert other_table: 'p'"), func(l []Change) { p.g.Apply(l); p.g.Revert(l) })
}

// Nil and empty lists mean the same.
func TestP1601NilAndEmpty(t *testing.T) {
	p, q := begun(t), begun(t)
	for _, step := range longSteps {
		s := statement(step.s)
		x := apartOf(s) // its lists are empty where those of s are nil
		if reflect.DeepEqual(s, x) && s.Kind != stmt.Select {
			t.Fatal("no list is empty")
		}
		r, e := p.g.Do(step.session, s)
		u, f := q.g.Do(step.session, x)
		if e != f || !alike(r, u) || state(p.g) != state(q.g) || !slices.Equal(engine.Reads(s), engine.Reads(x)) {
			t.Errorf("%s: errors %d, %d", step.s, e, f)
		}
	}
	l := changes("insert other_table: 'p' | delete other_table: 'p'")
	if e, f := p.g.Apply(l), q.g.Apply(apartOf(l)); e != f || state(p.g) != state(q.g) {
		t.Error(e, f)
	}
	if e, f := p.g.Apply(nil), p.g.Revert([]Change{}); e != api.OK || f != api.OK {
		t.Error(e, f)
	}
}

// The same calls tell the same.
func TestP1601Again(t *testing.T) {
	var first []string
	for n := range 4 {
		longs(t, func(p *play, i int, s Stmt, r Result) {
			got := short(r) + state(p.g)
			if n == 0 {
				first = append(first, got)
			}
			if got != first[i] {
				t.Fatalf("%s: %s, not %s", longSteps[i].s, got, first[i])
			}
		})
	}
}

// Engines of their own may be worked with, and one may be looked at, by several
// at once.
func TestP1601SeveralAtOnce(t *testing.T) {
	one := some(t)
	one.all(4, "begin", "select * from t")
	one.all(64, "begin", "select * from t", "insert into u values (1)")
	was := state(one.g)
	states := make([]string, 8)
	var wait sync.WaitGroup
	for i := range states {
		wait.Add(1)
		go func() {
			defer wait.Done()
			g := engine.New()
			for _, step := range longSteps {
				g.Do(step.session, statement(step.s))
				if state(one.g) != was || len(engine.Reads(statement("select * from t, u"))) != 2 {
					return
				}
			}
			states[i] = state(g)
		}()
	}
	wait.Wait()
	for _, s := range states {
		if s != states[0] || s == "" {
			t.Errorf("%s, not %s", s, states[0])
		}
	}
}

// Every call ends, whatever it is given, and leaves an engine that goes on.
func TestP1601WhateverComes(t *testing.T) {
	p := some(t)
	p.all(3, "begin", "insert into u values (7)")
	was := state(p.g)
	long := make([]Value, 100000)
	wild := []Change{{Kind: base.Insert, Table: "t", Now: long}, {Kind: base.Update, Table: "t", Old: long, Now: long}, {Kind: great, Table: strings.Repeat("a", 1<<21), Old: long, Now: long}}
	for _, l := range [][]Change{wild, make([]Change, 100000), wild[1:], wild[2:]} {
		if p.g.Apply(l) != api.ErrArg || p.g.Revert(l) != api.ErrArg {
			t.Error(short(l))
		}
	}
	p.g.Locks(strings.Repeat("t", 1<<21))
	huge := Stmt{Kind: stmt.Insert, Name: "t", Names: make([]string, 100000), Where: make([]Node, 100000)}
	for _, session := range []int{1, 3} {
		p.refusesStmt(session, api.ErrArg, huge)
		p.refusesStmt(session, api.ErrArg, Stmt{Kind: stmt.Drop, Name: strings.Repeat("t", 1<<21)})
	}
	engine.Reads(huge)
	p.stays(was, "all that")
	p.tells(3, "commit", 0, "insert u: 7")
}
