package base_test

import (
	"reflect"
	"slices"
	"strings"
	"sync"
	"testing"
	"unsafe"

	"longstop/api"
	"longstop/base"
	"longstop/rel"
	"longstop/stmt"
)

func TestP1101Unmade(t *testing.T) {
	statements := append(withoutText(), Stmt{}, statement("select 1"), statement("begin"), statement("create table t (k int)"), statement("drop table t"), statement("insert into t values (1)"), statement("update t set k = 1"), statement("delete from t"))
	lists := [][]Change{nil, {}, changes(createT), changes(dropT), changes("insert t: 1"), wrongChanges()[:3]}
	made := some(t)
	for i, b := range unmade() {
		for _, s := range statements {
			if r, e := b.Do(s); e != api.ErrArg || !alike(r, Result{}) {
				t.Errorf("%d: Do of %s: %s, %d", i, short(s), short(r), e)
			}
		}
		for _, l := range lists {
			if e, f := b.Redo(l), b.Undo(l); e != api.ErrArg || f != api.ErrArg {
				t.Errorf("%d: Redo, Undo of %s: %d, %d", i, short(l), e, f)
			}
		}
		if l := b.Tables(); len(l) != 0 {
			t.Errorf("%d: Tables: %s", i, l)
		}
		for _, name := range []string{"", "t", "u"} {
			if d, ok := b.Data(name); ok || !alike(d, rel.Data{}) {
				t.Errorf("%d: Data of %q: %s, %v", i, name, short(d), ok)
			}
		}
		if c := b.Clone(); c != nil {
			t.Errorf("%d: Clone: %s", i, short(c))
		}
		for _, c := range append(unmade(), b, made, base.New()) {
			if b.Same(c) || c.Same(b) {
				t.Errorf("%d: Same", i)
			}
		}
	}
	if state(made) != state(some(t)) {
		t.Error(state(made))
	}
	// Whatever was called, they are no bases then.
	b := new(Base)
	b.Do(statement("create table t (k int)"))
	b.Redo(changes(createT))
	if e := b.Redo(nil); e != api.ErrArg || b.Clone() != nil || !reflect.DeepEqual(*b, Base{}) {
		t.Error(e, short(b))
	}
}

func TestP1101New(t *testing.T) {
	b, c := base.New(), base.New()
	if b == nil || c == nil || b == c || len(b.Tables()) != 0 || !b.Same(c) {
		t.Fatal(short(b), short(c))
	}
	done(t, b, "create table t (k int)")
	if len(c.Tables()) != 0 || len(base.New().Tables()) != 0 {
		t.Error(c.Tables())
	}
}

// span: where something lies in memory.
type span struct{ from, to uintptr }

// spans gives where the lists in x lie, with the room behind them, where its
// texts lie, and what its pointers point at.
func spans(l ...any) []span {
	var out []span
	add := func(from, size uintptr) {
		if size > 0 {
			out = append(out, span{from, from + size})
		}
	}
	var walk func(v reflect.Value)
	walk = func(v reflect.Value) {
		switch v.Kind() {
		case reflect.Struct:
			for i := range v.NumField() {
				walk(v.Field(i))
			}
		case reflect.Pointer:
			if !v.IsNil() {
				add(v.Pointer(), v.Type().Elem().Size())
				walk(v.Elem())
			}
		case reflect.Slice:
			add(v.Pointer(), uintptr(v.Cap())*v.Type().Elem().Size())
			for i := range v.Len() {
				walk(v.Index(i))
			}
		case reflect.String:
			// Texts of one byte stand in a table of the language's own.
			if s := v.String(); len(s) > 1 {
				add(uintptr(unsafe.Pointer(unsafe.StringData(s))), uintptr(len(s)))
			}
		case reflect.Map, reflect.Func, reflect.Chan, reflect.Interface:
			panic("nobody looks into a " + v.Kind().String())
		}
	}
	for _, x := range l {
		walk(reflect.ValueOf(x))
	}
	return out
}

// apart complains if one of a has memory in common with one of b.
func apart(t *testing.T, what string, a, b []span) {
	t.Helper()
	for _, x := range a {
		for _, y := range b {
			if x.from < y.to && y.from < x.to {
				t.Fatalf("%s: memory is shared", what)
			}
		}
	}
}

// eachApart complains if two parts of one answer have memory in common.
func eachApart(t *testing.T, what string, answer ...any) {
	t.Helper()
	l := spans(answer...)
	for i := range l {
		apart(t, what, l[:i], l[i:i+1])
	}
}

// apartTexts gives x with every text in memory of its own, so that none stands
// in the program's constants.
func apartTexts[T any](x T) T {
	x = copied(x)
	var walk func(v reflect.Value)
	walk = func(v reflect.Value) {
		switch v.Kind() {
		case reflect.Struct:
			for i := range v.NumField() {
				walk(v.Field(i))
			}
		case reflect.Slice:
			for i := range v.Len() {
				walk(v.Index(i))
			}
		case reflect.String:
			v.SetString(strings.Clone(v.String()))
		}
	}
	walk(reflect.ValueOf(&x).Elem())
	return x
}

const (
	longCreate = "create table the_table (column_a int, column_b text, column_c text not null, primary key (column_a), unique (column_b), unique (column_c, column_b), check (column_b <> 'no text' or the_table.column_c = 'another no'))"
	longInsert = "insert into the_table values (2, 'some text', 'further text'), (1, null, 'further text'), (3, 'other text', 'text of three')"
)

// longSteps: statements whose texts nobody keeps elsewhere.
var longSteps = []string{
	longCreate, longInsert,
	"insert into the_table (column_c, column_a) values ('new' + ' text', 7)", "update the_table set column_c = column_c + ' and more', column_b = coalesce(column_b, 'literal text') where column_a < 3",
	"update the_table set column_a = - column_a, column_b = 'all ' + column_b, column_c = 'all alike'", "select * from the_table", "select column_b, column_b as another_name, 'literal text' from the_table where column_c = 'all alike'",
	"delete from the_table where column_a = - 2", "create table other_table (column_d text)", "insert into other_table values ('twice the same'), ('twice the same')", "update other_table set column_d = 'twice another one'", "drop table the_table", longCreate, longInsert, "delete from the_table",
}

func TestP1101NewMemory(t *testing.T) {
	b := base.New()
	var ahead []span // of all that was handed in and out
	for _, step := range longSteps {
		s := apartTexts(statement(step))
		r, e := b.Do(s)
		if e != api.OK {
			t.Fatalf("%s: %d", step, e)
		}
		l := spans(r)
		if len(l) < 3 {
			t.Fatalf("%s: next to nothing was answered", step)
		}
		apart(t, step, l, spans(s))
		apart(t, step, l, spans(b))
		apart(t, step, l, ahead)
		apart(t, step, spans(b), spans(s))
		eachApart(t, step, r)
		ahead = slices.Concat(ahead, l, spans(s))
		apart(t, step, spans(b), ahead)
		looksApart(t, step, b)
		hold(s, r)
	}
}

// hold keeps what was handed in and out, so that its memory is not given out
// anew while it is asked whether somebody shares it.
func hold(l ...any) { held = append(held, l...) }

var held []any

func looksApart(t *testing.T, what string, b *Base) {
	t.Helper()
	for _, name := range b.Tables() {
		asked := strings.Clone(name)
		d, _ := b.Data(asked)
		again, _ := b.Data(asked)
		eachApart(t, what+": Data", d)
		apart(t, what+": Data", spans(d), spans(b))
		apart(t, what+": Data", spans(d), spans(again))
		apart(t, what+": Data", spans(d), spans(asked))
	}
	names := b.Tables()
	eachApart(t, what+": Tables", names)
	apart(t, what+": Tables", spans(names), spans(b))
	c := b.Clone()
	apart(t, what+": Clone", spans(c), spans(b))
	apart(t, what+": Clone", spans(c), spans(b.Clone()))
	if len(spans(c)) < 3 {
		t.Fatalf("%s: Clone has next to nothing", what)
	}
}

func TestP1101ChangesAreNotKept(t *testing.T) {
	b, told := base.New(), base.New()
	for _, step := range longSteps {
		if statement(step).Kind == stmt.Select {
			continue
		}
		l := apartTexts(done(t, told, step).Changes)
		if e := b.Redo(l); e != api.OK {
			t.Fatalf("%s: %d", step, e)
		}
		apart(t, step, spans(b), spans(l))
		hold(l)
		if !b.Same(told) {
			t.Fatalf("%s: %s", step, state(b))
		}
		if e := b.Undo(l); e != api.OK {
			t.Fatalf("%s: %d", step, e)
		}
		apart(t, step, spans(b), spans(l))
		if e := b.Redo(l); e != api.OK {
			t.Fatalf("%s: %d", step, e)
		}
		// Who changes what he handed in changes no base.
		was := state(b)
		spoil(reflect.ValueOf(l))
		if state(b) != was {
			t.Fatalf("%s: %s", step, state(b))
		}
	}
}

func TestP1101BytesNewMemory(t *testing.T) {
	for _, x := range rightChanges() {
		x = apartTexts(x)
		b, _ := base.PutChange(x)
		again, _ := base.PutChange(x)
		apart(t, "PutChange", spans(b), spans(x))
		apart(t, "PutChange", spans(b), spans(again))
		got, _ := base.GetChange(b)
		other, _ := base.GetChange(b)
		apart(t, "GetChange", spans(got), spans(b))
		apart(t, "GetChange", spans(got), spans(other))
		eachApart(t, "GetChange", got)
	}
}

// spoil changes all that lies in lists.
func spoil(v reflect.Value) {
	switch v.Kind() {
	case reflect.Struct:
		for i := range v.NumField() {
			spoil(v.Field(i))
		}
	case reflect.Slice:
		for i := range v.Len() {
			spoil(v.Index(i))
		}
		for i := range v.Len() {
			v.Index(i).SetZero()
		}
	}
}

// Who changes what he was answered, or what he handed in, changes no base.
func TestP1101AnswersAreNotKept(t *testing.T) {
	b, told := base.New(), base.New()
	for _, step := range longSteps {
		s := statement(step)
		r, _ := b.Do(s)
		done(t, told, step)
		spoil(reflect.ValueOf(&s).Elem())
		spoil(reflect.ValueOf(&r).Elem())
		for _, name := range b.Tables() {
			d, _ := b.Data(name)
			spoil(reflect.ValueOf(&d).Elem())
		}
		spoil(reflect.ValueOf(b.Tables()))
		if state(b) != state(told) {
			t.Fatalf("%s: %s, not %s", step, state(b), state(told))
		}
	}
}

// roomy gives the lists of x anew, each with room behind it, and tells of them
// all.
func roomy(v reflect.Value, told *[]reflect.Value) {
	switch v.Kind() {
	case reflect.Struct:
		for i := range v.NumField() {
			roomy(v.Field(i), told)
		}
	case reflect.Slice:
		n := v.Len()
		more := reflect.MakeSlice(v.Type(), n+3, n+3)
		reflect.Copy(more, v)
		*told = append(*told, more)
		v.Set(more.Slice(0, n))
		for i := range n {
			roomy(v.Index(i), told)
		}
	}
}

// stays complains if call changes something of x, or of the room behind it.
func stays[T any](t *testing.T, what string, x T, call func(T)) {
	t.Helper()
	x = copied(x)
	var lists []reflect.Value
	roomy(reflect.ValueOf(&x).Elem(), &lists)
	var was []any
	for _, l := range lists {
		was = append(was, copiedValue(l).Interface())
	}
	call(x)
	for i, l := range lists {
		if !reflect.DeepEqual(l.Interface(), was[i]) {
			t.Fatalf("%s: an argument, or the room behind it, was changed", what)
		}
	}
}

func TestP1101ArgumentsStay(t *testing.T) {
	start := some(t)
	for _, step := range append(slices.Clone(longSteps), "insert into u values (1), (2), (3)", "insert into t values (1, 'x'), (1, 'x')", "update t set k = 2", "update u set k = k + 1", "update w set d = 7, s = null", "insert into t (a, k) values ('z', 9)", "delete from u where k = 3", "drop table t", "select k from u union select k from t order by k desc limit 2", "begin") {
		stays(t, step, statement(step), func(s Stmt) { start.Clone().Do(s) })
	}
	for _, s := range withoutText() {
		stays(t, "no statement", s, func(s Stmt) { start.Clone().Do(s) })
	}
	l := changes("insert u: 7; update u: 1 -> 8; delete u: 3; insert t: 9, 'z'; update t: 4, null -> 0, null; delete t: 2, 'y'; create v: create table v (k int, s text, primary key (k), unique (s), check (k > 0)); insert v: 1, 'x'; insert v: 2, 'y'")
	b := some(t)
	stays(t, "Redo", l, func(l []Change) {
		if e := b.Redo(l); e != api.OK {
			t.Error(e)
		}
	})
	stays(t, "Undo", l, func(l []Change) {
		if e := b.Undo(l); e != api.OK {
			t.Error(e)
		}
	})
	for _, x := range append(rightChanges(), wrongChanges()...) {
		stays(t, "one change", []Change{x, x}, func(l []Change) {
			b := start.Clone()
			b.Redo(l)
			b.Undo(l)
			base.PutChange(l[0])
		})
		stays(t, "bytes", toldBytes(x), func(b []byte) { base.GetChange(b) })
	}
}

// Nil and empty lists mean the same.
func TestP1101NilAndEmpty(t *testing.T) {
	for _, x := range rightChanges() {
		y := copied(x)
		empty(reflect.ValueOf(&y).Elem())
		if !alike(x, y) {
			t.Fatal("not the same")
		}
		b, c := some(t), some(t)
		for _, d := range []call{(*Base).Redo, (*Base).Undo} {
			if e, f := d(b, []Change{x}), d(c, []Change{y}); e != f || state(b) != state(c) {
				t.Errorf("%s: %d, %d", short(x), e, f)
			}
		}
		back(t, y)
	}
	for _, step := range longSteps {
		b, c := based(t, longCreate, longInsert), based(t, longCreate, longInsert)
		s := statement(step)
		x := copied(s)
		empty(reflect.ValueOf(&x).Elem())
		r, e := b.Do(s)
		q, f := c.Do(x)
		if e != f || !alike(r, q) || state(b) != state(c) {
			t.Errorf("%s: %d, %d", step, e, f)
		}
	}
}

// empty makes an empty list of each nil one.
func empty(v reflect.Value) {
	switch v.Kind() {
	case reflect.Struct:
		for i := range v.NumField() {
			empty(v.Field(i))
		}
	case reflect.Slice:
		if v.IsNil() {
			v.Set(reflect.MakeSlice(v.Type(), 0, 2))
		}
		for i := range v.Len() {
			empty(v.Index(i))
		}
	}
}

// What is answered hangs on what was called before on the same base alone.
func TestP1101Again(t *testing.T) {
	var first []string
	for i := range 3 {
		b := base.New()
		for j, step := range longSteps {
			r := done(t, b, step)
			got := short(r) + state(b)
			if i == 0 {
				first = append(first, got)
			}
			if got != first[j] {
				t.Fatalf("%s: %s, not %s", step, got, first[j])
			}
		}
	}
}

// Bases that were cloned of one another are used at the same time.
func TestP1101AtTheSameTime(t *testing.T) {
	b := based(t, longCreate, longInsert)
	var wait sync.WaitGroup
	states := make([]string, 8)
	for i := range states {
		c := b.Clone()
		wait.Add(1)
		go func() {
			defer wait.Done()
			for _, step := range longSteps[2:] {
				c.Do(statement(step))
			}
			states[i] = state(c)
		}()
	}
	wait.Wait()
	for _, s := range states {
		if s != states[0] || s == "" {
			t.Errorf("%s, not %s", s, states[0])
		}
	}
}

// Every call ends, whatever it is given, and leaves a base that goes on.
func TestP1101WhateverComes(t *testing.T) {
	b := some(t)
	was := state(b)
	long := make([]Value, 100000)
	for _, x := range []Change{{Kind: base.Insert, Table: "u", Now: long}, {Kind: base.Delete, Table: "u", Old: long}, {Kind: base.Update, Table: "u", Old: long, Now: long}, {Kind: great, Table: strings.Repeat("a", 1<<21), Old: long, Now: long}} {
		b.Redo([]Change{x})
		b.Undo([]Change{x})
		base.PutChange(x)
	}
	b.Redo(make([]Change, 100000))
	b.Undo(make([]Change, 100000))
	base.GetChange(make([]byte, 1<<21))
	base.GetChange([]byte(strings.Repeat("\xff", 1000)))
	b.Data(strings.Repeat("t", 1<<21))
	if state(b) != was {
		t.Error(state(b))
	}
	done(t, b, "insert into u values (7)")
}
