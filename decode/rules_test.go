package decode_test

import (
	"fmt"
	"math/rand"
	"reflect"
	"slices"
	"strings"
	"sync"
	"testing"
	"unsafe"

	"longstop/api"
	"longstop/base"
	"longstop/decode"
)

// span: where something lies in memory.
type span struct{ from, to uintptr }

// spans gives where the lists and maps in x lie, with the room behind lists,
// where its texts lie, and what its pointers point at.
func spans(l ...any) []span {
	var out []span
	add := func(from, size uintptr) {
		if size > 0 {
			out = append(out, span{from, from + size})
		}
	}
	var walk func(v reflect.Value)
	walk = func(v reflect.Value) {
		switch v.Kind() {
		case reflect.Struct:
			for i := range v.NumField() {
				walk(v.Field(i))
			}
		case reflect.Pointer:
			if !v.IsNil() {
				add(v.Pointer(), v.Type().Elem().Size())
				walk(v.Elem())
			}
		case reflect.Slice:
			add(v.Pointer(), uintptr(v.Cap())*v.Type().Elem().Size())
			for i := range v.Len() {
				walk(v.Index(i))
			}
		case reflect.String:
			// Texts of one byte stand in a table of the language's own.
			if s := v.String(); len(s) > 1 {
				add(uintptr(unsafe.Pointer(unsafe.StringData(s))), uintptr(len(s)))
			}
		case reflect.Map, reflect.Func, reflect.Chan, reflect.Interface:
			panic("nobody looks into a " + v.Kind().String())
		}
	}
	for _, x := range l {
		walk(reflect.ValueOf(x))
	}
	return out
}

// apart complains if one of a has memory in common with one of b.
func apart(t *testing.T, what string, a, b []span) {
	t.Helper()
	for _, x := range a {
		for _, y := range b {
			if x.from < y.to && y.from < x.to {
				t.Fatalf("%s: memory is shared", what)
			}
		}
	}
}

// eachApart complains if two parts of one answer have memory in common.
func eachApart(t *testing.T, what string, answer ...any) {
	t.Helper()
	l := spans(answer...)
	for i := range l {
		apart(t, what, l[:i], l[i:i+1])
	}
}

// each goes through all parts of x.
func each(v reflect.Value, do func(reflect.Value)) {
	switch v.Kind() {
	case reflect.Struct:
		for i := range v.NumField() {
			each(v.Field(i), do)
		}
	case reflect.Slice:
		for i := range v.Len() {
			each(v.Index(i), do)
		}
	}
	do(v)
}

// apartOf gives x with lists and texts in memory of their own, each list with
// some room behind it.
func apartOf[T any](x T) T {
	each(reflect.ValueOf(&x).Elem(), func(v reflect.Value) {
		switch v.Kind() {
		case reflect.Slice:
			n := v.Len()
			l := reflect.MakeSlice(v.Type(), n+2, n+2)
			reflect.Copy(l, v)
			v.Set(l.Slice(0, n))
		case reflect.String:
			v.SetString(strings.Clone(v.String()))
		}
	})
	return x
}

// held keeps what was handed in and out, so that its memory is not given out
// anew while it is asked whether somebody shares it.
var held []any

// long gives a publication, a base, and changes of it, with texts that nobody
// keeps elsewhere.
func long(t *testing.T) (Publication, *Base, []Change) {
	t.Helper()
	b := based(t,
		"create table the_table (column_a int, column_b text, column_c text not null, primary key (column_b, column_a), check (column_b <> 'no text'))",
		"create table other_table (column_d text, column_e dec (3))",
		"insert into the_table values (1, 'some text', 'further text'), (2, 'other text', 'further text'), (3, 'text of three', 'further text')",
		"insert into other_table values ('twice the same', 1.5), ('twice the same', 1.5), (null, 2)")
	p := apartOf(published("the_table (column_b, column_c, column_a) where column_b <> 'hidden text' and the_table.column_a < length('more than that'); other_table; third_table (column_f) where column_f <> 'nothing'"))
	behind := b.Clone()
	var l []Change
	for _, s := range []string{
		"update the_table set column_c = column_c + ' and more' where column_a < 3",
		"insert into the_table values (4, 'hidden text', 'not to be seen'), (5, 'text of five', 'to be seen')",
		"update the_table set column_b = 'hidden text' where column_a = 1",
		"update the_table set column_b = 'seen again' where column_a = 4",
		"delete from other_table where column_e = 1.5",
		"create table third_table (column_f text, column_g text, unique (column_g))",
		"insert into third_table values ('text in three', 'other text in three'), ('nothing', 'no more')",
		"update third_table set column_g = column_g + ' changed', column_f = column_f + column_g",
		"drop table other_table",
		"create table other_table (column_h text, column_i text, primary key (column_i))",
		"insert into other_table values ('text of h', 'text of i')",
		"drop table third_table",
	} {
		l = append(l, done(t, behind, s)...)
	}
	return p, b, apartOf(l)
}

func TestP1701NewMemory(t *testing.T) {
	p, b, l := long(t)
	got, e := decode.Decode(p, b, l)
	if e != api.OK || len(got) < 15 || len(spans(got)) < 60 {
		t.Fatal(printedChanges(got), e)
	}
	again, _ := decode.Decode(p, b, l)
	eachApart(t, "Decode", got)
	for _, other := range []any{p, b, l, again} {
		apart(t, "Decode", spans(got), spans(other))
	}
	shown, e := decode.Project(p, b)
	if e != api.OK || len(shown.Tables()) != 2 {
		t.Fatal(state(shown), e)
	}
	anew, _ := decode.Project(p, b)
	for _, other := range []any{p, b, anew} {
		apart(t, "Project", spans(shown), spans(other))
	}
	held = append(held, p, b, l, got, again, shown, anew)
}

func TestP1701ShapeNewMemory(t *testing.T) {
	of := apartOf(table("the_table (column_a int, column_b text not null, column_c dec (2), primary key (column_c, column_a), unique (column_b), check (column_b <> 'no text'))"))
	for _, in := range []string{"the_table", "the_table (column_a)", "the_table (column_c, column_a) where column_b = 'text'"} {
		p := apartOf(part(in))
		got, e := decode.Shape(p, of)
		again, _ := decode.Shape(p, of)
		if e != api.OK {
			t.Fatal(e)
		}
		eachApart(t, in, got)
		for _, other := range []any{p, of, again} {
			apart(t, in, spans(got), spans(other))
		}
		held = append(held, p, of, got, again)
	}
}

// spoil changes all that lies in lists, with the room behind them.
func spoil(x any) {
	each(reflect.ValueOf(x).Elem(), func(v reflect.Value) {
		if v.Kind() == reflect.Slice && v.Cap() > 0 {
			all := v.Slice(0, v.Cap())
			for i := range all.Len() {
				all.Index(i).SetZero()
			}
		}
	})
}

// Who changes what he was answered, or handed in, changes no base, and no other
// answer.
func TestP1701NothingIsKept(t *testing.T) {
	p, b, l := long(t)
	was := state(b)
	got, _ := decode.Decode(p, b, l)
	again, _ := decode.Decode(p, b, l)
	first := printedChanges(got)
	spoil(&again)
	shown, _ := decode.Project(p, b)
	seen := state(shown)
	spoil(&l)
	spoil(&p)
	if printedChanges(got) != first || state(shown) != seen || state(b) != was {
		t.Error("something was kept")
	}
}

// stays complains if call changes something of x, or of the room behind it.
func stays[T any](t *testing.T, what string, x T, call func(T)) {
	t.Helper()
	x = apartOf(x)
	all := func() string {
		var out strings.Builder
		each(reflect.ValueOf(&x).Elem(), func(v reflect.Value) {
			if v.Kind() == reflect.Slice && !v.IsNil() {
				v = v.Slice(0, v.Cap())
			}
			fmt.Fprintf(&out, "%+v", v.Interface())
		})
		return out.String()
	}
	was := all()
	call(x)
	if all() != was {
		t.Fatalf("%s: an argument, or the room behind it, was changed", what)
	}
}

func TestP1701ArgumentsStay(t *testing.T) {
	p, b, l := long(t)
	was := state(b)
	lists := [][]Change{nil, l, l[1:], l[:5], changes("insert other_table: 'text', 1.500 | delete the_table: 1")}
	for _, p := range append(wrongPublications(), p, published("the_table (column_a)"), published("the_table (nobody)"), published("the_table where 1 / 0 = 1")) {
		stays(t, "Right, Project", p, func(p Publication) { decode.Right(p); decode.Project(p, b) })
		for _, l := range lists {
			stays(t, "Decode", p, func(p Publication) { decode.Decode(p, b, l) })
			stays(t, "Decode", l, func(l []Change) { decode.Decode(p, b, l) })
		}
	}
	of := table(wide)
	for _, p := range append(wrongParts(), part("t"), part("t (f, k)"), part("t (k, nobody)"), part("u")) {
		stays(t, "Shape", p, func(p Part) { decode.Shape(p, of) })
		stays(t, "Shape", of, func(of Table) { decode.Shape(p, of) })
	}
	for _, of := range wrongTables() {
		stays(t, "Shape", of, func(of Table) { decode.Shape(part("t (k)"), of) })
	}
	if state(b) != was {
		t.Error(state(b))
	}
}

// Nil and empty lists mean the same.
func TestP1701NilAndEmpty(t *testing.T) {
	p, b, l := long(t)
	for _, p := range []Publication{p, published("other_table"), published("the_table where column_a > 1"), published("the_table (column_a, column_b)"), published("")} {
		q := apartOf(p) // its lists are empty where those of p are nil
		got, e := decode.Decode(p, b, l)
		other, f := decode.Decode(q, b, l)
		if e != f || !alike(got, other) || decode.Right(p) != decode.Right(q) {
			t.Errorf("%s: errors %d, %d", printedPublication(p), e, f)
		}
		shown, e := decode.Project(p, b)
		as, f := decode.Project(q, b)
		if e != f || state(shown) != state(as) {
			t.Errorf("%s: errors %d, %d", printedPublication(p), e, f)
		}
		for _, in := range p.Parts {
			d, _ := b.Data(in.Table)
			got, e := decode.Shape(in, d.Table)
			other, f := decode.Shape(apartOf(in), apartOf(d.Table))
			if e != f || !alike(got, other) {
				t.Errorf("%s: errors %d, %d", printedPart(in), e, f)
			}
		}
	}
	// A row without values is none, whichever way it is written.
	for _, x := range changes("insert the_table: 9, 'x', 'x' | delete the_table: 1, 'some text', 'further text'") {
		y := x
		if x.Kind == base.Insert {
			y.Old = []Value{}
		} else {
			y.Now = []Value{}
		}
		got, e := decode.Decode(p, b, []Change{x})
		other, f := decode.Decode(p, b, []Change{y})
		if e != api.OK || f != api.OK || len(got) != 1 || !alike(got, other) {
			t.Error(short(got), e, short(other), f)
		}
	}
}

// What is not named is zero.
func TestP1701NothingBeside(t *testing.T) {
	p, b, l := long(t)
	got, _ := decode.Decode(p, b, l)
	for _, x := range got {
		y := x
		switch x.Kind {
		case base.Create, base.Drop:
			if len(x.Schema.Uniques)+len(x.Schema.Check) > 0 {
				t.Error(short(x))
			}
			y.Schema = Table{}
		case base.Insert:
			y.Now = nil
		case base.Delete:
			y.Old = nil
		case base.Update:
			y.Old, y.Now = nil, nil
		}
		if !alike(y, Change{Kind: x.Kind, Table: x.Table}) {
			t.Error(short(x))
		}
		if _, e := base.PutChange(x); e != api.OK {
			t.Error(short(x), e)
		}
	}
}

// The same calls tell the same.
func TestP1701Again(t *testing.T) {
	p, b, l := long(t)
	// Many parts, so that the order of a map would show.
	for i := range 10 {
		s := fmt.Sprintf("v%d (a int)", i)
		done(t, b, "create table "+s)
		l = append(l, changes(fmt.Sprintf("insert v%d: 1 | insert v%d: 2", i, i))...)
		p.Parts = append(p.Parts, Part{Table: fmt.Sprint("v", i)})
	}
	first, e := decode.Decode(p, b, l)
	if e != api.OK || len(first) < 30 {
		t.Fatal(len(first), e)
	}
	r := rand.New(rand.NewSource(1))
	for range 20 {
		got, e := decode.Decode(p, b, l)
		if e != api.OK || !alike(got, first) {
			t.Fatal(printedChanges(got), e)
		}
		// The parts' order changes nothing of this.
		r.Shuffle(len(p.Parts), func(i, j int) { p.Parts[i], p.Parts[j] = p.Parts[j], p.Parts[i] })
	}
}

// One base may be looked at by several at once.
func TestP1701SeveralAtOnce(t *testing.T) {
	p, b, l := long(t)
	answers := make([]string, 8)
	var wait sync.WaitGroup
	for i := range answers {
		wait.Add(1)
		go func() {
			defer wait.Done()
			for range 5 {
				got, _ := decode.Decode(p, b, l)
				shown, _ := decode.Project(p, b)
				_, e := decode.Project(Publication{}, b)
				answers[i] = fmt.Sprint(printedChanges(got), state(shown), decode.Right(p), e)
			}
		}()
	}
	wait.Wait()
	for _, s := range answers {
		if s != answers[0] || s == "" {
			t.Errorf("%s, not %s", s, answers[0])
		}
	}
}

// allOf gives a long expression that is not deep.
func allOf(n int) string {
	if n == 1 {
		return "k is not null"
	}
	return "(" + allOf(n/2) + " and " + allOf(n-n/2) + ")"
}

// Every call ends, whatever it is given.
func TestP1701WhateverComes(t *testing.T) {
	b := some(t)
	was := state(b)
	huge := strings.Repeat("a", 1<<21)
	row := make([]Value, 100000)
	wild := []Change{{Kind: base.Insert, Table: "t", Now: row}, {Kind: base.Update, Table: "t", Old: row, Now: row}, {Kind: great, Table: huge, Old: row, Now: row}, {Kind: least, Table: "t"}, {Kind: base.Create, Table: "t", Schema: Table{Name: "t", Key: []int{great, least, -1}}}}
	for i := range wild {
		decodeFails(t, api.ErrArg, published("t"), b, wild[i:])
		decodeFails(t, api.ErrArg, published("t (a); u"), b, append(changes("insert u: 1, 'z'"), wild[i]))
	}
	decodeFails(t, api.ErrArg, published("t"), b, make([]Change, 100000))
	p := Publication{Name: "p", Parts: []Part{{Table: "t", Columns: slices.Repeat([]string{"k"}, 200000)}}}
	projectFails(t, api.ErrArg, p, b)
	p.Parts = make([]Part, 200000)
	decodeFails(t, api.ErrArg, p, b, nil)
	for i := range p.Parts {
		p.Parts[i] = Part{Table: fmt.Sprint("v", i)}
	}
	projects(t, p, b)
	decodes(t, p, b, changes("insert u: 1, 'z' | create v77777: v77777 (a int)"), "create v77777: v77777 (a int)")
	p.Parts[77777].Where = make([]Node, 100000)
	decodeFails(t, api.ErrArg, p, b, nil)
	p.Parts[77777] = Part{Table: "t", Columns: []string{huge}}
	projectFails(t, api.ErrArg, p, b)
	names := make([]string, 200000)
	for i := range names {
		names[i] = fmt.Sprint("v", i)
	}
	shapeFails(t, api.ErrName, Part{Table: "t", Columns: names}, table("t (v0 int)"))
	where := nodes(allOf(64))
	if len(where) != 255 {
		t.Fatal(len(where))
	}
	decodes(t, Publication{Name: "p", Parts: []Part{{Table: "t", Columns: []string{"k"}, Where: where}}}, b, changes("insert t: 7, 7, 'z' | delete t: 7, 7, 'z'"), "insert t: 7 | delete t: 7")
	if state(b) != was {
		t.Error(state(b))
	}
}
