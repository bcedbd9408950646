package decode_test

import (
	"fmt"
	"strings"
	"testing"

	"longstop/api"
	"longstop/base"
	"longstop/decode"
)

func TestP1703Project(t *testing.T) {
	b := some(t)
	projects(t, published(""), b)
	projects(t, published("t"), b, "t (k int, a int, c text, primary key (k)): 1, 10, 'x' | 2, 20, 'y' | 3, null, null")
	projects(t, published("u"), b, "u (b int, s text not null): 3, 'p' | 1, 'q' | 3, 'p' | null, 'r'")
	projects(t, published("t (c, k)"), b, "t (c text, k int, primary key (k)): 'x', 1 | 'y', 2 | null, 3")
	projects(t, published("t (c)"), b, "t (c text): 'x' | 'y' | null")
	projects(t, published("u (b)"), b, "u (b int): 3 | 1 | 3 | null")
	projects(t, published("u (s, b)"), b, "u (s text not null, b int): 'p', 3 | 'q', 1 | 'p', 3 | 'r', null")
	projects(t, published("u (s); t (a)"), b, "t (a int): 10 | 20 | null", "u (s text not null): 'p' | 'q' | 'p' | 'r'")
	projects(t, published("nobody"), b)
	projects(t, published("nobody (k) where 1 / 0; t (k); noone"), b, "t (k int, primary key (k)): 1 | 2 | 3")
	projects(t, published("t; u"), base.New())
}

func TestP1703Where(t *testing.T) {
	b := some(t)
	for where, want := range map[string]string{
		"a > 10": "2", "a >= 10": "1 | 2", "t.a > 10": "2", "a is null": "3", "not (a > 10)": "1", "c = 'x' or k = 3": "1 | 3", "true": "1 | 2 | 3", "false": "", "null": "", "k / 2 = 1": "2 | 3", "a > 10 and t.c <> 'z'": "2", "k < 100": "1 | 2 | 3",
	} {
		got, e := decode.Project(published("t (k) where "+where), b)
		d, there := got.Data("t")
		if e != api.OK || !there || printedRows(d.Rows) != want {
			t.Errorf("%s: %s, error %d, not %s", where, state(got), e, want)
		}
	}
	projects(t, published("t (c) where k > 1; u (s) where b = 3"), b, "t (c text): 'y' | null", "u (s text not null): 'p' | 'p'")
}

// The rows of a table with a key stand by it, whichever column it is.
func TestP1703Keys(t *testing.T) {
	b := based(t, "create table t (a int, b int, c int, primary key (c, a))", "insert into t values (1, 1, 3), (2, 2, 2), (3, 3, 2), (0, 4, 3)")
	projects(t, published("t"), b, "t (a int, b int, c int, primary key (c, a)): 2, 2, 2 | 3, 3, 2 | 0, 4, 3 | 1, 1, 3")
	projects(t, published("t (a, c)"), b, "t (a int, c int, primary key (c, a)): 2, 2 | 3, 2 | 0, 3 | 1, 3")
	projects(t, published("t (a, b)"), b, "t (a int, b int): 2, 2 | 3, 3 | 0, 4 | 1, 1")
	projects(t, published("t (c)"), b, "t (c int): 2 | 2 | 3 | 3")
}

func TestP1703Kinds(t *testing.T) {
	b := based(t, "create table t (d dec (2), s text, f bool, p point, n int, primary key (s))", "insert into t values (1, 'a', true, point(1, -2), 5), (0.25, '', null, null, null), (- 3, 'it''s', false, point(0, 0), - 7)")
	projects(t, published("t (p, d, s)"), b, "t (p point, d dec (2), s text, primary key (s)): null, 0.25, '' | <1,-2>, 1.00, 'a' | <0,0>, -3.00, 'it''s'")
	projects(t, published("t (n, f) where d < 1"), b, "t (n int, f bool): null, null | -7, false")
}

// A base as full as it may be.
func TestP1703Full(t *testing.T) {
	b := base.New()
	p := Publication{Name: "p"}
	var l []Change
	for i := range api.MaxTables {
		name := fmt.Sprint("t", 10+i)
		l = append(l, Change{Kind: base.Create, Table: name, Schema: table(name + " (k int, a int, primary key (k))")})
		p.Parts = append(p.Parts, Part{Table: name, Columns: []string{"k"}})
	}
	for i := range api.MaxRows {
		l = append(l, Change{Kind: base.Insert, Table: "t10", Now: []Value{whole(i), whole(i % 7)}}, Change{Kind: base.Insert, Table: "t25", Now: []Value{whole(-i), whole(i % 7)}})
	}
	if e := b.Redo(l); e != api.OK {
		t.Fatal(e)
	}
	p.Parts[0].Columns = []string{"a"}
	p.Parts[0].Where = nodes("a < 3")
	got, e := decode.Project(p, b)
	if e != api.OK || len(got.Tables()) != api.MaxTables {
		t.Fatal(len(got.Tables()), e)
	}
	for name, want := range map[string]int{"t10": 879, "t11": 0, "t25": api.MaxRows} {
		if d, _ := got.Data(name); len(d.Rows) != want {
			t.Errorf("%s: %d rows, not %d", name, len(d.Rows), want)
		}
	}
}

// What is shown is a base of its own.
func TestP1703Apart(t *testing.T) {
	b := some(t)
	p := published("t (k); u")
	got, _ := decode.Project(p, b)
	was := state(got)
	done(t, b, "delete from t")
	done(t, b, "drop table u")
	if state(got) != was {
		t.Error(state(got))
	}
	left := state(b)
	done(t, got, "insert into t values (7)")
	done(t, got, "insert into u values (7, 's')")
	if state(b) != left {
		t.Error(state(b))
	}
}

func TestP1703ErrArg(t *testing.T) {
	b := some(t)
	for _, p := range wrongPublications() {
		projectFails(t, api.ErrArg, p, b)
	}
	for _, b := range unmade() {
		for _, p := range append(wrongPublications(), published(""), published("t"), published("t (nobody) where 1 / 0")) {
			projectFails(t, api.ErrArg, p, b)
		}
	}
}

// The parts one by one, of each its Shape, then row by row.
func TestP1703Errors(t *testing.T) {
	b := some(t)
	for in, want := range map[string]Errno{
		"t (nobody)": api.ErrName, "t (k, nobody)": api.ErrName, "u (k)": api.ErrName, "u; t (b)": api.ErrName, "nobody (nobody)": api.OK,
		"t where nobody = 1": api.ErrName, "t where u.b = 1": api.ErrName, "t (k) where 1": api.ErrType, "t where c > 1": api.ErrType, "t where k": api.ErrType, "t where f(k)": api.ErrName, "t where 1 / 0 = 1": api.ErrZero,
		"t where 1 / (k - 3) > 0": api.ErrZero, "t where 1 / (k - 1) > 0": api.ErrZero, "t where 1 / (k - 4) > 0": api.OK, "t where k + 9223372036854775805 > 0": api.ErrOver, "u where b * 9000000000000000000 > 0": api.ErrOver,
		// The first row that has an error, where they have several.
		"t where 1 / (k - 1) > 0 and k + 9223372036854775804 > 0": api.ErrZero, "t where 1 / (k - 3) > 0 and k + 9223372036854775806 > 0": api.ErrOver,
		// A part's Shape ahead of its Where, and part by part.
		"t (nobody) where 1 / 0 = 1": api.ErrName, "t where 1; u (nobody)": api.ErrType, "u (nobody); t where 1": api.ErrName, "u where 1; t where 1 / 0 = 1": api.ErrType, "t where 1 / 0 = 1; u where 1": api.ErrZero,
		"nobody (k) where 1; t where 1 / 0 = 1": api.ErrZero,
	} {
		p := published(in)
		if want != api.OK {
			projectFails(t, want, p, b)
		} else if _, e := decode.Project(p, b); e != api.OK {
			t.Errorf("%s: error %d", in, e)
		}
	}
	// Without rows nobody asks Where.
	projects(t, published("v where 1 / 0 = 1 and nobody"), based(t, "create table v (a int)"), "v (a int): ")
	if _, e := decode.Project(published(strings.Repeat("t; ", 2)+"u"), b); e != api.ErrArg {
		t.Error(e)
	}
}
