package base_test

import (
	"slices"
	"testing"

	"longstop/api"
	"longstop/base"
	"longstop/rel"
)

func TestP1104Tables(t *testing.T) {
	b := base.New()
	if l := b.Tables(); len(l) != 0 {
		t.Error(l)
	}
	for _, name := range []string{"t", "b", "t1", "_", "z", "a", "ta", "t_", "b2", "b10"} {
		done(t, b, "create table "+name+" (k int)")
		if l := b.Tables(); !slices.IsSorted(l) || !slices.Contains(l, name) {
			t.Error(l)
		}
	}
	if l := b.Tables(); !slices.Equal(l, []string{"_", "a", "b", "b10", "b2", "t", "t1", "t_", "ta", "z"}) {
		t.Error(l)
	}
	done(t, b, "drop table b2")
	done(t, b, "drop table _")
	done(t, b, "drop table z")
	if l := b.Tables(); !slices.Equal(l, []string{"a", "b", "b10", "t", "t1", "t_", "ta"}) {
		t.Error(l)
	}
}

func TestP1104Data(t *testing.T) {
	b := some(t)
	for name, want := range map[string]rel.Data{
		"t": {Table: table("t", "k int, a text, primary key (k)"), Rows: rowsOf("1, 'x' | 2, 'y' | 4, null")},
		"u": {Table: table("u", "k int"), Rows: rowsOf("3 | 1 | 3 | 2")},
		"w": {Table: table("w", "i int not null, d dec (1), s text, unique (s), check (i > 0)"), Rows: rowsOf("1, 1.0, 'x' | 1, 2.0, null")},
	} {
		if got, ok := b.Data(name); !ok || !alike(got, want) {
			t.Errorf("%s: %s, %v", name, short(got), ok)
		}
	}
	done(t, b, "create table e (x point)")
	if got, ok := b.Data("e"); !ok || !alike(got, rel.Data{Table: table("e", "x point")}) {
		t.Error(short(got), ok)
	}
	for _, name := range append(wrongNames(), "v", "tt", "k", "s", "x") {
		if got, ok := b.Data(name); ok || !alike(got, rel.Data{}) {
			t.Errorf("%q: %s, %v", short(name), short(got), ok)
		}
		if got, ok := base.New().Data(name); ok || !alike(got, rel.Data{}) {
			t.Errorf("%q: %s, %v", short(name), short(got), ok)
		}
	}
}

func TestP1104Clone(t *testing.T) {
	for _, b := range []*Base{base.New(), some(t), based(t, "create table t (d dec (2), p point, f bool, primary key (d, p), unique (f), unique (p, d), check (d > 0 or f))", "insert into t values (1, point(1, 2), null), (1, point(1, 1), true)")} {
		c := b.Clone()
		if c == nil || c == b || !b.Same(c) || !c.Same(b) || state(b) != state(c) {
			t.Fatalf("%s: %v", state(b), c)
		}
		// What is done to one of two.
		was := state(b)
		done(t, c, "create table x (k int)")
		if state(b) != was || b.Same(c) {
			t.Errorf("%s is %s", was, state(b))
		}
		d := c.Clone()
		was = state(c)
		for _, name := range c.Tables() {
			done(t, d, "drop table "+name)
		}
		if state(c) != was || c.Same(d) || !d.Same(base.New()) {
			t.Errorf("%s is %s", was, state(c))
		}
	}
}

func TestP1104CloneApart(t *testing.T) {
	steps := []string{
		"insert into t values (3, 'z')", "insert into u values (3)", "update t set a = 'w' where k = 1", "update u set k = k + 1", "update t set k = - k", "delete from t where k = 2", "delete from u", "drop table t", "create table v (k int)", "delete from t", "drop table w",
	}
	for _, one := range steps {
		for _, other := range steps {
			b := some(t)
			c := b.Clone()
			was := state(c)
			done(t, b, one)
			if state(c) != was {
				t.Fatalf("%s of one: the other one is %s", one, state(c))
			}
			was = state(b)
			done(t, c, other)
			if state(b) != was {
				t.Fatalf("%s of the other one: this one is %s", other, state(b))
			}
			if one == other && state(b) != state(c) {
				t.Fatalf("%s: %s, %s", one, state(b), state(c))
			}
		}
	}
	// Redo and Undo, too; and the keys are there with the rows.
	b := some(t)
	c := b.Clone()
	redoes(t, c, "insert u: 9", "update t: 4, null -> 0, null")
	undoes(t, b, "insert u: 3")
	stands(t, b, "u", "1 | 3 | 2")
	stands(t, c, "u", "3 | 1 | 3 | 2 | 9")
	stands(t, c, "t", "0, null | 1, 'x' | 2, 'y'")
	refuses(t, c, "insert into t values (2, 'z')", api.ErrKey)
	refuses(t, c, "insert into w values (2, 2, 'x')", api.ErrKey)
	redoFails(t, c, api.ErrKey, "insert t: 2, 'z'")
	done(t, c, "insert into t values (4, 'z')")
	refuses(t, b, "insert into t values (4, 'z')", api.ErrKey)
}

func TestP1104Same(t *testing.T) {
	in := "k int, a text, unique (k, a)"
	make := func(l ...string) *Base {
		return based(t, append([]string{"create table t (" + in + ")", "create table u (k int)"}, l...)...)
	}
	same := func(want bool, b, c *Base) {
		t.Helper()
		if b.Same(c) != want || c.Same(b) != want {
			t.Errorf("%s, %s: %v", state(b), state(c), !want)
		}
	}
	same(true, base.New(), base.New())
	b := make()
	same(true, b, b)
	same(true, make(), make())
	same(false, make(), base.New())
	// Rows as bags.
	same(true, make("insert into u values (1), (2), (3), (1)"), make("insert into u values (1), (1), (3), (2)"))
	same(true, make("insert into t values (1, 'x'), (2, null)"), make("insert into t values (2, null), (1, 'x')"))
	same(false, make("insert into u values (1), (2), (1)"), make("insert into u values (1), (2), (2)"))
	same(false, make("insert into u values (1), (2)"), make("insert into u values (1), (2), (2)"))
	same(false, make("insert into u values (1), (2)"), make("insert into u values (1)"))
	same(false, make("insert into u values (1)"), make())
	same(false, make("insert into u values (1)"), make("insert into u values (null)"))
	same(false, make("insert into t values (1, 'x'), (2, 'y')"), make("insert into t values (1, 'y'), (2, 'x')"))
	same(false, make("insert into t values (1, 'x')"), make("insert into t values (1, 'x')", "insert into u values (1)"))
	// The same tables: in nothing unlike.
	same(false, make(), make("drop table u"))
	same(false, make(), make("create table v (k int)"))
	same(false, make("drop table u", "create table v (k int)"), make())
	for _, other := range []string{"k int, a text", "k int, a text, unique (a, k)", "a int, k text, unique (a, k)", "k int not null, a text, unique (k, a)", "k int, a text, unique (k, a), check (true)", "k int, a text, primary key (k), unique (k, a)", "k int, a int, unique (k, a)", "k int, a text, c int, unique (k, a)", "k dec (0), a text, unique (k, a)"} {
		same(false, make(), make("drop table t", "create table t ("+other+")"))
	}
	same(true, make(), make("drop table t", "create table t ("+in+")"))
	// The same rows in tables that are unlike, and the other way round.
	same(false, based(t, "create table t (k int)", "insert into t values (1)"), based(t, "create table t (k int not null)", "insert into t values (1)"))
	same(false, based(t, "create table t (k int)", "insert into t values (1)"), based(t, "create table s (k int)", "insert into s values (1)"))
}
