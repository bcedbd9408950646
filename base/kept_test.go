package base_test

import (
	"fmt"
	"math/rand"
	"testing"

	"longstop/api"
	"longstop/base"
)

// steps: what may be done to some, one by one or one behind the other.
var steps = []string{
	"create table v (k int, d dec (2), primary key (k), unique (d), check (k > 0))", "insert into v values (3, 1), (1, 2.005), (2, null)",
	"insert into t values (7, 'z'), (3, null), (5, '')", "insert into u values (3), (3), (null)", "insert into w (s, i) values ('z', 5), (null, 6)",
	// Keys that meet on the way, rows that become what others were, and rows that stay.
	"update t set k = k + 1", "update t set k = 9 - k", "update u set k = k + 1", "update u set k = 3", "update t set a = null where k > 4", "update w set d = d + 1, s = coalesce(s, 'q') where i = 1 and d = 1", "update t set k = k", "update u set k = null where k = 3",
	"delete from u where k = 3", "delete from t where a is null", "delete from u where false", "select * from t, u", "delete from w", "drop table w", "drop table t", "drop table u", "create table t (k text)", "insert into t values ('x'), ('x')", "drop table t",
}

func TestP1106Again(t *testing.T) {
	r := maker{rand.New(rand.NewSource(1)), nil}
	b := some(t)
	first := b.Clone()
	var all []Change
	for _, s := range steps {
		was := b.Clone()
		l := done(t, b, s).Changes
		r.again(t, s, was, b, l)
		all = append(all, l...)
		r.again(t, "all up to "+s, first, b, all)
		if state(was) == state(b) && len(l) > 0 || state(was) != state(b) && len(l) == 0 {
			t.Errorf("%s: %s", s, printedChanges(l))
		}
	}
}

// Of a statement alone, whatever stood there.
func TestP1106AgainOfEach(t *testing.T) {
	r := maker{rand.New(rand.NewSource(1)), nil}
	told := 0
	for _, s := range steps {
		b := some(t)
		was := b.Clone()
		q, e := b.Do(statement(s))
		if e != api.OK {
			continue
		}
		r.again(t, s, was, b, q.Changes)
		if len(q.Changes) > 0 {
			told++
		}
	}
	if told < 15 {
		t.Errorf("%d changed something", told)
	}
}

func TestP1106AgainOfFullBases(t *testing.T) {
	r := maker{rand.New(rand.NewSource(1)), nil}
	for _, in := range []string{"k int", "k int, primary key (k)", "k int, unique (k)"} {
		for _, s := range []string{"update t set k = k + 1", "update t set k = - k where k > 1000", "delete from t where k % 2 = 0", "drop table t"} {
			b := full(t, in, api.MaxRows)
			was := b.Clone()
			r.again(t, s, was, b, done(t, b, s).Changes)
		}
	}
	b := based(t)
	for i := range api.MaxTables {
		done(t, b, fmt.Sprintf("create table t%d (k int)", i))
	}
	was := b.Clone()
	l := done(t, b, "drop table t3").Changes
	r.again(t, "drop table t3", was, b, l)
	r.again(t, "and create", was, b, append(l, done(t, b, "create table z (k int)").Changes...))
}

func TestP1107Kept(t *testing.T) {
	b := some(t)
	keeps(t, b)
	for _, s := range steps {
		done(t, b, s)
		keeps(t, b)
	}
	b = based(t, "create table t (k int, primary key (k))", "insert into t values (1)")
	refuses(t, b, "insert into t values (1)", api.ErrKey)
	refuses(t, based(t, "create table t (k int, primary key (k))"), "insert into t values (1), (1)", api.ErrKey)
}

// What would break it is refused, whichever way it comes.
func TestP1107Refused(t *testing.T) {
	b := some(t)
	for _, l := range [][]string{
		{"insert t: 1, 'q'"}, {"update t: 1, 'x' -> 2, 'x'"}, {"insert w: 2, 2.0, 'x'"}, {"update w: 1, 2.0, null -> 1, 2.0, 'x'"}, {"insert t: null, 'x'"}, {"insert w: 0, 1.0, 'z'"}, {"insert w: null, 1.0, 'z'"}, {"insert w: 1, 1, 'z'"}, {"insert u: 1, 2"}, {"insert u: 'x'"}, {"update u: 1 -> true"},
		{"delete t: 1, 'x'", "insert t: 2, 'x'"}, {"create v: create table v (k int, primary key (k))", "insert v: 1", "insert v: 1"},
	} {
		was := state(b)
		if e := b.Redo(changes(joined(l))); e == api.OK || state(b) != was {
			t.Errorf("Redo of %s: %s", l, state(b))
		}
		keeps(t, b)
	}
	for _, s := range []string{"insert t: 9, 'q'; delete t: 1, 'q'", "update t: 2, 'q' -> 1, 'x'", "delete w: 7, 1.0, 'x'", "delete w: 0, 1.0, 'z'", "update u: 'x' -> 1"} {
		was := state(b)
		if e := b.Undo(changes(s)); e == api.OK || state(b) != was {
			t.Errorf("Undo of %s: %s", s, state(b))
		}
		keeps(t, b)
	}
	keeps(t, base.New())
}
