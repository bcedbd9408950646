package engine_test

import (
	"fmt"
	"slices"
	"strings"
	"testing"

	"longstop/api"
	"longstop/base"
	"longstop/engine"
)

func TestP1604Open(t *testing.T) {
	p := some(t)
	for session := -1; session <= mostSessions+1; session++ {
		if p.g.Open(session) {
			t.Errorf("%d has a transaction", session)
		}
	}
	p.all(5, "begin", "select * from t")
	p.all(64, "begin")
	p.done(6, "insert into u values (1)")
	for _, session := range []int{least, -5, 0, 1, 4, 5, 6, 63, 64, 65, 69, 5 + 1<<32, great} {
		if want := session == 5 || session == 64; p.g.Open(session) != want {
			t.Errorf("%d: not %v", session, want)
		}
	}
	p.done(64, "commit")
	p.done(5, "rollback")
	if p.g.Open(5) || p.g.Open(64) {
		t.Error(state(p.g))
	}
	// What is refused opens and closes nothing.
	p.refuses(5, api.ErrSession, "commit")
	p.done(5, "begin")
	p.refuses(5, api.ErrSession, "begin")
	p.refuses(5, api.ErrName, "select * from nobody")
	if !p.g.Open(5) {
		t.Error(state(p.g))
	}
}

func TestP1604Locks(t *testing.T) {
	p := some(t)
	for _, session := range []int{64, 3, 17, 1} {
		p.all(session, "begin", "select * from t")
	}
	p.holds("t", 0, 1, 3, 17, 64)
	p.all(2, "begin", "select b from u", "insert into u values (1)")
	p.holds("u", 2, 2)
	p.holds("t", 0, 1, 3, 17, 64)
	p.done(17, "commit")
	p.holds("t", 0, 1, 3, 64)
	p.done(1, "rollback")
	p.holds("t", 0, 3, 64)
	// Again is not twice.
	p.all(3, "select * from t", "select k from t union select k from t")
	p.holds("t", 0, 3, 64)
	p.done(64, "commit")
	p.done(3, "insert into t values (9, 'q')")
	p.holds("t", 3, 3)
	p.done(3, "create table v (k int)")
	p.holds(theList, 3)
	p.holds("v", 3)
	p.done(3, "select * from v")
	p.holds("v", 3, 3)
	p.done(3, "insert into v values (1)")
	p.holds("v", 3, 3)
	p.free("w", "nobody", "T", " t", "t ", "k", "\xff", strings.Repeat("t", 1<<20), "-")
	p.done(3, "commit")
	p.holds("u", 2, 2)
	p.free("t", "v", theList)
}

// A lock for writing does not take one for reading away, nor the other way round.
func TestP1604LocksStay(t *testing.T) {
	for _, l := range [][]string{
		{"select * from t", "delete from t"}, {"delete from t", "select * from t"}, {"update t set a = null"}, {"insert into t values (9, 'q')", "delete from t where k = 9", "insert into t values (9, 'q')"}, {"delete from t where false", "drop table t"}, {"select * from t", "drop table t", "create table t (k int)"},
	} {
		p := some(t)
		p.all(9, "begin")
		p.all(9, l...)
		p.holds("t", 9, 9)
		p.done(9, "select b from u")
		p.holds("t", 9, 9)
		p.holds("u", 0, 9)
	}
}

func TestP1604Close(t *testing.T) {
	p := some(t)
	if n := p.g.Close(); n != 0 {
		t.Error(n)
	}
	was := p.g.Base()
	p.all(1, "begin", "insert into t values (9, 'q')", "delete from t where k < 3")
	p.all(64, "begin", "drop table u", "create table v (k int)", "create table u (c text)", "insert into u values ('p')")
	p.all(30, "begin", "select 1")
	p.all(31, "begin")
	if n := p.g.Close(); n != 4 {
		t.Error(n)
	}
	p.isSame(was)
	p.free(lockNames...)
	for _, session := range []int{1, 30, 31, 64} {
		if p.g.Open(session) {
			t.Errorf("%d has a transaction", session)
		}
		p.refuses(session, api.ErrSession, "commit", "rollback")
	}
	if n := p.g.Close(); n != 0 {
		t.Error(n)
	}
	// It goes on, and what was rolled back is nobody's.
	p.all(1, "begin", "insert into u values (5)")
	p.tells(1, "commit", 0, "insert u: 5")
}

func TestP1604CloseOfAll(t *testing.T) {
	p := begun(t)
	for i := range api.MaxTables {
		p.all(1, fmt.Sprintf("create table t%d (k int)", i), fmt.Sprintf("insert into t%d values (1)", i))
	}
	was := p.g.Base()
	for session := 1; session <= mostSessions; session++ {
		p.done(session, "begin")
		if session <= api.MaxTables {
			p.all(session, fmt.Sprintf("update t%d set k = %d", session-1, session))
		}
	}
	if n := p.g.Close(); n != mostSessions {
		t.Error(n)
	}
	p.isSame(was)
	// What stands without a transaction stays.
	p.done(2, "insert into t0 values (7)")
	p.all(3, "begin", "insert into t1 values (7)", "commit")
	if n := p.g.Close(); n != 0 {
		t.Error(n)
	}
	p.stands("t0", "1 | 7")
	p.stands("t1", "1 | 7")
}

func TestP1604Base(t *testing.T) {
	p := begun(t)
	if b := p.g.Base(); b == nil || !b.Same(base.New()) {
		t.Fatal(short(b))
	}
	p = some(t)
	b := p.g.Base()
	if s := baseState(b); s != "create table t (k int, a text, primary key (k), unique (a)): 1, 'x' | 2, 'y' | 3, null\ncreate table u (b int): 3 | 1 | 3\n" {
		t.Error(s)
	}
	// As it stands: with what a transaction did, whoever looks.
	p.all(1, "begin", "insert into u values (7)", "create table v (k int)")
	if s := baseState(p.g.Base()); s != baseState(b)[:len(baseState(b))-1]+" | 7\ncreate table v (k int): \n" {
		t.Error(s)
	}
	// Apart: what is done to a copy is not seen, nor what is done to the engine.
	c := p.g.Base()
	was := baseState(c)
	if _, e := c.Do(statement("drop table u")); e != api.OK {
		t.Fatal(e)
	}
	if baseState(p.g.Base()) != was {
		t.Error(state(p.g))
	}
	c = p.g.Base()
	p.done(1, "rollback")
	p.done(1, "delete from t")
	if baseState(c) != was {
		t.Error(baseState(c))
	}
}

func TestP1604Reads(t *testing.T) {
	for s, want := range map[string]string{
		"begin": "", "commit": "", "rollback": "",
		"create table t (k int, check (k > 0))": "", "drop table t": "", "insert into t values (1)": "", "insert into t (k, a) values (1, 'x'), (2, null)": "",
		"update t set k = 1": "t", "update t set k = k where k = 1": "t", "delete from t": "", "delete from t where k = 1": "t", "delete from t where true": "t",
		"select 1": "", "select k": "", "select t.k": "", "select k from t": "t", "select * from u, t": "u t", "select * from t as u": "t", "select * from t, t as u, u as t, v": "t u v", "select * from c join b on true left join a on true cross join d": "c b a d",
		"select 1 from b union select 1 from a union all select 1 from b, c": "b a c", "select 1 union select 1 from z": "z", "select 1 from t where u.k = 1 group by w.k having v.k = 1 order by x": "t", "select v.k as w from u order by t limit 3": "u", "select * from t, u, t": "t u",
		"select * from " + strings.Repeat("t, u, ", 100) + "w": "t u w",
	} {
		if l := engine.Reads(statement(s)); !slices.Equal(l, names(want)) {
			t.Errorf("%s: %q, not %s", short(s), l, want)
		}
	}
}

// Nothing of a statement without a text.
func TestP1604ReadsWithoutText(t *testing.T) {
	for _, s := range withoutText() {
		if l := engine.Reads(s); len(l) != 0 {
			t.Errorf("%s: %q", short(s), l)
		}
	}
	s := statement("update t set k = 1 where k = 2")
	s.Rows = statement("insert into t values (1)").Rows
	if l := engine.Reads(s); len(l) != 0 {
		t.Errorf("%q", l)
	}
	s = statement("select * from t, u")
	s.Query.Cores[0].From[1].Table = "select"
	if l := engine.Reads(s); len(l) != 0 {
		t.Errorf("%q", l)
	}
	s = statement("select 1 from " + strings.Repeat("t, ", 900) + "u")
	if l := engine.Reads(s); len(l) != 0 {
		t.Errorf("%q of a statement whose text would be too long", l)
	}
}

// What a statement holds for reading are its Reads, and in that order.
func TestP1604ReadsAreHeld(t *testing.T) {
	for _, c := range allUses {
		if l := engine.Reads(statement(c.s)); !slices.Equal(slices.Sorted(slices.Values(l)), names(c.reads)) {
			t.Errorf("%s: %q, not %s", c.s, l, c.reads)
		}
	}
}
