package engine_test

import (
	"testing"

	"longstop/api"
	"longstop/base"
	"longstop/engine"
)

var (
	applies call = (*engine.Engine).Apply
	reverts call = (*engine.Engine).Revert
)

func TestP1603Apply(t *testing.T) {
	p := begun(t)
	p.brings(applies, "")
	p.brings(applies, "create t: create table t (k int, a text, primary key (k)) | insert t: 2, 'y' | insert t: 1, null")
	p.stands("t", "1, null | 2, 'y'")
	p.brings(applies, "update t: 1, null -> 3, 'z' | delete t: 2, 'y' | create u: create table u (b int)")
	p.stands("t", "3, 'z'")
	p.stands("u", "")
	p.shows(1, "select k from t", "3")
	p.free(lockNames...)
	p.brings(applies, "delete t: 3, 'z' | drop t: create table t (k int, a text, primary key (k))")
	p.refuses(1, api.ErrName, "select k from t")
}

func TestP1603Revert(t *testing.T) {
	p := some(t)
	was := p.g.Base()
	r := p.done(1, "update t set k = 5 - k where k < 5")
	p.brings(reverts, printedChanges(r.Changes))
	p.isSame(was)
	l := p.done(1, "drop table t").Changes
	l = append(l, p.done(1, "create table t (c text)").Changes...)
	l = append(l, p.done(1, "insert into t values ('p')").Changes...)
	if e := p.g.Revert(l); e != api.OK {
		t.Fatal(e)
	}
	p.isSame(was)
	p.brings(reverts, "")
	p.brings(applies, "insert u: 7 | delete u: 1")
	p.brings(reverts, "insert u: 7 | delete u: 1")
	p.isSame(was)
	p.free(lockNames...)
}

// wrongLists: changes that some's base does not take, with the base's answers.
func wrongLists() [][]Change {
	l := [][]Change{
		{{}}, {{Kind: 6, Table: "t"}}, {{Kind: -1, Table: "t", Now: values("1")}}, {{Kind: base.Insert, Table: "T", Now: values("1")}}, {{Kind: base.Insert, Now: values("1")}}, {{Kind: base.Create, Table: "v"}}, {{Kind: base.Drop, Table: "t"}}, {{Kind: base.Insert, Table: "t", Now: []Value{{Kind: 9}}}},
		{{Kind: base.Create, Table: "w", Schema: statement("create table v (k int)").Table}},
	}
	for _, s := range []string{
		"insert t: 1, 'q'", "insert t: 9, 'x'", "insert t: 9", "insert t: 'p', 'q'", "insert nobody: 1", "delete t: 7, 'q'", "delete nobody: 1", "update t: 7, 'q' -> 8, 'q'", "update t: 1, 'x' -> 2, 'x'", "create t: create table t (k int)", "drop t: create table t (k int)", "drop t: create table t (k int, a text, primary key (k), unique (a))", "drop v: create table v (k int)",
		"insert u: 7 | insert u: 8 | insert t: 3, 'q'", "delete u: 1 | delete u: 1", "create v: create table v (k int) | insert v: 1 | insert w: 1", "insert t: 9, 'q' | insert t: 9, 'w'",
	} {
		l = append(l, changes(s))
	}
	return l
}

// Without locks what the base's Redo and Undo answer is the answer.
func TestP1603AsTheBase(t *testing.T) {
	wrong := 0
	for _, l := range append(wrongLists(), changes("insert u: 7"), changes("delete t: 1, 'x' | insert t: 1, 'q'"), changes("create v: create table v (k int) | insert v: 1"), nil, []Change{}) {
		for i, c := range []call{applies, reverts} {
			p := some(t)
			b := p.g.Base()
			want := []func([]Change) Errno{b.Redo, b.Undo}[i](l)
			// Transactions that hold nothing are in nobody's way.
			p.all(4, "begin", "select 1")
			if want != api.OK {
				p.fails(c, want, l)
				wrong++
				continue
			}
			if e := c(p.g, l); e != api.OK {
				t.Errorf("%d %s: error %d", i, short(l), e)
			}
			p.isSame(b)
			p.done(4, "commit")
			p.isSame(b)
		}
	}
	if wrong < 40 {
		t.Error(wrong)
	}
}

// Each lock of a table that a change names is in the way, also a read lock.
func TestP1603Locks(t *testing.T) {
	lists := []struct{ s, names string }{
		{"", ""}, {"insert t: 9, 'q'", "t"}, {"update t: 1, 'x' -> 1, 'q'", "t"}, {"delete t: 1, 'x'", "t"}, {"insert u: 1", "u"}, {"delete u: 1", "u"}, {"create v: create table v (k int)", "v -"}, {"create v: create table v (k int) | insert v: 1", "v -"}, {"delete u: 3 | delete u: 1 | delete u: 3 | drop u: create table u (b int)", "u -"}, {"insert u: 7 | insert t: 9, 'q'", "t u"},
		{"insert nobody: 1", "nobody"}, {"drop nobody: create table nobody (k int)", "nobody -"},
	}
	barred := 0
	for _, x := range lists {
		for _, c := range allUses {
			for _, session := range []int{1, 64} {
				p := some(t)
				p.all(session, "begin", c.s)
				if !meet(x.names, c.reads) && !meet(x.names, c.writes) {
					if applies(p.g, changes(x.s)) == api.ErrLock || reverts(p.g, nil) != api.OK {
						t.Fatalf("%s; %s: a lock", c.s, x.s)
					}
					continue
				}
				p.fails(applies, api.ErrLock, changes(x.s))
				p.fails(reverts, api.ErrLock, changes(x.s))
				barred++
			}
		}
	}
	if barred < 200 {
		t.Error(barred)
	}
}

// A lock is told ahead of all that the base says, wherever its table is named.
func TestP1603LocksAhead(t *testing.T) {
	p := some(t)
	p.all(3, "begin", "select * from t")
	for _, l := range wrongLists() {
		want := some(t).g.Apply(l)
		for _, x := range l {
			if x.Table == "t" {
				want = api.ErrLock
			}
		}
		p.fails(applies, want, l)
		l = append([]Change{{}, {Kind: 7, Table: "u"}}, l...)
		p.fails(applies, map[bool]Errno{true: api.ErrLock, false: api.ErrArg}[want == api.ErrLock], l)
		p.fails(reverts, api.ErrLock, append(l, Change{Table: "t"}))
	}
	p.done(3, "commit")
	p.all(3, "begin", "create table v (k int)")
	for _, kind := range []int{base.Create, base.Drop} {
		p.fails(applies, api.ErrLock, []Change{{Kind: kind}})
		p.fails(reverts, api.ErrLock, []Change{{Kind: kind, Table: "u"}})
	}
	for _, kind := range []int{base.Insert, base.Update, base.Delete, 0, 6} {
		p.fails(applies, api.ErrArg, []Change{{Kind: kind, Table: "T"}})
	}
}

// Several sessions' locks, of several tables: each one counts till it is gone.
func TestP1603LocksOfSeveral(t *testing.T) {
	p := some(t)
	p.all(1, "begin", "select * from t")
	p.all(64, "begin", "select * from t, u")
	both := "insert t: 9, 'q' | insert u: 7"
	p.fails(applies, api.ErrLock, changes(both))
	p.done(64, "commit")
	p.fails(applies, api.ErrLock, changes(both))
	p.brings(applies, "insert u: 8")
	p.done(1, "rollback")
	p.brings(applies, both)
	p.all(64, "begin", "insert into u values (9)")
	p.fails(reverts, api.ErrLock, changes(both))
	p.brings(applies, "create v: create table v (k int)")
	if p.g.Close() != 1 {
		t.Error("Close")
	}
	p.brings(reverts, both)
	p.stands("u", "3 | 1 | 3 | 8")
}

// What was applied a transaction that goes on sees, and does not tell as its own.
func TestP1603Between(t *testing.T) {
	p := some(t)
	p.all(1, "begin", "insert into t values (9, 'q')")
	p.brings(applies, "insert u: 7 | create v: create table v (k int)")
	p.shows(1, "select b from u where b = 7", "7")
	p.brings(applies, "insert v: 1")
	p.done(1, "insert into v values (2)")
	p.fails(applies, api.ErrLock, changes("insert v: 3"))
	p.tells(1, "commit", 0, "insert t: 9, 'q' | insert v: 2")
	p.all(1, "begin", "insert into t values (10, 'w')")
	p.brings(reverts, "insert u: 7")
	p.done(1, "rollback")
	p.stands("t", "1, 'x' | 2, 'y' | 3, null | 9, 'q'")
	p.stands("u", "3 | 1 | 3")
	p.stands("v", "1 | 2")
}
