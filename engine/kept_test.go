package engine_test

import (
	"math/rand"
	"slices"
	"testing"

	"longstop/api"
	"longstop/rel"
)

// keeper keeps what P1605 to P1607 speak of: a base that is made of what was told
// alone, and what each transaction wrote and was shown.
type keeper struct {
	*play
	told   *Base // what all changes that were told make of an empty base
	wrote  map[int][]string
	shown  map[int][]shown
	counts map[string]int // how often what was looked at
}

// shown is what a transaction's select came to.
type shown struct {
	line
	r Result
}

func keep(t *testing.T) *keeper {
	t.Helper()
	return &keeper{begun(t), folded(t, nil), map[int][]string{}, map[int][]shown{}, map[string]int{}}
}

// hear takes up what was told.
func (k *keeper) hear(what string, l []Change) {
	k.t.Helper()
	if e := k.told.Redo(l); e != api.OK {
		k.t.Fatalf("%s told %s, which can't be done: error %d", what, printedChanges(l), e)
	}
}

func (k *keeper) do(session int, x line) {
	k.t.Helper()
	was := k.g.Open(session)
	r, e := k.g.Do(session, statement(x.s))
	if e != api.OK {
		return
	}
	switch {
	case x.s == "begin":
	case x.s == "commit", x.s == "rollback":
		delete(k.wrote, session)
		delete(k.shown, session)
		k.counts["ended"]++
	case was && len(x.writes) == 0:
		k.shown[session] = append(k.shown[session], shown{x, r})
	case was:
		k.wrote[session] = append(k.wrote[session], x.writes...)
		// It sees what it wrote: that is no other one's change.
		k.shown[session] = slices.DeleteFunc(k.shown[session], func(s shown) bool { return meets(s.reads, x.writes) })
	}
	k.hear(x.s, r.Changes)
}

// quiet: where no session has a transaction the base is what was told (P1605).
func (k *keeper) quiet() {
	k.t.Helper()
	for session := range mostSessions + 1 {
		if k.g.Open(session) {
			return
		}
	}
	k.isSame(k.told)
	k.free(lockNames...)
	k.counts["quiet"]++
}

// apart: what a transaction was shown it is shown again, and what it wrote
// nobody else is shown (P1606).
func (k *keeper) apart() {
	k.t.Helper()
	for session, l := range k.shown {
		for _, s := range l {
			if r, e := k.g.Do(session, statement(s.s)); e != api.OK || !alike(r, s.r) {
				k.t.Fatalf("%d %s: %s, error %d, not %s as it was shown", session, s.s, short(r), e, short(s.r))
			}
			k.counts["shown"]++
		}
	}
	for session, l := range k.wrote {
		for _, name := range l {
			for _, other := range []int{1, 2, 3, mostSessions, 40} {
				if name == theList || other == session {
					continue
				}
				if r, e := k.g.Do(other, statement("select * from "+name)); e != api.ErrLock {
					k.t.Fatalf("%d: %s, which %d wrote: %s, error %d", other, name, session, short(r), e)
				}
				k.counts["barred"]++
			}
		}
	}
}

// back: tables that no open transaction wrote are as all that was told makes
// them, whatever was rolled back (P1607).
func (k *keeper) back() {
	k.t.Helper()
	now := k.g.Base()
	for _, name := range tableNames {
		if k.isWritten(name) {
			continue
		}
		a, ok := now.Data(name)
		b, there := k.told.Data(name)
		if ok != there || !alike(a.Table, b.Table) || !rel.Bag(a.Rows, b.Rows) {
			k.t.Fatalf("%s: %v %s, not %v %s", name, ok, printedRows(a.Rows), there, printedRows(b.Rows))
		}
		k.counts["back"]++
	}
}

func (k *keeper) isWritten(name string) bool {
	for _, l := range k.wrote {
		if slices.Contains(l, name) {
			return true
		}
	}
	return false
}

// Long mixed rows of what sessions do, and of changes from elsewhere.
func TestP1605P1606P1607Random(t *testing.T) {
	counts := map[string]int{}
	for seed := range 120 {
		m := maker{rand.New(rand.NewSource(int64(1000 + seed)))}
		k := keep(t)
		k.counts = counts
		for range 200 {
			if m.Intn(15) == 0 {
				if l := m.changes(k.g.Base()); k.g.Apply(l) == api.OK {
					k.hear("Apply", l)
				}
			} else {
				k.do(pick(m.Rand, 1, 2, 3, mostSessions), m.any())
			}
			k.quiet()
			k.apart()
			k.back()
		}
		k.g.Close()
		k.wrote, k.shown = nil, nil
		k.quiet()
		k.back()
	}
	for what, least := range map[string]int{"quiet": 500, "shown": 5000, "barred": 5000, "ended": 1000, "back": 20000} {
		if counts[what] < least {
			t.Errorf("%s: only %d times", what, counts[what])
		}
	}
}

func TestP1605Told(t *testing.T) {
	p := begun(t)
	var l []Change
	tell := func(session int, s string) { l = append(l, p.done(session, s).Changes...) }
	tell(1, "create table t (k int, primary key (k))")
	tell(1, "begin")
	tell(1, "insert into t values (1), (2)")
	tell(2, "create table u (b int)")
	tell(3, "begin")
	tell(3, "insert into u values (5), (5)")
	if e := p.g.Apply(changes("create v: create table v (c text)")); e != api.OK {
		t.Fatal(e)
	}
	l = append(l, changes("create v: create table v (c text)")...)
	tell(3, "commit")
	tell(1, "update t set k = k + 1")
	tell(1, "commit")
	tell(3, "begin")
	tell(3, "delete from t")
	tell(3, "drop table t")
	tell(2, "delete from u where b = 5")
	tell(3, "rollback")
	want := "create t: create table t (k int, primary key (k)) | create u: create table u (b int) | create v: create table v (c text) | insert u: 5 | insert u: 5 | insert t: 1 | insert t: 2 | update t: 1 -> 2 | update t: 2 -> 3 | delete u: 5 | delete u: 5"
	if got := printedChanges(l); got != want {
		t.Errorf("%s, not %s", got, want)
	}
	p.isSame(folded(t, l))
}

func TestP1606Apart(t *testing.T) {
	p := some(t)
	p.all(1, "begin")
	p.shows(1, "select count() from u", "3")
	for _, s := range []string{"insert into u values (1)", "update u set b = 0", "delete from u", "delete from u where b = 1", "drop table u"} {
		p.refuses(2, api.ErrLock, s)
		p.fails(applies, api.ErrLock, changes("insert u: 1"))
		p.fails(reverts, api.ErrLock, changes("insert u: 1"))
	}
	p.done(2, "insert into t values (9, 'q')")
	p.shows(1, "select count() from u", "3")
	p.done(1, "update u set b = 0")
	p.shows(1, "select distinct b from u", "0")
	p.refuses(2, api.ErrLock, "select count() from u", "select 1 from u limit 0", "select 1 from t union select b from u", "update u set b = 1", "delete from u where b = 3")
	p.done(1, "commit")
	p.shows(2, "select distinct b from u", "0")
}

func TestP1607Back(t *testing.T) {
	p := some(t)
	p.all(1, "begin", "delete from u where b = 3", "insert into u values (4), (1), (4)", "update u set b = b + 3", "create table v (k int)", "insert into v values (1)")
	was := p.g.Base()
	p.all(2, "begin", "insert into t values (9, 'q')", "update t set a = null where k < 3")
	p.done(2, "rollback")
	p.isSame(was)
	// What others did meanwhile stays.
	p.done(2, "update t set a = 'w' where k = 3")
	p.all(3, "begin", "delete from t where k = 1", "commit")
	p.done(1, "rollback")
	p.stands("t", "2, 'y' | 3, 'w'")
	if d, ok := p.g.Base().Data("u"); !ok || !rel.Bag(d.Rows, [][]Value{values("1"), values("3"), values("3")}) {
		t.Error(short(d))
	}
	if l := p.g.Base().Tables(); !slices.Equal(l, []string{"t", "u"}) {
		t.Error(l)
	}
}

// Rows that are alike, keys that meet on the way, tables that go and come again.
func TestP1607BackOfAll(t *testing.T) {
	steps := []string{
		"update t set k = k + 1", "update t set k = 9 - k", "update u set b = 1", "update u set b = b + 1", "delete from u where b = 2", "insert into u values (2), (2), (null)", "update u set b = null where b = 2", "insert into t values (0, null), (20, 'x ')", "update t set a = null", "delete from t where k % 2 = 0", "drop table t", "create table t (c dec (2), p point)", "insert into t values (1, point(1, 2)), (1.5, null), (1, point(1, 2))", "drop table u", "drop table t", "create table u (k int)", "create table t (k text)", "insert into t values ('x')",
	}
	done := 0
	for from := range steps {
		p := some(t)
		was := p.g.Base()
		for to := from; to < len(steps); to++ {
			p.done(1, "begin")
			for _, s := range steps[from : to+1] {
				if _, e := p.g.Do(1, statement(s)); e == api.OK {
					done++
				}
			}
			p.done(1, "rollback")
			p.isSame(was)
		}
	}
	if done < 500 {
		t.Errorf("only %d were done", done)
	}
}
