package engine_test

import (
	"fmt"
	"strings"
	"testing"

	"longstop/api"
	"longstop/stmt"
)

// oneEach: a statement of each kind that a base does, on what some gives.
var oneEach = []string{"create table v (k int)", "drop table u", "insert into t values (9, 'z')", "update t set k = 7 where k = 1", "delete from t where k = 1", "select * from t"}

func TestP1602WrongSessions(t *testing.T) {
	for _, session := range []int{0, -1, -64, 65, 66, 128, 256 + 1, 1<<32 + 1, least, great} {
		p := some(t)
		p.done(1, "begin")
		p.refuses(session, api.ErrArg, append(oneEach, "begin", "commit", "rollback", "select 1 / 0", "select * from nobody")...)
		if p.g.Open(session) || p.g.Close() != 1 {
			t.Errorf("%d has a transaction", session)
		}
	}
}

func TestP1602EachSession(t *testing.T) {
	p := some(t)
	for session := 1; session <= mostSessions; session++ {
		p.refuses(session, api.ErrSession, "commit", "rollback")
		p.tells(session, "begin", 0, "")
		p.refuses(session, api.ErrSession, "begin")
	}
	for session := mostSessions; session >= 1; session-- {
		if !p.g.Open(session) {
			t.Errorf("%d has none", session)
		}
		p.shows(session, "select b from u where b = 1", "1")
		p.tells(session, []string{"commit", "rollback"}[session%2], 0, "")
		p.refuses(session, api.ErrSession, "commit", "rollback")
	}
}

func TestP1602WithoutText(t *testing.T) {
	p := some(t)
	p.done(2, "begin")
	for _, s := range withoutText() {
		if _, e := stmt.Print(s); e != api.ErrArg {
			t.Fatalf("%s has a text", short(s))
		}
		for _, session := range []int{0, 1, 2, 64, 65} {
			p.refusesStmt(session, api.ErrArg, s)
		}
	}
	// Ahead of a lock that is in the way.
	p.all(2, "update t set k = 9 where k = 1", "create table v (k int)", "drop table u")
	for _, s := range withoutText() {
		p.refusesStmt(1, api.ErrArg, s)
	}
}

func TestP1602Begin(t *testing.T) {
	p := some(t)
	p.refuses(3, api.ErrSession, "commit", "rollback")
	p.tells(3, "begin", 0, "")
	p.refuses(3, api.ErrSession, "begin")
	p.refuses(4, api.ErrSession, "commit", "rollback")
	// Another one's does not count.
	p.tells(4, "begin", 0, "")
	p.tells(3, "insert into u values (7)", 1, "")
	p.refuses(3, api.ErrSession, "begin")
	p.tells(3, "commit", 0, "insert u: 7")
	p.refuses(3, api.ErrSession, "commit", "rollback")
	p.tells(3, "begin", 0, "")
	p.tells(3, "rollback", 0, "")
	p.refuses(3, api.ErrSession, "rollback", "commit")
	if !p.g.Open(4) || p.g.Open(3) {
		t.Error(state(p.g))
	}
}

func TestP1602Commit(t *testing.T) {
	p := some(t)
	p.done(1, "begin")
	for _, c := range []struct {
		s     string
		count int
	}{
		{"insert into t values (5, 'z'), (4, null)", 2}, {"create table v (c text)", 0}, {"update t set k = - k where a is not null", 3}, {"update t set k = k", 5}, {"delete from u where b = 3", 2}, {"delete from u where b = 3", 0}, {"insert into v values ('p'), ('p')", 2}, {"drop table v", 0}, {"drop table u", 0},
	} {
		p.tells(1, c.s, c.count, "")
	}
	p.refuses(1, api.ErrKey, "insert into t values (7, 'q'), (3, 'q')")
	p.tells(1, "commit", 0, "insert t: 5, 'z' | insert t: 4, null | create v: create table v (c text) | update t: 1, 'x' -> -1, 'x' | update t: 2, 'y' -> -2, 'y' | update t: 5, 'z' -> -5, 'z' | delete u: 3 | delete u: 3 | insert v: 'p' | insert v: 'p' | delete v: 'p' | delete v: 'p' | drop v: create table v (c text) | delete u: 1 | drop u: create table u (b int)")
	p.stands("t", "-5, 'z' | -2, 'y' | -1, 'x' | 3, null | 4, null")
	p.free(lockNames...)
	// Each transaction has its own.
	p.all(1, "begin", "insert into t values (9, null)")
	p.tells(1, "commit", 0, "insert t: 9, null")
	p.all(1, "begin", "select * from t")
	p.tells(1, "commit", 0, "")
}

func TestP1602CommitsOfTwo(t *testing.T) {
	p := some(t)
	p.all(1, "begin", "insert into t values (9, 'p')")
	p.all(2, "begin", "insert into u values (8)")
	p.tells(3, "create table v (k int)", 0, "create v: create table v (k int)")
	p.all(1, "delete from t where k = 1")
	p.all(2, "delete from u where b = 1")
	p.tells(3, "insert into v values (1)", 1, "insert v: 1")
	p.tells(2, "commit", 0, "insert u: 8 | delete u: 1")
	p.tells(1, "commit", 0, "insert t: 9, 'p' | delete t: 1, 'x'")
}

func TestP1602Rollback(t *testing.T) {
	p := some(t)
	was := p.g.Base()
	p.all(1, "begin", "insert into t values (5, 'z'), (4, null)", "create table v (c text)", "update t set k = - k where a is not null", "delete from u where b = 3", "insert into v values ('p')", "drop table u", "drop table v")
	p.tells(1, "rollback", 0, "")
	p.isSame(was)
	p.free(lockNames...)
	if p.g.Open(1) {
		t.Error("it has a transaction")
	}
	p.stands("t", "1, 'x' | 2, 'y' | 3, null")
	// Nothing of it is in the next one.
	p.all(1, "begin")
	p.tells(1, "commit", 0, "")
	p.all(1, "begin", "insert into u values (5)", "rollback", "begin", "insert into u values (6)")
	p.tells(1, "commit", 0, "insert u: 6")
}

// Without a transaction a statement stands at once, and nothing is held.
func TestP1602Alone(t *testing.T) {
	for _, s := range oneEach {
		p := some(t)
		b := p.g.Base()
		want, f := b.Do(statement(s))
		r, e := p.g.Do(2, statement(s))
		if e != api.OK || f != api.OK || !alike(r, want) {
			t.Errorf("%s: %s, error %d, not %s", s, short(r), e, short(want))
		}
		p.isSame(b)
		p.free(lockNames...)
		if p.g.Open(2) || p.g.Close() != 0 {
			t.Errorf("%s: a transaction", s)
		}
	}
}

// What the base's Do answers is the answer, in a transaction and without one.
func TestP1602AsTheBase(t *testing.T) {
	for _, s := range append(oneEach, "select t.k, b from t join u on t.k = u.b order by k desc limit 2", "select count() as n, sum(k) from t", "update t set a = 'x'", "update t set k = k + 1", "insert into t values (1, 'q')", "insert into t values (7, 'q'), (8, 'x')", "insert into t values ('x', 'q')", "insert into t (k, k) values (1, 2)", "create table t (k int)", "drop table v", "delete from v", "delete from t where k", "delete from t where 1 / (k - 2) = 1", "select nobody", "select * from v", "select *", "update u set b = 1 / 0", "update u set b = 9223372036854775807 + b", "insert into t values (null, 'q')", "select 1 / 0", "select b from u union select k, a from t") {
		p := some(t)
		p.done(3, "begin")
		b := p.g.Base()
		want, f := b.Do(statement(s))
		if f != api.OK {
			p.refuses(1, f, s)
			p.refuses(3, f, s)
			continue
		}
		r, e := p.g.Do(3, statement(s))
		told := want.Changes
		want.Changes = nil
		if e != api.OK || !alike(r, want) {
			t.Errorf("%s: %s, error %d, not %s", s, short(r), e, short(want))
		}
		p.isSame(b)
		if r, e := p.g.Do(3, statement("commit")); e != api.OK || !alike(r, Result{Changes: told}) {
			t.Errorf("%s: %s, error %d, not %s", s, short(r), e, short(told))
		}
		p.isSame(b)
	}
}

// A statement that was refused holds nothing, and is none of the transaction's.
func TestP1602RefusedHoldNothing(t *testing.T) {
	p := some(t)
	p.done(1, "begin")
	for s, e := range map[string]api.Errno{
		"select nobody from t": api.ErrName, "select * from t, v": api.ErrName, "insert into t values (1, 'q')": api.ErrKey, "update t set k = 1": api.ErrKey, "delete from t where k": api.ErrType, "create table t (k int)": api.ErrThere, "drop table v": api.ErrName, "create table u (b int)": api.ErrThere, "insert into v values (1)": api.ErrName, "delete from v": api.ErrName, "begin": api.ErrSession, "update u set b = 1 / 0": api.ErrZero,
	} {
		p.refuses(1, e, s)
		p.free(lockNames...)
	}
	p.tells(2, "insert into t values (9, 'q')", 1, "insert t: 9, 'q'")
	p.tells(1, "commit", 0, "")
}

// uses: which locks a statement in a transaction comes to hold.
type uses struct {
	s             string
	reads, writes string
}

// allUses: of each kind, "-" being the list of tables.
var allUses = []uses{
	{"create table v (k int)", "", "v -"},
	{"drop table t", "", "t -"},
	{"insert into t values (9, 'q')", "", "t"},
	{"insert into u (b) values (length('abc')), (2)", "", "u"},
	{"update t set a = null", "t", "t"},
	{"update t set a = null where k = 1", "t", "t"},
	{"update u set b = 1", "u", "u"},
	{"update t set a = null where false", "t", "t"},
	{"update u set b = b", "u", "u"},
	{"delete from t", "", "t"},
	{"delete from t where k = 1", "t", "t"},
	{"delete from t where false", "t", "t"},
	{"delete from u where true", "u", "u"},
	{"select 1", "", ""},
	{"select 1 + 1 as t", "", ""},
	{"select * from t", "t", ""},
	{"select 1 from t where false", "t", ""},
	{"select u.k from t as u", "t", ""},
	{"select * from t, u", "t u", ""},
	{"select * from u join t on t.k = b", "t u", ""},
	{"select * from u left join t on t.k = b", "t u", ""},
	{"select * from t, t as u", "t", ""},
	{"select k from t union select b from u", "t u", ""},
	{"select 1 union all select b from u", "u", ""},
	{"select count() from t having false", "t", ""},
	{"select b from u limit 0", "u", ""},
	{"select b from u order by b", "u", ""},
}

func names(s string) []string {
	l := strings.Fields(s)
	for i := range l {
		if l[i] == "-" {
			l[i] = theList
		}
	}
	return l
}

func TestP1602Holds(t *testing.T) {
	for _, c := range allUses {
		for _, session := range []int{1, 2, 64} {
			p := some(t)
			p.all(session, "begin", c.s)
			p.holdsUses(session, c)
			p.done(session, "commit")
			p.free(lockNames...)
			p = some(t)
			p.all(session, "begin", c.s, "rollback")
			p.free(lockNames...)
			p = some(t)
			p.all(session, c.s)
			p.free(lockNames...)
		}
	}
}

// holdsUses complains unless the session holds the locks of one statement, and
// nobody any other one.
func (p *play) holdsUses(session int, c uses) {
	p.t.Helper()
	for _, name := range lockNames {
		var readers []int
		writer := 0
		if contains(names(c.reads), name) {
			readers = []int{session}
		}
		if contains(names(c.writes), name) {
			writer = session
		}
		if r, w := p.g.Locks(name); fmt.Sprint(r, w) != fmt.Sprint(readers, writer) {
			p.t.Fatalf("%s: %q: %d, %d, not %d, %d", c.s, name, r, w, readers, writer)
		}
	}
}

func contains(l []string, name string) bool {
	for _, x := range l {
		if x == name {
			return true
		}
	}
	return false
}

func meet(a, b string) bool {
	for _, name := range names(a) {
		if contains(names(b), name) {
			return true
		}
	}
	return false
}

// Each kind behind each other one: a write lock is in the way of both, a read
// lock of writing. One's own are in nobody's way.
func TestP1602Locks(t *testing.T) {
	barred, free := 0, 0
	for _, first := range allUses {
		for _, next := range allUses {
			inTheWay := meet(first.writes, next.reads) || meet(first.writes, next.writes) || meet(first.reads, next.writes)
			for _, session := range []int{6, 8} {
				p := some(t)
				p.all(7, "begin", first.s)
				if !inTheWay {
					if _, e := p.g.Do(session, statement(next.s)); e == api.ErrLock {
						t.Fatalf("%s; %s: error %d", first.s, next.s, e)
					}
					free++
					continue
				}
				p.refuses(session, api.ErrLock, next.s)
				p.done(session, "begin")
				p.refuses(session, api.ErrLock, next.s)
				barred++
			}
			p := some(t)
			p.all(7, "begin", first.s)
			if _, e := p.g.Do(7, statement(next.s)); e == api.ErrLock {
				t.Fatalf("%s; %s: its own lock is in its way", first.s, next.s)
			}
		}
	}
	if barred < 300 || free < 300 {
		t.Error(barred, free)
	}
}

// Of several sessions' locks each one counts, and of several tables each one.
func TestP1602LocksOfSeveral(t *testing.T) {
	p := some(t)
	p.done(1, "create table v (c int)")
	p.all(1, "begin", "select * from t")
	p.all(2, "begin", "select * from t, u")
	p.all(3, "begin", "insert into v values (1)")
	p.refuses(1, api.ErrLock, "insert into t values (9, 'q')", "delete from t", "update t set k = 9 where k = 1", "drop table t", "insert into u values (1)", "drop table u", "select * from v", "select * from t, u, v", "select 1 union select k from t union select c from v", "insert into v values (2)", "delete from v", "drop table v")
	p.refuses(4, api.ErrLock, "insert into t values (9, 'q')", "delete from u", "select c from v", "update v set c = 1")
	p.shows(4, "select b from t, u where t.k = b and b = 1", "1")
	p.tells(4, "create table w (k int)", 0, "create w: create table w (k int)")
	p.done(1, "commit")
	p.refuses(2, api.ErrLock, "select * from v")
	p.tells(2, "insert into t values (9, 'q')", 1, "")
	p.tells(2, "delete from t where k = 9", 1, "")
	p.holds("t", 2, 2)
	p.holds("u", 0, 2)
	p.refuses(1, api.ErrLock, "select * from t", "insert into u values (1)")
	p.shows(1, "select b from u where b = 1", "1")
	p.done(3, "rollback")
	p.shows(2, "select * from t, v", "")
	p.tells(2, "commit", 0, "insert t: 9, 'q' | delete t: 9, 'q'")
	p.tells(1, "drop table t", 0, "delete t: 1, 'x' | delete t: 2, 'y' | delete t: 3, null | drop t: create table t (k int, a text, primary key (k), unique (a))")
}

// Creating and dropping are in one another's way, whatever the tables are.
func TestP1602ListOfTables(t *testing.T) {
	for _, first := range []string{"create table v (k int)", "drop table u"} {
		p := some(t)
		p.all(5, "begin", first)
		p.holds(theList, 5)
		p.refuses(4, api.ErrLock, "create table w (k int)", "drop table t", "create table t (k int)", "drop table nobody")
		p.tells(4, "insert into t values (9, 'q')", 1, "insert t: 9, 'q'")
		p.shows(4, "select k from t where k = 9", "9")
		p.done(5, "create table w (k int)")
		p.done(5, "rollback")
		p.done(4, "create table w (k int)")
	}
}

// A table that a transaction dropped, and one that it made, are its own.
func TestP1602TablesOfTransactions(t *testing.T) {
	p := some(t)
	p.all(1, "begin", "drop table u")
	p.refuses(2, api.ErrLock, "select * from u", "insert into u values (1)", "delete from u", "create table u (b int)", "drop table u")
	p.refuses(1, api.ErrName, "select * from u")
	p.done(1, "create table u (c text)")
	p.done(1, "insert into u values ('p')")
	p.refuses(2, api.ErrLock, "select * from u")
	p.holds("u", 1)
	p.done(1, "select * from u")
	p.holds("u", 1, 1)
	p.done(1, "rollback")
	p.shows(2, "select b from u where b = 1", "1")
	p.refuses(2, api.ErrName, "select c from u")
}

// A lock is told ahead of whatever the base says.
func TestP1602LocksAhead(t *testing.T) {
	p := some(t)
	p.all(1, "begin", "insert into t values (9, 'q')", "create table v (k int)")
	p.refuses(2, api.ErrLock, "insert into t values (9, 'q')", "insert into t (nobody) values (1)", "select nobody from t", "select 1 / 0 from t", "delete from t where 7", "update t set nobody = 1", "create table t (k int)", "create table u (k int)", "drop table nobody", "select * from nobody, t", "select * from t, t", "create table v (k int)")
	// What the base alone is asked about goes there.
	p.refuses(2, api.ErrName, "select * from nobody", "select nobody from u", "insert into nobody values (1)", "delete from nobody")
	p.refuses(2, api.ErrZero, "select 1 / 0")
	// A transaction's own faults go ahead of nothing of others'.
	p.refuses(1, api.ErrKey, "insert into t values (9, 'w')")
	p.refuses(2, api.ErrSession, "commit", "rollback")
	p.refuses(1, api.ErrSession, "begin")
}

// Names that begin alike are tables of their own.
func TestP1602NamesAlike(t *testing.T) {
	p := begun(t, "create table t (k int)", "create table tt (k int)", "create table t_t (k int)")
	p.all(1, "begin", "insert into tt values (1)")
	p.done(2, "select * from t, t_t")
	p.done(2, "insert into t values (1)")
	p.refuses(2, api.ErrLock, "select * from t, t_t, tt", "delete from tt")
	// An alias locks nothing.
	p.done(2, "select * from t as u, t_t as tt")
	p.all(3, "begin", "select * from t as t_t")
	p.done(2, "insert into t_t values (1)")
	p.refuses(2, api.ErrLock, "insert into t values (2)")
}

// A transaction sees what it did; when it is committed all others do.
func TestP1602Seen(t *testing.T) {
	p := some(t)
	p.all(1, "begin", "insert into u values (7)", "update u set b = b + 1 where b > 1")
	p.shows(1, "select b from u", "4 | 1 | 4 | 8")
	p.refuses(2, api.ErrLock, "select b from u")
	p.done(1, "commit")
	p.shows(2, "select b from u", "4 | 1 | 4 | 8")
	p.all(2, "begin", "delete from u where b = 4")
	p.shows(2, "select b from u", "1 | 8")
	p.done(2, "rollback")
	p.shows(1, "select distinct b from u order by b", "1 | 4 | 8")
}

// What limits say holds of what transactions did.
func TestP1602Limits(t *testing.T) {
	p := begun(t)
	p.done(1, "begin")
	for i := range api.MaxTables {
		p.done(1, fmt.Sprintf("create table t%d (k int)", i))
	}
	p.refuses(1, api.ErrSize, "create table u (k int)")
	p.refuses(2, api.ErrLock, "create table u (k int)")
	p.done(1, "drop table t3")
	p.refuses(2, api.ErrLock, "create table u (k int)", "create table t3 (k int)")
	p.done(1, "commit")
	p.done(2, "create table u (k int)")
	p.refuses(1, api.ErrSize, "create table t3 (k int)")
	// What is taken back has its room again.
	p.all(1, "begin", "drop table u", "create table t3 (k int)", "rollback")
	if l := p.g.Base().Tables(); len(l) != api.MaxTables || !contains(l, "u") {
		t.Error(l)
	}
}

func TestP1602FullTables(t *testing.T) {
	p := begun(t, "create table t (k int, primary key (k))", "create table u (k int)")
	for i := 0; i < api.MaxRows; i += 64 {
		var l []string
		for j := range 64 {
			l = append(l, fmt.Sprintf("(%d)", i+j))
		}
		rows := strings.Join(l, ", ")
		p.all(1, "insert into t values "+rows, "insert into u values "+rows)
	}
	was := p.g.Base()
	p.refuses(1, api.ErrRows, "insert into t values (- 1)", "insert into u values (1)")
	p.all(1, "begin", "delete from t where k % 2 = 0", "update t set k = k - 1", "insert into t values (1), (3)", "update u set k = 7", "delete from u", "insert into u values (7)", "rollback")
	p.isSame(was)
	p.refuses(1, api.ErrRows, "insert into t values (- 1)", "insert into u values (1)")
	p.all(1, "begin", "drop table u", "create table u (k int, primary key (k))", "insert into u values (1)", "drop table t", "rollback")
	p.isSame(was)
	p.all(1, "begin", "update t set k = k + 1")
	if r := p.done(1, "commit"); len(r.Changes) != api.MaxRows {
		t.Error(len(r.Changes))
	}
}
