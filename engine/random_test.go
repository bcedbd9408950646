package engine_test

import (
	"fmt"
	"math/rand"
	"slices"
	"strings"
	"testing"

	"longstop/api"
	"longstop/base"
	"longstop/engine"
	"longstop/stmt"
)

// tableNames: those that random statements are about.
var tableNames = []string{"t", "u", "v", "w"}

// maker makes up statements. All tables have the columns k and a.
type maker struct{ *rand.Rand }

func (m maker) one(l ...string) string { return pick(m.Rand, l...) }

func (m maker) value() string {
	return m.one("0", "1", "2", "3", "4", "5", "6", "7", "- 1", "null", "1 + 1", "'x'", "1 / 0")
}

func (m maker) where() string {
	return m.one("", "", " where k = "+m.value(), " where a > 2", " where k < a", " where false", " where a is null", " where nobody")
}

// line makes up one that is not about transactions.
func (m maker) line() line {
	name := m.one(tableNames...)
	switch n := m.Intn(100); {
	case n < 9:
		key := m.one(", primary key (k)", ", primary key (k)", "", ", unique (a)", ", primary key (k), unique (a), check (k <> 6)")
		return line{"create table " + name + " (k int, a int" + key + ")", nil, []string{name, theList}}
	case n < 12:
		return line{"drop table " + name, nil, []string{name, theList}}
	case n < 45:
		var rows []string
		for range 1 + m.Intn(3) {
			rows = append(rows, "("+m.value()+", "+m.value()+")")
		}
		return line{"insert into " + name + m.one("", " (k, a)", " (a, k)") + " values " + strings.Join(rows, ", "), nil, []string{name}}
	case n < 60:
		set := m.one("k = k + 1", "a = k", "k = 7 - k", "a = null", "k = k", "a = a + 1, k = - k", "nobody = 1", "k = 3")
		return line{"update " + name + " set " + set + m.where(), []string{name}, []string{name}}
	case n < 72:
		x := line{"delete from " + name + m.where(), nil, []string{name}}
		if strings.Contains(x.s, "where") {
			x.reads = []string{name}
		}
		return x
	}
	return m.look(name)
}

// look makes up a select that reads the table, and perhaps others.
func (m maker) look(name string) line {
	other := m.one(tableNames...)
	both := []string{name}
	if other != name {
		both = append(both, other)
	}
	switch m.Intn(8) {
	case 0:
		return line{"select 1 + " + m.value(), nil, nil}
	case 1:
		return line{"select * from " + name + " as x, " + other + " as y", both, nil}
	case 2:
		return line{"select x.k, y.a from " + name + " as x left join " + other + " as y on x.k = y.k", both, nil}
	case 3:
		return line{"select k from " + name + m.where() + " union select a from " + other, both, nil}
	case 4:
		return line{"select a, count() from " + name + m.where() + " group by a order by a", both[:1], nil}
	}
	return line{"select * from " + name + m.where(), both[:1], nil}
}

// any makes up one of all.
func (m maker) any() line {
	switch n := m.Intn(100); {
	case n < 12:
		return line{s: "begin"}
	case n < 19:
		return line{s: "commit"}
	case n < 23:
		return line{s: "rollback"}
	}
	return m.line()
}

// changes makes up some that the base can mostly do.
func (m maker) changes(b *Base) []Change {
	var l []Change
	for range m.Intn(4) {
		x := m.line()
		if r, e := b.Do(statement(x.s)); e == api.OK {
			l = append(l, r.Changes...)
		}
	}
	if len(l) > 0 && m.Intn(8) == 0 {
		i := m.Intn(len(l))
		l[i] = pick(m.Rand, Change{}, Change{Table: l[i].Table}, Change{Kind: base.Create, Table: m.one(tableNames...)}, Change{Kind: base.Delete, Table: m.one(tableNames...), Old: values("1, 1")}, l[0])
	}
	return l
}

// twins is an engine and the teller: each call is asked of both.
type twins struct {
	*play
	u *teller
	// How often each error was answered, and OK.
	counts map[Errno]int
}

func newTwins(t *testing.T) *twins { return &twins{begun(t), newTeller(), map[Errno]int{}} }

func (p *twins) do(session int, x line) (Result, Errno) {
	p.t.Helper()
	r, e := p.g.Do(session, statement(x.s))
	want, f := p.u.do(session, x)
	if e != f || !alike(r, want) {
		p.t.Fatalf("%d %s: %s, error %d, not %s, %d", session, x.s, short(r), e, short(want), f)
	}
	p.counts[e]++
	if k := statement(x.s).Kind; k < stmt.Begin {
		if l := engine.Reads(statement(x.s)); !slices.Equal(l, x.reads) {
			p.t.Fatalf("%s: %q, not %q", x.s, l, x.reads)
		}
	}
	return r, e
}

func (p *twins) bring(l []Change, back bool) Errno {
	p.t.Helper()
	c, do := applies, (*Base).Redo
	if back {
		c, do = reverts, (*Base).Undo
	}
	e, f := c(p.g, l), p.u.bring(l, do)
	if e != f {
		p.t.Fatalf("%s, %v: error %d, not %d", printedChanges(l), back, e, f)
	}
	p.counts[e]++
	return e
}

// same complains unless all looks tell what the teller does.
func (p *twins) same() {
	p.t.Helper()
	for session := range p.u.open {
		if p.g.Open(session) != p.u.open[session] {
			p.t.Fatalf("%d: not %v", session, p.u.open[session])
		}
	}
	for _, name := range append(tableNames, theList, "x") {
		readers, writer := p.g.Locks(name)
		if r, w := p.u.locks(name); !slices.Equal(r, readers) || w != writer {
			p.t.Fatalf("%q: %d, %d, not %d, %d", name, readers, writer, r, w)
		}
	}
	if got, want := baseState(p.g.Base()), baseState(p.u.b); got != want {
		p.t.Fatalf("%s, not %s", got, want)
	}
}

// Random calls are held against the teller.
func TestP1602Random(t *testing.T) {
	counts := map[Errno]int{}
	for seed := range 250 {
		m := maker{rand.New(rand.NewSource(int64(seed)))}
		p := newTwins(t)
		p.counts = counts
		sessions := []int{1, 2, 3, mostSessions}[:2+m.Intn(3)]
		var told [][]Change
		for range 150 {
			switch n := m.Intn(100); {
			case n < 1:
				if got, want := p.g.Close(), p.u.close(); got != want {
					t.Fatalf("Close: %d, not %d", got, want)
				}
			case n < 6:
				if l := m.changes(p.g.Base()); p.bring(l, false) == api.OK {
					told = append(told, l)
				}
			case n < 10 && len(told) > 0:
				if i := len(told) - 1 - m.Intn(min(2, len(told))); p.bring(told[i], true) == api.OK {
					told = slices.Delete(told, i, i+1)
				}
			case n < 11:
				p.do(pick(m.Rand, 0, -1, 65, least, great), m.any())
			default:
				if r, e := p.do(pick(m.Rand, sessions...), m.any()); e == api.OK && len(r.Changes) > 0 {
					told = append(told, r.Changes)
				}
			}
			p.same()
		}
	}
	for e, least := range map[Errno]int{api.OK: 8000, api.ErrArg: 100, api.ErrLock: 2000, api.ErrSession: 1000, api.ErrName: 1000, api.ErrThere: 100, api.ErrKey: 100, api.ErrNone: 5, api.ErrType: 100, api.ErrZero: 100} {
		if counts[e] < least {
			t.Errorf("error %d: only %d times", e, counts[e])
		}
	}
}

// Many sessions, each with a transaction most of the time.
func TestP1604RandomManySessions(t *testing.T) {
	for seed := range 10 {
		m := maker{rand.New(rand.NewSource(int64(seed)))}
		p := newTwins(t)
		for i, name := range tableNames {
			p.do(1, line{fmt.Sprintf("create table %s (k int, a int)", name), nil, []string{name, theList}})
			p.do(1, line{fmt.Sprintf("insert into %s values (%d, 2), (3, null)", name, i), nil, []string{name}})
		}
		for n := range 600 {
			x := m.look(m.one(tableNames...))
			switch {
			case m.Intn(3) == 0:
				x = line{s: "begin"}
			case m.Intn(4) == 0:
				x = m.line()
			case m.Intn(10) == 0:
				x = line{s: m.one("commit", "rollback")}
			}
			p.do(1+m.Intn(mostSessions), x)
			if n%10 == 0 {
				p.same()
			}
		}
		if got, want := p.g.Close(), p.u.close(); got != want || got < 20 {
			t.Fatalf("Close: %d, not %d", got, want)
		}
		p.same()
	}
}
