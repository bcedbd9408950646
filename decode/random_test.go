package decode_test

import (
	"fmt"
	"math/rand"
	"slices"
	"strings"
	"testing"

	"longstop/api"
	"longstop/base"
	"longstop/decode"
	"longstop/rel"
)

var kindWords = map[string]string{"a": "int", "b": "int", "c": "dec (1)", "s": "text", "f": "bool", "p": "point"}

// maker makes statements' texts, most of which are done, changes of them, and
// publications.
type maker struct {
	*rand.Rand
	b *Base
}

func (m *maker) one(l ...string) string { return pick(m.Rand, l...) }

func (m *maker) chance(percent int) bool { return m.Intn(100) < percent }

// name gives that of a table, mostly of one that there is.
func (m *maker) name() string {
	if l := m.b.Tables(); len(l) > 0 && m.chance(95) {
		return m.one(l...)
	}
	return m.one("t", "u", "v")
}

// columns gives those of a table, or some that there are not.
func (m *maker) columns(name string) []string {
	d, there := m.b.Data(name)
	if !there {
		return []string{"a", "s"}
	}
	var l []string
	for _, c := range d.Table.Columns {
		l = append(l, c.Name)
	}
	return l
}

// some gives at least so many of l, in some order.
func (m *maker) some(l []string, fewest int) []string {
	var out []string
	for _, i := range m.Perm(len(l))[:min(len(l), fewest+m.Intn(len(l)+1))] {
		out = append(out, l[i])
	}
	return out
}

// few gives one or two of l.
func (m *maker) few(l []string) []string {
	out := m.some(l, 1)
	return out[:min(len(out), 1+m.Intn(2))]
}

func (m *maker) statement() string {
	name := m.name()
	switch n := m.Intn(100); {
	case n < 5 || len(m.b.Tables()) == 0:
		return m.create(m.one("t", "u", "v"))
	case n < 8:
		return "drop table " + name
	case n < 50:
		return m.insert(name)
	case n < 85:
		return m.update(name)
	}
	return "delete from " + name + m.where(name)
}

func (m *maker) create(name string) string {
	columns := m.some([]string{"a", "b", "c", "s", "f", "p"}, 2)
	var l []string
	for _, c := range columns {
		l = append(l, c+" "+kindWords[c]+m.one("", "", "", "", " not null"))
	}
	if m.chance(60) {
		l = append(l, "primary key ("+strings.Join(m.few(columns), ", ")+")")
	} else if m.chance(30) {
		l = append(l, "primary key ("+strings.Join(m.some(columns, 2), ", ")+")")
	}
	if m.chance(20) {
		l = append(l, "unique ("+strings.Join(m.some(columns, 1), ", ")+")")
	}
	if m.chance(20) {
		l = append(l, "check ("+name+"."+columns[0]+" is not null or "+columns[1]+" is null)")
	}
	return "create table " + name + " (" + strings.Join(l, ", ") + ")"
}

func (m *maker) value(column string) string {
	if m.chance(10) {
		return "null"
	}
	switch kindWords[column] {
	case "int":
		return m.one("0", "1", "2", "3", "4", "- 1")
	case "dec (1)":
		return m.one("0", "1", "2.5", "0.5", "3", "- 1.5")
	case "text":
		return m.one("''", "'a'", "'b'", "'c'", "'it''s'")
	case "bool":
		return m.one("true", "false")
	}
	return m.one("point(0, 1)", "point(1, 0)", "point(1, 2)")
}

func (m *maker) insert(name string) string {
	columns := m.columns(name)
	var rows []string
	for range 1 + m.Intn(3) {
		var l []string
		for _, c := range columns {
			l = append(l, m.value(c))
		}
		rows = append(rows, "("+strings.Join(l, ", ")+")")
	}
	return "insert into " + name + " values " + strings.Join(rows, ", ")
}

func (m *maker) update(name string) string {
	columns := m.columns(name)
	var sets []string
	for _, c := range m.few(columns) {
		v := m.value(c)
		if m.chance(50) {
			v = map[string]string{"int": m.one(c+" + 1", "3 - "+c, c+" - 1"), "dec (1)": m.one(c+" + 0.5", "2 - "+c), "text": m.one(c+" + 'a'", c), "bool": "not " + c, "point": "- " + c}[kindWords[c]]
		}
		sets = append(sets, c+" = "+v)
	}
	return "update " + name + " set " + strings.Join(sets, ", ") + m.where(name)
}

func (m *maker) where(name string) string {
	if m.chance(30) {
		return ""
	}
	return " where " + m.condition(name, m.columns(name))
}

func (m *maker) condition(name string, columns []string) string {
	c := m.one(columns...)
	return m.one(c+" = "+m.value(c), c+" > "+m.value(c), name+"."+c+" <= "+m.value(c), c+" is null", c+" is not null", "not ("+c+" = "+m.value(c)+")")
}

// changes gives the changes of some statements, done one behind the other.
func (m *maker) changes(count int) []Change {
	ahead := maker{m.Rand, m.b.Clone()}
	var l []Change
	for range count {
		r, _ := ahead.b.Do(statement(ahead.statement()))
		l = append(l, r.Changes...)
	}
	return l
}

// spoiled gives the changes with one thing otherwise, so that they often can't
// be done.
func (m *maker) spoiled(l []Change) []Change {
	l = copied(l)
	if len(l) == 0 {
		return l
	}
	i := m.Intn(len(l))
	x := &l[i]
	switch m.Intn(7) {
	case 0:
		l = slices.Delete(l, i, i+1)
	case 1:
		l = slices.Insert(l, m.Intn(len(l)+1), copied(*x))
	case 2:
		m.Shuffle(len(l), func(i, j int) { l[i], l[j] = l[j], l[i] })
	case 3:
		x.Kind = m.Intn(7)
	case 4:
		x.Table = m.one("t", "u", "v", "x", "", "T")
	case 5:
		x.Old, x.Now = x.Now, x.Old
	case 6:
		x.Old, x.Now = x.Now, slices.Clone(x.Now)
	}
	return l
}

// publication gives one that mostly shows what there is.
func (m *maker) publication() Publication {
	p := Publication{Name: m.one("p", "t", "_")}
	for _, name := range m.some([]string{"t", "u", "v", "w"}, 1) {
		columns := m.columns(name)
		in := Part{Table: name}
		if m.chance(70) {
			in.Columns = m.some(columns, 1)
		}
		if m.chance(50) {
			in.Where = nodes(m.condition(name, columns))
		}
		if m.chance(18) {
			c := m.one(columns...)
			in.Where = nodes(m.one("1 / "+c+" < 1", "1 / ("+c+" - 1) < 1", c, c+" > 0", "nobody = 1", "1 / (b - 2) < 1", "a + 9223372036854775804 > 0", "length(s) < 1", "abs(c) > 1"))
		}
		if m.chance(3) {
			in.Columns = append(slices.Clone(columns), "nobody")
		}
		if m.chance(1) {
			in.Columns = append(slices.Clone(columns), columns[0])
		}
		p.Parts = append(p.Parts, in)
	}
	if m.chance(1) {
		p.Parts = append(p.Parts, p.Parts[0])
	}
	return p
}

// grown gives a maker over a base in which some statements were done.
func grown(seed, count int) *maker {
	m := &maker{rand.New(rand.NewSource(int64(seed))), base.New()}
	for range count {
		m.b.Do(statement(m.statement()))
	}
	return m
}

func enough(t *testing.T, count, least map[string]int) {
	t.Helper()
	for key, n := range least {
		if count[key] < n {
			t.Errorf("%s: %d times only", key, count[key])
		}
	}
}

// TestP1702Random and the next ones hold the calls against the chapter told a
// second time.
func TestP1702Random(t *testing.T) {
	count := map[string]int{}
	for seed := range 400 {
		m := grown(seed, 10)
		for range 20 {
			p := m.publication()
			if decode.Right(p) != toldRight(p) {
				t.Fatalf("Right of %s: %v", printedPublication(p), !toldRight(p))
			}
			in := pick(m.Rand, p.Parts...)
			d, _ := m.b.Data(m.name())
			if m.chance(70) {
				d, _ = m.b.Data(in.Table)
			}
			got, e := decode.Shape(in, d.Table)
			want, f := toldShape(in, d.Table)
			if e != f || !alike(got, want) {
				t.Fatalf("Shape of %s, %s: %s, %d, not %s, %d", printedPart(in), printedTable(d.Table), printedTable(got), e, printedTable(want), f)
			}
			word := "whole"
			if len(d.Table.Key) != len(got.Key) {
				word = "without its key"
			}
			count[fmt.Sprint(e, " ", word)]++
		}
	}
	enough(t, count, map[string]int{"0 whole": 1000, "0 without its key": 300, "1 whole": 500, "34 whole": 15})
}

func TestP1703Random(t *testing.T) {
	count := map[string]int{}
	for seed := range 400 {
		m := grown(10000+seed, 40)
		for range 10 {
			p := m.publication()
			was := state(m.b)
			got, e := decode.Project(p, m.b)
			want, f := toldProject(p, m.b)
			if e != f || state(got) != state(want) || (got == nil) != (want == nil) {
				t.Fatalf("Project of %s of %s: %s, %d, not %s, %d", printedPublication(p), was, state(got), e, state(want), f)
			}
			if state(m.b) != was {
				t.Fatalf("Project of %s made of %s: %s", printedPublication(p), was, state(m.b))
			}
			count[fmt.Sprint(e)]++
		}
	}
	enough(t, count, map[string]int{"0": 2000, "1": 50, "31": 50, "32": 5, "33": 20, "34": 60})
}

func TestP1704Random(t *testing.T) {
	count := map[string]int{}
	for seed := range 900 {
		m := grown(20000+seed, 30)
		for range 8 {
			p := m.publication()
			l := m.changes(1 + m.Intn(4))
			if m.chance(15) {
				l = m.spoiled(l)
			}
			was := state(m.b)
			got, e := decode.Decode(p, m.b, l)
			want, f := toldDecode(p, m.b, l)
			if e != f || !alike(got, want) {
				t.Fatalf("Decode of %s by %s on %s: %s, %d, not %s, %d", printedChanges(l), printedPublication(p), was, printedChanges(got), e, printedChanges(want), f)
			}
			if state(m.b) != was {
				t.Fatalf("Decode of %s made of %s: %s", printedChanges(l), was, state(m.b))
			}
			count[fmt.Sprint(e)]++
			for _, x := range got {
				count[changeWords[x.Kind]]++
			}
		}
	}
	enough(t, count, map[string]int{"0": 3500, "1": 150, "3": 20, "4": 2, "31": 20, "32": 1, "33": 10, "34": 100, "36": 5, "40": 150, "create": 100, "drop": 50, "insert": 2000, "update": 500, "delete": 500})
}

// TestP1705Random: what is shown behind the changes is what was shown ahead of
// them, with the decoded changes done.
func TestP1705Random(t *testing.T) {
	count := map[string]int{}
	for seed := range 900 {
		m := grown(30000+seed, 30)
		for range 8 {
			p := m.publication()
			l := m.changes(1 + m.Intn(6))
			got, e := decode.Decode(p, m.b, l)
			if e != api.OK {
				continue
			}
			behind := m.b.Clone()
			if e := behind.Redo(l); e != api.OK {
				t.Fatal(e)
			}
			shown, e := decode.Project(p, m.b)
			next, f := decode.Project(p, behind)
			if e != f {
				t.Fatalf("Project of %s: errors %d and %d ahead of and behind %s", printedPublication(p), e, f, printedChanges(l))
			}
			count[fmt.Sprint(e, " ", len(got) > 0)]++
			if e != api.OK {
				continue
			}
			if e := shown.Redo(got); e != api.OK || !shown.Same(next) || !sameBags(shown, next) {
				t.Fatalf("%s of %s, that is %s, made: %s, error %d, not %s", printedChanges(l), printedPublication(p), printedChanges(got), state(shown), e, state(next))
			}
		}
	}
	enough(t, count, map[string]int{"0 true": 1500, "0 false": 500, "33 false": 3, "34 false": 3, "31 false": 3})
}

// sameBags is Same, told by the looks of the bases.
func sameBags(a, b *Base) bool {
	if !slices.Equal(a.Tables(), b.Tables()) {
		return false
	}
	for _, name := range a.Tables() {
		c, _ := a.Data(name)
		d, _ := b.Data(name)
		if !alike(c.Table, d.Table) || !rel.Bag(c.Rows, d.Rows) {
			return false
		}
	}
	return true
}

// TestP1706Random: changes in pieces are decoded as all at once, each piece on
// what those ahead of it made.
func TestP1706Random(t *testing.T) {
	count := map[string]int{}
	for seed := range 700 {
		m := grown(40000+seed, 30)
		for range 4 {
			p := m.publication()
			b := m.b.Clone()
			var all, pieces []Change
			worst := api.OK
			for range 1 + m.Intn(5) {
				r, _ := b.Clone().Do(statement((&maker{m.Rand, b}).statement()))
				got, e := decode.Decode(p, b, r.Changes)
				if e != api.OK && worst != api.OK && e != worst {
					break // which one comes first is another promise's
				}
				worst = max(worst, e)
				pieces = append(pieces, got...)
				all = append(all, r.Changes...)
				if e := b.Redo(r.Changes); e != api.OK {
					t.Fatal(e)
				}
			}
			if worst != api.OK {
				pieces = nil
			}
			got, e := decode.Decode(p, m.b, all)
			if e != worst || !alike(got, pieces) {
				t.Fatalf("Decode of %s by %s: %s, %d, in pieces %s, %d", printedChanges(all), printedPublication(p), printedChanges(got), e, printedChanges(pieces), worst)
			}
			count[fmt.Sprint(e, " ", len(got) > 0)]++
		}
	}
	enough(t, count, map[string]int{"0 true": 500, "0 false": 200, "40 false": 100, "34 false": 50})
}

// Pieces of any size, as long as each can be done.
func TestP1706Cuts(t *testing.T) {
	b := some(t)
	behind := b.Clone()
	var l []Change
	for _, s := range []string{"insert into t values (4, 40, 'd'), (5, 5, 'e')", "update t set a = a + 6", "create table v (a int, primary key (a))", "insert into v values (1), (2)", "update t set k = k + 10 where k > 1", "delete from u where b = 3", "update v set a = 7 - a where a = 2", "drop table v", "create table v (b int)", "insert into v values (1)", "delete from t where c is null or c = 'y'", "drop table t"} {
		r, e := behind.Do(statement(s))
		if e != api.OK {
			t.Fatal(s, e)
		}
		l = append(l, r.Changes...)
	}
	p := published("t (c, k) where a > 15; v; u (s)")
	whole, e := decode.Decode(p, b, l)
	if e != api.OK || len(whole) < 15 {
		t.Fatal(printedChanges(whole), e)
	}
	done := 0
	for i := range len(l) + 1 {
		for j := i; j <= len(l); j++ {
			c := b.Clone()
			var pieces []Change
			ok := true
			for _, piece := range [][]Change{l[:i], l[i:j], l[j:]} {
				got, e := decode.Decode(p, c, piece)
				ok = ok && e == api.OK && c.Redo(piece) == api.OK
				pieces = append(pieces, got...)
			}
			if !ok {
				continue
			}
			done++
			if !alike(pieces, whole) {
				t.Fatalf("%d, %d: %s, not %s", i, j, printedChanges(pieces), printedChanges(whole))
			}
		}
	}
	if done < 200 {
		t.Error(done, "cuts only")
	}
}
