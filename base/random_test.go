package base_test

import (
	"bytes"
	"fmt"
	"math/rand"
	"slices"
	"strings"
	"testing"

	"longstop/api"
	"longstop/base"
	"longstop/schema"
)

var kindWords = map[string]string{"a": "int", "b": "int", "c": "dec (1)", "s": "text", "f": "bool", "p": "point"}

// maker makes statements' texts, most of which are done, and changes.
type maker struct {
	*rand.Rand
	b *Base
}

func (m *maker) one(l ...string) string { return pick(m.Rand, l...) }

func (m *maker) chance(percent int) bool { return m.Intn(100) < percent }

// name gives that of a table, mostly of one that there is.
func (m *maker) name() string {
	if l := m.b.Tables(); len(l) > 0 && m.chance(90) {
		return m.one(l...)
	}
	return m.one("t", "u", "v", "w")
}

// columns gives those of a table, or some that there are not.
func (m *maker) columns(name string) []string {
	d, ok := m.b.Data(name)
	if !ok || m.chance(1) {
		return []string{"a", "s"}
	}
	var l []string
	for _, c := range d.Table.Columns {
		l = append(l, c.Name)
	}
	return l
}

func (m *maker) some(l []string, fewest int) []string {
	var out []string
	for _, i := range m.Perm(len(l))[:min(len(l), fewest+m.Intn(len(l)+1))] {
		out = append(out, l[i])
	}
	return out
}

func (m *maker) statement() string {
	name := m.name()
	switch n := m.Intn(100); {
	case n < 8 || len(m.b.Tables()) == 0:
		return m.create(m.one("t", "u", "v", "w"))
	case n < 12:
		return "drop table " + name
	case n < 55:
		return m.insert(name)
	case n < 80:
		return m.update(name)
	case n < 92:
		return "delete from " + name + m.where(name)
	case n < 99:
		return "select * from " + name + m.where(name)
	}
	return m.one("begin", "commit", "rollback")
}

func (m *maker) create(name string) string {
	columns := m.some([]string{"a", "b", "c", "s", "f", "p"}, 1)
	var l []string
	for _, c := range columns {
		l = append(l, c+" "+kindWords[c]+m.one("", "", "", "", " not null"))
	}
	if m.chance(55) {
		l = append(l, "primary key ("+strings.Join(m.some(columns, 1)[:1], ", ")+")")
	} else if m.chance(30) {
		l = append(l, "primary key ("+strings.Join(m.some(columns, 1), ", ")+")")
	}
	for range pick(m.Rand, 0, 0, 1, 1, 2) {
		l = append(l, "unique ("+strings.Join(m.some(columns, 1), ", ")+")")
	}
	if m.chance(25) {
		c := m.one(columns...)
		v := strings.Replace(m.value(c), "nobody", c, 1)
		l = append(l, "check ("+m.one(c+" is null or "+c+" = "+c, "not ("+c+" = "+v+")", name+"."+c+" <> "+v)+")")
	}
	return "create table " + name + " (" + strings.Join(l, ", ") + ")"
}

// value makes one for a column of that name, unless it goes wrong.
func (m *maker) value(column string) string {
	if m.chance(3) {
		return m.one("nobody", "1 / 0", "'x'", "7", "1.25", "true", "9223372036854775807 + 1", "9223372036854775807")
	}
	if m.chance(8) {
		return "null"
	}
	switch kindWords[column] {
	case "int":
		return m.one("0", "1", "2", "3", "4", "- 1", "1 + 1", "length('abc')")
	case "dec (1)":
		return m.one("0", "1", "2.5", "0.25", "0.5", "3", "4.0", "- 1.5")
	case "text":
		return m.one("''", "'a'", "'b'", "'a' + 'b'", "'c'")
	case "bool":
		return m.one("true", "false", "(1 < 2)")
	}
	return m.one("point(0, 1)", "point(1, 0)", "point(1, 2)", "point(2, 2)")
}

func (m *maker) insert(name string) string {
	columns := m.columns(name)
	head := "insert into " + name
	switch {
	case m.chance(3):
		columns = append(columns, m.one("nobody", columns[0]))
		head += " (" + strings.Join(columns, ", ") + ")"
	case m.chance(30):
		columns = m.some(columns, 1)
		head += " (" + strings.Join(columns, ", ") + ")"
	}
	var rows []string
	for range 1 + m.Intn(3) {
		var l []string
		for _, c := range columns {
			l = append(l, m.value(c))
		}
		if m.chance(2) {
			l = append(l, "1")
		}
		rows = append(rows, "("+strings.Join(l, ", ")+")")
	}
	return head + " values " + strings.Join(rows, ", ")
}

func (m *maker) update(name string) string {
	columns := m.columns(name)
	var sets []string
	for _, c := range m.some(columns, 1) {
		v := m.value(c)
		switch {
		case m.chance(40):
			v = map[string]string{"int": m.one(c+" + 1", "3 - "+c, c+" - 1", "- "+c, "coalesce("+c+", 0) + 1"), "dec (1)": m.one(c+" + 0.5", "2 - "+c, c+" * 2"), "text": m.one(c+" + 'a'", "coalesce("+c+", 'd')"), "bool": "not " + c, "point": m.one("- "+c, c+" + point(1, 0)")}[kindWords[c]]
		case m.chance(20):
			v = m.one(columns...)
		}
		sets = append(sets, c+" = "+v)
	}
	if m.chance(3) {
		sets = append(sets, m.one("nobody", columns[0])+" = 1")
	}
	return "update " + name + " set " + strings.Join(sets, ", ") + m.where(name)
}

func (m *maker) where(name string) string {
	if m.chance(30) {
		return ""
	}
	c := m.one(m.columns(name)...)
	if m.chance(5) {
		return " where " + m.one("1", "nobody = 1", "1 / "+c+" = 1", c, "null", "true", "false")
	}
	return " where " + m.one(c+" = "+m.value(c), c+" > "+m.value(c), name+"."+c+" <= "+m.value(c), c+" is null", c+" is not null", "not ("+c+" = "+m.value(c)+")")
}

// spoiled gives the changes with one thing otherwise, so that they often can't
// be done.
func (m *maker) spoiled(l []Change) []Change {
	l = copied(l)
	if len(l) == 0 {
		return l
	}
	x := &l[m.Intn(len(l))]
	values := []Value{null, whole(m.Intn(4)), dec(m.Intn(6)*5, 1), dec(5, 2), text(m.one("", "a", "b")), truth(m.Intn(2)), point(1, m.Intn(3)), {Kind: 9}}
	switch m.Intn(16) {
	case 0:
		i := m.Intn(len(l))
		l = slices.Delete(l, i, i+1)
	case 1:
		l = slices.Insert(l, m.Intn(len(l)+1), copied(*x))
	case 2:
		m.Shuffle(len(l), func(i, j int) { l[i], l[j] = l[j], l[i] })
	case 3:
		x.Kind = m.Intn(7)
	case 4:
		x.Table = m.one("t", "u", "v", "w", "x", "", "T", "select")
	case 5:
		x.Old, x.Now = x.Now, x.Old
	case 6, 7:
		if len(x.Now) > 0 {
			x.Now[m.Intn(len(x.Now))] = pick(m.Rand, values...)
		}
	case 8:
		if len(x.Old) > 0 {
			x.Old[m.Intn(len(x.Old))] = pick(m.Rand, values...)
		}
	case 9:
		x.Now = append(x.Now, pick(m.Rand, values...))
	case 10:
		x.Schema.Key = append(x.Schema.Key, m.Intn(3))
	case 11:
		x.Schema.Name = m.one("t", "u", "", "v")
	default:
		// Another value of the same Kind, as if it were another row.
		for _, row := range [][]Value{x.Old, x.Now} {
			for i, v := range row {
				if w := pick(m.Rand, values...); w.Kind == v.Kind {
					row[i] = w
				}
			}
		}
	}
	return l
}

// shuffled gives a base that is the same, whose rows stand otherwise where they
// have no Key.
func (m *maker) shuffled(t *testing.T, b *Base) *Base {
	t.Helper()
	out := base.New()
	var l []Change
	for _, name := range b.Tables() {
		d, _ := b.Data(name)
		l = append(l, Change{Kind: base.Create, Table: name, Schema: d.Table})
		for _, i := range m.Perm(len(d.Rows)) {
			l = append(l, Change{Kind: base.Insert, Table: name, Now: d.Rows[i]})
		}
	}
	if e := out.Redo(l); e != api.OK || !out.Same(b) {
		t.Fatalf("%s anew: %d, %s", state(b), e, state(out))
	}
	return out
}

// keeps complains if a row does not fit, or two rows have a key in common, or
// they do not stand by their keys.
func keeps(t *testing.T, b *Base) {
	t.Helper()
	for _, name := range b.Tables() {
		d, _ := b.Data(name)
		seen := map[string]int{}
		last := ""
		if !schema.Right(d.Table) || len(d.Rows) > api.MaxRows {
			t.Fatalf("%s is no table", printedTable(d.Table))
		}
		for _, row := range d.Rows {
			made, e := schema.Fit(d.Table, row)
			keys, _ := schema.Keys(d.Table, row)
			if e != api.OK || !slices.Equal(made, row) {
				t.Fatalf("%s does not fit into %s", printedRow(row), state(b))
			}
			for i, key := range keys {
				placed := fmt.Sprint(i, " ", key)
				if seen[placed]++; key != "" && seen[placed] > 1 {
					t.Fatalf("%s has a key that is there already: %s", printedRow(row), state(b))
				}
			}
			if len(d.Table.Key) > 0 && keys[0] <= last {
				t.Fatalf("%s does not stand by its key: %s", printedRow(row), state(b))
			}
			last = keys[0]
		}
	}
}

// again complains unless the changes that made b of was do so once more, and are
// taken back, however the rows stand.
func (m *maker) again(t *testing.T, s string, was, b *Base, l []Change) {
	t.Helper()
	for i, c := range []*Base{was.Clone(), m.shuffled(t, was)} {
		if e := c.Redo(l); e != api.OK || !c.Same(b) {
			t.Fatalf("%s, %d: Redo: %d, %s, not %s", s, i, e, state(c), state(b))
		}
		keeps(t, c)
		if e := c.Undo(l); e != api.OK || !c.Same(was) {
			t.Fatalf("%s, %d: Undo: %d, %s, not %s", s, i, e, state(c), state(was))
		}
		keeps(t, c)
	}
	for _, c := range []*Base{b.Clone(), m.shuffled(t, b)} {
		if e := c.Undo(l); e != api.OK || !c.Same(was) {
			t.Fatalf("%s: Undo: %d, %s, not %s", s, e, state(c), state(was))
		}
	}
	for _, x := range l {
		p, e := base.PutChange(x)
		got, f := base.GetChange(p)
		if e != api.OK || f != api.OK || !alike(got, x) || !bytes.Equal(p, toldBytes(x)) {
			t.Fatalf("%s: %s as bytes: %d, %d", s, printedChange(x), e, f)
		}
	}
}

// TestP1102Random holds Do against the chapter told a second time, and looks
// after P1106 and P1107 on the way.
func TestP1102Random(t *testing.T) {
	count := map[string]int{}
	for seed := range 150 {
		m := maker{rand.New(rand.NewSource(int64(seed))), base.New()}
		model := teller{}
		var all []Change
		for range 60 {
			text := m.statement()
			s := statement(text)
			was := m.b.Clone()
			r, e := m.b.Do(s)
			next, told, f := model.do(s)
			if e != f || !alike(r, told) || state(m.b) != next.state() {
				t.Fatalf("%s of %s: %s, %d, %s, not %s, %d, %s", text, model.state(), short(r), e, state(m.b), short(told), f, next.state())
			}
			word, _, _ := strings.Cut(text, " ")
			count[fmt.Sprint(word, " ", e)]++
			model = next
			keeps(t, m.b)
			m.again(t, text, was, m.b, r.Changes)
			all = append(all, r.Changes...)
		}
		m.again(t, "all", base.New(), m.b, all)
	}
	for key, least := range map[string]int{
		"create 0": 250, "create 4": 250, "drop 0": 100, "drop 34": 7, "insert 0": 500, "insert 31": 25, "insert 32": 10, "insert 33": 10, "insert 34": 250, "insert 35": 25, "insert 36": 250, "insert 37": 10,
		"update 0": 500, "update 31": 25, "update 32": 2, "update 33": 2, "update 34": 50, "update 35": 10, "update 36": 50, "update 37": 2, "delete 0": 250, "delete 34": 25, "delete 31": 2, "select 0": 100, "begin 51": 5, "commit 51": 5, "rollback 51": 5,
	} {
		if count[key] < least {
			t.Errorf("%s: %d times only", key, count[key])
		}
	}
}

// TestP1103Random holds Redo and Undo against the chapter told a second time.
func TestP1103Random(t *testing.T) {
	count := map[string]int{}
	for seed := range 200 {
		m := maker{rand.New(rand.NewSource(int64(1000 + seed))), base.New()}
		model := teller{}
		var recent []Change
		for range 40 {
			ahead := m.b.Clone()
			for range 1 + m.Intn(4) {
				r, _ := ahead.Do(statement(m.statement()))
				recent = append(recent, r.Changes...)
			}
			l := copied(recent)
			for range m.Intn(3) {
				l = m.spoiled(l)
			}
			word, c, told := "redo", call((*Base).Redo), teller.redo
			if m.chance(25) {
				word, c, told = "undo", (*Base).Undo, teller.undo
			}
			e := c(m.b, l)
			next, f := told(model, l)
			if e != f || state(m.b) != next.state() {
				t.Fatalf("%s of %s to %s: %d, %s, not %d, %s", word, printedChanges(l), model.state(), e, state(m.b), f, next.state())
			}
			count[fmt.Sprint(word, " ", e)]++
			model = next
			keeps(t, m.b)
			if e == api.OK || len(recent) > 30 || m.chance(50) {
				recent = nil
			}
		}
	}
	for key, least := range map[string]int{
		"redo 0": 500, "redo 1": 250, "redo 3": 250, "redo 4": 25, "redo 31": 25, "redo 34": 50, "redo 35": 5, "redo 36": 25, "undo 0": 25, "undo 1": 25, "undo 3": 100, "undo 4": 5, "undo 34": 25, "undo 36": 2,
	} {
		if count[key] < least {
			t.Errorf("%s: %d times only", key, count[key])
		}
	}
}
