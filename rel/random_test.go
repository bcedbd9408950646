package rel_test

import (
	"fmt"
	"math/rand"
	"slices"
	"strings"
	"testing"

	"longstop/api"
	"longstop/rel"
	"longstop/stmt"
)

// column: one that an expression may name.
type column struct{ table, name, kind string }

// kinds: of which kind a column of that name is, in whichever table.
var kinds = map[string]string{"a": "int", "b": "int", "c": "dec (1)", "s": "text", "f": "bool", "p": "point"}

// maker makes selects' texts, most of which come to rows.
type maker struct {
	*rand.Rand
	tables  []Data
	columns []column
}

func (m *maker) one(l ...string) string { return pick(m.Rand, l...) }

func (m *maker) chance(percent int) bool { return m.Intn(100) < percent }

func (m *maker) list(most int, part func() string) string {
	l := []string{part()}
	for range m.Intn(most) {
		l = append(l, part())
	}
	return strings.Join(l, ", ")
}

// database makes tables of columns that stand in several of them, and of few
// values.
func (m *maker) database() {
	m.tables = nil
	for _, name := range []string{"t", "u", "w"} {
		var columns []string
		for _, i := range m.Perm(6)[:1+m.Intn(4)] {
			columns = append(columns, []string{"a", "b", "c", "s", "f", "p"}[i])
		}
		var told []string
		for _, c := range columns {
			told = append(told, c+" "+kinds[c])
		}
		var rows []string
		for range pick(m.Rand, 0, 1, 2, 3, 4, 4, 5) {
			var cells []string
			for _, c := range columns {
				cells = append(cells, m.value(kinds[c]))
			}
			rows = append(rows, strings.Join(cells, ", "))
		}
		m.tables = append(m.tables, data(name, strings.Join(told, ", "), strings.Join(rows, " | ")))
	}
}

func (m *maker) value(kind string) string {
	if m.chance(15) {
		return "null"
	}
	switch kind {
	case "int":
		return m.one("0", "1", "2", "2", "-1", "3", "9223372036854775807")
	case "dec (1)":
		return m.one("0.0", "1.0", "2.0", "0.5", "-1.5")
	case "text":
		return m.one("''", "'a'", "'b'", "'ab'")
	case "bool":
		return m.one("true", "false")
	}
	return m.one("<0,0>", "<1,2>", "<1,-2>")
}

// expression makes one of that kind, unless it goes wrong.
func (m *maker) expression(kind string, depth int, aggregates bool) string {
	if m.chance(2) {
		return m.one("nobody", "nobody.a", "1 / 0", "'a'", "null", "count()", "true", "sum(a, b)", "nobody(1)", "t.a", "a", "9223372036854775807")
	}
	if aggregates && m.chance(30) {
		switch {
		case kind == "int" && m.chance(40):
			return m.one("count()", "count("+m.expression(m.kind(), depth-1, false)+")")
		case kind == "int" || kind == "dec (1)":
			return m.one("sum", "min", "max", "avg") + "(" + m.expression(kind, depth-1, false) + ")"
		}
		return m.one("min", "max") + "(" + m.expression(kind, depth-1, m.chance(3)) + ")"
	}
	if depth <= 0 || m.chance(40) {
		return m.leaf(kind)
	}
	part := func(kind string) string { return m.expression(kind, depth-1, aggregates) }
	number := m.one("int", "dec (1)")
	switch kind {
	case "int":
		switch m.Intn(6) {
		case 0:
			return "length(" + part("text") + ")"
		case 1:
			return "norm(" + part("point") + ")"
		case 2:
			return "coalesce(" + m.list(3, func() string { return part("int") }) + ")"
		}
		return "(" + part("int") + m.one(" + ", " - ", " * ") + part("int") + ")"
	case "dec (1)":
		return "(" + part("dec (1)") + m.one(" + ", " - ", " * ") + part(number) + ")"
	case "text":
		return m.one("("+part("text")+" + "+part("text")+")", "coalesce("+part("text")+", "+part("text")+")")
	case "point":
		return m.one("(- "+part("point")+")", "("+part("point")+" + "+part("point")+")", "point("+part("int")+", 1)")
	}
	same := m.kind()
	switch m.Intn(5) {
	case 0:
		return "(not " + part("bool") + ")"
	case 1:
		return "(" + part("bool") + m.one(" and ", " or ") + part("bool") + ")"
	case 2:
		return "(" + part(same) + " is null)"
	}
	return "(" + part(same) + m.one(" = ", " <> ", " < ", " <= ", " > ", " >= ") + part(same) + ")"
}

func (m *maker) kind() string { return m.one("int", "dec (1)", "text", "bool", "point") }

// leaf makes a column of that kind, if there is one, or a literal.
func (m *maker) leaf(kind string) string {
	var fit []column
	for _, c := range m.columns {
		if c.kind == kind {
			fit = append(fit, c)
		}
	}
	if len(fit) > 0 && m.chance(80) {
		c := pick(m.Rand, fit...)
		if m.chance(15) || c.table == "" {
			return c.name
		}
		return c.table + "." + c.name
	}
	switch kind {
	case "int":
		return m.one("0", "1", "2")
	case "dec (1)":
		return m.one("0.0", "1.5", "2.00")
	case "text":
		return m.one("'a'", "'b'", "''")
	case "bool":
		return m.one("true", "true", "true", "false", "null")
	}
	return "point(1, 2)"
}

// from makes sources; what stands behind can name their columns.
func (m *maker) from() string {
	m.columns = nil
	out := ""
	for i := range 1 + m.Intn(3) {
		d := pick(m.Rand, m.tables...)
		alias := m.one(d.Table.Name, d.Table.Name, "x", "y", "z", "t")
		for _, c := range d.Table.Columns {
			m.columns = append(m.columns, column{alias, c.Name, kinds[c.Name]})
		}
		source := d.Table.Name
		if alias != d.Table.Name {
			source += " as " + alias
		}
		switch {
		case i == 0:
			out = "from " + source
		case m.chance(40):
			out += m.one(", ", " cross join ") + source
		default:
			out += m.one(" join ", " left join ") + source + " on " + m.expression("bool", 1, false)
		}
	}
	return out
}

func (m *maker) core(count int) string {
	from := ""
	m.columns = nil
	if m.chance(93) {
		from = m.from()
	}
	groups := m.chance(35)
	var shown []string
	for i := range count {
		item := m.expression(m.kind(), 2, groups)
		if m.chance(60) {
			item += fmt.Sprintf(" as n%d", i)
		}
		shown = append(shown, item)
	}
	if m.chance(12) {
		shown = []string{"*"}
	}
	s := "select " + m.one("", "", "distinct ") + strings.Join(shown, ", ") + " " + from
	if m.chance(30) {
		s += " where " + m.expression("bool", 2, m.chance(2))
	}
	if groups && m.chance(60) {
		s += " group by " + m.list(3, func() string { return m.expression(m.kind(), 1, m.chance(2)) })
	}
	if m.chance(20) {
		s += " having " + m.expression("bool", 2, groups)
	}
	return s
}

func (m *maker) text() string {
	count := 1 + m.Intn(3)
	s := m.core(count)
	for m.chance(20) {
		if m.chance(5) {
			count++
		}
		s += m.one(" union ", " union all ") + m.core(count)
	}
	if m.chance(40) {
		m.columns = nil
		for i := range count {
			m.columns = append(m.columns, column{"", fmt.Sprintf("n%d", i), m.kind()})
		}
		s += " order by " + m.list(3, func() string {
			if m.chance(80) {
				return fmt.Sprintf("n%d", m.Intn(count)) + m.one("", " desc")
			}
			return m.expression(m.kind(), 1, false) + m.one("", " desc")
		})
	}
	if m.chance(20) {
		s += " limit " + m.one("0", "1", "2", "3", "9")
	}
	return s
}

// query makes a query, also of such as no text says.
func (m *maker) query() (string, Query) {
	for {
		s := m.text()
		x, e := stmt.Parse(s)
		if e != api.OK {
			continue
		}
		q := x.Query
		for i := range q.Cores {
			for j, source := range q.Cores[i].From {
				if source.Join == stmt.Inner && m.chance(20) {
					q.Cores[i].From[j].Join = pick(m.Rand, 3, -1, great)
				}
				if source.Join == stmt.Cross && m.chance(10) {
					q.Cores[i].From[j].On = nodes(m.one("true", "false", "1 / 0 = 1"))
					q.Cores[i].From[j].Join = pick(m.Rand, stmt.Cross, stmt.Inner, stmt.Left)
				}
			}
			if m.chance(2) {
				q.Cores[i].Star = !q.Cores[i].Star
			}
		}
		return s, q
	}
}

func TestP1002AtRandom(t *testing.T) {
	m := &maker{Rand: rand.New(rand.NewSource(10))}
	seen, rows := map[api.Errno]int{}, 0
	for range 60000 {
		if m.chance(10) || m.tables == nil {
			m.database()
		}
		s, q := m.query()
		want, f := toldRun(q, m.tables)
		names, got, e := rel.Run(q, m.tables)
		if e != f || !sameRows(got, want.rows) || !slices.Equal(names, want.names) {
			t.Fatalf("%s (%s) of %s: %q %s, %d, not %q %s, %d", s, short(q), short(m.tables), names, printed(got), e, want.names, printed(want.rows), f)
		}
		seen[e]++
		if len(got) > 1 {
			rows++
		}
	}
	for _, e := range []api.Errno{api.OK, api.ErrName, api.ErrType, api.ErrZero, api.ErrOver} {
		if seen[e] < 100 {
			t.Errorf("%d only %d times", e, seen[e])
		}
	}
	if seen[api.OK] < 20000 || rows < 5000 {
		t.Errorf("only %d are right, and %d have rows", seen[api.OK], rows)
	}
}

// P1004: a union all is both, one behind the other.
func TestP1004UnionAll(t *testing.T) {
	m := &maker{Rand: rand.New(rand.NewSource(11))}
	done := 0
	for done < 2000 {
		m.database()
		count := 1 + m.Intn(3)
		first, second := m.core(count), m.core(count)
		one, e := stmt.Parse(first)
		other, f := stmt.Parse(second)
		both, g := stmt.Parse(first + " union all " + second)
		if e != api.OK || f != api.OK || g != api.OK {
			continue
		}
		names, rows, e := rel.Run(one.Query, m.tables)
		more, behind, f := rel.Run(other.Query, m.tables)
		told, all, g := rel.Run(both.Query, m.tables)
		switch {
		case e != api.OK:
			f = e
		case f == api.OK && len(names) != len(more):
			f = api.ErrType
		}
		if g != f {
			t.Fatalf("%s union all %s: %d, not %d", first, second, g, f)
		}
		if g != api.OK {
			continue
		}
		if !sameRows(all, append(rows, behind...)) || !slices.Equal(told, names) {
			t.Fatalf("%s union all %s: %s", first, second, printed(all))
		}
		done++
	}
}

// P1004: a Cross has as many rows as the product.
func TestP1004Cross(t *testing.T) {
	r := rand.New(rand.NewSource(12))
	for range 300 {
		counts := make([]int, 1+r.Intn(4))
		product := 1
		for i := range counts {
			counts[i] = r.Intn(15)
			product *= counts[i]
		}
		tables, q := crossed(counts)
		partial, fits := 1, true
		for _, count := range counts {
			partial *= count
			fits = fits && partial <= api.MaxRows
		}
		_, rows, e := rel.Run(q, tables)
		if fits && (e != api.OK || len(rows) != product) || !fits && e != api.ErrRows {
			t.Fatalf("%v: %d rows, %d", counts, len(rows), e)
		}
		if d := rel.Distinct(rows); len(d) != len(rows) {
			t.Fatalf("%v: rows twice", counts)
		}
	}
}

// P1004: where the rows of a table stand otherwise, a select without Limit and
// groups comes to the same bag.
func TestP1004RowsOtherwise(t *testing.T) {
	m := &maker{Rand: rand.New(rand.NewSource(13))}
	done, many := 0, 0
	for done < 5000 {
		m.database()
		s, q := m.query()
		q.Limit = -1
		grouped := slices.ContainsFunc(q.Cores, func(c Core) bool {
			has := func(l []Node) bool { return len(l) > 0 && treeOf(l).hasAggregate() }
			return len(c.Group) > 0 || has(c.Having) || slices.ContainsFunc(c.Items, func(i Item) bool { return has(i.Expr) })
		})
		names, rows, e := rel.Run(q, m.tables)
		if e != api.OK || grouped {
			continue
		}
		for i := range m.tables {
			l := m.tables[i].Rows
			m.Shuffle(len(l), func(a, b int) { l[a], l[b] = l[b], l[a] })
		}
		told, again, e := rel.Run(q, m.tables)
		if e != api.OK || !rel.Bag(rows, again) || !toldBag(rows, again) || !slices.Equal(names, told) {
			t.Fatalf("%s: %s, then %s, %d", s, printed(rows), printed(again), e)
		}
		done++
		if len(rows) > 1 {
			many++
		}
	}
	if many < 1000 {
		t.Errorf("only %d have rows", many)
	}
}
