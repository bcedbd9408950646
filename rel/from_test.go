package rel_test

import (
	"fmt"
	"strings"
	"testing"

	"longstop/api"
	"longstop/rel"
	"longstop/stmt"
)

func TestP1002Examples(t *testing.T) {
	three := []Data{data("t", "a int", "1 | 2 | 3")}
	runs(t, query("select a from t where a > 1"), three, "2 | 3")
}

func TestP1002NoFrom(t *testing.T) {
	gives(t, "select 1", "1")
	gives(t, "select 1 + 1, 'a', null, true", "2, 'a', null, true")
	gives(t, "select 1 where true", "1")
	gives(t, "select 1 where false", "")
	gives(t, "select 1 where null", "")
	refused(t, "select k", api.ErrName)
	refused(t, "select t.k", api.ErrName)
	runs(t, query("select 1"), nil, "1")
	runs(t, query("select 1"), []Data{}, "1")

	// No Items at all: rows without values.
	_, rows, e := rel.Run(one(Core{}), db())
	if e != api.OK || len(rows) != 1 || len(rows[0]) != 0 {
		t.Errorf("a Core of nothing: %v, %d", rows, e)
	}
	names, rows, e := rel.Run(one(Core{From: []Source{{Table: "t"}}}), db())
	if e != api.OK || len(names) != 0 || len(rows) != 4 || len(rows[3]) != 0 {
		t.Errorf("no Items of four rows: %v, %d", rows, e)
	}
	_, rows, e = rel.Run(one(Core{Distinct: true, From: []Source{{Table: "t"}}}), db())
	if e != api.OK || len(rows) != 1 || len(rows[0]) != 0 {
		t.Errorf("no Items of four rows, each once: %v, %d", rows, e)
	}
}

func TestP1002Sources(t *testing.T) {
	gives(t, "select * from t", "1, 'x' | 2, 'y' | 3, null | 2, 'z'")
	gives(t, "select a, k, a from t", "'x', 1, 'x' | 'y', 2, 'y' | null, 3, null | 'z', 2, 'z'")
	gives(t, "select t.a, u.b from t, u where u.b > 1.5", "'x', 2.0 | 'x', 4.0 | 'y', 2.0 | 'y', 4.0 | null, 2.0 | null, 4.0 | 'z', 2.0 | 'z', 4.0")
	gives(t, "select * from u cross join t where b = 0.5", "2, 0.5, 1, 'x' | 2, 0.5, 2, 'y' | 2, 0.5, 3, null | 2, 0.5, 2, 'z'")
	gives(t, "select x.k, y.k, z.b from t as x, t as y, u as z where x.k = 3 and y.a is null and z.k is null", "3, 3, 4.0")

	// Of three sources the last one goes round fastest.
	three := []Data{numbered("a", 2), numbered("b", 3), numbered("c", 2)}
	runs(t, query("select * from b, a, c"), three, "0, 0, 0 | 0, 0, 1 | 0, 1, 0 | 0, 1, 1 | 1, 0, 0 | 1, 0, 1 | 1, 1, 0 | 1, 1, 1 | 2, 0, 0 | 2, 0, 1 | 2, 1, 0 | 2, 1, 1")

	refused(t, "select k from t, u", api.ErrName)
	refused(t, "select u.k from t", api.ErrName)
	refused(t, "select t.b from t, u", api.ErrName)
}

func TestP1002Aliases(t *testing.T) {
	gives(t, "select x.k from t as x where x.a = 'x'", "1")
	gives(t, "select k from t as x where a = 'x'", "1")
	gives(t, "select u.a, t.b from t as u, u as t where u.k = 1 and t.k = 1", "'x', 1.5")
	gives(t, "select t.k, x.k from t, t as x where t.k = 3 and x.k = 1", "3, 1")
	refused(t, "select t.k from t as x", api.ErrName)
	refused(t, "select x.k from t, t as x where k = 1", api.ErrName)

	for _, from := range []string{"t, t", "t as u, u", "u, t as u", "t as x, u as x", "t, u, t", "t as x, u, e as x", "e, e", "e as x, o as x"} {
		refused(t, "select 1 from "+from, api.ErrName)
		refused(t, "select * from "+from, api.ErrName)
	}
	for _, from := range []string{"t join t on true", "t left join u as t on false"} {
		refused(t, "select 1 from "+from, api.ErrName)
	}
	for _, from := range []string{"nobody", "nobody as t", "t, nobody", "x", "t as x, x", "e, nobody", "t join nobody on true", "t left join nobody on true"} {
		refused(t, "select 1 from "+from, api.ErrName)
	}
	fails(t, one(Core{Star: true, From: []Source{{}}}), db(), api.ErrName)
	fails(t, one(Core{Star: true, From: []Source{{Alias: "t"}}}), db(), api.ErrName)
	fails(t, query("select 1 from t"), nil, api.ErrName)

	// An alias need not be a word; nobody can name its columns then.
	for _, alias := range []string{"select", "A", "\xff", " ", strings.Repeat("a", 1000)} {
		q := one(Core{Items: items("t.k", "b"), From: []Source{{Table: "t"}, {Table: "u", Alias: alias, Join: stmt.Inner, On: nodes("b = 0.5 and a = 'y'")}}})
		runs(t, q, db(), "2, 0.5")
	}
}

// joins: every Join, and of each On what it makes of t and u.
func TestP1002Joins(t *testing.T) {
	const (
		all   = "'x', 1.5 | 'x', 2.0 | 'x', 0.5 | 'x', 4.0 | 'y', 1.5 | 'y', 2.0 | 'y', 0.5 | 'y', 4.0 | null, 1.5 | null, 2.0 | null, 0.5 | null, 4.0 | 'z', 1.5 | 'z', 2.0 | 'z', 0.5 | 'z', 4.0"
		nulls = "'x', null | 'y', null | null, null | 'z', null"
	)
	for on, want := range map[string]struct{ inner, left string }{
		"true":                          {all, all},
		"false":                         {"", nulls},
		"null":                          {"", nulls},
		"t.k = null":                    {"", nulls},
		"t.k = u.k":                     {"'x', 1.5 | 'y', 2.0 | 'y', 0.5 | 'z', 2.0 | 'z', 0.5", "'x', 1.5 | 'y', 2.0 | 'y', 0.5 | null, null | 'z', 2.0 | 'z', 0.5"},
		"t.k = u.k and b > 1.5":         {"'y', 2.0 | 'z', 2.0", "'x', null | 'y', 2.0 | null, null | 'z', 2.0"},
		"a = 'y'":                       {"'y', 1.5 | 'y', 2.0 | 'y', 0.5 | 'y', 4.0", "'x', null | 'y', 1.5 | 'y', 2.0 | 'y', 0.5 | 'y', 4.0 | null, null | 'z', null"},
		"u.k is null":                   {"'x', 4.0 | 'y', 4.0 | null, 4.0 | 'z', 4.0", "'x', 4.0 | 'y', 4.0 | null, 4.0 | 'z', 4.0"},
		"a is null and b = 4.0 or null": {"null, 4.0", "'x', null | 'y', null | null, 4.0 | 'z', null"},
	} {
		for _, join := range []int{stmt.Cross, stmt.Inner, stmt.Left, 3, -1, 7, great, least} {
			q := one(Core{Items: items("a", "b"), From: []Source{{Table: "t"}, {Table: "u", Join: join, On: nodes(on)}}})
			wanted := want.inner
			switch join {
			case stmt.Cross:
				wanted = all
			case stmt.Left:
				wanted = want.left
			}
			runs(t, q, db(), wanted)
		}
	}
	gives(t, "select a, b from t, u", all)
	gives(t, "select a, b from t cross join u", all)

	// Whatever stands in a Cross's On, nobody asks for it.
	for _, on := range []string{"", "1", "nobody", "1 / 0 = 1", "count() > 1"} {
		runs(t, one(Core{Items: items("a", "b"), From: []Source{{Table: "t", On: nodes(on)}, {Table: "u", On: nodes(on)}}}), db(), all)
	}
}

// The first Source is joined to one row without values.
func TestP1002FirstJoin(t *testing.T) {
	for on, want := range map[string]struct{ inner, left string }{
		"true":  {"1, 'x' | 2, 'y' | 3, null | 2, 'z'", "1, 'x' | 2, 'y' | 3, null | 2, 'z'"},
		"k > 1": {"2, 'y' | 3, null | 2, 'z'", "2, 'y' | 3, null | 2, 'z'"},
		"k > 9": {"", "null, null"},
		"null":  {"", "null, null"},
	} {
		for _, join := range []int{stmt.Inner, stmt.Left, 5} {
			wanted := want.inner
			if join == stmt.Left {
				wanted = want.left
			}
			runs(t, one(Core{Star: true, From: []Source{{Table: "t", Join: join, On: nodes(on)}}}), db(), wanted)
		}
	}
	runs(t, one(Core{Star: true, From: []Source{{Table: "e", Join: stmt.Left, On: nodes("1")}}}), db(), "null, null")
}

func TestP1002SeveralJoins(t *testing.T) {
	gives(t, "select t.k, b, m.i from t left join u on t.k = u.k and b > 1.0 left join m on m.i = u.k and m.i > 1 order by b desc, i",
		"2, 2.0, 2 | 2, 2.0, 2 | 2, 2.0, 2 | 2, 2.0, 2 | 1, 1.5, null | 3, null, null")
	gives(t, "select t.k, b from t join u on t.k = u.k, o", "")
	gives(t, "select t.k, b, o.k from t join u on t.k = u.k left join o on true where t.k = 1", "1, 1.5, null")
	// What Left has put behind a row is what the next On sees.
	gives(t, "select t.k, o.k, u.b from t left join o on true join u on o.k is null and u.k = t.k", "1, null, 1.5 | 2, null, 2.0 | 2, null, 0.5 | 2, null, 2.0 | 2, null, 0.5")
	gives(t, "select t.k from t left join o on true join u on u.k = o.k", "")
}

func TestP1002OnOfSourcesBehind(t *testing.T) {
	refused(t, "select 1 from t join u on m.i = 1 cross join m", api.ErrName)
	refused(t, "select 1 from t left join u on m.i = 1 cross join m", api.ErrName)
	refused(t, "select 1 from t join u on i = 1 cross join m", api.ErrName)
	gives(t, "select t.k from t cross join m join u on m.i = 3 and u.k = 1 and t.k = 1", "1")
	// No row, nobody asks.
	gives(t, "select 1 from e join u on m.i = 1 cross join m", "")
	gives(t, "select 1 from t join o on m.i = 1 cross join m", "")
	// k is t's alone, as long as u is not there.
	gives(t, "select t.k from t as x join t on x.k = 3 and t.k = 1 cross join o", "")
	refused(t, "select 1 from t join u on k = 1", api.ErrName)
}

func TestP1002OnWrong(t *testing.T) {
	for on, want := range map[string]api.Errno{"1": api.ErrType, "'a'": api.ErrType, "t.k": api.ErrType, "nobody": api.ErrName, "1 / 0 = 1": api.ErrZero, "t.k = 'a'": api.ErrType, "count() > 1": api.ErrName, "sum(t.k) > 1": api.ErrName, "max(1 / 0) = 1": api.ErrZero} {
		refused(t, "select 1 from t join u on "+on, want)
		refused(t, "select 1 from t left join u on "+on, want)
		gives(t, "select 1 from t join o on "+on, "")
		gives(t, "select 1 from t left join o on "+on, "1 | 1 | 1 | 1")
		gives(t, "select 1 from o left join t on "+on, "")
	}
	// Of several rows the first one that is wrong tells.
	refused(t, "select 1 from t join u on 1 / (t.k - 2) > 0 and 9223372036854775805 + t.k > 0", api.ErrZero)
	refused(t, "select 1 from t join u on 9223372036854775805 + t.k > 0 and 1 / (t.k - 2) > 0", api.ErrZero)
	refused(t, "select 1 from t join u on 1 / (t.k - 3) > 0 and 9223372036854775806 + t.k > 0", api.ErrOver)
}

func TestP1002NoRows(t *testing.T) {
	gives(t, "select * from e", "")
	gives(t, "select 1 from e", "")
	gives(t, "select nobody, 1 / 0 from e", "")
	gives(t, "select 1 from e, t", "")
	gives(t, "select 1 from t, e", "")
	gives(t, "select 1 from e join t on true", "")
	gives(t, "select 1 from t join e on true", "")
	gives(t, "select 1 from e left join t on true", "")
	gives(t, "select a, e.x, e.y from t left join e on true", "'x', null, null | 'y', null, null | null, null, null | 'z', null, null")
	gives(t, "select k from o where nobody", "")
	gives(t, "select k from o order by nobody", "")
	gives(t, "select k from o having nobody", "")
	gives(t, "select k from o group by nobody", "")
	named(t, "select * from e", "x", "y")
}

func TestP1002CrossOfMaxRows(t *testing.T) {
	for _, counts := range [][]int{{api.MaxRows}, {api.MaxRows, 1}, {1, api.MaxRows}, {64, 32}, {2, 1024}, {16, 16, 8}, {1, 1, api.MaxRows, 1}} {
		tables, q := crossed(counts)
		if _, rows, e := rel.Run(q, tables); e != api.OK || len(rows) != api.MaxRows || len(rows[0]) != len(counts) {
			t.Errorf("%v: %d rows, %d", counts, len(rows), e)
		}
	}
	for _, counts := range [][]int{{683, 3}, {3, 683}, {2, 1025}, {api.MaxRows, 2}, {16, 16, 9}, {9, 16, 16}, {api.MaxRows, api.MaxRows}, {api.MaxRows, 2, 0}, {api.MaxRows, api.MaxRows, api.MaxRows}} {
		tables, q := crossed(counts)
		fails(t, q, tables, api.ErrRows)
		// The Cross alone counts, not what is left of it.
		for _, join := range []int{stmt.Inner, stmt.Left, 9} {
			for _, on := range []string{"false", "true", "null"} {
				for i := 1; i < len(q.Cores[0].From); i++ {
					q.Cores[0].From[i].Join, q.Cores[0].From[i].On = join, nodes(on)
				}
				if on != "true" && len(counts) > 2 {
					continue
				}
				fails(t, q, tables, api.ErrRows)
			}
		}
	}
	// A table without rows leaves none to multiply.
	tables, q := crossed([]int{0, api.MaxRows, api.MaxRows})
	runs(t, q, tables, "")
	// A Left's Nulls are no rows of the Cross.
	tables, q = crossed([]int{api.MaxRows, 0, 0})
	q.Cores[0].From[1].Join, q.Cores[0].From[1].On = stmt.Left, nodes("true")
	q.Cores[0].From[2].Join, q.Cores[0].From[2].On = stmt.Left, nodes("true")
	if _, rows, e := rel.Run(q, tables); e != api.OK || len(rows) != api.MaxRows {
		t.Errorf("a Left of no rows: %d rows, %d", len(rows), e)
	}
	// What On has left counts at the next Source.
	tables, q = crossed([]int{64, 32, 2})
	q.Cores[0].From[1].Join, q.Cores[0].From[1].On = stmt.Inner, nodes("c0 < 32")
	if _, rows, e := rel.Run(q, tables); e != api.OK || len(rows) != api.MaxRows {
		t.Errorf("an Inner that leaves half: %d rows, %d", len(rows), e)
	}
}

// crossed gives tables of so many rows, and a select from them all.
func crossed(counts []int) ([]Data, Query) {
	var tables []Data
	c := Core{Star: true}
	for i, count := range counts {
		name := fmt.Sprintf("c%d", i)
		tables = append(tables, numbered(name, count))
		c.From = append(c.From, Source{Table: name})
	}
	return tables, one(c)
}

// Source by source: what is wrong at one tells ahead of all that is wrong at
// those behind; at one and the same: its name, the Cross, On.
func TestP1002FaultsOfSources(t *testing.T) {
	big := append(db(), numbered("c", api.MaxRows))
	for from, want := range map[string]api.Errno{
		"t, c, nobody":                    api.ErrRows,
		"t, nobody, c":                    api.ErrName,
		"t, t, c":                         api.ErrName,
		"t join u on 1, nobody":           api.ErrType,
		"t join u on 1 cross join c":      api.ErrType,
		"t join u on 1 / 0 = 1, t":        api.ErrZero,
		"nobody, t join u on 1":           api.ErrName,
		"t join c on 1":                   api.ErrRows,
		"t left join c on 1 / 0 = 1":      api.ErrRows,
		"t join c as t on 1":              api.ErrName,
		"c, c join t on 1":                api.ErrName,
		"c join t on 1 cross join nobody": api.ErrRows,
	} {
		fails(t, query("select 1 from "+from), big, want)
		fails(t, query("select 1 / 0 from "+from+" where 'a' order by nobody"), big, want)
	}
}

// Rows may be wider than those that a table keeps.
func TestP1002WideRows(t *testing.T) {
	var columns, cells []string
	for i := range api.MaxColumns {
		columns, cells = append(columns, fmt.Sprintf("c%d int", i)), append(cells, fmt.Sprint(i))
	}
	first := strings.Join(cells, ", ")
	cells[15] = "16"
	wide := []Data{data("w", strings.Join(columns, ", "), first+" | "+strings.Join(cells, ", "))}
	q := query("select distinct * from w as a, w as b, w as c, w as d, w as e where a.c15 = 15 and b.c15 = 15 and c.c15 = 15 and d.c15 = 15 union select * from w as a, w as b, w as c, w as d, w as e where a.c15 = b.c15 and b.c15 = c.c15 and c.c15 = d.c15 and d.c15 = e.c15")
	_, rows, e := rel.Run(q, wide)
	if e != api.OK || len(rows) != 3 || len(rows[2]) != 80 {
		t.Fatalf("%d rows, %d", len(rows), e)
	}
	for i, want := range []int{15, 16, 16} {
		if rows[i][79] != whole(want) {
			t.Errorf("row %d ends with %v", i, rows[i][79])
		}
	}
	var by []string
	for _, alias := range []string{"a", "b", "c", "d", "e"} {
		for i := range api.MaxColumns {
			by = append(by, fmt.Sprintf("%s.c%d", alias, i))
		}
	}
	q = query("select count(), e.c15 from w as a, w as b, w as c, w as d, w as e where a.c15 = b.c15 group by " + strings.Join(by, ", "))
	if _, rows, e := rel.Run(q, wide); e != api.OK || len(rows) != 16 || rows[0][0] != whole(1) {
		t.Errorf("groups by 80 values: %d, %d", len(rows), e)
	}
}
