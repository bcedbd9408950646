package rel_test

import (
	"slices"
	"strings"
	"testing"

	"longstop/api"
	"longstop/rel"
	"longstop/stmt"
)

func TestP1002Unions(t *testing.T) {
	gives(t, "select k from t union select k from u", "1 | 2 | 3 | null")
	gives(t, "select k from u union select k from t", "1 | 2 | null | 3")
	gives(t, "select k from t union all select k from u", "1 | 2 | 3 | 2 | 1 | 2 | 2 | null")
	gives(t, "select k from t union select k from o", "1 | 2 | 3")
	gives(t, "select k from o union select k from t", "1 | 2 | 3")
	gives(t, "select k from o union all select k from t", "1 | 2 | 3 | 2")
	gives(t, "select 1 union select 2 union select 1 union all select 2", "1 | 2 | 2")
	gives(t, "select 1 union all select 1 union select 2", "1 | 2")
	gives(t, "select 1 union all select 1 union all select 2 union all select 1", "1 | 1 | 2 | 1")
	gives(t, "select 1 union select 1 union all select 1", "1 | 1")
	gives(t, "select 1 union all select 1 union select 1", "1")
	gives(t, "select 1, 'a' union select 1, 'b' union select 1, 'a'", "1, 'a' | 1, 'b'")
	gives(t, "select 1 union select 'a' union select null union select 1.0", "1 | 'a' | null | 1.0")
	gives(t, "select k from t where k = 1 union select count() from t", "1 | 4")
	// Groups of a core are its own.
	gives(t, "select count() from t union all select k from t", "4 | 1 | 2 | 3 | 2")
}

func TestP1002UnionsOfUnlikeCounts(t *testing.T) {
	for _, s := range []string{
		"select 1 union select 1, 2", "select 1, 2 union all select 1", "select * from t union select * from m",
		"select k from t union select k, b from u", "select 1 union select 2 union select 3, 4", "select 1, 2 union select 3, 4 union all select 5",
		"select * from e union select x from e", "select 1 where false union select 1, 2 where false", "select * from o union select * from t, u",
	} {
		refused(t, s, api.ErrType)
	}
	fails(t, Query{Cores: []Core{{}, {Items: items("1")}}, All: []bool{true}, Limit: -1}, db(), api.ErrType)
	fails(t, Query{Cores: []Core{{Items: items("1")}, {}}, All: []bool{false}, Limit: -1}, db(), api.ErrType)
	gives(t, "select * from t union select * from u where false", "1, 'x' | 2, 'y' | 3, null | 2, 'z'")
	gives(t, "select * from e union select 1, 2", "1, 2")
	// Core by core: the first error.
	refused(t, "select 1 / 0 union select 1, 2", api.ErrZero)
	refused(t, "select 1 union select 1, 2 union select 1 / 0", api.ErrType)
	refused(t, "select 1 union select 1 / 0 union select 1, 2", api.ErrZero)
	refused(t, "select 1 union select nobody, 1 / 0", api.ErrName)
	refused(t, "select 1 where 1 union select nobody", api.ErrType)
	refused(t, "select 1 union select nobody union select 1 where 1", api.ErrName)
	refused(t, "select 1 union select 2, 3 order by nobody", api.ErrType)
}

func TestP1002UnionsOfMaxRows(t *testing.T) {
	tables := []Data{numbered("c", api.MaxRows), numbered("h", api.MaxRows/2), numbered("n", 1)}
	count := func(s string, want int) {
		t.Helper()
		if _, rows, e := rel.Run(query(s), tables); e != api.OK || len(rows) != want {
			t.Errorf("%s: %d rows, %d", s, len(rows), e)
		}
	}
	count("select h from h union all select h from h", api.MaxRows)
	count("select h from h union all select h from h union select -1", api.MaxRows/2+1)
	count("select c from c union select h from h", api.MaxRows)
	count("select c from c union select c from c union select c from c", api.MaxRows)
	count("select c from c union all select c from c where false", api.MaxRows)
	count("select c from c where c > 0 union all select 1", api.MaxRows)
	count("select c from c where c > 0 union select -1", api.MaxRows)
	for _, s := range []string{
		"select c from c union all select 1", "select 1 union all select c from c", "select c from c union select -1", "select h from h union all select h from h union all select 1",
		"select c from c union all select 1 limit 1", "select c from c union all select 1 union select c from c",
		// Too many are too many where they are, whatever comes behind.
		"select c from c union all select 1 union select nobody", "select c from c union all select 1 union select 1, 2", "select c from c union all select 1 order by nobody",
	} {
		fails(t, query(s), tables, api.ErrRows)
	}
	fails(t, query("select c from c union all select 1, 2"), tables, api.ErrType)
	fails(t, query("select c from c union all select 1 / 0"), tables, api.ErrZero)
}

func TestP1002Order(t *testing.T) {
	gives(t, "select k from t order by k", "1 | 2 | 2 | 3")
	gives(t, "select k from t order by k desc", "3 | 2 | 2 | 1")
	gives(t, "select a, k from t order by a", "null, 3 | 'x', 1 | 'y', 2 | 'z', 2")
	gives(t, "select a, k from t order by a desc", "'z', 2 | 'y', 2 | 'x', 1 | null, 3")
	// Those that are alike stay as they stood, turned round or not.
	gives(t, "select k, a from t order by k", "1, 'x' | 2, 'y' | 2, 'z' | 3, null")
	gives(t, "select k, a from t order by k desc", "3, null | 2, 'y' | 2, 'z' | 1, 'x'")
	gives(t, "select k, a from t order by 1", "1, 'x' | 2, 'y' | 3, null | 2, 'z'")
	gives(t, "select k, a from t order by k > 1 desc", "2, 'y' | 3, null | 2, 'z' | 1, 'x'")
	gives(t, "select k, a from t order by null desc, 'a'", "1, 'x' | 2, 'y' | 3, null | 2, 'z'")
	// By several, the first one first.
	gives(t, "select k, a from t order by k, a desc", "1, 'x' | 2, 'z' | 2, 'y' | 3, null")
	gives(t, "select k, a from t order by k desc, a", "3, null | 2, 'y' | 2, 'z' | 1, 'x'")
	gives(t, "select k, a from t order by k desc, a desc", "3, null | 2, 'z' | 2, 'y' | 1, 'x'")
	gives(t, "select k, a from t order by k > 1, a is null desc, a", "1, 'x' | 3, null | 2, 'y' | 2, 'z'")
	// By expressions of the names, of whatever is shown under them.
	gives(t, "select k as x, -k as y from t order by y", "3, -3 | 2, -2 | 2, -2 | 1, -1")
	gives(t, "select -k as k from t order by k", "-3 | -2 | -2 | -1")
	gives(t, "select k, a from t order by 0 - k * 2, length(a)", "3, null | 2, 'y' | 2, 'z' | 1, 'x'")
	gives(t, "select a as k, k as a from t order by a, k desc", "'x', 1 | 'z', 2 | 'y', 2 | null, 3")
	gives(t, "select k, count() as n from t group by k order by n desc, k desc", "2, 2 | 3, 1 | 1, 1")
	gives(t, "select * from u order by b", "2, 0.5 | 1, 1.5 | 2, 2.0 | null, 4.0")
	// Of a union as a whole, by the first core's names.
	gives(t, "select k from t union all select b from u order by k", "0.5 | 1 | 1.5 | 2 | 2 | 2.0 | 3 | 4.0")
	gives(t, "select k from u union select a from t order by k desc", "'z' | 'y' | 'x' | 2 | 1 | null")
	gives(t, "select 2 as x union select 1 as y union select 3 order by x desc", "3 | 2 | 1")
	// In the order of chapter 4: of equal numbers the Int first, then by scale.
	gives(t, "select 1.00 as x union all select 1 union all select 1.0 union all select 0.99 union all select true union all select null union all select 'a' order by x", "null | 0.99 | 1 | 1.0 | 1.00 | 'a' | true")
	gives(t, "select 1.00 as x union all select 1 union all select 1.0 order by x desc", "1.00 | 1.0 | 1")
	gives(t, "select distinct p as x from m order by x desc", "<1,2> | null")
}

func TestP1002OrderWrong(t *testing.T) {
	for _, s := range []string{
		"select k from t order by a", "select k from t order by t.k", "select k as x from t order by k", "select k + 1 from t order by k", "select t.k from t order by t.k",
		"select k, k from t order by k", "select t.k, u.k from t, u order by k", "select * from t, u order by k", "select k, a as k from t order by k",
		"select k from t union select b from u order by b", "select k from t order by count()", "select k from t order by sum(k)", "select count() from t order by count()",
		"select k from t order by nobody", "select k from t order by k, nobody", "select k from t order by nobody(k)", "select k from t order by nobody limit 0", "select k from t where k = 1 order by nobody",
	} {
		refused(t, s, api.ErrName)
	}
	gives(t, "select k, k as x, a from t order by x", "1, 1, 'x' | 2, 2, 'y' | 2, 2, 'z' | 3, 3, null")
	gives(t, "select k, k, a from t order by a", "3, 3, null | 1, 1, 'x' | 2, 2, 'y' | 2, 2, 'z'")
	gives(t, "select k from t where false order by nobody", "")
	refused(t, "select k from t order by k + 'a'", api.ErrType)
	refused(t, "select k from t order by 1 / 0 desc", api.ErrZero)
	refused(t, "select k, a from t order by max(1 / 0)", api.ErrZero)
	// Row by row, and of each row expression by expression.
	refused(t, "select k from t order by 1 / (k - 3), 9223372036854775806 + k", api.ErrOver)
	refused(t, "select k from t order by 9223372036854775805 + k, 1 / (k - 3)", api.ErrOver)
	refused(t, "select k from t order by 1 / (k - 3), 9223372036854775805 + k", api.ErrZero)
	// As the rows stand ahead of Order.
	refused(t, "select k from t where k > 1 union select 1 order by 1 / (k - 3) desc, 9223372036854775807 - 1 + k", api.ErrOver)
	// A name that is no word stands in nobody's way.
	q := query("select k from t order by k desc")
	q.Cores[0].Items = append(q.Cores[0].Items, Item{Expr: nodes("a"), As: "K"})
	runs(t, q, db(), "3, null | 2, 'y' | 2, 'z' | 1, 'x'")
}

func TestP1002Limit(t *testing.T) {
	q := query("select k from t order by k desc")
	for limit, want := range map[int]string{-1: "3 | 2 | 2 | 1", 0: "", 1: "3", 2: "3 | 2", 3: "3 | 2 | 2", 4: "3 | 2 | 2 | 1", 5: "3 | 2 | 2 | 1", great: "3 | 2 | 2 | 1"} {
		q.Limit = limit
		runs(t, q, db(), want)
	}
	for _, limit := range []int{-2, -3, least} {
		q.Limit = limit
		fails(t, q, db(), api.ErrArg)
	}
	gives(t, "select k from t limit 2", "1 | 2")
	gives(t, "select k from o limit 2", "")
	gives(t, "select k from t union all select k from u order by k limit 3", "null | 1 | 1")
	gives(t, "select distinct k from t limit 2", "1 | 2")
	// The Limit ends nothing ahead of it.
	refused(t, "select 1 / (k - 3) from t limit 0", api.ErrZero)
	refused(t, "select nobody from t limit 0", api.ErrName)
}

// wholeQuery has every part, of which each may be made wrong.
func wholeQuery() Query {
	return query("select distinct t.k, a as x from t join u on t.k = u.k where t.k > 1 group by t.k, a having count() > 0 union all select 1, 2 order by k desc, x limit 3")
}

func TestP1002NoQuery(t *testing.T) {
	base := query("select k, a from t where k > 1 union select 1, 2 order by k limit 2")
	runs(t, base, db(), "1, 2 | 2, 'y'")
	for what, change := range map[string]func(*Query){
		"no Core":       func(q *Query) { q.Cores, q.All = nil, nil },
		"empty Cores":   func(q *Query) { q.Cores, q.All = []Core{}, []bool{} },
		"no Core, All":  func(q *Query) { q.Cores = nil },
		"zero":          func(q *Query) { *q = Query{} },
		"All too short": func(q *Query) { q.All = nil },
		"All too long":  func(q *Query) { q.All = []bool{true, false} },
		"one Core, All": func(q *Query) { q.Cores = q.Cores[:1] },
		"Limit -2":      func(q *Query) { q.Limit = -2 },
	} {
		q := query("select k, a from t where k > 1 union select 1, 2 order by k limit 2")
		change(&q)
		if names, rows, e := rel.Run(q, db()); e != api.ErrArg || len(names)+len(rows) != 0 {
			t.Errorf("%s: %v, %v, %d", what, names, rows, e)
		}
	}
	q := base
	q.Cores, q.All = q.Cores[:1], nil
	runs(t, q, db(), "2, 'y' | 2, 'z'")
	q.All = []bool{}
	runs(t, q, db(), "2, 'y' | 2, 'z'")
}

// places: where an expression stands in a query, and whether it may be left
// away there.
func places() map[string]struct {
	at  func(*Query) *[]Node
	may bool
} {
	type place = struct {
		at  func(*Query) *[]Node
		may bool
	}
	return map[string]place{
		"Item":          {at: func(q *Query) *[]Node { return &q.Cores[0].Items[0].Expr }},
		"Item 1":        {at: func(q *Query) *[]Node { return &q.Cores[0].Items[1].Expr }},
		"Item of union": {at: func(q *Query) *[]Node { return &q.Cores[1].Items[1].Expr }},
		"On":            {at: func(q *Query) *[]Node { return &q.Cores[0].From[1].On }},
		"On of a Cross": {at: func(q *Query) *[]Node { return &q.Cores[0].From[0].On }, may: true},
		"Where":         {at: func(q *Query) *[]Node { return &q.Cores[0].Where }, may: true},
		"Group":         {at: func(q *Query) *[]Node { return &q.Cores[0].Group[0] }},
		"Group 1":       {at: func(q *Query) *[]Node { return &q.Cores[0].Group[1] }},
		"Having":        {at: func(q *Query) *[]Node { return &q.Cores[0].Having }, may: true},
		"Where, union":  {at: func(q *Query) *[]Node { return &q.Cores[1].Where }, may: true},
		"Having, union": {at: func(q *Query) *[]Node { return &q.Cores[1].Having }, may: true},
		"Order":         {at: func(q *Query) *[]Node { return &q.Order[0].Expr }},
		"Order 1":       {at: func(q *Query) *[]Node { return &q.Order[1].Expr }},
	}
}

func TestP1002NoExpressions(t *testing.T) {
	runs(t, wholeQuery(), db(), "2, 'y' | 2, 'z' | 1, 2")
	for what, place := range places() {
		wrong := wrongExpressions()
		if !place.may {
			wrong = append(wrong, nil, []Node{})
		}
		for _, l := range wrong {
			for _, change := range []func(*Query){
				func(*Query) {},
				func(q *Query) { q.Limit = 0 },
				// Where nobody would come to it, or something else is wrong.
				func(q *Query) { q.Cores[0].From[0].Table = "e" },
				func(q *Query) { q.Cores[0].From[0].Table = "nobody" },
				func(q *Query) { q.Cores[0].Star = true },
				func(q *Query) { q.Cores[1].Items = append(q.Cores[1].Items, items("3")...) },
				func(q *Query) { q.Cores[1].Star = true },
			} {
				q := wholeQuery()
				change(&q)
				*place.at(&q) = l
				if names, rows, e := rel.Run(q, db()); e != api.ErrArg || len(names)+len(rows) != 0 {
					t.Fatalf("%s %s: %v, %v, %d", what, short(l), names, rows, e)
				}
			}
		}
		for _, none := range [][]Node{nil, {}} {
			q := wholeQuery()
			*place.at(&q) = none
			if _, _, e := rel.Run(q, db()); (e == api.OK) != place.may {
				t.Errorf("%s left away: %d", what, e)
			}
		}
	}
	// But a Cross none may do without its On, not even the first Source.
	for _, join := range []int{stmt.Inner, stmt.Left, 3, -1} {
		q := wholeQuery()
		q.Cores[0].From[0].Join = join
		fails(t, q, db(), api.ErrArg)
		q.Cores[0].From[0].On = nodes("true")
		runs(t, q, db(), "2, 'y' | 2, 'z' | 1, 2")
		fails(t, one(Core{Items: items("1"), From: []Source{{Table: "e"}, {Table: "o", Join: join}}}), db(), api.ErrArg)
	}
}

func TestP1002NoDatabase(t *testing.T) {
	checked := data("n", "k int not null, d dec (2), s text, b bool, p point, primary key (k), unique (s), check (k > 0)", "1, 2.00, 'a', true, <1,2> | 7, null, null, null, null")
	q := query("select k from t where k = 1")
	runs(t, q, append(db(), checked), "1")
	with := func(change func(*Data)) []Data {
		d := checked
		d.Rows = slices.Clone(d.Rows)
		d.Table.Columns = slices.Clone(d.Table.Columns)
		change(&d)
		return append(db(), d)
	}
	for what, change := range map[string]func(*Data){
		"no Name":        func(d *Data) { d.Table.Name = "" },
		"a wrong Name":   func(d *Data) { d.Table.Name = "select" },
		"another's Name": func(d *Data) { d.Table.Name = "t" },
		"the last Name":  func(d *Data) { d.Table.Name = "m" },
		"no columns":     func(d *Data) { d.Table, d.Rows = Table{Name: "n"}, nil },
		"a wrong column": func(d *Data) { d.Table.Columns[1].Kind = 9; d.Rows = nil },
		"a wrong Key":    func(d *Data) { d.Table.Key = []int{9}; d.Rows = nil },
		"a wrong Unique": func(d *Data) { d.Table.Uniques = [][]int{{}}; d.Rows = nil },
		"a wrong Check":  func(d *Data) { d.Table.Check = nodes("nobody"); d.Rows = nil },
		"another Check":  func(d *Data) { d.Table.Check = nodes("k > 1") },
		"a Check's kind": func(d *Data) { d.Table.Check = nodes("k") },
		"zero":           func(d *Data) { *d = Data{} },
		"no table":       func(d *Data) { d.Table = Table{} },
		"one too many":   func(d *Data) { d.Rows = slices.Repeat(d.Rows, api.MaxRows/2); d.Rows = append(d.Rows, d.Rows[0]) },
	} {
		tables := with(change)
		if names, rows, e := rel.Run(q, tables); e != api.ErrArg || len(names)+len(rows) != 0 {
			t.Errorf("%s: %v, %v, %d", what, names, rows, e)
		}
		// Wherever it stands, and whatever else is wrong.
		slices.Reverse(tables)
		fails(t, q, tables, api.ErrArg)
		fails(t, query("select nobody from nobody"), tables, api.ErrArg)
	}
	fails(t, query("select 1"), []Data{{}}, api.ErrArg)
	for _, wrong := range [][]Value{
		nil, {}, values("1, 2.00, 'a', true"), values("1, 2.00, 'a', true, <1,2>, null"),
		values("1, 2, 'a', true, <1,2>"), values("1, 2.0, 'a', true, <1,2>"), values("1, 2.000, 'a', true, <1,2>"), values("1, 2., 'a', true, <1,2>"),
		values("1, '2', 'a', true, <1,2>"), values("1., 2.00, 'a', true, <1,2>"), values("'a', 2.00, 'a', true, <1,2>"), values("1, 2.00, 3, true, <1,2>"), values("1, 2.00, 'a', 1, <1,2>"), values("1, 2.00, 'a', true, 1"),
		values("null, 2.00, 'a', true, <1,2>"), values("0, 2.00, 'a', true, <1,2>"), values("-1, 2.00, 'a', true, <1,2>"),
		{whole(1), dec(200, 2), text("\xff"), truth(1), point(1, 2)}, {whole(1), dec(200, 2), text(strings.Repeat("a", 257)), truth(1), point(1, 2)}, {whole(1), dec(200, 2), text("a"), truth(2), point(1, 2)},
		{{Kind: api.Int, N: 1, B: "x"}, dec(200, 2), text("a"), truth(1), point(1, 2)},
	} {
		for place := range 3 {
			tables := with(func(d *Data) { d.Rows = slices.Insert(d.Rows, place, wrong) })
			fails(t, q, tables, api.ErrArg)
		}
	}
	// As many rows as may be; keys that stand twice are nobody's matter here,
	// nor is how many tables there are.
	runs(t, q, with(func(d *Data) { d.Rows = slices.Repeat(d.Rows, api.MaxRows/2) }), "1")
	var many []Data
	for i := range 3 * api.MaxTables {
		many = append(many, numbered("a"+strings.Repeat("b", i%31)+strings.Repeat("c", i/31), i))
	}
	many[3].Table.Name = "t"
	runs(t, query("select count() from t"), many, "3")
	many[3].Table.Name = many[47].Table.Name
	fails(t, query("select 1"), many, api.ErrArg)
}
