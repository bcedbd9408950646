package rel_test

import (
	"fmt"
	"strings"
	"testing"

	"longstop/api"
	"longstop/rel"
)

func TestP1002Where(t *testing.T) {
	gives(t, "select k from t where true", "1 | 2 | 3 | 2")
	gives(t, "select k from t where false", "")
	gives(t, "select k from t where null", "")
	gives(t, "select k from t where a = 'y'", "2")
	gives(t, "select k from t where a <> 'y'", "1 | 2")
	gives(t, "select k from t where a is null or k = 2", "2 | 3 | 2")
	gives(t, "select k from t where not (a = 'y')", "1 | 2")
	gives(t, "select i from m where f", "2 | 2")
	gives(t, "select i from m where not f", "3")
	for where, want := range map[string]api.Errno{"1": api.ErrType, "a": api.ErrType, "k": api.ErrType, "k = a": api.ErrType, "nobody": api.ErrName, "u.k = 1": api.ErrName, "1 / (k - 3) > 0": api.ErrZero, "9223372036854775807 + k > 0": api.ErrOver} {
		refused(t, "select k from t where "+where, want)
		refused(t, "select k from t group by k having "+where, want)
		gives(t, "select k from o where "+where, "")
	}
	// An aggregate is none there: no group is there yet.
	for _, where := range []string{"count() > 0", "count(k) > 0", "sum(k) > 0", "min(k) > 0", "max(k) > 0", "avg(k) > 0.0", "abs(count()) > 0"} {
		refused(t, "select k from t where "+where, api.ErrName)
		refused(t, "select count() from t where "+where, api.ErrName)
		refused(t, "select k from t group by k having "+strings.ReplaceAll(where, "(k)", "(k, k)")+" and nobody(1)", api.ErrName)
	}
	// The first row that is wrong tells, and the first node.
	refused(t, "select k from t where 1 / (k - 3) > 0 and 9223372036854775806 + k > 0", api.ErrOver)
	refused(t, "select k from t where max(1 / 0) > 0", api.ErrZero)
}

func TestP1002HavingWithoutGroups(t *testing.T) {
	gives(t, "select k from t having k > 1", "2 | 3 | 2")
	gives(t, "select k from t where k < 3 having k > 1", "2 | 2")
	gives(t, "select k from t having true", "1 | 2 | 3 | 2")
	gives(t, "select k from t having false", "")
	gives(t, "select k from t having null", "")
	gives(t, "select k from t having a > 'x'", "2 | 2")
	gives(t, "select * from t having a is null", "3, null")
	gives(t, "select 1 having true", "1")
	gives(t, "select 1 having false", "")
	refused(t, "select k from t having 1", api.ErrType)
	refused(t, "select k from t having a", api.ErrType)
	refused(t, "select k from t having nobody", api.ErrName)
	refused(t, "select k from t having 1 / 0 = 1", api.ErrZero)
	refused(t, "select 1 having 1", api.ErrType)
	// It stands behind Where: what Where has not left is not asked for.
	gives(t, "select k from t where k <> 2 having 1 / (k - 2) < 0", "1")
	// And ahead of the Items, which all of it is gone through ahead of.
	gives(t, "select 1 / (k - 2) from t having k <> 2", "-1 | 1")
	refused(t, "select 1 / (k - 1) from t having 9223372036854775805 + k > 0", api.ErrOver)
}

func TestP1002Groups(t *testing.T) {
	gives(t, "select k from t group by k", "1 | 2 | 3")
	gives(t, "select k, count(), count(a), min(a), max(a) from t group by k", "1, 1, 1, 'x', 'x' | 2, 2, 2, 'y', 'z' | 3, 1, 0, null, null")
	gives(t, "select a from t group by k", "'x' | 'y' | null")
	gives(t, "select k, a from t group by k, a", "1, 'x' | 2, 'y' | 3, null | 2, 'z'")
	gives(t, "select count() from t group by k, k + 1", "1 | 2 | 1")
	gives(t, "select count() from t group by 1", "4")
	gives(t, "select count() from t group by null", "4")
	gives(t, "select count(), k from t group by k > 1", "1, 1 | 3, 2")
	gives(t, "select f, count() from m group by f", "true, 2 | null, 1 | false, 1")
	gives(t, "select p, count(), count(p) from m group by p", "<1,2>, 3, 3 | null, 1, 0")
	gives(t, "select s, i, count() from m group by s, i", "'a', 2, 2 | 'b', null, 1 | null, 3, 1")
	// Where alone is ahead of groups, Items and names are behind.
	gives(t, "select k, count() from t where a is not null group by k", "1, 1 | 2, 2")
	gives(t, "select t.k, count(), sum(b) from t join u on t.k = u.k group by t.k", "1, 1, 1.5 | 2, 4, 5.0")
	gives(t, "select t.k, count(), count(b) from t left join u on t.k = u.k group by t.k", "1, 1, 1 | 2, 4, 4 | 3, 1, 0")
	// No rows, no groups.
	gives(t, "select k, count() from o group by k", "")
	gives(t, "select 1 from o group by 1", "")
	gives(t, "select k, count() from t where false group by k", "")
	gives(t, "select 1 group by 1", "1")
	gives(t, "select count() group by 1", "1")
	// Errors, the first row's first.
	refused(t, "select 1 from t group by nobody", api.ErrName)
	refused(t, "select 1 from t group by k, 1 / 0", api.ErrZero)
	refused(t, "select 1 from t group by count()", api.ErrName)
	refused(t, "select 1 from t group by k, sum(k)", api.ErrName)
	refused(t, "select 1 from t group by max(1 / 0)", api.ErrZero)
	refused(t, "select 1 from t group by 1 / (k - 3), 9223372036854775806 + k", api.ErrOver)
	refused(t, "select 1 from t group by 9223372036854775805 + k, 1 / (k - 2)", api.ErrZero)
}

// Values are the same where nothing of them is unlike.
func TestP1002GroupsOfUnlikeKinds(t *testing.T) {
	d := []Data{data("v", "i int, d dec (1), w dec (0), s text, f bool", "1, null, null, null, null | null, 1.0, null, null, null | null, null, 1., null, null | null, null, null, '1', null | null, null, null, null, true | 1, null, null, null, null | null, 1.0, null, null, null | null, null, null, null, null | null, null, 1., null, null | null, null, null, null, null")}
	runs(t, query("select coalesce(i, d, w, coalesce(s, f)), count() from v group by coalesce(i, d, w, coalesce(s, f))"), d, "1, 2 | 1.0, 2 | 1., 2 | '1', 1 | true, 1 | null, 2")
	runs(t, query("select distinct coalesce(i, d, w, coalesce(s, f)) from v"), d, "1 | 1.0 | 1. | '1' | true | null")
	runs(t, query("select coalesce(i, d, w) as x from v union select 1 union select 1.00 order by x"), d, "null | 1 | 1. | 1.0 | 1.00")
	runs(t, query("select count() from v group by coalesce(i, d, w) = 1"), d, "6 | 4")
}

func TestP1002OneGroup(t *testing.T) {
	gives(t, "select count() from t", "4")
	gives(t, "select count(), k, a from t", "4, 1, 'x'")
	gives(t, "select count(), k from t where k > 1", "3, 2")
	gives(t, "select 1 from t having count() > 1", "1")
	gives(t, "select k from t having count() > 1", "1")
	gives(t, "select k from t having count() > 4", "")
	gives(t, "select count()", "1")
	gives(t, "select count(), sum(7) where false", "0, null")
	// A group without rows.
	gives(t, "select count(), count(k), sum(k), min(k), max(k), avg(k) from o", "0, 0, null, null, null, null")
	gives(t, "select k, k is null, coalesce(k, 7), k + 1, count() from o", "null, true, 7, null, 0")
	gives(t, "select t.a, u.b, count() from t join u on false", "null, null, 0")
	gives(t, "select 5, 'a', count() from t where false", "5, 'a', 0")
	gives(t, "select 5 from o having count() = 0", "5")
	gives(t, "select 5 from o having k is null and count() = 0", "5")
	for _, s := range []string{"select nobody, count() from o", "select count() + nobody from o", "select e.k, count() from o", "select k, count() from o, t", "select count() from o having nobody", "select count() from o, t having k = 1"} {
		refused(t, s, api.ErrName)
	}
	refused(t, "select nobody, count() from t", api.ErrName)
	refused(t, "select k, count() from t, u", api.ErrName)
	// What is no column's is reckoned of no row, too.
	refused(t, "select 1 / 0, count() from o", api.ErrZero)
	refused(t, "select count() + 'a' from o", api.ErrType)
	refused(t, "select nobody(k), count() from o", api.ErrName)
	// An argument is told of rows alone: of none nothing is wrong.
	gives(t, "select count(nobody), sum(1 / 0), max(count()) from o", "0, null, null")
}

func TestP1002Having(t *testing.T) {
	gives(t, "select k from t group by k having count() > 1", "2")
	gives(t, "select k from t group by k having k > 1", "2 | 3")
	gives(t, "select k from t group by k having true", "1 | 2 | 3")
	gives(t, "select k from t group by k having false", "")
	gives(t, "select k from t group by k having null", "")
	gives(t, "select k from t group by k having min(a) > 'x'", "2")
	gives(t, "select k from t group by k having not (min(a) > 'x')", "1")
	gives(t, "select k, count() from t group by k having max(a) is null or sum(k) = 4", "2, 2 | 3, 1")
	gives(t, "select sum(k) from t having sum(k) = 8", "8")
	gives(t, "select sum(k) from t having sum(k) = null", "")
	gives(t, "select sum(k) from t having k = 1 and a = 'x'", "8")
	gives(t, "select sum(k) from t having k = 2", "")
	for _, having := range []string{"1", "count()", "min(a)", "k", "'a'", "max(k) + 1"} {
		refused(t, "select k from t group by k having "+having, api.ErrType)
		refused(t, "select count() from t having "+having, api.ErrType)
		gives(t, "select k from o group by k having "+having, "")
	}
	refused(t, "select count() from t having count() = 'a'", api.ErrType)
	refused(t, "select k from t group by k having 1 / (k - 3) > 0", api.ErrZero)
	refused(t, "select k from t group by k having 9223372036854775806 + k > 0 and 1 / (k - 3) > 0", api.ErrOver)
	// All groups are asked ahead of the first Item.
	refused(t, "select 1 / (k - 1) from t group by k having 9223372036854775805 + k > 0", api.ErrOver)
	gives(t, "select 1 / (k - 2) from t group by k having k <> 2", "-1 | 1")
}

func TestP1002Aggregates(t *testing.T) {
	gives(t, "select sum(k), avg(k), min(a), max(a), count(a) from t", "8, 2.000000, 'x', 'z', 3")
	gives(t, "select sum(b), avg(b), min(b), max(b), count(b), count(k) from u", "8.0, 2.000000, 0.5, 4.0, 4, 3")
	gives(t, "select count(null), sum(null), min(null), max(null), avg(null) from t", "0, null, null, null, null")
	gives(t, "select count(1), sum(1), sum(1.5), min('a'), max(true), avg(1) from t", "4, 4, 6.0, 'a', true, 1.000000")
	gives(t, "select sum(k * k + 1), max(length(a)), min(-k), count(k = 2 or null) from t", "22, 1, -3, 2")
	gives(t, "select min(p), max(p), min(f), max(f), sum(d), avg(i) from m", "<1,2>, <1,2>, false, true, 7.00, 2.333333")
	// Within other expressions, and beside columns.
	gives(t, "select sum(k) + 1, 1 + sum(k), -sum(k), sum(k) / count(), sum(k) is null, not (sum(k) > 1) from t", "9, 9, -8, 2, false, false")
	gives(t, "select abs(-sum(k)), coalesce(sum(null), min(a), k), round(avg(k), 1), point(count(), k), length(max(a)) from t", "8, 'x', 2.0, <4,1>, 1")
	gives(t, "select (sum(k) + max(k)) * (count() - min(k)) - k from t", "32")
	gives(t, "select k + count() * 2 - 1, k - (count() - k) - max(k) from t group by k", "2, 0 | 5, 0 | 4, 2")
	gives(t, "select coalesce(count(), 1, 2, 3), coalesce(null, null, k, sum(k)), coalesce(a, 'q', min(a), max(a)) from t group by k", "1, 1, 'x' | 2, 2, 'y' | 1, 3, 'q'")
	gives(t, "select count() = 4 and sum(k) = 8 or null, null and count() = 3, count() = 4 or 1 = 2 from t", "true, false, true")
	gives(t, "select 5 - 3 - sum(1), 5 - (3 - sum(1)), sum(k) % 3, point(1, 2) * point(count(), 1) from t", "-2, 6, 2, <2,9>")
	// Wrong counts of arguments, whether there are rows or not.
	for _, name := range []string{"count", "sum", "min", "max", "avg"} {
		for _, table := range []string{"t", "o"} {
			refused(t, "select "+name+"(k, k) from "+table, api.ErrName)
			refused(t, "select "+name+"(k, k, k) from "+table, api.ErrName)
			refused(t, "select "+name+"(1, 1, 1, 1) + 1 from "+table, api.ErrName)
			refused(t, "select 1 from "+table+" having "+name+"(k, k) > 1", api.ErrName)
			refused(t, "select "+name+"(1 / 0, 1) from "+table, api.ErrName)
			refused(t, "select "+name+"(nobody, 1) from "+table, api.ErrName)
			if name != "count" {
				refused(t, "select "+name+"() from "+table, api.ErrName)
				refused(t, "select 1 from "+table+" having "+name+"() = 1", api.ErrName)
			}
		}
		gives(t, "select 1 from o group by k having "+name+"(k, k) = 1", "")
		// An aggregate within another one's argument is told of a row: it is none.
		refused(t, "select sum("+name+"(k)) from t", api.ErrName)
		refused(t, "select "+name+"(1 + abs(count())) from t", api.ErrName)
		refused(t, "select "+name+"(count()) from t group by k", api.ErrName)
	}
	// Other calls are functions, which an aggregate's neighbours make no groups of.
	refused(t, "select nobody(k) from t", api.ErrName)
	refused(t, "select counts() from t", api.ErrName)
	refused(t, "select count() + nobody(k) from t", api.ErrName)
	gives(t, "select abs(k) from t", "1 | 2 | 3 | 2")
	// A column may be called as an aggregate is.
	runs(t, query("select count, sum, c.max from c"), []Data{data("c", "count int, sum int, max int", "1, 2, 3 | 4, 5, 6")}, "1, 2, 3 | 4, 5, 6")
	runs(t, query("select max(count) from c"), []Data{data("c", "count int", "1 | 4")}, "4")
}

func TestP1002AggregatesWrong(t *testing.T) {
	refused(t, "select sum(a) from t", api.ErrType)
	refused(t, "select avg(a) from t", api.ErrType)
	refused(t, "select sum(p) from m", api.ErrType)
	refused(t, "select sum(f) from m", api.ErrType)
	refused(t, "select sum(nobody) from t", api.ErrName)
	refused(t, "select sum(u.k) from t", api.ErrName)
	refused(t, "select sum(k) from t, u", api.ErrName)
	refused(t, "select count(1 / (k - 3)) from t", api.ErrZero)
	refused(t, "select sum(9223372036854775800 + k) from t", api.ErrOver)
	refused(t, "select avg(9223372036854775800) from t", api.ErrOver)
	refused(t, "select sum(k) + 'a' from t", api.ErrType)
	refused(t, "select -min(a) from t", api.ErrType)
	refused(t, "select length(count()) from t", api.ErrType)
	refused(t, "select round(avg(k)) from t", api.ErrName)
	refused(t, "select 1 / (count() - 4) from t", api.ErrZero)
	// All rows come to the argument's values ahead of what is made of them.
	refused(t, "select sum(coalesce(a, 1 / (k - 3))) from t", api.ErrZero)
	// Node by node, from the left.
	refused(t, "select sum(a) + 1 / 0 from t", api.ErrType)
	refused(t, "select 1 / 0 + sum(a) from t", api.ErrZero)
	refused(t, "select nobody + sum(1, 2) / 0 + 1 / 0 from t", api.ErrName)
	refused(t, "select coalesce(1, 1 / 0, sum(a)) + count() from t", api.ErrZero)
	refused(t, "select coalesce(1, sum(a), 1 / 0) from t", api.ErrType)
	refused(t, "select count() > 9 and 1 / 0 = 1 from t", api.ErrZero)
}

func TestP1002Items(t *testing.T) {
	gives(t, "select k + 1, a from t where k < 3", "2, 'x' | 3, 'y' | 3, 'z'")
	gives(t, "select *  from t where k = 1", "1, 'x'")
	gives(t, "select * from t, u where t.k = 3 and u.k is null", "3, null, null, 4.0")
	refused(t, "select k / 0 from t", api.ErrZero)
	refused(t, "select z from t", api.ErrName)
	refused(t, "select k, k from t, u", api.ErrName)
	// Row by row, and of each row Item by Item.
	refused(t, "select 1 / (k - 3), 9223372036854775806 + k from t", api.ErrOver)
	refused(t, "select 9223372036854775805 + k, 1 / (k - 3) from t", api.ErrOver)
	refused(t, "select 1 / (k - 3), 9223372036854775805 + k from t", api.ErrZero)
	refused(t, "select 1 / (k - 3), 9223372036854775806 + k from t group by k", api.ErrOver)
	refused(t, "select 9223372036854775805 + k, 1 / (k - 3) from t group by k", api.ErrOver)
	refused(t, "select 1 / (k - 3), 9223372036854775805 + k from t group by k", api.ErrZero)
}

func TestP1002Stars(t *testing.T) {
	refused(t, "select *", api.ErrName)
	refused(t, "select * where false", api.ErrName)
	refused(t, "select * having false", api.ErrName)
	refused(t, "select * from t group by k", api.ErrName)
	refused(t, "select * from o group by k", api.ErrName)
	refused(t, "select * from t group by k having false", api.ErrName)
	refused(t, "select * from t having count() > 1", api.ErrName)
	refused(t, "select * from t where false having count() > 1", api.ErrName)
	refused(t, "select * group by 1", api.ErrName)
	refused(t, "select * having count() = 1", api.ErrName)
	// What the steps ahead of it say comes first.
	refused(t, "select * where 1", api.ErrType)
	refused(t, "select * having 1", api.ErrType)
	refused(t, "select * from t where 1 group by k", api.ErrType)
	refused(t, "select * from t group by 1 / 0", api.ErrZero)
	refused(t, "select * from t group by k having 1", api.ErrType)
	refused(t, "select * from t group by k having 1 / 0 = 1", api.ErrZero)
	refused(t, "select * from t having count()", api.ErrType)
	refused(t, "select * from o having count()", api.ErrType)
	refused(t, "select * from o group by k having count()", api.ErrName)

	// Beside a Star Items show nothing, but an aggregate makes groups.
	both := Core{Star: true, Items: items("1 / 0", "nobody"), From: []Source{{Table: "t"}}}
	runs(t, one(both), db(), "1, 'x' | 2, 'y' | 3, null | 2, 'z'")
	names, _, _ := rel.Run(one(both), db())
	if fmt.Sprint(names) != "[k a]" {
		t.Errorf("a Star beside Items is named %q", names)
	}
	both.Items = items("k", "count()")
	fails(t, one(both), db(), api.ErrName)
}

func TestP1002Names(t *testing.T) {
	named(t, "select k, a from t", "k", "a")
	named(t, "select k as a, a as k from t", "a", "k")
	named(t, "select t.k, t.a as b, k from t", "k", "b", "k")
	named(t, "select k + 1, -k, 1, 'k', null, abs(k), k is null from t", "", "", "", "", "", "", "")
	named(t, "select k + 1 as x, 1 as y from t", "x", "y")
	named(t, "select count(), count() as count, k, max(k) from t", "", "count", "k", "")
	named(t, "select k, count() from t group by k", "k", "")
	named(t, "select * from t", "k", "a")
	named(t, "select * from t as x, u", "k", "a", "k", "b")
	named(t, "select distinct k from t", "k")
	named(t, "select k from t where false", "k")
	named(t, "select k from t limit 0", "k")
	named(t, "select 1 as x union select k from t", "x")
	named(t, "select k from t union select 1 as x union all select b as y from u order by k", "k")
	named(t, "select * from e union select * from t", "x", "y")
	named(t, "select 1 where false union select k from t", "")
	// A function without arguments has a name, but is no column.
	q := one(Core{Items: []Item{{Expr: nodes("count()")}, {Expr: nodes("a.b"), As: "\xff"}, {Expr: nodes("b")}}, From: []Source{{Table: "a"}}})
	names, _, e := rel.Run(q, []Data{data("a", "b int", "1")})
	if e != api.OK || len(names) != 3 || names[0] != "" || names[1] != "\xff" || names[2] != "b" {
		t.Errorf("%q, %d", names, e)
	}
}

func TestP1002Distinct(t *testing.T) {
	gives(t, "select distinct k from t", "1 | 2 | 3")
	gives(t, "select distinct k, a from t", "1, 'x' | 2, 'y' | 3, null | 2, 'z'")
	gives(t, "select distinct k > 1 from t", "false | true")
	gives(t, "select distinct null from t", "null")
	gives(t, "select distinct * from m", "2, 2.00, 'a', true, <1,2> | null, 3.00, 'b', null, <1,2> | 3, null, null, false, null")
	gives(t, "select * from m", "2, 2.00, 'a', true, <1,2> | null, 3.00, 'b', null, <1,2> | 3, null, null, false, null | 2, 2.00, 'a', true, <1,2>")
	gives(t, "select distinct i, d from m", "2, 2.00 | null, 3.00 | 3, null")
	gives(t, "select distinct count() from t group by k", "1 | 2")
	gives(t, "select distinct 1 from o", "")
	// It is a core's own.
	gives(t, "select distinct k from t union all select k from t", "1 | 2 | 3 | 1 | 2 | 3 | 2")
	gives(t, "select k from t union all select distinct k from t", "1 | 2 | 3 | 2 | 1 | 2 | 3")
	gives(t, "select k from t", "1 | 2 | 3 | 2")
}
