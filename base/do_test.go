package base_test

import (
	"fmt"
	"slices"
	"strings"
	"testing"

	"longstop/api"
	"longstop/expr"
	"longstop/rel"
	"longstop/stmt"
)

// withoutText gives statements that have none. Of each the Kind alone would be
// right, or the table is there, or is not.
func withoutText() []Stmt {
	one := nodes("1")
	l := []Stmt{
		{}, {Kind: -1}, {Kind: 10}, {Kind: least}, {Kind: great},
		{Kind: stmt.Drop}, {Kind: stmt.Drop, Name: "T"}, {Kind: stmt.Drop, Name: "t", Where: one}, {Kind: stmt.Drop, Name: "v", Names: []string{"k"}}, {Kind: stmt.Drop, Name: "table"},
		{Kind: stmt.Insert, Name: "t"}, {Kind: stmt.Insert, Name: "t", Rows: [][][]Node{nil}}, {Kind: stmt.Insert, Name: "t", Rows: [][][]Node{{nil}}}, {Kind: stmt.Insert, Name: "v", Rows: [][][]Node{{one, {}}}},
		{Kind: stmt.Insert, Rows: [][][]Node{{one}}}, {Kind: stmt.Insert, Name: "t", Names: []string{""}, Rows: [][][]Node{{one}}}, {Kind: stmt.Insert, Name: "t", Names: []string{"K"}, Rows: [][][]Node{{one}}},
		{Kind: stmt.Insert, Name: "t", Rows: [][][]Node{{one}, {}}}, {Kind: stmt.Insert, Name: "t", Rows: [][][]Node{{{{Op: expr.Value, Value: whole(-1)}}}}}, {Kind: stmt.Insert, Name: "t", Rows: [][][]Node{{one}}, Where: one},
		{Kind: stmt.Insert, Name: "t", Rows: slices.Repeat([][][]Node{{one}}, api.MaxSource)},
		{Kind: stmt.Update, Name: "t"}, {Kind: stmt.Update, Name: "v", Where: one}, {Kind: stmt.Update, Name: "t", Sets: []Set{{Name: "k"}}}, {Kind: stmt.Update, Name: "t", Sets: []Set{{Expr: one}}},
		{Kind: stmt.Update, Name: "t", Sets: []Set{{Name: "k", Expr: one}}, Where: []Node{{}}}, {Kind: stmt.Update, Name: "t", Sets: []Set{{Name: "k", Expr: one}}, Rows: [][][]Node{{one}}},
		{Kind: stmt.Delete}, {Kind: stmt.Delete, Name: "t", Where: []Node{{Op: expr.Add}}}, {Kind: stmt.Delete, Name: "t", Sets: []Set{{Name: "k", Expr: one}}}, {Kind: stmt.Delete, Name: "t", Query: stmt.Query{Limit: -1}},
		{Kind: stmt.Select}, {Kind: stmt.Select, Query: stmt.Query{Limit: -1}}, {Kind: stmt.Select, Query: stmt.Query{Cores: []stmt.Core{{Star: true}, {Star: true}}, Limit: -1}},
		{Kind: stmt.Select, Query: stmt.Query{Cores: []stmt.Core{{Star: true}}, Limit: -2}}, {Kind: stmt.Select, Name: "t", Query: stmt.Query{Cores: []stmt.Core{{Star: true}}, Limit: -1}},
		{Kind: stmt.Begin, Name: "t"}, {Kind: stmt.Commit, Where: one}, {Kind: stmt.Rollback, Names: []string{"a"}}, {Kind: stmt.Begin, Query: stmt.Query{Limit: -1}}, {Kind: stmt.Commit, Table: table("v", "a int")},
		{Kind: stmt.Create, Name: "v", Table: table("v", "a int")}, {Kind: stmt.Create, Table: table("t", "k int"), Where: one},
	}
	for _, t := range wrongTables() {
		l = append(l, Stmt{Kind: stmt.Create, Table: t})
	}
	for _, name := range wrongNames() {
		l = append(l, Stmt{Kind: stmt.Drop, Name: name}, Stmt{Kind: stmt.Delete, Name: name}, Stmt{Kind: stmt.Insert, Name: name, Rows: [][][]Node{{one}}}, Stmt{Kind: stmt.Update, Name: name, Sets: []Set{{Name: "k", Expr: one}}})
	}
	return l
}

func TestP1102StatementsWithoutText(t *testing.T) {
	b := based(t, "create table t (k int)", "insert into t values (1), (2)")
	for _, s := range withoutText() {
		refusesStmt(t, b, s, api.ErrArg)
	}
	// A text of MaxSource bytes is one, a text of one more is none.
	sized := func(size int) Stmt {
		return Stmt{Kind: stmt.Insert, Name: "t", Rows: [][][]Node{{nodes("length('" + strings.Repeat("a", size) + "')")}}}
	}
	x := sized(0)
	for len(x.Rows) < 16 {
		x.Rows = append(x.Rows, sized(api.MaxValue-10).Rows...)
	}
	short, _ := stmt.Print(x)
	x.Rows[0] = sized(api.MaxSource - len(short)).Rows[0]
	if p, e := stmt.Print(x); len(p) != api.MaxSource || e != api.OK {
		t.Fatalf("%d bytes, %d", len(p), e)
	}
	if r, e := b.Do(x); e != api.OK || r.Count != 16 {
		t.Errorf("%d rows, %d", r.Count, e)
	}
	x.Rows[0] = sized(api.MaxSource + 1 - len(short)).Rows[0]
	refusesStmt(t, b, x, api.ErrArg)
}

func TestP1102Sessions(t *testing.T) {
	b := based(t, "create table t (k int)", "insert into t values (1), (2)")
	for _, s := range []string{"begin", "commit", "rollback"} {
		refuses(t, b, s, api.ErrSession)
		refuses(t, based(t), s, api.ErrSession)
	}
}

func TestP1102Create(t *testing.T) {
	b := based(t)
	in := "(k int not null, d dec (2), s text, f bool, p point, primary key (s, k), unique (d), unique (p, f), check (k > 0 and t.s <> 'no'))"
	s := "create table t " + strings.Replace(in, "k > 0 and t.s <> 'no'", "((k > 0) and (t.s <> 'no'))", 1)
	does(t, b, "create table t "+in, 0, "create t: "+s)
	if got := state(b); got != s+": \n" {
		t.Errorf("%q", got)
	}
	does(t, b, "create table a (k int)", 0, "create a: create table a (k int)")
	does(t, b, "create table t1 (k int)", 0, "create t1: create table t1 (k int)")
	if got := b.Tables(); !slices.Equal(got, []string{"a", "t", "t1"}) {
		t.Error(got)
	}
	// Whatever it would be: the name is there.
	for _, s := range []string{"create table t " + in, "create table t (k int)", "create table a (k int)", "create table a (x text, primary key (x))"} {
		refuses(t, b, s, api.ErrThere)
	}
	done(t, b, "drop table t")
	does(t, b, "create table t (x text)", 0, "create t: create table t (x text)")
	stands(t, b, "t", "")
}

func TestP1102CreateOfMaxTables(t *testing.T) {
	b := based(t)
	for i := range api.MaxTables {
		s := fmt.Sprintf("create table t%d (k int)", i)
		does(t, b, s, 0, fmt.Sprintf("create t%d: %s", i, s))
	}
	if len(b.Tables()) != 16 {
		t.Errorf("%d tables", len(b.Tables()))
	}
	refuses(t, b, "create table t16 (k int)", api.ErrSize)
	refuses(t, b, "create table a (k int)", api.ErrSize)
	refuses(t, b, "create table t3 (k int)", api.ErrThere)
	done(t, b, "drop table t7")
	refuses(t, b, "create table t8 (k int)", api.ErrThere)
	done(t, b, "create table a (k int)")
	refuses(t, b, "create table t7 (k int)", api.ErrSize)
}

func TestP1102Drop(t *testing.T) {
	b := based(t, "create table t (k int, a text, primary key (k))", "create table u (k int, unique (k))", "create table v (k int)",
		"insert into t values (3, 'x'), (1, null), (2, 'y')", "insert into u values (3), (1), (null), (2)")
	refuses(t, b, "drop table w", api.ErrName)
	refuses(t, b, "drop table k", api.ErrName)
	// The rows as they stand: by their keys, or as they were put there.
	does(t, b, "drop table t", 0, "delete t: 1, null; delete t: 2, 'y'; delete t: 3, 'x'; drop t: create table t (k int, a text, primary key (k))")
	refuses(t, b, "drop table t", api.ErrName)
	if got := b.Tables(); !slices.Equal(got, []string{"u", "v"}) {
		t.Error(got)
	}
	does(t, b, "drop table u", 0, "delete u: 3; delete u: 1; delete u: null; delete u: 2; drop u: create table u (k int, unique (k))")
	does(t, b, "drop table v", 0, "drop v: create table v (k int)")
	if got := b.Tables(); len(got) != 0 {
		t.Error(got)
	}
	refuses(t, b, "drop table v", api.ErrName)
}

func TestP1102DropOfSameRows(t *testing.T) {
	b := based(t, "create table t (k int, a text)", "insert into t values (1, 'x'), (2, 'y'), (1, 'x'), (1, 'x')")
	does(t, b, "drop table t", 0, "delete t: 1, 'x'; delete t: 2, 'y'; delete t: 1, 'x'; delete t: 1, 'x'; drop t: create table t (k int, a text)")
}

func TestP1102Insert(t *testing.T) {
	b := based(t, "create table t (k int, a text, d dec (2))")
	does(t, b, "insert into t values (2, 'x', 1.5)", 1, "insert t: 2, 'x', 1.50")
	does(t, b, "insert into t values (1, 'y', 3), (2, 'x', 0.005), (null, null, null)", 3, "insert t: 1, 'y', 3.00; insert t: 2, 'x', 0.00; insert t: null, null, null")
	// Without a Key the rows stand as they were put there, also those that are the same.
	does(t, b, "insert into t values (2, 'x', 1.50)", 1, "insert t: 2, 'x', 1.50")
	stands(t, b, "t", "2, 'x', 1.50 | 1, 'y', 3.00 | 2, 'x', 0.00 | null, null, null | 2, 'x', 1.50")
	// Named columns, in whichever order; the others are Null.
	does(t, b, "insert into t (a) values ('z')", 1, "insert t: null, 'z', null")
	does(t, b, "insert into t (d, k) values (7, 8), (9, 10)", 2, "insert t: 8, null, 7.00; insert t: 10, null, 9.00")
	does(t, b, "insert into t (d, a, k) values (1, 'b', 3)", 1, "insert t: 3, 'b', 1.00")
	does(t, b, "insert into t (k, a, d) values (1, 'b', 3)", 1, "insert t: 1, 'b', 3.00")
	// What the expressions come to.
	does(t, b, "insert into t values (1 + 2 * 3, 'a' + 'b', 1 / 3.0), (- 5, coalesce(null, 'c'), abs(- 2))", 2, "insert t: 7, 'ab', 0.33; insert t: -5, 'c', 2.00")
	refuses(t, b, "insert into u values (1, 'x', 1)", api.ErrName)
	refuses(t, based(t), "insert into t values (1)", api.ErrName)
}

func TestP1102InsertOfEveryKind(t *testing.T) {
	b := based(t, "create table t (i int, d dec (6), s text, f bool, p point)")
	does(t, b, "insert into t values (9223372036854775807, 9223372036854.775807, 'it''s', true, point(1, - 2))", 1, "insert t: 9223372036854775807, 9223372036854.775807, 'it''s', true, <1,-2>")
	does(t, b, "insert into t (p, f, s, d, i) values (point(0, 1), 1 > 2, '', - 0.5, - 9223372036854775807 - 1)", 1, "insert t: -9223372036854775808, -0.500000, '', false, <0,1>")
}

func TestP1102InsertNames(t *testing.T) {
	b := based(t, "create table t (k int, a text)", "insert into t values (1, 'x')")
	for _, names := range []string{"x", "k, x", "x, k", "t", "k, k", "a, k, a", "a, a", "k, a, k", "x, x"} {
		count := strings.Count(names, ",") + 1
		refuses(t, b, "insert into t ("+names+") values ("+strings.Join(slices.Repeat([]string{"null"}, count), ", ")+")", api.ErrName)
		// A wrong name is told ahead of whatever is wrong with the rows.
		refuses(t, b, "insert into t ("+names+") values (1, 2, 3, 4, 5)", api.ErrName)
		refuses(t, b, "insert into t ("+names+") values (1 / 0)", api.ErrName)
	}
}

func TestP1102InsertCounts(t *testing.T) {
	b := based(t, "create table t (k int, a text, c int)", "create table u (k int)")
	for _, s := range []string{
		"insert into t values (1)", "insert into t values (1, 'x')", "insert into t values (1, 'x', 2, 3)", "insert into u values (1, 2)", "insert into t (k) values (1, 'x')", "insert into t (k) values (1, 'x', 2)",
		"insert into t (k, a) values (1)", "insert into t (k, a) values (1, 'x', 2)", "insert into t (a, c, k) values ('x', 1)", "insert into t values (1, 'x', 2), (1, 'x')", "insert into t (k) values (1), (2), (3, 4)",
		// The count is told ahead of what is wrong with the values, row by row.
		"insert into t values (1 / 0)", "insert into t values (1, nobody)", "insert into t values ('x', 'x')", "insert into u values (k, 1 / 0)", "insert into t (k, a) values (1 / 0)", "insert into t values (1), (1 / 0, 'x', 1)",
	} {
		refuses(t, b, s, api.ErrType)
	}
	refuses(t, b, "insert into t values (1 / 0, 'x', 1), (1)", api.ErrZero)
}

func TestP1102InsertEmptyScope(t *testing.T) {
	b := based(t, "create table t (k int, a text)", "insert into t values (1, 'x')")
	for _, s := range []string{
		"insert into t values (k, 'x')", "insert into t values (t.k, 'x')", "insert into t values (2, a)", "insert into t (k) values (k)", "insert into t values (2, 'x'), (k, 'y')", "insert into t values (count(), 'x')",
		"insert into t values (sum(1), 'x')", "insert into t values (nobody(1), 'x')", "insert into t values (1 + k * 0, 'x')",
	} {
		refuses(t, b, s, api.ErrName)
	}
	for s, e := range map[string]api.Errno{
		"1 / 0": api.ErrZero, "9223372036854775807 + 1": api.ErrOver, "1 + 'x'": api.ErrType, "not 1": api.ErrType, "length(1)": api.ErrType,
	} {
		refuses(t, b, "insert into t values ("+s+", 'x')", e)
		refuses(t, b, "insert into t (a, k) values ('x', "+s+")", e)
		refuses(t, b, "insert into t values (2, 'y'), ("+s+", 'x')", e)
		// The first expression first, and all ahead of what Fit says.
		refuses(t, b, "insert into t values ("+s+", nobody)", e)
		refuses(t, b, "insert into t (a, k) values (nobody, "+s+")", api.ErrName)
		refuses(t, b, "insert into t (a, k) values (true, "+s+")", e)
		refuses(t, b, "insert into t values (true, "+s+")", e)
	}
}

func TestP1102InsertFit(t *testing.T) {
	b := based(t, "create table t (k int, a text not null, d dec (2), primary key (k), check (k <> 7 and d > 0))", "insert into t values (1, 'x', 1)")
	for s, e := range map[string]api.Errno{
		"(2, null, 1)": api.ErrNull, "(null, 'x', 1)": api.ErrNull, "('x', 'x', 1)": api.ErrType, "(2, 3, 1)": api.ErrType, "(2, 'x', 'x')": api.ErrType, "(2.0, 'x', 1)": api.ErrType, "(true, 'x', 1)": api.ErrType,
		"(2, 'x', 9223372036854775807)": api.ErrOver, "(7, 'x', 1)": api.ErrCheck, "(2, 'x', 0)": api.ErrCheck, "(2, 'x', 0.001)": api.ErrCheck,
		// Fit's error ahead of a key's.
		"(1, null, 1)": api.ErrNull, "(1, 'x', 0)": api.ErrCheck, "(1, 'x', 'x')": api.ErrType, "(1, 2, 3)": api.ErrType,
	} {
		refuses(t, b, "insert into t values "+s, e)
		refuses(t, b, "insert into t values (2, 'x', 3), (3, 'x', 3), "+s, e)
		// Row by row: what is wrong behind it is not told.
		refuses(t, b, "insert into t values "+s+", (1, 'x', 3), (1 / 0, 'x', 3), (1)", e)
	}
	refuses(t, b, "insert into t (k) values (2)", api.ErrNull)
	refuses(t, b, "insert into t (a) values ('x')", api.ErrNull)
	refuses(t, based(t, "create table t (k int, check (k / 0 = 1))"), "insert into t values (1)", api.ErrZero)
	refuses(t, based(t, "create table t (k int, check (k))"), "insert into t values (1)", api.ErrType)
	// An unknown check holds.
	does(t, b, "insert into t (a, k) values ('x', 2)", 1, "insert t: 2, 'x', null")
}

func TestP1102InsertKeys(t *testing.T) {
	b := based(t, "create table t (k int, a text, c int, primary key (k), unique (a), unique (c, a))")
	does(t, b, "insert into t values (2, 'x', 1), (1, null, 1), (3, null, 1)", 3, "insert t: 2, 'x', 1; insert t: 1, null, 1; insert t: 3, null, 1")
	stands(t, b, "t", "1, null, 1 | 2, 'x', 1 | 3, null, 1")
	for _, s := range []string{
		// There already, in the table,
		"(1, 'y', 2)", "(2, 'x', 1)", "(3, null, null)", "(4, 'x', 2)", "(4, 'x', null)",
		// or among the new rows.
		"(4, 'y', 2), (4, 'z', 3)", "(4, 'y', 2), (5, 'y', 3)", "(4, 'y', 2), (5, 'z', 2), (4, 'w', 1)", "(4, null, null), (4, null, null)",
		// A row that is wrong behind it is not told.
		"(1, 'y', 2), (1 / 0, 'y', 2)", "(4, 'x', 2), (4)", "(4, 'y', 2), (4, 'z', 2), (nobody, 'z', 2)",
	} {
		refuses(t, b, "insert into t values "+s, api.ErrKey)
	}
	// A row ahead that is wrong otherwise is.
	refuses(t, b, "insert into t values (1 / 0, 'y', 2), (1, 'y', 2)", api.ErrZero)
	refuses(t, b, "insert into t values (4, 'y', 2), (null, 'y', 2), (4, 'z', 1)", api.ErrNull)
	does(t, b, "insert into t values (5, null, null), (4, 'y', 1), (0, 'z', null)", 3, "insert t: 5, null, null; insert t: 4, 'y', 1; insert t: 0, 'z', null")
	stands(t, b, "t", "0, 'z', null | 1, null, 1 | 2, 'x', 1 | 3, null, 1 | 4, 'y', 1 | 5, null, null")
}

func TestP1102InsertUniques(t *testing.T) {
	// Without a Key, and with two columns of which one may be Null.
	b := based(t, "create table t (a int, c text, unique (a, c))")
	done(t, b, "insert into t values (1, 'x'), (1, 'y'), (2, 'x'), (1, null), (1, null), (null, 'x'), (null, 'x'), (null, null), (null, null)")
	refuses(t, b, "insert into t values (2, 'x')", api.ErrKey)
	refuses(t, b, "insert into t values (3, 'x'), (1, null), (3, 'x')", api.ErrKey)
	stands(t, b, "t", "1, 'x' | 1, 'y' | 2, 'x' | 1, null | 1, null | null, 'x' | null, 'x' | null, null | null, null")
	// A value that one Unique has says nothing of another one, nor of the Key.
	b = based(t, "create table t (a int, c int, d int, primary key (a), unique (c), unique (d))", "insert into t values (1, 2, 3), (2, 3, 1), (3, 1, 2)", "insert into t values (4, null, 4), (5, 4, null), (6, null, null)")
	refuses(t, b, "insert into t values (7, 4, 7)", api.ErrKey)
	refuses(t, b, "insert into t values (7, 7, 4)", api.ErrKey)
	refuses(t, b, "insert into t values (6, 7, 7)", api.ErrKey)
	done(t, b, "insert into t values (7, 6, 6)")
	// Two Uniques of the same column are no more than one.
	b = based(t, "create table t (a int, unique (a), unique (a))", "insert into t values (1), (2)")
	refuses(t, b, "insert into t values (1)", api.ErrKey)
}

func TestP1102InsertKeysBehindFit(t *testing.T) {
	// The keys are those of the row that Fit makes.
	b := based(t, "create table t (d dec (1), primary key (d))", "insert into t values (1), (2.25), (0.94)")
	stands(t, b, "t", "0.9 | 1.0 | 2.2")
	refuses(t, b, "insert into t values (0.96)", api.ErrKey)
	refuses(t, b, "insert into t values (3.04), (3)", api.ErrKey)
}

func TestP1102RowsStandByKeys(t *testing.T) {
	b := based(t, "create table t (a text, k int, primary key (k, a))", "insert into t values ('b', 2), ('a', 10), ('b', - 1), ('a', 2)", "insert into t values ('', 2), ('ab', 2), ('a', 3)")
	stands(t, b, "t", "'b', -1 | '', 2 | 'a', 2 | 'ab', 2 | 'b', 2 | 'a', 3 | 'a', 10")
	b = based(t, "create table t (p point, f bool, primary key (f, p))", "insert into t values (point(1, 2), true), (point(2, - 5), false), (point(1, 3), false), (point(- 4, 9), true)")
	stands(t, b, "t", "<1,3>, false | <2,-5>, false | <-4,9>, true | <1,2>, true")
	// A Unique moves nothing.
	b = based(t, "create table t (k int, unique (k))", "insert into t values (3), (1), (2)")
	stands(t, b, "t", "3 | 1 | 2")
}

func TestP1102InsertMaxRows(t *testing.T) {
	for _, in := range []string{"k int", "k int, primary key (k)", "k int, unique (k)"} {
		b := full(t, in, api.MaxRows-1)
		// The last one that is allowed, and one more.
		refuses(t, b, "insert into t values (5000), (5001)", api.ErrRows)
		does(t, b, "insert into t values (5000)", 1, "insert t: 5000")
		refuses(t, b, "insert into t values (5001)", api.ErrRows)
		refuses(t, b, "insert into t values (5001), (5001)", api.ErrRows)
		// Whatever is wrong with the row itself is told first.
		refuses(t, b, "insert into t values (5001, 1)", api.ErrType)
		refuses(t, b, "insert into t values (1 / 0)", api.ErrZero)
		refuses(t, b, "insert into t values ('x')", api.ErrType)
		refuses(t, b, "insert into t values (5001), (1 / 0)", api.ErrRows)
		e := api.ErrKey
		if in == "k int" {
			e = api.ErrRows
		}
		refuses(t, b, "insert into t values (7)", e)
		does(t, b, "delete from t where k = 5000", 1, "delete t: 5000")
		does(t, b, "insert into t values (5001)", 1, "insert t: 5001")
	}
}

func TestP1102InsertNothingBeforeAnError(t *testing.T) {
	b := based(t, "create table t (k int, primary key (k))", "insert into t values (5)")
	refuses(t, b, "insert into t values (1), (2), (3), (5)", api.ErrKey)
	stands(t, b, "t", "5")
	does(t, b, "insert into t values (1), (2), (3)", 3, "insert t: 1; insert t: 2; insert t: 3")
}

func TestP1102Update(t *testing.T) {
	start := []string{"create table t (k int, a text, d dec (1), primary key (k))", "insert into t values (2, 'x', 1), (1, null, 2), (3, 'y', 0.5)"}
	b := based(t, start...)
	does(t, b, "update t set a = 'z'", 3, "update t: 1, null, 2.0 -> 1, 'z', 2.0; update t: 2, 'x', 1.0 -> 2, 'z', 1.0; update t: 3, 'y', 0.5 -> 3, 'z', 0.5")
	stands(t, b, "t", "1, 'z', 2.0 | 2, 'z', 1.0 | 3, 'z', 0.5")
	for where, want := range map[string]string{
		"k = 2": "2", "k > 1": "2 3", "t.k < 3": "1 2", "true": "1 2 3", "false": "", "null": "", "a is null": "1", "a = 'x' or k = 3": "2 3", "a <> 'x'": "3", "k > 7": "", "not (a = 'x')": "3", "d < k": "2 3", "null or k = 1": "1",
	} {
		b := based(t, start...)
		r := done(t, b, "update t set d = 7 where "+where)
		var got []string
		for _, x := range r.Changes {
			got = append(got, printedRow(x.Now[:1]))
		}
		if strings.Join(got, " ") != want || r.Count != len(got) {
			t.Errorf("%s: %s, %d, not %s", where, got, r.Count, want)
		}
	}
	b = based(t, start...)
	does(t, b, "update t set d = d + k, a = 'w' + a where k <> 1", 2, "update t: 2, 'x', 1.0 -> 2, 'wx', 3.0; update t: 3, 'y', 0.5 -> 3, 'wy', 3.5")
	does(t, b, "update t set a = null where k = 2", 1, "update t: 2, 'wx', 3.0 -> 2, null, 3.0")
	stands(t, b, "t", "1, null, 2.0 | 2, null, 3.0 | 3, 'wy', 3.5")
}

func TestP1102UpdateNames(t *testing.T) {
	b := based(t, "create table t (k int, a text)", "insert into t values (1, 'x')")
	for _, s := range []string{
		"update u set k = 1", "update u set x = 1 where 1", "update k set k = 1", "update t set x = 1", "update t set t = 1", "update t set k = 1, x = 2", "update t set k = 1, k = 1", "update t set k = 1, a = 'x', k = 2", "update t set x = 1, x = 1",
		// Ahead of all that is wrong with rows.
		"update t set x = 1 / 0", "update t set x = 1 where 1 / 0 = 1", "update t set k = 1 / 0, k = 2", "update t set k = 'x', x = 1", "update t set x = 1 where 7",
	} {
		refuses(t, b, s, api.ErrName)
	}
	// Also where there are no rows.
	b = based(t, "create table t (k int)")
	refuses(t, b, "update t set x = 1", api.ErrName)
	refuses(t, b, "update t set k = 1, k = 2 where false", api.ErrName)
	does(t, b, "update t set k = nobody where nobody", 0, "")
}

func TestP1102UpdateWhereWrong(t *testing.T) {
	b := based(t, "create table t (k int, a text)", "insert into t values (1, 'x'), (2, 'y')")
	for where, e := range map[string]api.Errno{
		"1": api.ErrType, "k": api.ErrType, "'x'": api.ErrType, "1.5": api.ErrType, "1 / 0 = 1": api.ErrZero, "nobody": api.ErrName, "u.k = 1": api.ErrName, "count() > 0": api.ErrName, "a + 1 = 1": api.ErrType, "k / (k - 2) = - 1": api.ErrZero, "a > 1": api.ErrType,
	} {
		refuses(t, b, "update t set k = 7 where "+where, e)
		refuses(t, b, "delete from t where "+where, e)
		// The rows are found ahead of what they get.
		refuses(t, b, "update t set k = 9223372036854775807 + k where "+where, e)
		refuses(t, b, "update t set k = true where "+where, e)
	}
	refuses(t, b, "update t set k = 1 / 0 where 1", api.ErrType)
	refuses(t, b, "update t set k = 1 where nobody", api.ErrName)
	// Of the first row that is wrong.
	refuses(t, b, "delete from t where 1 / (k - 1) = 9223372036854775807 * k", api.ErrZero)
	refuses(t, b, "delete from t where 1 / (k - 2) = 9223372036854775807 + k", api.ErrOver)
}

func TestP1102UpdateSetsWrong(t *testing.T) {
	b := based(t, "create table t (k int, a text not null, d dec (1), check (k <> 9))", "insert into t values (1, 'x', 1), (2, 'y', 2)")
	for set, e := range map[string]api.Errno{
		"k = 1 / 0": api.ErrZero, "k = nobody": api.ErrName, "k = u.k": api.ErrName, "k = 'x'": api.ErrType, "k = 1.0": api.ErrType, "a = null": api.ErrNull, "k = 9": api.ErrCheck, "d = 9223372036854775807": api.ErrOver, "a = 1": api.ErrType, "k = count()": api.ErrName, "k = 1 / (k - 2)": api.ErrZero,
		// A Set's own error ahead of what Fit says, and the first Set's first.
		"a = null, k = 1 / 0": api.ErrZero, "k = 'x', d = nobody": api.ErrName, "k = 1 / 0, d = nobody": api.ErrZero, "d = nobody, k = 1 / 0": api.ErrName, "k = 9, a = 1 / 0": api.ErrZero,
		// Fit goes column by column, not Set by Set.
		"a = null, k = 'x'": api.ErrType, "d = 'x', a = null": api.ErrNull, "k = 9, a = null": api.ErrNull,
	} {
		refuses(t, b, "update t set "+set, e)
		refuses(t, b, "update t set "+set+" where k = 2", e)
		does(t, b, "update t set "+set+" where k = 7", 0, "")
	}
	// Row by row: what is wrong with a row behind is not told.
	refuses(t, b, "update t set k = 'x', d = 1 / (k - 2)", api.ErrType)
	refuses(t, b, "update t set k = 'x', d = 1 / (k - 1)", api.ErrZero)
}

func TestP1102UpdateKeys(t *testing.T) {
	start := []string{"create table t (k int, a text, c int, primary key (k), unique (a), unique (c, a))", "insert into t values (1, 'x', 1), (2, null, 1), (3, 'y', 2), (4, null, 1)"}
	b := based(t, start...)
	for _, s := range []string{
		"k = 2", "k = 2 where k = 1", "k = 3 where k > 3", "k = k + 1 where k < 4", "k = - k * (k - 5)", "a = 'x'", "a = 'x' where k = 3", "a = 'y' where k = 1", "a = 'z' where a is null", "a = 'z' where k > 2", "k = 1, a = 'w' where k = 2", "k = 7, a = 'x' where k = 2", "a = 'z', c = 9 where a is null",
	} {
		refuses(t, b, "update t set "+s, api.ErrKey)
	}
	// Fit's error ahead of a key's, whichever row has it.
	refuses(t, b, "update t set k = 2, a = 1", api.ErrType)
	refuses(t, b, "update t set k = 1 / (k - 4) * 0", api.ErrZero)
	refuses(t, b, "update t set k = coalesce(null, 2), a = null, c = 'x' where k > 1", api.ErrType)
	// Keys that meet on the way, and not in the end.
	does(t, b, "update t set k = k + 1", 4, "update t: 1, 'x', 1 -> 2, 'x', 1; update t: 2, null, 1 -> 3, null, 1; update t: 3, 'y', 2 -> 4, 'y', 2; update t: 4, null, 1 -> 5, null, 1")
	does(t, b, "update t set k = k - 1", 4, "update t: 2, 'x', 1 -> 1, 'x', 1; update t: 3, null, 1 -> 2, null, 1; update t: 4, 'y', 2 -> 3, 'y', 2; update t: 5, null, 1 -> 4, null, 1")
	done(t, b, "delete from t where a is null")
	does(t, b, "update t set k = 4 - k", 2, "update t: 1, 'x', 1 -> 3, 'x', 1; update t: 3, 'y', 2 -> 1, 'y', 2")
	stands(t, b, "t", "1, 'y', 2 | 3, 'x', 1")
	// Keys that stay as they are, or go to Null, are in nobody's way.
	does(t, b, "update t set k = k, a = null, c = 1", 2, "update t: 1, 'y', 2 -> 1, null, 1; update t: 3, 'x', 1 -> 3, null, 1")
}

func TestP1102UpdateUniquesWithoutKey(t *testing.T) {
	b := based(t, "create table t (a int, c int, unique (a))", "insert into t values (1, 1), (2, 2), (null, 3), (null, 4)")
	refuses(t, b, "update t set a = 2 where c = 1", api.ErrKey)
	refuses(t, b, "update t set a = 7", api.ErrKey)
	refuses(t, b, "update t set a = 1 where c = 3", api.ErrKey)
	does(t, b, "update t set a = 3 - a where c < 3", 2, "update t: 1, 1 -> 2, 1; update t: 2, 2 -> 1, 2")
	does(t, b, "update t set a = null", 4, "update t: 2, 1 -> null, 1; update t: 1, 2 -> null, 2")
	stands(t, b, "t", "null, 1 | null, 2 | null, 3 | null, 4")
}

func TestP1102UpdateReadsOldValues(t *testing.T) {
	b := based(t, "create table t (a int, c int, d int)", "insert into t values (1, 2, 3), (4, 5, 6)")
	does(t, b, "update t set a = c, c = d, d = a", 2, "update t: 1, 2, 3 -> 2, 3, 1; update t: 4, 5, 6 -> 5, 6, 4")
	does(t, b, "update t set d = a + c + d, a = d, c = t.d where a = 2", 1, "update t: 2, 3, 1 -> 1, 1, 6")
	// Of other rows, too: none sees what another one got.
	b = based(t, "create table t (a int)", "insert into t values (1), (2), (3)")
	does(t, b, "update t set a = a + 1 where a < 3", 2, "update t: 1 -> 2; update t: 2 -> 3")
	stands(t, b, "t", "2 | 3 | 3")
}

func TestP1102UpdateOfNoOtherValue(t *testing.T) {
	b := based(t, "create table t (k int, d dec (1))", "insert into t values (1, 1), (2, 2), (3, 1), (2, 2)")
	does(t, b, "update t set k = k", 4, "")
	does(t, b, "update t set d = 1", 4, "update t: 2, 2.0 -> 2, 1.0; update t: 2, 2.0 -> 2, 1.0")
	does(t, b, "update t set d = 1.04, k = k where d = 1", 4, "")
	does(t, b, "update t set d = 1.05 where k = 1", 1, "")
	does(t, b, "update t set d = 1.06 where k = 1", 1, "update t: 1, 1.0 -> 1, 1.1")
	does(t, b, "update t set d = null where k = 1", 1, "update t: 1, 1.1 -> 1, null")
	does(t, b, "update t set d = null where k = 1", 1, "")
}

func TestP1102UpdateMoves(t *testing.T) {
	// By its key a row comes to stand elsewhere; without one it stays.
	b := based(t, "create table t (k int, a text, primary key (k))", "insert into t values (1, 'x'), (2, 'y'), (3, 'z')")
	does(t, b, "update t set k = 9 where k = 1", 1, "update t: 1, 'x' -> 9, 'x'")
	stands(t, b, "t", "2, 'y' | 3, 'z' | 9, 'x'")
	does(t, b, "update t set k = - k where k > 2", 2, "update t: 3, 'z' -> -3, 'z'; update t: 9, 'x' -> -9, 'x'")
	stands(t, b, "t", "-9, 'x' | -3, 'z' | 2, 'y'")
	b = based(t, "create table t (k int, a text)", "insert into t values (1, 'x'), (2, 'y'), (3, 'z')")
	done(t, b, "update t set k = 9 where k = 1")
	stands(t, b, "t", "9, 'x' | 2, 'y' | 3, 'z'")
	// Each row stays, also where another one was as it is now.
	b = based(t, "create table t (k int)", "insert into t values (1), (1), (2), (3), (2)")
	does(t, b, "update t set k = k + 1", 5, "update t: 1 -> 2; update t: 1 -> 2; update t: 2 -> 3; update t: 3 -> 4; update t: 2 -> 3")
	stands(t, b, "t", "2 | 2 | 3 | 4 | 3")
}

func TestP1102Delete(t *testing.T) {
	start := []string{"create table t (k int, a text, primary key (k))", "insert into t values (4, 'y'), (2, 'x'), (1, null), (3, 'x')"}
	for where, want := range map[string]string{
		"": "1, null; 2, 'x'; 3, 'x'; 4, 'y'", " where true": "1, null; 2, 'x'; 3, 'x'; 4, 'y'", " where a = 'x'": "2, 'x'; 3, 'x'", " where k = 1 or t.k = 4": "1, null; 4, 'y'", " where a is null": "1, null", " where false": "", " where null": "", " where k > 7": "", " where a <> 'x'": "4, 'y'",
	} {
		b := based(t, start...)
		var l []string
		if want != "" {
			for _, row := range strings.Split(want, "; ") {
				l = append(l, "delete t: "+row)
			}
		}
		does(t, b, "delete from t"+where, len(l), strings.Join(l, "; "))
		var left []string
		for _, row := range []string{"1, null", "2, 'x'", "3, 'x'", "4, 'y'"} {
			if !slices.Contains(l, "delete t: "+row) {
				left = append(left, row)
			}
		}
		stands(t, b, "t", strings.Join(left, " | "))
	}
	b := based(t, "create table t (k int)", "insert into t values (2), (1), (2), (3), (2), (1)")
	does(t, b, "delete from t where k = 2", 3, "delete t: 2; delete t: 2; delete t: 2")
	stands(t, b, "t", "1 | 3 | 1")
	does(t, b, "delete from t", 3, "delete t: 1; delete t: 3; delete t: 1")
	does(t, b, "delete from t", 0, "")
	does(t, b, "delete from t where nobody / 0 = 'x'", 0, "")
	if _, ok := b.Data("t"); !ok {
		t.Error("the table went with its rows")
	}
	for _, s := range []string{"delete from u", "delete from k", "delete from u where 1", "delete from u where 1 / 0 = 1"} {
		refuses(t, b, s, api.ErrName)
	}
}

func TestP1102KeysOfRowsThatWent(t *testing.T) {
	b := based(t, "create table t (k int, a text, primary key (k), unique (a))", "insert into t values (1, 'x'), (2, 'y')", "delete from t where k = 1", "insert into t values (1, 'x')", "update t set k = 3, a = 'z' where k = 1", "insert into t values (1, 'x')")
	stands(t, b, "t", "1, 'x' | 2, 'y' | 3, 'z'")
	refuses(t, b, "insert into t values (3, 'w')", api.ErrKey)
	refuses(t, b, "insert into t values (4, 'z')", api.ErrKey)
}

func TestP1102Select(t *testing.T) {
	b := based(t, "create table t (k int, a text, primary key (k))", "create table u (k int, d dec (1))", "insert into t values (2, 'x'), (1, null), (3, 'x')", "insert into u values (3, 1.5), (1, 2), (3, 0.5)")
	for _, c := range []struct {
		s     string
		names []string
		want  string
	}{
		{"select * from t", []string{"k", "a"}, "1, null | 2, 'x' | 3, 'x'"},
		{"select * from u", []string{"k", "d"}, "3, 1.5 | 1, 2.0 | 3, 0.5"},
		{"select a as b, count() from t group by a order by b desc", []string{"b", ""}, "'x', 2 | null, 1"},
		{"select t.k, d from t join u on t.k = u.k", []string{"k", "d"}, "1, 2.0 | 3, 1.5 | 3, 0.5"},
		{"select k from t where k > 1 union select k from u limit 2", []string{"k"}, "2 | 3"},
		{"select 1 + 1", []string{""}, "2"},
		{"select k from t where false", []string{"k"}, ""},
	} {
		was := state(b)
		r := done(t, b, c.s)
		if !slices.Equal(r.Names, c.names) || printedRows(r.Rows) != c.want || r.Count != len(rowsOf(c.want)) || len(r.Rows) != r.Count || len(r.Changes) != 0 {
			t.Errorf("%s: %s", c.s, short(r))
		}
		if state(b) != was {
			t.Errorf("%s changed something", c.s)
		}
	}
	for s, e := range map[string]api.Errno{
		"select * from v": api.ErrName, "select nobody from t": api.ErrName, "select 1 / 0": api.ErrZero, "select k from t where k": api.ErrType, "select k from t union select 1, 2": api.ErrType, "select *": api.ErrName,
	} {
		refuses(t, b, s, e)
	}
	refuses(t, full(t, "k int", api.MaxRows), "select * from t, t as u", api.ErrRows)
	if r := done(t, full(t, "k int", api.MaxRows), "select k from t"); r.Count != api.MaxRows || len(r.Rows) != api.MaxRows {
		t.Errorf("%d, %d rows", r.Count, len(r.Rows))
	}
}

// A select is Run of all tables as they stand.
func TestP1102SelectIsRun(t *testing.T) {
	b := based(t, "create table t (k int, a text, primary key (k))", "create table u (k int)", "create table e (x int)", "insert into t values (2, 'x'), (1, null), (3, 'x')", "insert into u values (3), (1), (3)")
	var db []rel.Data
	for _, name := range b.Tables() {
		d, _ := b.Data(name)
		db = append(db, d)
	}
	for _, s := range []string{
		"select * from t, u", "select * from t left join e on true", "select distinct k from u", "select a, sum(k) as s from t group by a having count() > 0 order by s", "select k from t union all select k from u order by k desc limit 4", "select 1 from e", "select * from t, t", "select k from t, u",
	} {
		names, rows, e := rel.Run(statement(s).Query, db)
		if r, f := b.Do(statement(s)); f != e || !alike(r, Result{Names: names, Rows: rows, Count: len(rows)}) {
			t.Errorf("%s: %s, %d, not %s, %d", s, short(r), f, short(rows), e)
		}
	}
}
