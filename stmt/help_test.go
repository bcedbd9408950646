package stmt_test

import (
	"fmt"
	"math"
	"math/rand"
	"reflect"
	"strings"
	"testing"

	"longstop/api"
	"longstop/expr"
	"longstop/lexer"
	"longstop/schema"
	"longstop/stmt"
)

type (
	Column = schema.Column
	Core   = stmt.Core
	Item   = stmt.Item
	Node   = expr.Node
	Order  = stmt.Order
	Query  = stmt.Query
	Set    = stmt.Set
	Source = stmt.Source
	Stmt   = stmt.Stmt
	Table  = schema.Table
	Token  = lexer.Token
)

const (
	least = math.MinInt
	great = math.MaxInt
)

func pick[T any](r *rand.Rand, l ...T) T { return l[r.Intn(len(l))] }

// short tells x in a line that can be read.
func short(x any) string {
	s := fmt.Sprintf("%+v", x)
	return s[:min(len(s), 600)]
}

// nodes is of texts that are expressions'; "" is of none.
func nodes(s string) []Node {
	if s == "" {
		return nil
	}
	l, e := expr.Parse(s)
	if e != api.OK {
		panic(s + " is no expression's text")
	}
	return l
}

func exprs(l ...string) [][]Node {
	var out [][]Node
	for _, s := range l {
		out = append(out, nodes(s))
	}
	return out
}

// split is of texts that are tokens.
func split(s string) []Token {
	l, e := lexer.Split(s)
	if e != api.OK {
		panic(short(s) + " is no tokens")
	}
	return l
}

// words gives the tokens' texts.
func words(s string) []string {
	var out []string
	for _, t := range split(s) {
		out = append(out, t.Text)
	}
	return out
}

// selected gives the statement of one Core, without anything behind it.
func selected(c Core) Stmt {
	return Stmt{Kind: stmt.Select, Query: Query{Cores: []Core{c}, Limit: -1}}
}

// alike tells whether two have the same in them, nil or empty lists being the
// same.
func alike(a, b any) bool { return alikeValues(reflect.ValueOf(a), reflect.ValueOf(b)) }

func alikeValues(a, b reflect.Value) bool {
	switch a.Kind() {
	case reflect.Struct:
		for i := range a.NumField() {
			if !alikeValues(a.Field(i), b.Field(i)) {
				return false
			}
		}
		return true
	case reflect.Slice:
		if a.Len() != b.Len() {
			return false
		}
		for i := range a.Len() {
			if !alikeValues(a.Index(i), b.Index(i)) {
				return false
			}
		}
		return true
	}
	return a.Interface() == b.Interface()
}

// copied gives what has nothing in common with x's memory but texts.
func copied[T any](x T) T { return copiedValue(reflect.ValueOf(x)).Interface().(T) }

func copiedValue(v reflect.Value) reflect.Value {
	out := reflect.New(v.Type()).Elem()
	switch v.Kind() {
	case reflect.Struct:
		for i := range v.NumField() {
			out.Field(i).Set(copiedValue(v.Field(i)))
		}
	case reflect.Slice:
		if !v.IsNil() {
			out.Set(reflect.MakeSlice(v.Type(), v.Len(), v.Len()))
		}
		for i := range v.Len() {
			out.Index(i).Set(copiedValue(v.Index(i)))
		}
	default:
		out.Set(v)
	}
	return out
}

// parsed complains unless s is just that statement's text.
func parsed(t *testing.T, s string, want Stmt) {
	t.Helper()
	got, e := stmt.Parse(s)
	if e != api.OK || !alike(got, want) {
		t.Fatalf("Parse of %s: %s, %d, not %s", short(s), short(got), e, short(want))
	}
}

// read gives the statement of a text that is one's.
func read(t *testing.T, s string) Stmt {
	t.Helper()
	got, e := stmt.Parse(s)
	if e != api.OK {
		t.Fatalf("Parse of %s: %d", short(s), e)
	}
	return got
}

// refused complains unless Parse answers that error, and nothing beside it.
func refused(t *testing.T, s string, want api.Errno) {
	t.Helper()
	if got, e := stmt.Parse(s); e != want || !alike(got, Stmt{}) {
		t.Fatalf("Parse of %s: %s, %d, not %d", short(s), short(got), e, want)
	}
}

// printed complains unless Print writes s as that text.
func printed(t *testing.T, s Stmt, want string) {
	t.Helper()
	if got, e := stmt.Print(s); e != api.OK || got != want {
		t.Fatalf("Print of %s: %s, %d, not %s", short(s), short(got), e, short(want))
	}
}

// unprinted complains unless Print answers ErrArg, and nothing beside it.
func unprinted(t *testing.T, s Stmt) {
	t.Helper()
	if got, e := stmt.Print(s); e != api.ErrArg || got != "" {
		t.Fatalf("Print of %s: %s, %d", short(s), short(got), e)
	}
}

const reserved = "and or not is null true false select distinct from where group by having order asc desc limit union all join left cross on as insert into values update set delete create table drop primary key unique check begin commit rollback"

// nameable, nameless: what may be a name, and what may not.
func nameable() []string {
	return []string{"a", "z", "_", "__", "a1", "_1", "ab_9z", "nulls", "tables", "sum", "count", "int", "dec", "text", "bool", "point", "asce", "an", "keys", strings.Repeat("a", api.MaxName), strings.Repeat("_", api.MaxName)}
}

func nameless() []string {
	l := []string{"", " ", "A", "aB", "1", "1a", "a b", " a", "a ", "a.b", "a, b", "a as b", "a-b", "'a'", "a\n", "\xff", "é", "*", "(", ")", ",", "t (a", "a)", "begin", strings.Repeat("a", api.MaxName+1), strings.Repeat("a", 100000)}
	return append(l, strings.Fields(reserved)...)
}

// samples: texts of every kind, with and without the parts that may be left
// away, and with those that may come often none, once and several times.
var samples = []string{
	"create table t (a int)",
	"create table t (a int not null)",
	"create table t (a int, b text not null, c bool, d point, e dec (3))",
	"create table t (a int, primary key (a))",
	"create table t (a int, b int, primary key (b, a))",
	"create table t (a int, unique (a))",
	"create table t (a int, b dec (0), unique (a), unique (b, a), unique (b))",
	"create table t (a int, check (a > 0))",
	"create table t (a int, b int, primary key (a), unique (b), check (t.a <> b))",
	"create table t (a int, primary key (a), check (true))",
	"create table t (a int, unique (a), check (f(a, 1)))",
	"drop table t",
	"insert into t values (1)",
	"insert into t (a) values (1)",
	"insert into t (a, b, c) values (1, 'x', null)",
	"insert into t values (1), (2), (3)",
	"insert into t (a, b) values (1 + 2, f(a, b)), (-1), (a, b, c)",
	"update t set a = 1",
	"update t set a = 1, b = a + 1, c = b = 2",
	"update t set a = 1 where a > 2",
	"update t set a = (1), b = null where a is not null",
	"delete from t",
	"delete from t where a = 1 or b",
	"begin",
	"commit",
	"rollback",
	"select 1",
	"select *",
	"select distinct *",
	"select distinct a, b as c",
	"select a as x, t.b, f(1, 2) as y",
	"select * from t",
	"select * from t as u",
	"select * from t, u",
	"select * from t as a, u as b, v",
	"select * from t cross join u",
	"select * from t cross join u as v",
	"select * from t join u on t.a = u.a",
	"select * from t as x join u as y on x.a = y.a",
	"select * from t left join u on t.a = u.a",
	"select * from t left join u as y on true join v on false, w cross join z",
	"select 1 where false",
	"select a from t where a > 1 and b",
	"select a from t group by a",
	"select count(), a + 1 from t group by a + 1, b, c",
	"select 1 having true",
	"select a from t where b group by a having count() > 1",
	"select 1 union select 2",
	"select 1 union all select 2",
	"select 1 union select 2 union all select 3 union select * from t where a",
	"select a from t order by a",
	"select a from t order by a asc",
	"select a from t order by a desc",
	"select a from t order by a asc, b desc, c + 1, -d",
	"select a from t limit 2",
	"select a limit 0",
	"select a from t order by a limit 9223372036854775807",
	"select distinct a as b from t as u, v left join w on a where b group by c having d union all select 1 union select * from t order by e desc, f limit 3",
}
