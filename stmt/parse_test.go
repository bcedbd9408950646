package stmt_test

import (
	"fmt"
	"math/rand"
	"slices"
	"strconv"
	"strings"
	"testing"

	"longstop/api"
	"longstop/lexer"
	"longstop/stmt"
)

func TestP902Example(t *testing.T) {
	parsed(t, "select a from t limit 2", Stmt{Kind: stmt.Select, Query: Query{
		Cores: []Core{{Items: []Item{{Expr: nodes("a")}}, From: []Source{{Table: "t"}}}},
		Limit: 2,
	}})
}

func TestP902Creates(t *testing.T) {
	parsed(t, "create table t (a int)", Stmt{Kind: stmt.Create, Table: Table{Name: "t", Columns: []Column{{Name: "a", Kind: api.Int}}}})
	parsed(t, "create table goods (id int not null, price dec(2), name text not null, sold bool, at point, primary key (name, id), unique (at), unique (id, price), check (price > 0 or goods.sold))", Stmt{Kind: stmt.Create, Table: Table{
		Name: "goods",
		Columns: []Column{
			{Name: "id", Kind: api.Int, Must: true},
			{Name: "price", Kind: api.Dec, Scale: 2},
			{Name: "name", Kind: api.Text, Must: true},
			{Name: "sold", Kind: api.Bool},
			{Name: "at", Kind: api.Point},
		},
		Key:     []int{2, 0},
		Uniques: [][]int{{4}, {0, 1}},
		Check:   nodes("price > 0 or goods.sold"),
	}})
	// The types' words are names, too.
	parsed(t, "create table int (int int, dec dec (0), text text, bool bool, point point, primary key (dec))", Stmt{Kind: stmt.Create, Table: Table{
		Name:    "int",
		Columns: []Column{{Name: "int", Kind: api.Int}, {Name: "dec", Kind: api.Dec}, {Name: "text", Kind: api.Text}, {Name: "bool", Kind: api.Bool}, {Name: "point", Kind: api.Point}},
		Key:     []int{1},
	}})
}

func TestP902SmallOnes(t *testing.T) {
	parsed(t, "drop table t", Stmt{Kind: stmt.Drop, Name: "t"})
	parsed(t, "delete from t", Stmt{Kind: stmt.Delete, Name: "t"})
	parsed(t, "delete from t where a = 1 and not b", Stmt{Kind: stmt.Delete, Name: "t", Where: nodes("a = 1 and not b")})
	parsed(t, "begin", Stmt{Kind: stmt.Begin})
	parsed(t, "commit", Stmt{Kind: stmt.Commit})
	parsed(t, "rollback", Stmt{Kind: stmt.Rollback})
}

func TestP902Inserts(t *testing.T) {
	parsed(t, "insert into t values (1)", Stmt{Kind: stmt.Insert, Name: "t", Rows: [][][]Node{exprs("1")}})
	parsed(t, "insert into t (a) values (1)", Stmt{Kind: stmt.Insert, Name: "t", Names: []string{"a"}, Rows: [][][]Node{exprs("1")}})
	// How many names and values there are, and whether names are a column's, no
	// one asks here.
	parsed(t, "insert into t (b, a, b) values (1, -2, 'x'), (f(1, 2)), (null, a)", Stmt{
		Kind: stmt.Insert, Name: "t", Names: []string{"b", "a", "b"},
		Rows: [][][]Node{exprs("1", "-2", "'x'"), exprs("f(1, 2)"), exprs("null", "a")},
	})
	for _, s := range []string{
		"insert into t", "insert into t values", "insert into t values ()", "insert into t values 1", "insert into t () values (1)", "insert into t (a,) values (1)", "insert into t (a b) values (1)",
		"insert into t (1) values (1)", "insert into t (t.a) values (1)", "insert into t (a) (b) values (1)", "insert into t values (1),", "insert into t values (1) (2)", "insert into t values (1,)", "insert into t values (,1)",
		"insert into t values (1 2)", "insert t values (1)", "insert into values (1)", "insert into t as u values (1)", "insert into t values (1) where a", "insert into t select 1", "insert into t (a) values (*)",
		"insert into t values (1), values (2)", "insert into t values (1", "insert into t (a values (1)",
	} {
		refused(t, s, api.ErrSyntax)
	}
}

func TestP902Updates(t *testing.T) {
	parsed(t, "update t set a = 1", Stmt{Kind: stmt.Update, Name: "t", Sets: []Set{{Name: "a", Expr: nodes("1")}}})
	parsed(t, "update t set b = a = 1, a = b + 1, b = null where a is null", Stmt{
		Kind: stmt.Update, Name: "t", Where: nodes("a is null"),
		Sets: []Set{{Name: "b", Expr: nodes("a = 1")}, {Name: "a", Expr: nodes("b + 1")}, {Name: "b", Expr: nodes("null")}},
	})
	for _, s := range []string{
		"update t", "update t set", "update t set a", "update t set a =", "update t set a 1", "update t set a = 1,", "update t set , a = 1", "update t set t.a = 1", "update t set (a) = 1", "update t set 1 = 1",
		"update t set a = 1 b = 2", "update set a = 1", "update t where a", "update t set a = 1 where", "update t set a = 1, where a", "update t set a = 1 where a where b", "update t set a = 1 = 2 = 3", "update t as u set a = 1", "update t, u set a = 1",
		"update t set a == 1", "update t set a < 1", "update t set a = *",
	} {
		refused(t, s, api.ErrSyntax)
	}
}

func TestP902Selects(t *testing.T) {
	parsed(t, "select *", selected(Core{Star: true}))
	parsed(t, "select distinct *", selected(Core{Star: true, Distinct: true}))
	parsed(t, "select 1", selected(Core{Items: []Item{{Expr: nodes("1")}}}))
	parsed(t, "select distinct a as b, t.c, count() as d", selected(Core{Distinct: true, Items: []Item{{nodes("a"), "b"}, {nodes("t.c"), ""}, {nodes("count()"), "d"}}}))
	parsed(t, "select * where a", selected(Core{Star: true, Where: nodes("a")}))
	parsed(t, "select * group by a", selected(Core{Star: true, Group: exprs("a")}))
	parsed(t, "select * having a", selected(Core{Star: true, Having: nodes("a")}))
	parsed(t, "select 1, 2 from t where a group by b, c + 1, 'x' having sum(d) > 3", selected(Core{
		Items: []Item{{Expr: nodes("1")}, {Expr: nodes("2")}}, From: []Source{{Table: "t"}},
		Where: nodes("a"), Group: exprs("b", "c + 1", "'x'"), Having: nodes("sum(d) > 3"),
	}))
	for _, s := range []string{
		"select", "select distinct", "select from t", "select ,", "select a,", "select , a", "select a b", "select a as", "select a as 1", "select a as t.b", "select a as b as c", "select as b", "select all a", "select distinct distinct a",
		"select *, a", "select a, *", "select * as b", "select * *", "select t.*", "select count(*)", "select (select 1)", "select a from t where", "select a where b from t", "select a from t having b where c", "select a having b group by c",
		"select a group b", "select a by b", "select a group by", "select a group by b,", "select a group by b as c", "select a group by b desc", "select a where b, c", "select a having b, c", "select a where b where c", "select a group by b group by c", "select a having b having c",
	} {
		refused(t, s, api.ErrSyntax)
	}
}

func TestP902Sources(t *testing.T) {
	from := func(l ...Source) Stmt { return selected(Core{Star: true, From: l}) }
	u := Source{Table: "u"}
	as := Source{Table: "u", Alias: "v"}
	on := func(s Source, join int, on string) Source {
		s.Join, s.On = join, nodes(on)
		return s
	}
	for s, want := range map[string]Stmt{
		"u":                                from(u),
		"u as v":                           from(as),
		"u as u":                           from(Source{Table: "u", Alias: "u"}),
		"u, u":                             from(u, u),
		"u as v, u as v":                   from(as, as),
		"u cross join u":                   from(u, u),
		"u cross join u as v":              from(u, as),
		"u join u on a":                    from(u, on(u, stmt.Inner, "a")),
		"u as v join u as v on a = b or c": from(as, on(as, stmt.Inner, "a = b or c")),
		"u left join u on a":               from(u, on(u, stmt.Left, "a")),
		"u as v left join u as v on (a)":   from(as, on(as, stmt.Left, "a")),
		"u, u as v left join u on a join u as v on b cross join u, u as v": from(u, as, on(u, stmt.Left, "a"), on(as, stmt.Inner, "b"), u, as),
		"u join u on a join u on b left join u on c left join u on d":      from(u, on(u, stmt.Inner, "a"), on(u, stmt.Inner, "b"), on(u, stmt.Left, "c"), on(u, stmt.Left, "d")),
	} {
		parsed(t, "select * from "+s, want)
	}
	for _, s := range []string{
		"", "1", "'t'", "t u", "t.u", "(t)", "t as", "t as 1", "t as u as v", "as u", "t,", ", t", "t,, u", "t cross u", "t cross join", "t cross join u on a", "t, u on a", "t on a", "t join u", "t join u on", "t join on a", "t join u a",
		"t left u on a", "t left join u", "t left cross join u", "t cross left join u on a", "t join left u on a", "t left left join u on a", "t join join u on a", "t join u on a on b", "t join u on a as b", "t join u as on a", "join t on a", "cross join t", "left join t on a", "t left", "t cross", "t join", "t, cross join u", "t cross join, u", "t all join u on a", "f(t)", "*",
	} {
		refused(t, "select * from "+s, api.ErrSyntax)
	}
}

func TestP902Tails(t *testing.T) {
	one := Core{Items: []Item{{Expr: nodes("1")}}}
	two := Core{Items: []Item{{Expr: nodes("2")}}}
	of := func(q Query) Stmt { return Stmt{Kind: stmt.Select, Query: q} }
	a, desc := Order{Expr: nodes("a")}, Order{Expr: nodes("b"), Desc: true}
	for s, q := range map[string]Query{
		"":                   {Cores: []Core{one}, Limit: -1},
		"union select 2":     {Cores: []Core{one, two}, All: []bool{false}, Limit: -1},
		"union all select 2": {Cores: []Core{one, two}, All: []bool{true}, Limit: -1},
		"union select 2 union all select 1 union select 2": {Cores: []Core{one, two, one, two}, All: []bool{false, true, false}, Limit: -1},
		"order by a":                            {Cores: []Core{one}, Order: []Order{a}, Limit: -1},
		"order by a asc":                        {Cores: []Core{one}, Order: []Order{a}, Limit: -1},
		"order by b desc":                       {Cores: []Core{one}, Order: []Order{desc}, Limit: -1},
		"order by a, b desc, a asc":             {Cores: []Core{one}, Order: []Order{a, desc, a}, Limit: -1},
		"limit 0":                               {Cores: []Core{one}, Limit: 0},
		"limit 1":                               {Cores: []Core{one}, Limit: 1},
		"limit 9223372036854775807":             {Cores: []Core{one}, Limit: great},
		"order by b desc limit 3":               {Cores: []Core{one}, Order: []Order{desc}, Limit: 3},
		"union all select 2 order by a limit 3": {Cores: []Core{one, two}, All: []bool{true}, Order: []Order{a}, Limit: 3},
	} {
		parsed(t, "select 1 "+s, of(q))
	}
	for _, s := range []string{
		"union", "union 2", "union all", "all select 2", "union all all select 2", "union distinct select 2", "union select", "union select 2 union", "union (select 2)", "order", "order a", "by a", "order by", "order by a,", "order by , a", "order by a b", "order by a asc desc", "order by a desc asc", "order by a asc asc", "order by asc", "order by a as b",
		"order by a order by b", "order by *", "limit", "limit a", "limit -1", "limit - 1", "limit +1", "limit 1.", "limit 1.0", "limit '1'", "limit ''", "limit null", "limit true", "limit (1)", "limit 1 + 1", "limit 1, 2", "limit 1 2", "limit 1 limit 1", "limit 9223372036854775808", "limit 01",
		"limit 1 order by a", "order by a union select 2", "limit 1 union select 2", "order by a where b", "order by a group by b", "limit 1 where b", "limit 1;", ";", "limit 1 desc",
	} {
		refused(t, "select 1 "+s, api.ErrSyntax)
	}
}

// What a Create's parts say, and in what order they stand.
func TestP902WrongCreates(t *testing.T) {
	for _, s := range []string{
		"", "a", "a int", "(", "()", "(a)", "(a int", "(a int))", "(a int,)", "(, a int)", "(a int b int)", "(int)", "(a int not)", "(a int null)", "(a int not null not null)", "(a not null int)", "(a null not)", "(a foo)", "(a integer)", "(a 'int')", "(a null)", "(1 int)", "(t.a int)", "(a int primary key)", "(a int unique)", "(a int check (a))",
		"(a int (2))", "(a text (2))", "(a bool not null, b)", "(a int as b)", "(a int) as u", "(a int);",
		"(primary key (a))", "(unique (a))", "(check (true))", "(a int, primary key)", "(a int, primary key ())", "(a int, primary (a))", "(a int, key (a))", "(a int, primary key a)", "(a int, primary key (a,))", "(a int, primary key (a)", "(a int, primary key (t.a))", "(a int, primary key (1))", "(a int, primary key (a + 1))", "(a int primary key (a))",
		"(a int, unique)", "(a int, unique ())", "(a int, unique a)", "(a int, unique key (a))", "(a int, unique (a,))", "(a int, unique (a b))", "(a int, check)", "(a int, check ())", "(a int, check true)", "(a int, check (a, a))", "(a int, check (a)", "(a int, check (a) )) ",
		"(a int, primary key (a), primary key (a))", "(a int, check (a), check (a))", "(a int, primary key (a), b int)", "(a int, unique (a), b int)", "(a int, check (a), b int)", "(a int, unique (a), primary key (a))", "(a int, check (a), primary key (a))", "(a int, check (a), unique (a))", "(a int, unique (a), primary key (a), check (a))",
		"(a int, primary key (a), unique (a), check (a), )", "(a int, primary key (a),)", "(a int, unique (a),)", "(a int, check (a),)", "(primary key (a), a int)", "(check (a), a int)", "(unique (a), a int)",
	} {
		refused(t, "create table t "+s, api.ErrSyntax)
	}
	for _, s := range []string{"create t (a int)", "create table (a int)", "create table 1 (a int)", "create table t.u (a int)", "create unique table t (a int)", "create", "create table", "create table t", "create table t u (a int)", "table t (a int)"} {
		refused(t, s, api.ErrSyntax)
	}
}

func TestP902Types(t *testing.T) {
	for word, kind := range map[string]int{"int": api.Int, "text": api.Text, "bool": api.Bool, "point": api.Point} {
		parsed(t, "create table t (a "+word+")", Stmt{Kind: stmt.Create, Table: Table{Name: "t", Columns: []Column{{Name: "a", Kind: kind}}}})
		parsed(t, "create table t (a "+word+" not null)", Stmt{Kind: stmt.Create, Table: Table{Name: "t", Columns: []Column{{Name: "a", Kind: kind, Must: true}}}})
		refused(t, "create table t (a "+word+" (0))", api.ErrSyntax)
	}
	for scale := range api.MaxScale + 1 {
		c := Column{Name: "a", Kind: api.Dec, Scale: scale}
		parsed(t, fmt.Sprintf("create table t (a dec (%d))", scale), Stmt{Kind: stmt.Create, Table: Table{Name: "t", Columns: []Column{c}}})
		c.Must = true
		parsed(t, fmt.Sprintf("create table t (a dec(%d)not null)", scale), Stmt{Kind: stmt.Create, Table: Table{Name: "t", Columns: []Column{c}}})
	}
	for _, n := range []int{api.MaxScale + 1, 8, 64, 256, 1 << 32, great} {
		refused(t, "create table t (a dec ("+strconv.Itoa(n)+"))", api.ErrName)
	}
	for _, s := range []string{"dec", "dec ()", "dec 2", "dec (2", "dec 2)", "dec (2, 2)", "dec (-1)", "dec (-0)", "dec (- 2)", "dec (+2)", "dec (2.)", "dec (2.0)", "dec ('2')", "dec (a)", "dec (null)", "dec (true)", "dec ((2))", "dec (1 + 1)", "dec (02)", "dec (9223372036854775808)", "decimal (2)", "null", "key", "table", "'int'", "INT"} {
		refused(t, "create table t (a "+s+")", api.ErrSyntax)
	}
}

// Tables that may not be are ErrName, if the text is a statement's.
func TestP902Names(t *testing.T) {
	columns := func(n int) string {
		var l []string
		for i := range n {
			l = append(l, fmt.Sprintf("c%d int", i))
		}
		return strings.Join(l, ", ")
	}
	places := func(n int) string {
		var l []string
		for i := range n {
			l = append(l, fmt.Sprintf("c%d", i))
		}
		return strings.Join(l, ", ")
	}
	for _, s := range []string{
		"a int, b int", "a int, b int, primary key (a, b)", "a int, b int, primary key (b, a), unique (a, b), unique (b, a)",
		"a int, unique (a), unique (a), unique (a), unique (a)", "a int, primary key (a), unique (a)",
		"a int, check (a)", "a int, check (t.a)", "a int, check (1)", "a int, check (f(a))",
		columns(api.MaxColumns), columns(api.MaxColumns) + ", primary key (" + places(api.MaxColumns) + ")", columns(api.MaxColumns) + ", unique (c15)",
	} {
		read(t, "create table t ("+s+")")
	}
	for _, s := range []string{
		"a int, a int", "a int, b int, a text", "a int, a int, primary key (a)",
		"a int, primary key (b)", "a int, primary key (t)", "a int, primary key (a, a)", "a int, b int, primary key (a, b, a)", "a int, primary key (a, b)", "a int, primary key (b, a)", "a int, primary key (aa)",
		"a int, unique (b)", "a int, unique (a, a)", "a int, unique (a), unique (b)", "a int, unique (b), unique (a)",
		"a int, unique (a), unique (a), unique (a), unique (a), unique (a)",
		"a int, check (b)", "a int, check (u.a)", "a int, check (t.b)", "a int, check (a.a)", "a int, check (a > 0 and f(1, b))", "a int, check (t)",
		"a dec (7)", "a dec (2), b dec (7), c dec (2)",
		columns(api.MaxColumns + 1), columns(api.MaxColumns+1) + ", primary key (c0)", columns(api.MaxColumns+1) + ", primary key (c16)", columns(40),
	} {
		refused(t, "create table t ("+s+")", api.ErrName)
		// An error that is named ahead of ErrName, at whatever place.
		refused(t, "create table t ("+s, api.ErrSyntax)
		refused(t, "create table t ("+s+") t", api.ErrSyntax)
		refused(t, "create t ("+s+")", api.ErrSyntax)
		refused(t, "create table t (1 int, "+s+")", api.ErrSyntax)
		refused(t, "create table t ("+s+") @", api.ErrSyntax)
		refused(t, "create table t ("+s+")"+strings.Repeat(" ", api.MaxSource), api.ErrSize)
		if !strings.Contains(s, "check") {
			refused(t, "create table t ("+s+", check ("+deepText()+"))", api.ErrDeep)
		}
	}
	// The table's name is no column's, and a check's table is the one made.
	refused(t, "create table u (a int, check (t.a > 0))", api.ErrName)
	read(t, "create table u (a int, check (u.a > 0))")
}

// At each place of a name every word that is not reserved may stand, and no
// other.
func TestP902ReservedWords(t *testing.T) {
	for _, s := range []string{
		"create table # (a int)", "create table t (# int)", "create table t (a int, # int)", "create table t (# int, primary key (#))", "create table t (# int, unique (#))", "create table # (a int, check (#.a > 0))", "create table t (# int, check (#))",
		"drop table #", "insert into # values (1)", "insert into t (#) values (1)", "insert into t (a, #) values (1)",
		"update # set a = 1", "update t set # = 1", "update t set a = 1, # = 2", "delete from #",
		"select 1 as #", "select 1, 2 as #", "select * from #", "select * from t as #", "select * from t, #", "select * from t, u as #", "select * from t cross join #", "select * from t cross join u as #",
		"select * from t join # on 1", "select * from t join u as # on 1", "select * from t left join # on 1", "select * from t left join u as # on 1",
	} {
		for _, name := range nameable() {
			if name != "a" {
				read(t, strings.ReplaceAll(s, "#", name))
			}
		}
		for _, name := range slices.Concat(strings.Fields(reserved), []string{"", "A", "1", "'a'", "é", "*", "(", "a b", "a.b", "(a)", "f()", strings.Repeat("a", api.MaxName+1)}) {
			refused(t, strings.ReplaceAll(s, "#", name), api.ErrSyntax)
		}
	}
}

func TestP902Blanks(t *testing.T) {
	for _, s := range samples {
		want := read(t, s)
		for _, blank := range []string{"  ", "\t", "\n", " \n\t\n "} {
			text := blank + strings.Join(words(s), blank) + blank
			parsed(t, text, want)
		}
		// None but between words and numbers.
		tight := ""
		for _, word := range words(s) {
			if tight != "" && wordly(tight[len(tight)-1]) && wordly(word[0]) {
				tight += " "
			}
			tight += word
		}
		parsed(t, tight, want)
		// No other byte is a blank.
		for _, other := range []string{"\r", "\v", "\f", "\x00", "\u00a0", ";", "--", "/**/"} {
			refused(t, s+other, api.ErrSyntax)
			refused(t, other+s, api.ErrSyntax)
		}
	}
	refused(t, "droptable t", api.ErrSyntax)
	refused(t, "drop tablet", api.ErrSyntax)
	refused(t, "be gin", api.ErrSyntax)
	refused(t, "BEGIN", api.ErrSyntax)
	refused(t, "'begin'", api.ErrSyntax)
	refused(t, "(begin)", api.ErrSyntax)
}

func TestP902NothingElse(t *testing.T) {
	for _, s := range []string{"", " ", "\n", "\t \n", "a", "1", "'a'", "*", "(", ")", ",", "=", ";", "1 + 1", "(select 1)", "explain select 1", "select 1;", "begin begin", "begin commit", "begin;", "commit work", "rollback to a", "begin transaction", "drop t", "drop table", "drop table t, u", "drop table t u", "delete t", "delete from", "delete from t as u", "delete from t u", "delete from t where", "delete from t, u", "delete from t where a where b", "delete * from t"} {
		refused(t, s, api.ErrSyntax)
	}
	for _, word := range strings.Fields(reserved) {
		if word != "begin" && word != "commit" && word != "rollback" {
			refused(t, word, api.ErrSyntax)
		}
	}
	// What stands behind a statement that is whole.
	for _, s := range []string{"begin", "commit", "rollback", "drop table t", "delete from t where a", "insert into t values (1)", "update t set a = 1 where b", "create table t (a int)", "select 1 limit 1", "select * from t join u on a order by b desc"} {
		read(t, s)
		for _, more := range append([]string{"a", "1", "'a'", "(", ")", ".", ";", "@", "begin", "select 1"}, strings.Fields("create table drop insert values update set delete select distinct all on as null true not by primary key unique check having")...) {
			refused(t, s+" "+more, api.ErrSyntax)
		}
	}
}

func TestP902Size(t *testing.T) {
	for _, s := range []string{"begin", "drop table t", "insert into t values (1)", "select a from t limit 2", "create table t (a int)"} {
		want := read(t, s)
		parsed(t, s+strings.Repeat(" ", api.MaxSource-len(s)), want)
		parsed(t, strings.Repeat("\n", api.MaxSource-len(s))+s, want)
		refused(t, s+strings.Repeat(" ", api.MaxSource-len(s)+1), api.ErrSize)
		refused(t, strings.Repeat("\n", api.MaxSource-len(s)+1)+s, api.ErrSize)
		refused(t, s+strings.Repeat(" ", 100000), api.ErrSize)
	}
	// As many parts as there can be.
	list := "select 1" + strings.Repeat(",1", (api.MaxSource-8)/2)
	if got := read(t, list); len(list) != api.MaxSource || len(got.Query.Cores[0].Items) != 1+(api.MaxSource-8)/2 {
		t.Error("a list of MaxSource bytes")
	}
	refused(t, list+" ", api.ErrSize)
	refused(t, list[:api.MaxSource-1], api.ErrSyntax)
	// ErrSize ahead of whatever else is wrong.
	for _, s := range []string{"", "@", "'", "select", "select " + deepText(), "create table t (a int, a int)"} {
		refused(t, s+strings.Repeat(" ", api.MaxSource+1-len(s)), api.ErrSize)
	}
}

// Texts that lexer.Split does not take, ahead of and behind other faults.
func TestP902NoTokens(t *testing.T) {
	for _, s := range samples {
		for _, bad := range []string{"@", "'", "A", "1.0000000", "007", "9223372036854775808", "\"a\"", "!", "é", strings.Repeat("a", api.MaxName+1), "'" + strings.Repeat("a", api.MaxValue+1) + "'"} {
			refused(t, s+" "+bad, api.ErrSyntax)
			refused(t, bad+" "+s, api.ErrSyntax)
		}
	}
	refused(t, "select "+deepText()+" @", api.ErrSyntax)
	refused(t, "select "+deepText()+" 'a", api.ErrSyntax)
	refused(t, "create table t (a int, a int) @", api.ErrSyntax)
}

// heldAgainst complains unless Parse and Print answer what the chapter's grammar
// says.
func heldAgainst(t *testing.T, l []Token) api.Errno {
	t.Helper()
	want, e := told(l)
	text := lexer.Join(l)
	// The walk takes a literal for a unit that is too deep.
	text = strings.ReplaceAll(text, tooDeep, deepText())
	if len(text) > api.MaxSource {
		return api.ErrSize
	}
	if e != api.OK {
		refused(t, text, e)
		return e
	}
	got := read(t, text)
	if len(want) <= api.MaxSource {
		printed(t, got, want)
	}
	return e
}

// deepText gives a unit that is too deep by one.
func deepText() string {
	return strings.Repeat("f(", api.MaxDepth) + "a" + strings.Repeat(")", api.MaxDepth)
}

// others: tokens that come into the place of one.
var others = words("a t 1 2.5 'x' int dec count ( ) , . ; * + - / = <> > " + reserved)

// Of every sample one token is missing, doubled, another one, one more, or
// changes its place with the next one.
func TestP902OneTokenOff(t *testing.T) {
	t.Parallel()
	count := map[api.Errno]int{}
	for _, s := range samples {
		l := words(s)
		held := func(l ...[]string) {
			t.Helper()
			count[heldAgainst(t, split(strings.Join(slices.Concat(l...), " ")))]++
		}
		held(l)
		for i := range l {
			held(l[:i])
			held(l[:i], l[i+1:])
			held(l[:i+1], l[i:])
			if i > 0 {
				held(l[:i-1], l[i:i+1], l[i-1:i], l[i+1:])
			}
			for _, other := range others {
				held(l[:i], []string{other}, l[i+1:])
				held(l[:i], []string{other}, l[i:])
			}
		}
	}
	if count[api.OK] < 1000 || count[api.ErrSyntax] < 10000 || count[api.ErrName] < 20 {
		t.Errorf("how often which answer: %v", count)
	}
}

// At each place where an expression may stand one is too deep, alone, and with
// a further fault at each place ahead of it and behind it.
func TestP902Deep(t *testing.T) {
	t.Parallel()
	count := map[api.Errno]int{}
	for _, s := range []string{
		"create table t (a int, check (#))", "create table t (a int, a int, primary key (b), check (#))",
		"insert into t values (#)", "insert into t (a) values (1, #), (2)", "insert into t values (1), (2, #, 3)",
		"update t set a = #", "update t set a = 1, b = #", "update t set a = 1 where #", "delete from t where #",
		"select #", "select 1, #, 2", "select # as a from t", "select * from t join u on #", "select * from t, v left join u on # where a",
		"select 1 where #", "select 1 group by #", "select 1 group by a, # having b", "select 1 having #", "select 1 union select #", "select # union select 1",
		"select 1 order by #", "select 1 order by a, # desc limit 2",
	} {
		for _, at := range []string{"#", "- #", "not #", "# is null", "a + # * 2", "f(1, #)", "( # )"} {
			l := words(strings.ReplaceAll(s, "#", strings.ReplaceAll(at, "#", tooDeep)))
			if e := heldAgainst(t, split(strings.Join(l, " "))); e != api.ErrDeep {
				t.Fatalf("%v: %d", l, e)
			}
			for i := range l {
				for _, other := range []string{"", "a", "1", "(", ")", ",", "select", "where", "*", tooDeep} {
					for _, next := range []int{i, i + 1} {
						spoiled := strings.Join(slices.Concat(l[:i], []string{other}, l[next:]), " ")
						count[heldAgainst(t, split(spoiled))]++
					}
				}
			}
		}
	}
	if count[api.ErrDeep] < 1000 || count[api.ErrSyntax] < 1000 {
		t.Errorf("how often which answer: %v", count)
	}
}

// The edges of what is too deep, and of what is too much.
func TestP902DeepEdges(t *testing.T) {
	within := func(n int, ahead, in, behind string) string {
		return strings.Repeat(ahead, n) + in + strings.Repeat(behind, n)
	}
	sums := func(nodes int) string { // of a small depth
		var four func(n int) string
		four = func(n int) string {
			if n == 1 {
				return "a"
			}
			if n == 2 {
				return "-a"
			}
			left := (n - 1) / 2
			return "(" + four(left) + "+" + four(n-1-left) + ")"
		}
		return four(nodes)
	}
	for _, place := range []string{"select #", "delete from t where #", "insert into t values (1, #)", "update t set a = #", "create table t (a int, check (#))", "select * from t join u on #", "select 1 group by #", "select 1 order by #"} {
		at := func(s string) string { return strings.ReplaceAll(place, "#", s) }
		for _, s := range []string{within(15, "f(", "a", ")"), within(15, "-", "a", ""), within(15, "not ", "a", ""), "a" + strings.Repeat("+a", 15), within(64, "(", "a", ")"), sums(256)} {
			read(t, at(s))
		}
		for _, s := range []string{within(16, "f(", "a", ")"), within(16, "-", "a", ""), within(16, "not ", "a", ""), "a" + strings.Repeat("+a", 16), within(65, "(", "a", ")"), sums(257), within(65, "(", "", ""), within(1000, "-", "", "")} {
			refused(t, at(s), api.ErrDeep)
			refused(t, at(s)+" a", api.ErrDeep)
			refused(t, "begin "+at(s), api.ErrSyntax)
		}
		// An expression that is not right otherwise is no expression.
		refused(t, at(within(16, "f(", "", ")")+"+"), api.ErrSyntax)
		refused(t, at(within(16, "f(", "a", ")")+" is"), api.ErrSyntax)
		refused(t, at(within(16, "f(", "a", ")")+"+ select"), api.ErrSyntax)
	}
}

// Statements as they come, told loosely.
func TestP902AtRandom(t *testing.T) {
	t.Parallel()
	r := rand.New(rand.NewSource(902))
	kinds := map[int]int{}
	for range 8000 {
		s := wildStmt(r)
		text := looseText(r, s)
		if len(text) <= api.MaxSource {
			parsed(t, text, s)
			kinds[s.Kind]++
		} else {
			refused(t, text, api.ErrSize)
		}
	}
	if len(kinds) != 9 || kinds[stmt.Select] < 1000 {
		t.Errorf("how often which kind: %v", kinds)
	}
}

// spoiled gives tokens of which one is off.
func spoiled(r *rand.Rand, l []string) []string {
	if len(l) == 0 {
		return nil
	}
	i, j := r.Intn(len(l)), r.Intn(len(l))
	switch r.Intn(8) {
	case 0:
		return slices.Delete(l, i, i+1)
	case 1:
		return slices.Insert(l, i, pick(r, others...))
	case 2:
		l[i] = pick(r, others...)
	case 3:
		l[i], l[j] = l[j], l[i]
	case 4:
		return slices.Insert(l, i, l[j])
	default:
		// What often is right as a sentence: a unit for a unit.
		for range 20 {
			if i = r.Intn(len(l)); wordly(l[i][0]) && !slices.Contains(strings.Fields(reserved), l[i]) {
				l[i] = pick(r, tooDeep, "a", "b", "a0", "a1", "7")
				break
			}
		}
	}
	return l
}

// Statements with some tokens off, held against the chapter's grammar.
func TestP902SpoiledAtRandom(t *testing.T) {
	t.Parallel()
	r := rand.New(rand.NewSource(9020))
	count := map[api.Errno]int{}
	for range 8000 {
		text := looseText(r, wildStmt(r))
		if len(text) > api.MaxSource {
			continue
		}
		l := words(text)
		for range pick(r, 1, 1, 2) {
			l = spoiled(r, l)
		}
		if text := strings.Join(l, " "); len(text) <= api.MaxSource {
			count[heldAgainst(t, split(text))]++
		}
	}
	if count[api.OK] < 1000 || count[api.ErrSyntax] < 1000 || count[api.ErrDeep] < 50 || count[api.ErrName] < 50 {
		t.Errorf("how often which answer: %v", count)
	}
}

// Two statements' beginnings and ends, put together.
func TestP902Mixed(t *testing.T) {
	t.Parallel()
	for i, a := range samples {
		for _, b := range samples[i%3:] {
			one, other := words(a), words(b)
			for cut := 1; cut < min(len(one), len(other)); cut += 3 {
				heldAgainst(t, split(strings.Join(slices.Concat(one[:cut], other[cut:]), " ")))
			}
		}
	}
}
