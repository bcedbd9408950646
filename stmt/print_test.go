package stmt_test

import (
	"math/rand"
	"reflect"
	"slices"
	"strings"
	"testing"

	"longstop/api"
	"longstop/expr"
	"longstop/schema"
	"longstop/stmt"
)

func TestP903Texts(t *testing.T) {
	for s, want := range map[string]string{
		"create table t(a int)":          "create table t (a int)",
		"create table t(a int not null)": "create table t (a int not null)",
		"create table t(a dec(2)not null,b text,c bool,d point,primary key(b,a),unique(c),unique(d,a),check(t.a>0))": "create table t (a dec (2) not null, b text, c bool, d point, primary key (b, a), unique (c), unique (d, a), check ((t.a > 0)))",
		"create table t(a int,check(a))":                 "create table t (a int, check (a))",
		"create table t(a int,check(f()))":               "create table t (a int, check (f()))",
		"drop\ntable\tt":                                 "drop table t",
		"insert into t values(1)":                        "insert into t values (1)",
		"insert into t(a)values(-1),('(')":               "insert into t (a) values ((- 1)), ('(')",
		"insert into t(a,b)values(1,2),(f(1,2),(null))":  "insert into t (a, b) values (1, 2), (f(1, 2), null)",
		"update t set a=1":                               "update t set a = 1",
		"update t set a=1+2,b=not c where d is not null": "update t set a = (1 + 2), b = (not c) where (not (d is null))",
		"delete from t":                                  "delete from t",
		"delete from t where(a)":                         "delete from t where a",
		" begin ":                                        "begin",
		" commit ":                                       "commit",
		" rollback ":                                     "rollback",
		"select*":                                        "select *",
		"select distinct*from t":                         "select distinct * from t",
		"select a as b,c":                                "select a as b, c",
		"select 1 from t as u":                           "select 1 from t as u",
		"select 1 from t,u as v":                         "select 1 from t cross join u as v",
		"select 1 from t cross join u,v":                 "select 1 from t cross join u cross join v",
		"select 1 from t join u as v on a=b left join w on true": "select 1 from t join u as v on (a = b) left join w on true",
		"select 1 where a group by b,c+1 having d":               "select 1 where a group by b, (c + 1) having d",
		"select 1 union all select 2 union select 3":             "select 1 union all select 2 union select 3",
		"select 1 order by a asc,b desc,c":                       "select 1 order by a, b desc, c",
		"select 1 limit 0":                                       "select 1 limit 0",
		"select a order by(a)limit 9223372036854775807":          "select a order by a limit 9223372036854775807",
		"select ' , ( ) '' '":                                    "select ' , ( ) '' '",
	} {
		printed(t, read(t, s), want)
	}
}

// judged complains unless Print answers what is told of s.
func judged(t *testing.T, s Stmt) bool {
	t.Helper()
	if toldRight(s) {
		if text := toldText(s); len(text) <= api.MaxSource {
			printed(t, s, text)
			return true
		}
	}
	unprinted(t, s)
	return false
}

// Of every sample one thing after the other is changed: what the Kind does not
// have, what may not be, and what may be as well.
func TestP903OneThingOff(t *testing.T) {
	t.Parallel()
	right, wrong := 0, 0
	for _, text := range samples {
		s := read(t, text)
		if !judged(t, s) {
			t.Fatalf("%s is not printed", text)
		}
		varied(s, func(s Stmt) {
			t.Helper()
			if judged(t, s) {
				right++
			} else {
				wrong++
			}
		})
	}
	if right < 1000 || wrong < 5000 {
		t.Errorf("%d are right, %d wrong", right, wrong)
	}
}

func TestP903Kinds(t *testing.T) {
	for kind := -3; kind <= 20; kind++ {
		s := Stmt{Kind: kind}
		if kind == stmt.Begin || kind == stmt.Commit || kind == stmt.Rollback {
			printed(t, s, []string{"begin", "commit", "rollback"}[kind-stmt.Begin])
		} else {
			unprinted(t, s)
		}
	}
	unprinted(t, Stmt{Kind: least})
	unprinted(t, Stmt{Kind: great})
	// A statement under another one's Kind.
	for _, text := range samples {
		s := read(t, text)
		was := s.Kind
		for s.Kind = -1; s.Kind <= 11; s.Kind++ {
			if s.Kind != was && was < stmt.Begin {
				judged(t, s)
			}
		}
		s.Kind = was + 256
		unprinted(t, s)
	}
}

// Each kind with one part that only others have.
func TestP903OnePartMore(t *testing.T) {
	parts := map[string]func(*Stmt){
		"Table":   func(s *Stmt) { s.Table = Table{Name: "t", Columns: []Column{{Name: "a", Kind: api.Int}}} },
		"Columns": func(s *Stmt) { s.Table.Columns = []Column{{}} },
		"Key":     func(s *Stmt) { s.Table.Key = []int{0} },
		"Uniques": func(s *Stmt) { s.Table.Uniques = [][]int{nil} },
		"Check":   func(s *Stmt) { s.Table.Check = nodes("true") },
		"Name":    func(s *Stmt) { s.Name = "t" },
		"Names":   func(s *Stmt) { s.Names = []string{"a"} },
		"No Name": func(s *Stmt) { s.Names = []string{""} },
		"Rows":    func(s *Stmt) { s.Rows = [][][]Node{exprs("1")} },
		"No Row":  func(s *Stmt) { s.Rows = [][][]Node{nil} },
		"Sets":    func(s *Stmt) { s.Sets = []Set{{Name: "a", Expr: nodes("1")}} },
		"No Set":  func(s *Stmt) { s.Sets = []Set{{}} },
		"Where":   func(s *Stmt) { s.Where = nodes("true") },
		"Cores":   func(s *Stmt) { s.Query.Cores = []Core{{Star: true}} },
		"No Core": func(s *Stmt) { s.Query.Cores = []Core{{}} },
		"All":     func(s *Stmt) { s.Query.All = []bool{false} },
		"Order":   func(s *Stmt) { s.Query.Order = []Order{{Expr: nodes("a")}} },
		"Limit":   func(s *Stmt) { s.Query.Limit = 1 },
		"Limit-1": func(s *Stmt) { s.Query.Limit = -1 },
	}
	has := map[string]string{
		"create table t (a int)":   "Table Key Check",
		"drop table t":             "Name",
		"insert into t values (1)": "Name Names Rows",
		"update t set a = 1":       "Name Sets Where",
		"delete from t":            "Name Where",
		"select *":                 "Cores Order Limit Limit-1",
		"begin":                    "",
		"commit":                   "",
		"rollback":                 "",
	}
	for text, l := range has {
		for what, change := range parts {
			s := read(t, text)
			change(&s)
			if slices.Contains(strings.Fields(l), what) {
				if _, e := stmt.Print(s); e != api.OK {
					t.Errorf("%s with %s: %d", text, what, e)
				}
			} else {
				unprinted(t, s)
			}
		}
	}
}

// Names that are none, at each place of a name.
func TestP903Names(t *testing.T) {
	places := map[string]func(s *Stmt, name string){
		"create table t (a int)":             func(s *Stmt, n string) { s.Table.Name = n },
		"create table t (b int, zz int)":     func(s *Stmt, n string) { s.Table.Columns[0].Name = n },
		"drop table t":                       func(s *Stmt, n string) { s.Name = n },
		"insert into t values (1)":           func(s *Stmt, n string) { s.Name = n },
		"insert into t (a) values (1)":       func(s *Stmt, n string) { s.Names[0] = n },
		"insert into t (a, b, c) values (1)": func(s *Stmt, n string) { s.Names[1] = n },
		"update t set a = 1":                 func(s *Stmt, n string) { s.Name = n },
		"update t set a = 1, b = 2":          func(s *Stmt, n string) { s.Sets[1].Name = n },
		"delete from t":                      func(s *Stmt, n string) { s.Name = n },
		"delete from t where a":              func(s *Stmt, n string) { s.Name = n },
		"select * from t":                    func(s *Stmt, n string) { s.Query.Cores[0].From[0].Table = n },
		"select * from t as u, v":            func(s *Stmt, n string) { s.Query.Cores[0].From[0].Table = n },
		"select * from t, u":                 func(s *Stmt, n string) { s.Query.Cores[0].From[1].Table = n },
		"select * from t join u on a":        func(s *Stmt, n string) { s.Query.Cores[0].From[1].Table = n },
	}
	for text, set := range places {
		s := read(t, text)
		for _, name := range nameable() {
			set(&s, name)
			printed(t, s, toldText(s))
		}
		for _, name := range nameless() {
			set(&s, name)
			unprinted(t, s)
		}
	}
	// Names that may be left away.
	for text, set := range map[string]func(s *Stmt, name string){
		"select a as b":                         func(s *Stmt, n string) { s.Query.Cores[0].Items[0].As = n },
		"select a as b, c as d":                 func(s *Stmt, n string) { s.Query.Cores[0].Items[1].As = n },
		"select * from t as u":                  func(s *Stmt, n string) { s.Query.Cores[0].From[0].Alias = n },
		"select * from t left join u as v on a": func(s *Stmt, n string) { s.Query.Cores[0].From[1].Alias = n },
	} {
		s := read(t, text)
		for _, name := range append(nameable(), "") {
			set(&s, name)
			printed(t, s, toldText(s))
		}
		for _, name := range nameless() {
			if name != "" {
				set(&s, name)
				unprinted(t, s)
			}
		}
	}
}

// noExprs: rows of nodes that are no expression.
func noExprs() [][]Node {
	deep := nodes("a")
	for range api.MaxDepth {
		deep = append(deep, Node{Op: expr.Neg})
	}
	return [][]Node{
		{{}}, {{Op: 20}}, {{Op: expr.Neg}}, {{Op: expr.Value}, {Op: expr.Value}}, slices.Concat(nodes("a"), nodes("b")), {{Op: expr.Column}}, {{Op: expr.Column, Name: "select"}}, {{Op: expr.Column, Name: "a, b"}}, {{Op: expr.Column, Name: "a", Table: "A"}},
		{{Op: expr.Value, Value: api.Value{Kind: api.Int, N: -1}}}, {{Op: expr.Value, Value: api.Value{Kind: api.Point}}}, {{Op: expr.Value, Value: api.Value{Kind: 9}}}, {{Op: expr.Column, Name: "a", Args: 1}}, {{Op: expr.Call, Name: "f", Args: 1}},
		deep, slices.Repeat(nodes("a"), 300), nil, {},
	}
}

// Expressions that are none, at each place of an expression; and none at all,
// where there has to be one.
func TestP903Expressions(t *testing.T) {
	places := map[string]func(s *Stmt, l []Node){
		"insert into t values (1)":                    func(s *Stmt, l []Node) { s.Rows[0][0] = l },
		"insert into t values (1, 2), (3)":            func(s *Stmt, l []Node) { s.Rows[0][1] = l },
		"insert into t values (1, 2), (4)":            func(s *Stmt, l []Node) { s.Rows[1][0] = l },
		"update t set a = 1":                          func(s *Stmt, l []Node) { s.Sets[0].Expr = l },
		"update t set a = 1, b = 2 where c":           func(s *Stmt, l []Node) { s.Sets[1].Expr = l },
		"select 1":                                    func(s *Stmt, l []Node) { s.Query.Cores[0].Items[0].Expr = l },
		"select 1, 2 as a from t":                     func(s *Stmt, l []Node) { s.Query.Cores[0].Items[1].Expr = l },
		"select * from t join u on a":                 func(s *Stmt, l []Node) { s.Query.Cores[0].From[1].On = l },
		"select * from t, u left join v on a where b": func(s *Stmt, l []Node) { s.Query.Cores[0].From[2].On = l },
		"select 1 group by a":                         func(s *Stmt, l []Node) { s.Query.Cores[0].Group[0] = l },
		"select 1 group by a, b, c having d":          func(s *Stmt, l []Node) { s.Query.Cores[0].Group[1] = l },
		"select 1 order by a":                         func(s *Stmt, l []Node) { s.Query.Order[0].Expr = l },
		"select 1 order by a, b desc limit 1":         func(s *Stmt, l []Node) { s.Query.Order[1].Expr = l },
	}
	for text, set := range places {
		s := read(t, text)
		for _, l := range noExprs() {
			set(&s, l)
			unprinted(t, s)
		}
		set(&s, nodes("f(1 + 2) is null"))
		printed(t, s, toldText(s))
	}
	for text, set := range map[string]func(s *Stmt, l []Node){
		"create table t (a int, check (a))":    func(s *Stmt, l []Node) { s.Table.Check = l },
		"update t set a = 1 where b":           func(s *Stmt, l []Node) { s.Where = l },
		"delete from t where b":                func(s *Stmt, l []Node) { s.Where = l },
		"select * from t where b":              func(s *Stmt, l []Node) { s.Query.Cores[0].Where = l },
		"select * having b":                    func(s *Stmt, l []Node) { s.Query.Cores[0].Having = l },
		"select * where a group by b having c": func(s *Stmt, l []Node) { s.Query.Cores[0].Where = l },
	} {
		s := read(t, text)
		for _, l := range noExprs() {
			set(&s, l)
			if len(l) > 0 {
				unprinted(t, s)
			} else {
				printed(t, s, toldText(s))
			}
		}
	}
}

func TestP903Tables(t *testing.T) {
	of := func(table Table) Stmt { return Stmt{Kind: stmt.Create, Table: table} }
	table := Table{Name: "t", Columns: []Column{{Name: "a", Kind: api.Int}, {Name: "b", Kind: api.Dec, Scale: 2}}, Key: []int{1}, Uniques: [][]int{{0, 1}}, Check: nodes("t.a > b")}
	printed(t, of(table), "create table t (a int, b dec (2), primary key (b), unique (a, b), check ((t.a > b)))")
	for what, change := range map[string]func(*Table){
		"no columns":       func(x *Table) { x.Columns = nil },
		"a place below":    func(x *Table) { x.Key = []int{-1} },
		"a place beyond":   func(x *Table) { x.Key = []int{2} },
		"a far place":      func(x *Table) { x.Key = []int{great} },
		"a place twice":    func(x *Table) { x.Key = []int{1, 1} },
		"an empty unique":  func(x *Table) { x.Uniques = [][]int{{}} },
		"a unique's place": func(x *Table) { x.Uniques = [][]int{{0}, {least}} },
		"five uniques":     func(x *Table) { x.Uniques = slices.Repeat([][]int{{0}}, 5) },
		"a Scale":          func(x *Table) { x.Columns[0].Scale = 1 },
		"a great Scale":    func(x *Table) { x.Columns[1].Scale = 7 },
		"a Scale below":    func(x *Table) { x.Columns[1].Scale = -1 },
		"a Kind 0":         func(x *Table) { x.Columns[0].Kind = 0 },
		"a Kind 6":         func(x *Table) { x.Columns[0].Kind = 6 },
		"a Kind below":     func(x *Table) { x.Columns[0].Kind = least },
		"a name twice":     func(x *Table) { x.Columns[1].Name = "a" },
		"a check":          func(x *Table) { x.Check = nodes("u.a") },
		"too many":         func(x *Table) { x.Columns = slices.Repeat(x.Columns, 20) },
	} {
		other := copied(table)
		change(&other)
		if schema.Right(other) {
			t.Fatal(what)
		}
		unprinted(t, of(other))
	}
	name := of(table)
	name.Name = "t"
	unprinted(t, name)
}

func TestP903Queries(t *testing.T) {
	star := Core{Star: true}
	of := func(q Query) Stmt { return Stmt{Kind: stmt.Select, Query: q} }
	printed(t, of(Query{Cores: []Core{star, star, star}, All: []bool{true, false}, Limit: -1}), "select * union all select * union select *")
	for _, limit := range []int{0, 1, 99, great} {
		s := of(Query{Cores: []Core{star}, Limit: limit})
		printed(t, s, toldText(s))
	}
	for _, limit := range []int{-2, -3, -99, least, least + 1} {
		unprinted(t, of(Query{Cores: []Core{star}, Limit: limit}))
		unprinted(t, of(Query{Cores: []Core{star}, Limit: limit, Order: []Order{{Expr: nodes("a")}}}))
	}
	for unions := range 4 {
		for size := range 6 {
			for _, all := range []bool{true, false} {
				judged(t, of(Query{Cores: slices.Repeat([]Core{star}, unions+1), All: slices.Repeat([]bool{all}, size), Limit: -1}))
			}
		}
	}
	unprinted(t, of(Query{Limit: -1}))
	unprinted(t, of(Query{All: []bool{true}, Limit: -1}))
	for what, c := range map[string]Core{
		"nothing":            {},
		"no items":           {From: []Source{{Table: "t"}}},
		"a star and items":   {Star: true, Items: []Item{{Expr: nodes("a")}}},
		"an item of nothing": {Items: []Item{{}}},
		"an item's name":     {Items: []Item{{As: "a"}}},
		"no table":           {Star: true, From: []Source{{}}},
		"an alias alone":     {Star: true, From: []Source{{Alias: "t"}}},
		"a first join":       {Star: true, From: []Source{{Table: "t", Join: stmt.Inner}}},
		"a first left":       {Star: true, From: []Source{{Table: "t", Join: stmt.Left, On: nodes("a")}}},
		"a first on":         {Star: true, From: []Source{{Table: "t", On: nodes("a")}}},
		"a cross with on":    {Star: true, From: []Source{{Table: "t"}, {Table: "u", On: nodes("a")}}},
		"a join without on":  {Star: true, From: []Source{{Table: "t"}, {Table: "u", Join: stmt.Inner}}},
		"a left without on":  {Star: true, From: []Source{{Table: "t"}, {Table: "u", Join: stmt.Left}}},
		"a Join 3":           {Star: true, From: []Source{{Table: "t"}, {Table: "u", Join: 3, On: nodes("a")}}},
		"a Join 3 alone":     {Star: true, From: []Source{{Table: "t"}, {Table: "u", Join: 3}}},
		"a Join below":       {Star: true, From: []Source{{Table: "t"}, {Table: "u", Join: -1}}},
		"a group of nothing": {Star: true, Group: [][]Node{nil}},
	} {
		if toldCore(c) {
			t.Fatal(what)
		}
		unprinted(t, selected(c))
	}
}

// ofSize gives a statement whose text has that many bytes.
func ofSize(size int) Stmt {
	s := Stmt{Kind: stmt.Insert, Name: "t", Rows: [][][]Node{exprs("''")}}
	for {
		left := size - len(toldText(s))
		if left <= api.MaxValue {
			s.Rows[0][0][0].Value.B = strings.Repeat("x", left)
			return s
		}
		s.Rows = append(s.Rows, [][]Node{nodes("'" + strings.Repeat("y", min(left, api.MaxValue)/2) + "'")})
	}
}

func TestP903Size(t *testing.T) {
	for size := api.MaxSource - 3; size <= api.MaxSource+3; size++ {
		s := ofSize(size)
		text := toldText(s)
		if len(text) != size {
			t.Fatalf("%d bytes, not %d", len(text), size)
		}
		if size <= api.MaxSource {
			printed(t, s, text)
			parsed(t, text, s)
		} else {
			unprinted(t, s)
			refused(t, text, api.ErrSize)
		}
	}
	// A text that Parse takes, while the one that Print would write is too long.
	s := read(t, "select -a"+strings.Repeat(",-a", 1000))
	if !toldRight(s) || len(toldText(s)) <= api.MaxSource {
		t.Fatal("not long enough")
	}
	unprinted(t, s)
}

// Lists that are far too long, of which many are one and the same in memory.
func TestP903FarTooLong(t *testing.T) {
	const many = 1500
	one := nodes("a")
	list := slices.Repeat([][]Node{one}, many)
	rows := slices.Repeat([][][]Node{list}, many)
	items := slices.Repeat([]Item{{Expr: one}}, many)
	from := slices.Repeat([]Source{{Table: "t"}}, many)
	core := Core{Items: items, From: from, Group: list}
	long := strings.Repeat("a", 1<<20)
	for _, s := range []Stmt{
		{Kind: stmt.Insert, Name: "t", Rows: rows},
		{Kind: stmt.Insert, Name: "t", Names: slices.Repeat([]string{"a"}, 1<<20), Rows: rows},
		{Kind: stmt.Insert, Name: "t", Rows: slices.Repeat([][][]Node{nil}, 1<<20)},
		{Kind: stmt.Update, Name: "t", Sets: slices.Repeat([]Set{{Name: "a", Expr: one}}, 1<<20)},
		{Kind: stmt.Select, Query: Query{Cores: slices.Repeat([]Core{core}, many), All: make([]bool, many-1), Limit: -1}},
		{Kind: stmt.Select, Query: Query{Cores: []Core{{Star: true}}, Order: slices.Repeat([]Order{{Expr: one}}, 1<<20), Limit: -1}},
		{Kind: stmt.Create, Table: Table{Name: "t", Columns: slices.Repeat([]Column{{Name: "a", Kind: api.Int}}, 1<<20), Uniques: slices.Repeat([][]int{make([]int, many)}, many)}},
		{Kind: stmt.Create, Table: Table{Name: "t", Columns: []Column{{Name: "a", Kind: api.Int}}, Key: make([]int, 1<<20)}},
		{Kind: stmt.Drop, Name: long},
		{Kind: stmt.Delete, Name: "t", Where: slices.Repeat(one, 1<<20)},
		{Kind: stmt.Delete, Name: "t", Where: []Node{{Op: expr.Column, Name: long}}},
	} {
		unprinted(t, s)
		if !stmt.Same(s, s) {
			t.Error("a long statement is not the same as itself")
		}
	}
}

// Same hangs on every thing of a statement, and on nothing else.
func TestP903Same(t *testing.T) {
	t.Parallel()
	unlike := 0
	held := func(a, b Stmt) {
		t.Helper()
		want := alike(a, b)
		if stmt.Same(a, b) != want || stmt.Same(b, a) != want {
			t.Fatalf("Same of %s and %s is not %v", short(a), short(b), want)
		}
		if !want {
			unlike++
		}
	}
	for _, text := range samples {
		s := read(t, text)
		held(s, read(t, text))
		for _, other := range samples {
			held(s, read(t, other))
		}
		varied(s, func(x Stmt) {
			t.Helper()
			held(s, x)
			held(x, copied(x))
		})
	}
	if unlike < 10000 {
		t.Errorf("%d were unlike", unlike)
	}
}

// full gives a statement with something at every place, which may not be, but
// can be held against others.
func full() Stmt {
	return Stmt{
		Kind:  77,
		Table: Table{Name: "t", Columns: []Column{{Name: "a", Kind: 1, Scale: 2, Must: true}, {Name: "b", Kind: 3, Scale: 4}}, Key: []int{0, 5}, Uniques: [][]int{{1}, {2, 3}}, Check: nodes("t.a + 1")},
		Name:  "n",
		Names: []string{"c", "d"},
		Rows:  [][][]Node{{nodes("1"), nodes("f(x) = 'y'")}, {nodes("2.5")}},
		Sets:  []Set{{"e", nodes("3")}, {"f", nodes("4")}},
		Where: nodes("g or h"),
		Query: Query{
			Cores: []Core{
				{Distinct: true, Star: true, Items: []Item{{nodes("i"), "j"}}, From: []Source{{"k", "l", 1, nodes("m")}}, Where: nodes("o"), Group: exprs("p", "q"), Having: nodes("r")},
				{Star: true},
			},
			All:   []bool{true, false},
			Order: []Order{{nodes("s"), true}, {nodes("u"), false}},
			Limit: -5,
		},
	}
}

func TestP903SameOfAll(t *testing.T) {
	s := full()
	if !stmt.Same(s, full()) || !stmt.Same(Stmt{}, Stmt{}) || stmt.Same(s, Stmt{}) || stmt.Same(Stmt{}, s) {
		t.Error("Same of what may not be")
	}
	unlike := 0
	varied(s, func(x Stmt) {
		want := alike(x, full())
		if stmt.Same(x, full()) != want || stmt.Same(full(), x) != want {
			t.Fatalf("Same of %s is not %v", short(x), want)
		}
		if !want {
			unlike++
		}
	})
	if unlike < 1000 {
		t.Errorf("%d were unlike", unlike)
	}
	unprinted(t, s)
}

// emptied gives s with lists of no elements that are not nil, or nil instead.
func emptied(v reflect.Value, empty bool) {
	switch v.Kind() {
	case reflect.Struct:
		for i := range v.NumField() {
			emptied(v.Field(i), empty)
		}
	case reflect.Slice:
		switch {
		case v.Len() == 0 && empty:
			v.Set(reflect.MakeSlice(v.Type(), 0, 3))
		case v.Len() == 0:
			v.SetZero()
		}
		for i := range v.Len() {
			emptied(v.Index(i), empty)
		}
	}
}

func TestP903NilAndEmpty(t *testing.T) {
	for _, text := range samples {
		with, without := copied(read(t, text)), copied(read(t, text))
		emptied(reflect.ValueOf(&with).Elem(), true)
		emptied(reflect.ValueOf(&without).Elem(), false)
		if !stmt.Same(with, without) || !stmt.Same(without, with) || with.Names == nil || with.Query.All == nil && with.Query.Cores == nil {
			t.Errorf("%s: nil is not empty", text)
		}
		printed(t, with, toldText(without))
		printed(t, without, toldText(with))
	}
	// Within lists, too.
	a := Stmt{Rows: [][][]Node{nil, {nil}}, Table: Table{Uniques: [][]int{nil}}, Query: Query{Cores: []Core{{Group: [][]Node{nil}}}}}
	b := Stmt{Rows: [][][]Node{{}, {{}}}, Table: Table{Uniques: [][]int{{}}}, Query: Query{Cores: []Core{{Group: [][]Node{{}}}}}}
	if !stmt.Same(a, b) || stmt.Same(a, Stmt{}) {
		t.Error("nil is not empty within lists")
	}
}

// Two faults in one call are one ErrArg.
func TestP903TwoFaults(t *testing.T) {
	long := strings.Repeat("a", api.MaxSource)
	for _, s := range []Stmt{
		{Kind: 10, Name: "select"}, {Kind: 0, Query: Query{Limit: -2}}, {Kind: stmt.Drop, Name: "A", Where: nodes("a")}, {Kind: stmt.Drop, Name: long, Names: []string{long}},
		{Kind: stmt.Insert}, {Kind: stmt.Update}, {Kind: stmt.Delete, Where: []Node{{}}}, {Kind: stmt.Create, Name: "t"}, {Kind: stmt.Select, Name: "t"}, {Kind: stmt.Select, Query: Query{All: []bool{true}, Limit: -2}},
		{Kind: stmt.Insert, Name: "t", Names: []string{long}, Rows: [][][]Node{{nil}}},
	} {
		unprinted(t, s)
	}
}

// Faults that hide each other in a text: what stands there reads as a statement,
// but not as this one.
func TestP903OtherStatements(t *testing.T) {
	hidden := []Stmt{
		{Kind: stmt.Drop, Name: "t "},
		{Kind: stmt.Delete, Name: "t where a"},
		{Kind: stmt.Update, Name: "t", Sets: []Set{{Name: "a = 1, b", Expr: nodes("2")}}},
		{Kind: stmt.Insert, Name: "t (a)", Rows: [][][]Node{exprs("1")}},
		{Kind: stmt.Insert, Name: "t", Names: []string{"a, b"}, Rows: [][][]Node{exprs("1")}},
		selected(Core{Star: true, From: []Source{{Table: "t as u"}}}),
		selected(Core{Star: true, From: []Source{{Table: "t, u"}}}),
		selected(Core{Star: true, From: []Source{{Table: "t", Alias: "u where a"}}}),
		selected(Core{Items: []Item{{Expr: nodes("a"), As: "b, c"}}}),
		selected(Core{Items: []Item{{Expr: nodes("a"), As: "b limit 2"}}}),
		selected(Core{Items: []Item{{Expr: []Node{{Op: expr.Column, Name: "a, b"}}}}}),
		{Kind: stmt.Select, Query: Query{Cores: []Core{{Star: true}, {Star: true}}, Limit: -1}},
		{Kind: stmt.Select, Query: Query{Cores: []Core{{Star: true}}, All: []bool{false}, Limit: -1}},
		{Kind: stmt.Create, Table: Table{Name: "t", Columns: []Column{{Name: "a int, b", Kind: api.Int}}}},
	}
	for _, s := range hidden {
		unprinted(t, s)
	}
}

func TestP904ThereAndBack(t *testing.T) {
	t.Parallel()
	for _, text := range samples {
		s := read(t, text)
		out, e := stmt.Print(s)
		if e != api.OK {
			t.Fatalf("Print of %s: %d", text, e)
		}
		parsed(t, out, s)
		printed(t, read(t, out), out)
	}
	r := rand.New(rand.NewSource(904))
	long := 0
	for range 8000 {
		s := wildStmt(r)
		if !toldRight(s) {
			t.Fatalf("%s is not right", short(s))
		}
		if !judged(t, s) {
			long++
			continue
		}
		text := toldText(s)
		parsed(t, text, s)
		if !stmt.Same(read(t, text), s) {
			t.Fatalf("%s is not read as the same", text)
		}
	}
	if long > 800 {
		t.Errorf("%d were too long", long)
	}
}

// Whatever Parse reads, Print writes, where the text is not too long, and no
// second time otherwise.
func TestP904PrintOfParse(t *testing.T) {
	t.Parallel()
	r := rand.New(rand.NewSource(9040))
	for range 5000 {
		text := looseText(r, wildStmt(r))
		if len(text) > api.MaxSource {
			continue
		}
		s := read(t, text)
		out, e := stmt.Print(s)
		if e == api.ErrArg && len(toldText(s)) > api.MaxSource {
			continue
		}
		if again := read(t, out); e != api.OK || !alike(again, s) {
			t.Fatalf("%s: %s, %d", text, out, e)
		}
	}
}

// Statements with one thing off, at random.
func TestP904OffAtRandom(t *testing.T) {
	t.Parallel()
	r := rand.New(rand.NewSource(90400))
	right, wrong := 0, 0
	for range 100 {
		s := wildStmt(r)
		skip := 1 + r.Intn(20)
		varied(s, func(x Stmt) {
			t.Helper()
			if r.Intn(skip) > 0 {
				return
			}
			if judged(t, x) {
				right++
			} else {
				wrong++
			}
		})
	}
	if right < 1000 || wrong < 1000 {
		t.Errorf("%d are right, %d wrong", right, wrong)
	}
}
