package stmt_test

import (
	"fmt"
	"math/rand"
	"reflect"
	"slices"
	"strconv"
	"strings"

	"longstop/api"
	"longstop/expr"
	"longstop/lexer"
	"longstop/schema"
	"longstop/stmt"
)

// The statements told a second time, by other means: first what has to be there,
// then the text, as pieces.

func toldName(s string) bool {
	return lexer.Word(s) && !slices.Contains(strings.Fields(reserved), s)
}

// isNameOr tells whether s is a name, or left away.
func isNameOr(s string) bool { return s == "" || toldName(s) }

// isExprOr tells whether l is an expression, or left away.
func isExprOr(l []Node) bool { return len(l) == 0 || expr.Right(l) }

func every[T any](l []T, is func(T) bool) bool {
	return !slices.ContainsFunc(l, func(x T) bool { return !is(x) })
}

// some tells whether there is one at least, and every one is.
func some[T any](l []T, is func(T) bool) bool { return len(l) > 0 && every(l, is) }

func someExprs(l [][]Node) bool { return some(l, expr.Right) }

// toldRight tells whether Parse can have read s, however long the text is.
func toldRight(s Stmt) bool {
	has := Stmt{Kind: s.Kind}
	ok := true
	switch s.Kind {
	case stmt.Create:
		has.Table, ok = s.Table, schema.Right(s.Table)
	case stmt.Drop:
		has.Name, ok = s.Name, toldName(s.Name)
	case stmt.Insert:
		has.Name, has.Names, has.Rows = s.Name, s.Names, s.Rows
		ok = toldName(s.Name) && every(s.Names, toldName) && some(s.Rows, someExprs)
	case stmt.Update:
		has.Name, has.Sets, has.Where = s.Name, s.Sets, s.Where
		ok = toldName(s.Name) && some(s.Sets, func(x Set) bool { return toldName(x.Name) && expr.Right(x.Expr) }) && isExprOr(s.Where)
	case stmt.Delete:
		has.Name, has.Where = s.Name, s.Where
		ok = toldName(s.Name) && isExprOr(s.Where)
	case stmt.Select:
		has.Query, ok = s.Query, toldQuery(s.Query)
	case stmt.Begin, stmt.Commit, stmt.Rollback:
	default:
		ok = false
	}
	return ok && alike(has, s)
}

func toldQuery(q Query) bool {
	return some(q.Cores, toldCore) && len(q.All) == len(q.Cores)-1 && q.Limit >= -1 && every(q.Order, func(o Order) bool { return expr.Right(o.Expr) })
}

func toldCore(c Core) bool {
	items := c.Star && len(c.Items) == 0 || !c.Star && some(c.Items, func(i Item) bool { return expr.Right(i.Expr) && isNameOr(i.As) })
	for i, s := range c.From {
		joined := s.Join == stmt.Cross && len(s.On) == 0 || i > 0 && (s.Join == stmt.Inner || s.Join == stmt.Left) && expr.Right(s.On)
		if !joined || !toldName(s.Table) || !isNameOr(s.Alias) {
			return false
		}
	}
	return items && isExprOr(c.Where) && every(c.Group, expr.Right) && isExprOr(c.Having)
}

// speaker tells a statement as pieces: strictly as Print must, or, with a
// random source, with all that Parse takes beside that.
type speaker struct{ r *rand.Rand }

// loosely tells whether to say here what Print would not.
func (p speaker) loosely() bool { return p.r != nil && p.r.Intn(2) == 0 }

func (p speaker) expr(l []Node) string {
	s := expr.Print(l)
	if p.loosely() {
		s = "(" + s + ")"
	}
	return s
}

func (p speaker) exprs(l [][]Node) []string {
	return parted(l, func(x []Node) []string { return []string{p.expr(x)} })
}

// parted gives lists of pieces with commas between.
func parted[T any](l []T, of func(T) []string) []string {
	var out []string
	for i, x := range l {
		if i > 0 {
			out = append(out, ",")
		}
		out = append(out, of(x)...)
	}
	return out
}

func inParentheses(l []string) []string { return slices.Concat([]string{"("}, l, []string{")"}) }

func names(l []string) []string {
	return parted(l, func(s string) []string { return []string{s} })
}

// optional gives words and what stands behind them, if that is there at all.
func optional(words string, l ...string) []string {
	if len(l) == 0 || l[0] == "" {
		return nil
	}
	return append(strings.Fields(words), l...)
}

// maybe gives the expression behind a word, if there is one.
func (p speaker) maybe(word string, l []Node) []string {
	if len(l) == 0 {
		return nil
	}
	return []string{word, p.expr(l)}
}

func (p speaker) pieces(s Stmt) []string {
	switch s.Kind {
	case stmt.Create:
		return p.table(s.Table)
	case stmt.Drop:
		return []string{"drop", "table", s.Name}
	case stmt.Insert:
		out := []string{"insert", "into", s.Name}
		if len(s.Names) > 0 {
			out = append(out, inParentheses(names(s.Names))...)
		}
		rows := parted(s.Rows, func(l [][]Node) []string { return inParentheses(p.exprs(l)) })
		return slices.Concat(out, []string{"values"}, rows)
	case stmt.Update:
		sets := parted(s.Sets, func(x Set) []string { return []string{x.Name, "=", p.expr(x.Expr)} })
		return slices.Concat([]string{"update", s.Name, "set"}, sets, p.maybe("where", s.Where))
	case stmt.Delete:
		return slices.Concat([]string{"delete", "from", s.Name}, p.maybe("where", s.Where))
	case stmt.Select:
		return p.query(s.Query)
	}
	return []string{map[int]string{stmt.Begin: "begin", stmt.Commit: "commit", stmt.Rollback: "rollback"}[s.Kind]}
}

func (p speaker) table(t Table) []string {
	placed := func(l []int) []string {
		return inParentheses(parted(l, func(i int) []string { return []string{t.Columns[i].Name} }))
	}
	in := parted(t.Columns, func(c Column) []string {
		out := []string{c.Name, []string{"", "int", "dec", "text", "bool", "point"}[c.Kind]}
		if c.Kind == api.Dec {
			out = append(out, "(", strconv.Itoa(c.Scale), ")")
		}
		if c.Must {
			out = append(out, "not", "null")
		}
		return out
	})
	if len(t.Key) > 0 {
		in = append(append(in, ",", "primary", "key"), placed(t.Key)...)
	}
	for _, u := range t.Uniques {
		in = append(append(in, ",", "unique"), placed(u)...)
	}
	if len(t.Check) > 0 {
		in = append(in, ",", "check", "(", p.expr(t.Check), ")")
	}
	return slices.Concat([]string{"create", "table", t.Name}, inParentheses(in))
}

func (p speaker) query(q Query) []string {
	var out []string
	for i, c := range q.Cores {
		if i > 0 {
			out = append(out, "union")
			if q.All[i-1] {
				out = append(out, "all")
			}
		}
		out = append(out, p.core(c)...)
	}
	out = append(out, optional("order by", parted(q.Order, p.order)...)...)
	if q.Limit >= 0 {
		out = append(out, "limit", strconv.Itoa(q.Limit))
	}
	return out
}

func (p speaker) order(o Order) []string {
	switch {
	case o.Desc:
		return []string{p.expr(o.Expr), "desc"}
	case p.loosely():
		return []string{p.expr(o.Expr), "asc"}
	}
	return []string{p.expr(o.Expr)}
}

func (p speaker) core(c Core) []string {
	out := []string{"select"}
	if c.Distinct {
		out = append(out, "distinct")
	}
	if c.Star {
		out = append(out, "*")
	}
	items := parted(c.Items, func(i Item) []string { return append([]string{p.expr(i.Expr)}, optional("as", i.As)...) })
	return slices.Concat(out, items, p.sources(c.From), p.maybe("where", c.Where), optional("group by", p.exprs(c.Group)...), p.maybe("having", c.Having))
}

func (p speaker) sources(l []Source) []string {
	var out []string
	for i, s := range l {
		words := map[int]string{stmt.Cross: "cross join", stmt.Inner: "join", stmt.Left: "left join"}[s.Join]
		switch {
		case i == 0:
			words = "from"
		case s.Join == stmt.Cross && p.loosely():
			words = ","
		}
		out = slices.Concat(out, strings.Fields(words), []string{s.Table}, optional("as", s.Alias), p.maybe("on", s.On))
	}
	return out
}

// toldText gives the text that Print must write of a statement that may be.
func toldText(s Stmt) string { return spaced(speaker{}.pieces(s)) }

// looseText gives a text that Parse must read as s.
func looseText(r *rand.Rand, s Stmt) string {
	blanks := func() string {
		if r.Intn(4) > 0 {
			return " "
		}
		return pick(r, "  ", "\t", "\n", " \n\t ", "\n\n")
	}
	out := pick(r, "", "", blanks())
	before := byte(' ')
	for _, piece := range (speaker{r}).pieces(s) {
		// Two letters or digits must not come together; signs may, as none of
		// them could be taken for a longer one in a statement.
		if wordly(before) && wordly(piece[0]) || r.Intn(2) == 0 {
			out += blanks()
		}
		out += piece
		before = piece[len(piece)-1]
	}
	return out + pick(r, "", "", blanks())
}

// wordly tells whether a byte could be part of a longer token.
func wordly(b byte) bool {
	return 'a' <= b && b <= 'z' || '0' <= b && b <= '9' || b == '_' || b == '.' || b == '\''
}

// wildExpr gives an expression, mostly a small one.
func wildExpr(r *rand.Rand) []Node {
	leaf := func() string {
		return pick(r, "a", "b", "t.a", "u.long_name", "1", "0", "2.50", "9223372036854775807", "''", "'it''s'", "'( , ) select'", "'\n'", "null", "true", "false", "f()", "count()", "int", "text")
	}
	s := leaf()
	for range r.Intn(pick(r, 1, 2, 4, 7)) {
		switch r.Intn(5) {
		case 0:
			s = pick(r, "-", "not ") + "(" + s + ")"
		case 1:
			s = "(" + s + ")" + pick(r, " is null", " is not null")
		case 2:
			s = pick(r, "f", "sum", "dec") + "(" + s + pick(r, "", ", "+leaf(), ", "+leaf()+","+leaf()) + ")"
		default:
			s = "(" + s + ")" + pick(r, "+", "-", "*", "/", "%", "=", "<>", "<", "<=", ">", ">=", " and ", " or ") + leaf()
		}
	}
	return nodes(s)
}

func wildName(r *rand.Rand) string {
	return pick(r, "a", "b", "c", "t", "u", "t1", "_", "int", "text", "dec", "point", "bool", "count", "nulls", strings.Repeat("n", api.MaxName))
}

// some gives from fewest to three of what f makes.
func wildList[T any](r *rand.Rand, fewest int, f func(*rand.Rand) T) []T {
	var l []T
	for range fewest + r.Intn(4-fewest) {
		l = append(l, f(r))
	}
	return l
}

func wildExprs(r *rand.Rand) [][]Node { return wildList(r, 1, wildExpr) }

func wildWhere(r *rand.Rand) []Node {
	if r.Intn(2) == 0 {
		return nil
	}
	return wildExpr(r)
}

func wildAs(r *rand.Rand) string { return pick(r, "", wildName(r)) }

// wildStmt gives a statement that may be.
func wildStmt(r *rand.Rand) Stmt {
	s := Stmt{Kind: pick(r, 1, 1, 1, 2, 3, 3, 4, 4, 5, 6, 6, 6, 6, 6, 6, 7, 8, 9), Name: wildName(r)}
	switch s.Kind {
	case stmt.Insert:
		s.Names, s.Rows = wildList(r, 0, wildName), wildList(r, 1, wildExprs)
	case stmt.Update:
		s.Sets = wildList(r, 1, func(r *rand.Rand) Set { return Set{wildName(r), wildExpr(r)} })
		s.Where = wildWhere(r)
	case stmt.Delete:
		s.Where = wildWhere(r)
	case stmt.Create:
		s.Name, s.Table = "", wildTable(r)
	case stmt.Select:
		s.Name, s.Query = "", wildQuery(r)
	case stmt.Begin, stmt.Commit, stmt.Rollback:
		s.Name = ""
	}
	return s
}

func wildQuery(r *rand.Rand) Query {
	q := Query{Cores: wildList(r, 1, wildCore), Limit: pick(r, -1, -1, 0, 1, 77, great)}
	for range len(q.Cores) - 1 {
		q.All = append(q.All, r.Intn(2) == 0)
	}
	if r.Intn(2) == 0 {
		q.Order = wildList(r, 1, func(r *rand.Rand) Order { return Order{wildExpr(r), r.Intn(2) == 0} })
	}
	return q
}

func wildCore(r *rand.Rand) Core {
	c := Core{Distinct: r.Intn(3) == 0, Star: r.Intn(3) == 0, Where: wildWhere(r), Having: wildWhere(r)}
	if !c.Star {
		c.Items = wildList(r, 1, func(r *rand.Rand) Item { return Item{wildExpr(r), wildAs(r)} })
	}
	for i := range r.Intn(4) {
		s := Source{Table: wildName(r), Alias: wildAs(r)}
		if i > 0 && r.Intn(2) == 0 {
			s.Join, s.On = pick(r, stmt.Inner, stmt.Left), wildExpr(r)
		}
		c.From = append(c.From, s)
	}
	if r.Intn(2) == 0 {
		c.Group = wildList(r, 1, wildExpr)
	}
	return c
}

func wildTable(r *rand.Rand) Table {
	t := Table{Name: wildName(r), Columns: make([]Column, 1+r.Intn(pick(r, 3, 6, api.MaxColumns)))}
	for i := range t.Columns {
		c := Column{Name: fmt.Sprintf("%s%d", pick(r, "a", "int", "_"), i), Kind: 1 + r.Intn(5), Must: r.Intn(3) == 0}
		if c.Kind == api.Dec {
			c.Scale = r.Intn(api.MaxScale + 1)
		}
		t.Columns[i] = c
	}
	places := func() []int {
		l := r.Perm(len(t.Columns))
		return l[:min(len(l), 1+r.Intn(3))]
	}
	if r.Intn(2) == 0 {
		t.Key = places()
	}
	for range r.Intn(5) {
		t.Uniques = append(t.Uniques, places())
	}
	if r.Intn(2) == 0 {
		name := pick(r, t.Columns...).Name
		t.Check = nodes(pick(r, "true", name, t.Name+"."+name, name+" > 0 or f("+name+")", "not "+name+" is null", "'('"))
	}
	return t
}

// vary changes one thing in v after the other, tells of each, and changes it
// back.
func vary(v reflect.Value, tell func()) {
	set := func(l ...any) {
		was := reflect.New(v.Type()).Elem()
		was.Set(v)
		for _, x := range l {
			v.Set(reflect.ValueOf(x).Convert(v.Type()))
			tell()
		}
		v.Set(was)
	}
	switch v.Kind() {
	case reflect.Struct:
		for i := range v.NumField() {
			vary(v.Field(i), tell)
		}
	case reflect.Int:
		n := int(v.Int())
		set(n+1, n-1, 0, 1, 2, -1, -2, 10, least, great)
	case reflect.Bool:
		set(!v.Bool())
	case reflect.String:
		s := v.String()
		set("", "a", "b", "zz", "select", "A", s+"x", s+" ", " "+s, s+", "+s, s+" as b", "a)", "(")
	case reflect.Slice:
		varyList(v, set)
		for i := range v.Len() {
			vary(v.Index(i), tell)
		}
	}
}

func varyList(v reflect.Value, set func(...any)) {
	whole := func() reflect.Value { return copiedValue(v) }
	set(reflect.Append(whole(), reflect.Zero(v.Type().Elem())).Interface(), reflect.Zero(v.Type()).Interface(), reflect.MakeSlice(v.Type(), 0, 0).Interface())
	if n := v.Len(); n > 0 {
		set(whole().Slice(1, n).Interface(), whole().Slice(0, n-1).Interface(), reflect.Append(whole(), v.Index(0)).Interface(), reflect.AppendSlice(whole(), v).Interface())
		turned := whole()
		reflect.Swapper(turned.Interface())(0, n-1)
		set(turned.Interface())
	}
}

// varied tells of s with one thing changed, in all the ways that vary knows.
func varied(s Stmt, tell func(Stmt)) {
	s = copied(s)
	vary(reflect.ValueOf(&s).Elem(), func() { tell(s) })
}
