package stmt

import (
	"slices"

	"longstop/api"
	"longstop/expr"
	"longstop/lexer"
	"longstop/schema"
)

// Parse gives the statement whose text s is.
func Parse(s string) (Stmt, api.Errno) {
	l, e := lexer.Split(s)
	if e != api.OK {
		return Stmt{}, e
	}
	r := reader{place: place{rest: l}}
	made := r.statement()
	if len(r.rest) > 0 {
		r.fail(api.ErrSyntax)
	}
	if r.wrong != api.OK {
		return Stmt{}, r.wrong
	}
	if made.Kind == Create && !schema.Right(made.Table) {
		return Stmt{}, api.ErrName
	}
	return made, api.OK
}

// place: where in a text's tokens a reader is.
type place struct {
	rest []lexer.Token // those that are not passed yet
}

// next gives the token at the place; one without a Text at the end.
func (p *place) next() lexer.Token {
	if len(p.rest) == 0 {
		return lexer.Token{}
	}
	return p.rest[0]
}

func (p *place) pass(count int) {
	p.rest = p.rest[count:]
}

func (p *place) sees(text string) bool {
	return p.next().Text == text
}

// took passes the next token, if it is that one.
func (p *place) took(text string) bool {
	if !p.sees(text) {
		return false
	}
	p.pass(1)
	return true
}

// reader: each of its methods that answers no bool reads one part of a
// statement, from its place on. What they answer is told to nobody, if in the
// end something was wrong.
type reader struct {
	place
	wrong api.Errno // the first wrong thing, from the left
}

// fail leaves the reader at a place where nothing fits any more, so that every
// part ends there, and what comes behind the first wrong thing is not told.
func (r *reader) fail(e api.Errno) {
	if r.wrong == api.OK {
		r.wrong = e
	}
	r.place = place{}
}

// must passes tokens that have to stand here.
func (r *reader) must(texts ...string) {
	for _, text := range texts {
		if !r.took(text) {
			r.fail(api.ErrSyntax)
		}
	}
}

func (r *reader) name() string {
	t := r.next()
	if t.Kind != lexer.Name || expr.Reserved(t.Text) {
		r.fail(api.ErrSyntax)
		return ""
	}
	r.pass(1)
	return t.Text
}

// nameBehindAs reads the name that may be given to what stands ahead.
func (r *reader) nameBehindAs() string {
	if !r.took("as") {
		return ""
	}
	return r.name()
}

// number reads a literal Int.
func (r *reader) number() int {
	t := r.next()
	if t.Value.Kind != api.Int {
		r.fail(api.ErrSyntax)
		return 0
	}
	r.pass(1)
	return t.Value.N
}

func (r *reader) expression() []expr.Node {
	nodes, size, e := expr.Read(r.rest)
	if e != api.OK {
		r.fail(e)
		return nil
	}
	r.pass(size)
	return nodes
}

// expressionBehind reads what may stand behind a word that may be left away.
func (r *reader) expressionBehind(word string) []expr.Node {
	if !r.took(word) {
		return nil
	}
	return r.expression()
}

// list reads parts with commas between.
func list[T any](r *reader, part func() T) []T {
	var l []T
next:
	l = append(l, part())
	if r.took(",") {
		goto next
	}
	return l
}

// enclosed reads a list within parentheses.
func enclosed[T any](r *reader, part func() T) []T {
	r.must("(")
	l := list(r, part)
	r.must(")")
	return l
}

func (r *reader) statement() Stmt {
	switch {
	case r.took("create"):
		return Stmt{Kind: Create, Table: r.table()}
	case r.took("drop"):
		r.must("table")
		return Stmt{Kind: Drop, Name: r.name()}
	case r.took("insert"):
		return r.insert()
	case r.took("update"):
		return r.update()
	case r.took("delete"):
		r.must("from")
		return Stmt{Kind: Delete, Name: r.name(), Where: r.expressionBehind("where")}
	case r.took("begin"):
		return Stmt{Kind: Begin}
	case r.took("commit"):
		return Stmt{Kind: Commit}
	case r.took("rollback"):
		return Stmt{Kind: Rollback}
	}
	return Stmt{Kind: Select, Query: r.query()}
}

func (r *reader) insert() Stmt {
	r.must("into")
	s := Stmt{Kind: Insert, Name: r.name()}
	if r.sees("(") {
		s.Names = enclosed(r, r.name)
	}
	r.must("values")
	s.Rows = list(r, r.row)
	return s
}

func (r *reader) row() [][]expr.Node {
	return enclosed(r, r.expression)
}

func (r *reader) update() Stmt {
	s := Stmt{Kind: Update, Name: r.name()}
	r.must("set")
	s.Sets = list(r, r.set)
	s.Where = r.expressionBehind("where")
	return s
}

func (r *reader) set() Set {
	s := Set{Name: r.name()}
	r.must("=")
	s.Expr = r.expression()
	return s
}

// table reads what stands behind create.
func (r *reader) table() schema.Table {
	r.must("table")
	t := schema.Table{Name: r.name()}
	r.must("(")
column:
	t.Columns = append(t.Columns, r.column())
	if !r.took(",") {
		goto end
	}
	if !r.sees("primary") && !r.sees("unique") && !r.sees("check") {
		goto column
	}
	if r.took("primary") {
		r.must("key")
		t.Key = r.places(t.Columns)
		if !r.took(",") {
			goto end
		}
	}
unique:
	if r.took("unique") {
		t.Uniques = append(t.Uniques, r.places(t.Columns))
		if !r.took(",") {
			goto end
		}
		goto unique
	}
	r.must("check", "(")
	t.Check = r.expression()
	r.must(")")
end:
	r.must(")")
	return t
}

func (r *reader) column() schema.Column {
	c := schema.Column{Name: r.name(), Kind: r.kind()}
	if c.Kind == api.Dec {
		r.must("(")
		c.Scale = r.number()
		r.must(")")
	}
	if r.took("not") {
		r.must("null")
		c.Must = true
	}
	return c
}

func (r *reader) kind() int {
	for kind := api.Int; kind <= api.Point; kind++ {
		if r.took(types[kind]) {
			return kind
		}
	}
	r.fail(api.ErrSyntax)
	return api.Null
}

// places reads NAMES, and gives the columns' places; -1, which no table may
// have, for a name that is no column's.
func (r *reader) places(columns []schema.Column) []int {
	var l []int
	for _, name := range enclosed(r, r.name) {
		l = append(l, slices.IndexFunc(columns, func(c schema.Column) bool { return c.Name == name }))
	}
	return l
}

func (r *reader) query() Query {
	q := Query{Limit: noLimit}
core:
	q.Cores = append(q.Cores, r.core())
	if r.took("union") {
		q.All = append(q.All, r.took("all"))
		goto core
	}
	if r.took("order") {
		r.must("by")
		q.Order = list(r, r.order)
	}
	if r.took("limit") {
		q.Limit = r.number()
	}
	return q
}

func (r *reader) core() Core {
	r.must("select")
	c := Core{Distinct: r.took("distinct"), Star: r.took("*")}
	if !c.Star {
		c.Items = list(r, r.item)
	}
	if r.took("from") {
		c.From = r.sources()
	}
	c.Where = r.expressionBehind("where")
	if r.took("group") {
		r.must("by")
		c.Group = list(r, r.expression)
	}
	c.Having = r.expressionBehind("having")
	return c
}

func (r *reader) item() Item {
	return Item{Expr: r.expression(), As: r.nameBehindAs()}
}

func (r *reader) sources() []Source {
	var l []Source
	join := Cross
next:
	l = append(l, r.source(join))
	join = Cross
	if r.took(",") {
		goto next
	}
	switch {
	case r.took("left"):
		join = Left
	case r.sees("join"):
		join = Inner
	case !r.took("cross"):
		goto end
	}
	r.must("join")
	goto next
end:
	return l
}

func (r *reader) source(join int) Source {
	s := Source{Table: r.name(), Alias: r.nameBehindAs(), Join: join}
	if join != Cross {
		r.must("on")
		s.On = r.expression()
	}
	return s
}

func (r *reader) order() Order {
	o := Order{Expr: r.expression(), Desc: r.took("desc")}
	if !o.Desc {
		r.took("asc")
	}
	return o
}
