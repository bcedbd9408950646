package stmt

import (
	"strconv"

	"longstop/api"
	"longstop/expr"
	"longstop/schema"
)

// Print gives the text of s. Whatever may not be in s, or has no place in the
// text of its Kind, is not what Parse reads there.
func Print(s Stmt) (string, api.Errno) {
	var w writer
	w.statement(s)
	text := string(w.text)
	read, e := Parse(text)
	if e != api.OK || !Same(read, s) {
		return "", api.ErrArg
	}
	return text, api.OK
}

// writer: each of its methods but full writes one part of a statement.
type writer struct {
	text []byte
	open bool // whether a ( was written last
}

// full tells whether the text is too long for Parse already: nothing that could
// follow matters then, so that long lists need not be gone through.
func (w *writer) full() bool {
	return len(w.text) > api.MaxSource
}

// put writes tokens, or whole expressions.
func (w *writer) put(parts ...string) {
	for _, part := range parts {
		if len(w.text) > 0 && !w.open && part != ")" && part != "," {
			w.text = append(w.text, ' ')
		}
		w.text = append(w.text, part...)
		w.open = part == "("
	}
}

// each writes the parts of a list.
func each[T any](w *writer, l []T, part func(i int, x T)) {
	for i, x := range l {
		if w.full() {
			return
		}
		part(i, x)
	}
}

// commas writes a list with commas between.
func commas[T any](w *writer, l []T, part func(T)) {
	each(w, l, func(i int, x T) {
		if i > 0 {
			w.put(",")
		}
		part(x)
	})
}

func (w *writer) name(s string) {
	w.put(s)
}

// nameBehindAs writes the name that may be given to what stands ahead.
func (w *writer) nameBehindAs(s string) {
	if s != "" {
		w.put("as", s)
	}
}

func (w *writer) expression(l []expr.Node) {
	w.put(expr.Print(l))
}

// expressionBehind writes what may stand behind a word that may be left away.
func (w *writer) expressionBehind(word string, l []expr.Node) {
	if len(l) > 0 {
		w.put(word)
		w.expression(l)
	}
}

func (w *writer) statement(s Stmt) {
	switch s.Kind {
	case Create:
		w.table(s.Table)
	case Drop:
		w.put("drop", "table", s.Name)
	case Insert:
		w.insert(s)
	case Update:
		w.put("update", s.Name, "set")
		commas(w, s.Sets, w.set)
		w.expressionBehind("where", s.Where)
	case Delete:
		w.put("delete", "from", s.Name)
		w.expressionBehind("where", s.Where)
	case Select:
		w.query(s.Query)
	case Begin:
		w.put("begin")
	case Commit:
		w.put("commit")
	case Rollback:
		w.put("rollback")
	}
}

// table writes nothing of a table that may not be, whose places may be none.
func (w *writer) table(t schema.Table) {
	if !schema.Right(t) {
		return
	}
	w.put("create", "table", t.Name, "(")
	commas(w, t.Columns, w.column)
	if len(t.Key) > 0 {
		w.put(",", "primary", "key")
		w.places(t.Columns, t.Key)
	}
	for _, u := range t.Uniques {
		w.put(",", "unique")
		w.places(t.Columns, u)
	}
	if len(t.Check) > 0 {
		w.put(",", "check", "(", expr.Print(t.Check), ")")
	}
	w.put(")")
}

func (w *writer) column(c schema.Column) {
	w.put(c.Name, types[c.Kind])
	if c.Kind == api.Dec {
		w.put("(", strconv.Itoa(c.Scale), ")")
	}
	if c.Must {
		w.put("not", "null")
	}
}

func (w *writer) places(columns []schema.Column, l []int) {
	w.put("(")
	commas(w, l, func(place int) { w.put(columns[place].Name) })
	w.put(")")
}

func (w *writer) insert(s Stmt) {
	w.put("insert", "into", s.Name)
	if len(s.Names) > 0 {
		w.put("(")
		commas(w, s.Names, w.name)
		w.put(")")
	}
	w.put("values")
	commas(w, s.Rows, w.row)
}

func (w *writer) row(l [][]expr.Node) {
	w.put("(")
	commas(w, l, w.expression)
	w.put(")")
}

func (w *writer) set(s Set) {
	w.put(s.Name, "=")
	w.expression(s.Expr)
}

func (w *writer) query(q Query) {
	each(w, q.Cores, func(i int, c Core) {
		if i > 0 {
			w.put("union")
		}
		// An All that is too short is not what Parse reads, either.
		if i > 0 && i <= len(q.All) && q.All[i-1] {
			w.put("all")
		}
		w.core(c)
	})
	if len(q.Order) > 0 {
		w.put("order", "by")
		commas(w, q.Order, w.order)
	}
	if q.Limit != noLimit {
		w.put("limit", strconv.Itoa(q.Limit))
	}
}

func (w *writer) core(c Core) {
	w.put("select")
	if c.Distinct {
		w.put("distinct")
	}
	if c.Star {
		w.put("*")
	}
	commas(w, c.Items, w.item)
	if len(c.From) > 0 {
		w.put("from")
		each(w, c.From, w.source)
	}
	w.expressionBehind("where", c.Where)
	if len(c.Group) > 0 {
		w.put("group", "by")
		commas(w, c.Group, w.expression)
	}
	w.expressionBehind("having", c.Having)
}

func (w *writer) item(i Item) {
	w.expression(i.Expr)
	w.nameBehindAs(i.As)
}

// source writes one of those that a select is from: the first one is joined to
// nothing, and whatever its Join is, Parse reads a Cross.
func (w *writer) source(i int, s Source) {
	if i > 0 {
		w.join(s.Join)
	}
	w.put(s.Table)
	w.nameBehindAs(s.Alias)
	w.expressionBehind("on", s.On)
}

func (w *writer) join(kind int) {
	switch kind {
	case Cross:
		w.put("cross")
	case Left:
		w.put("left")
	}
	w.put("join")
}

func (w *writer) order(o Order) {
	w.expression(o.Expr)
	if o.Desc {
		w.put("desc")
	}
}
