package rel_test

import (
	"math/big"
	"slices"

	"longstop/api"
	"longstop/datum"
	"longstop/eval"
	"longstop/expr"
	"longstop/stmt"
)

// The chapter told a second time, by other means: rows are lists of cells that
// know their columns, expressions are trees, rows are the same if they are so
// place by place, and sums are reckoned without bounds.

type cell struct {
	table, name string
	value       Value
}

type tree struct {
	node Node
	kids []tree
}

// grown gives the tree that l ends with, and what is left of l ahead of it.
func grown(l []Node) (tree, []Node) {
	x := tree{node: l[len(l)-1]}
	l = l[:len(l)-1]
	count := 0
	switch op := x.node.Op; op {
	case expr.Call:
		count = x.node.Args
	case expr.Neg, expr.Not, expr.IsNull:
		count = 1
	case expr.Value, expr.Column:
	default:
		count = 2
	}
	x.kids = make([]tree, count)
	for i := count - 1; i >= 0; i-- {
		x.kids[i], l = grown(l)
	}
	return x, l
}

func treeOf(l []Node) tree {
	x, left := grown(l)
	if len(left) > 0 {
		panic("more than one expression")
	}
	return x
}

func (x tree) aggregate() bool {
	return x.node.Op == expr.Call && slices.Contains([]string{"avg", "count", "max", "min", "sum"}, x.node.Name)
}

func (x tree) hasAggregate() bool {
	return x.aggregate() || slices.ContainsFunc(x.kids, tree.hasAggregate)
}

// tell: cells is the row whose columns are asked for; rows are those of the
// group; nil if there is none.
func (x tree) tell(cells []cell, rows *[][]cell) (Value, api.Errno) {
	switch {
	case x.node.Op == expr.Value:
		return x.node.Value, api.OK
	case x.node.Op == expr.Column:
		var found []Value
		for _, c := range cells {
			if c.name == x.node.Name && (x.node.Table == "" || c.table == x.node.Table) {
				found = append(found, c.value)
			}
		}
		if len(found) != 1 {
			return null, api.ErrName
		}
		return found[0], api.OK
	case rows != nil && x.aggregate():
		return x.tellAggregate(*rows)
	}
	var l []Value
	for _, kid := range x.kids {
		v, e := kid.tell(cells, rows)
		if e != api.OK {
			return null, e
		}
		l = append(l, v)
	}
	switch x.node.Op {
	case expr.Call:
		return eval.Function(x.node.Name, l...)
	case expr.Neg, expr.Not, expr.IsNull:
		return eval.Unary(x.node.Op, l[0])
	}
	return eval.Binary(x.node.Op, l[0], l[1])
}

func (x tree) tellAggregate(rows [][]cell) (Value, api.Errno) {
	if len(x.kids) == 0 && x.node.Name == "count" {
		return whole(len(rows)), api.OK
	}
	if len(x.kids) != 1 {
		return null, api.ErrName
	}
	var l []Value
	for _, cells := range rows {
		v, e := x.kids[0].tell(cells, nil)
		if e != api.OK {
			return null, e
		}
		l = append(l, v)
	}
	return toldAggregate(x.node.Name, l)
}

// toldAggregate is of values that may be.
func toldAggregate(name string, l []Value) (Value, api.Errno) {
	l = slices.DeleteFunc(slices.Clone(l), func(v Value) bool { return v == null })
	if !slices.Contains([]string{"avg", "count", "max", "min", "sum"}, name) {
		return null, api.ErrName
	}
	if name == "count" {
		return whole(len(l)), api.OK
	}
	if len(l) == 0 {
		return null, api.OK
	}
	ordered := slices.SortedFunc(slices.Values(l), datum.Compare)
	switch name {
	case "min":
		return ordered[0], api.OK
	case "max":
		return ordered[len(l)-1], api.OK
	}
	units, kind, scale := big.NewInt(0), api.Int, 0
	for _, v := range l {
		if v.Kind != api.Int && v.Kind != api.Dec {
			return null, api.ErrType
		}
		if v.Kind == api.Dec {
			kind = api.Dec
		}
		most := max(scale, v.M)
		units.Mul(units, tenTo(most-scale))
		units.Add(units, new(big.Int).Mul(big.NewInt(int64(v.N)), tenTo(most-v.M)))
		scale = most
		if !units.IsInt64() {
			return null, api.ErrOver
		}
	}
	if name == "sum" {
		return Value{Kind: kind, N: int(units.Int64()), M: scale}, api.OK
	}
	quotient := rounded(units.Mul(units, tenTo(6)), new(big.Int).Mul(tenTo(scale), big.NewInt(int64(len(l)))))
	if !quotient.IsInt64() {
		return null, api.ErrOver
	}
	return dec(int(quotient.Int64()), 6), api.OK
}

func tenTo(n int) *big.Int { return new(big.Int).Exp(big.NewInt(10), big.NewInt(int64(n)), nil) }

// rounded gives a by b, of two as near the even one.
func rounded(a, b *big.Int) *big.Int {
	quotient, left := new(big.Int).DivMod(a, b, new(big.Int))
	switch left.Lsh(left, 1).Cmp(b) {
	case 1:
		quotient.Add(quotient, big.NewInt(1))
	case 0:
		quotient.Add(quotient, big.NewInt(int64(quotient.Bit(0))))
	}
	return quotient
}

func toldOnce(rows [][]Value) [][]Value {
	var out [][]Value
	for _, row := range rows {
		if !slices.ContainsFunc(out, func(other []Value) bool { return slices.Equal(row, other) }) {
			out = append(out, row)
		}
	}
	return out
}

func toldBag(a, b [][]Value) bool {
	left := slices.Clone(b)
	for _, row := range a {
		place := slices.IndexFunc(left, func(other []Value) bool { return slices.Equal(row, other) })
		if place < 0 {
			return false
		}
		left = slices.Delete(left, place, place+1)
	}
	return len(left) == 0
}

// toldAhead tells whether a has to stand ahead of b.
func toldAhead(a, b []Value, desc []bool) bool {
	for i := 0; i < len(a) && i < len(b); i++ {
		x, y := a[i], b[i]
		if i < len(desc) && desc[i] {
			x, y = y, x
		}
		switch datum.Compare(x, y) {
		case -1:
			return true
		case 1:
			return false
		}
	}
	return len(a) < len(b)
}

// told is what a core, or several, came to.
type told struct {
	names []string
	rows  [][]Value
}

// toldHolds tells whether a value is true.
func toldHolds(v Value, e api.Errno) (bool, api.Errno) {
	if e == api.OK && v != null && v.Kind != api.Bool {
		e = api.ErrType
	}
	return e == api.OK && v == truth(1), e
}

// toldRun is of databases and queries that may be.
func toldRun(q Query, db []Data) (told, api.Errno) {
	var all told
	for i, c := range q.Cores {
		next, e := toldCore(c, db)
		if e != api.OK {
			return told{}, e
		}
		if i == 0 {
			all = next
			continue
		}
		if len(all.names) != len(next.names) {
			return told{}, api.ErrType
		}
		all.rows = slices.Concat(all.rows, next.rows)
		if !q.All[i-1] {
			all.rows = toldOnce(all.rows)
		}
		if len(all.rows) > 2048 {
			return told{}, api.ErrRows
		}
	}
	rows, e := toldOrder(all, q.Order)
	if e != api.OK {
		return told{}, e
	}
	for q.Limit >= 0 && len(rows) > q.Limit {
		rows = rows[:len(rows)-1]
	}
	return told{all.names, rows}, api.OK
}

// toldOrder puts each row ahead of all that have to stand behind it.
func toldOrder(all told, by []Order) ([][]Value, api.Errno) {
	var desc []bool
	for _, o := range by {
		desc = append(desc, o.Desc)
	}
	var rows, keys [][]Value
	for _, row := range all.rows {
		var cells []cell
		for i, v := range row {
			cells = append(cells, cell{"", all.names[i], v})
		}
		var key []Value
		for _, o := range by {
			v, e := treeOf(o.Expr).tell(cells, nil)
			if e != api.OK {
				return nil, e
			}
			key = append(key, v)
		}
		place := slices.IndexFunc(keys, func(other []Value) bool { return toldAhead(key, other, desc) })
		if place < 0 {
			place = len(keys)
		}
		keys, rows = slices.Insert(keys, place, key), slices.Insert(rows, place, row)
	}
	return rows, api.OK
}

func toldCore(c Core, db []Data) (told, api.Errno) {
	rows, columns, e := toldFrom(c.From, db)
	if e != api.OK {
		return told{}, e
	}
	grouped := len(c.Group) > 0 || len(c.Having) > 0 && treeOf(c.Having).hasAggregate()
	var out told
	for _, item := range c.Items {
		x := treeOf(item.Expr)
		grouped = grouped || x.hasAggregate()
		name := item.As
		if name == "" && x.node.Op == expr.Column {
			name = x.node.Name
		}
		out.names = append(out.names, name)
	}
	if c.Star {
		out.names = nil
		for _, column := range columns {
			out.names = append(out.names, column.name)
		}
	}
	rows, e = toldWhere(rows, c.Where)
	if e != api.OK {
		return told{}, e
	}
	if grouped {
		out.rows, e = toldGroups(c, rows, columns)
	} else {
		out.rows, e = toldItems(c, rows)
	}
	if e != api.OK {
		return told{}, e
	}
	if c.Distinct {
		out.rows = toldOnce(out.rows)
	}
	return out, api.OK
}

// toldFrom gives the rows, and a row of Nulls.
func toldFrom(l []Source, db []Data) (rows [][]cell, columns []cell, e api.Errno) {
	rows = [][]cell{nil}
	aliases := map[string]bool{}
	for _, s := range l {
		alias := s.Alias
		if alias == "" {
			alias = s.Table
		}
		var table *Data
		for i := range db {
			if db[i].Table.Name == s.Table {
				table = &db[i]
			}
		}
		if table == nil || aliases[alias] {
			return nil, nil, api.ErrName
		}
		aliases[alias] = true
		if len(rows)*len(table.Rows) > 2048 {
			return nil, nil, api.ErrRows
		}
		cells := func(row []Value) []cell {
			var out []cell
			for i, c := range table.Table.Columns {
				v := null
				if row != nil {
					v = row[i]
				}
				out = append(out, cell{alias, c.Name, v})
			}
			return out
		}
		columns = slices.Concat(columns, cells(nil))
		var next [][]cell
		for _, ahead := range rows {
			lonely := true
			for _, behind := range table.Rows {
				both, ok := slices.Concat(ahead, cells(behind)), true
				if s.Join != 0 {
					if ok, e = toldHolds(treeOf(s.On).tell(both, nil)); e != api.OK {
						return nil, nil, e
					}
				}
				if ok {
					next, lonely = append(next, both), false
				}
			}
			if lonely && s.Join == stmt.Left {
				next = append(next, slices.Concat(ahead, cells(nil)))
			}
		}
		rows = next
	}
	return rows, columns, api.OK
}

func toldWhere(rows [][]cell, l []Node) ([][]cell, api.Errno) {
	var out [][]cell
	for _, cells := range rows {
		ok := len(l) == 0
		if !ok {
			var e api.Errno
			if ok, e = toldHolds(treeOf(l).tell(cells, nil)); e != api.OK {
				return nil, e
			}
		}
		if ok {
			out = append(out, cells)
		}
	}
	return out, api.OK
}

func toldItems(c Core, rows [][]cell) ([][]Value, api.Errno) {
	rows, e := toldWhere(rows, c.Having)
	if e != api.OK {
		return nil, e
	}
	if c.Star && len(c.From) == 0 {
		return nil, api.ErrName
	}
	var out [][]Value
	for _, cells := range rows {
		var row []Value
		for _, item := range c.Items {
			if c.Star {
				break
			}
			v, e := treeOf(item.Expr).tell(cells, nil)
			if e != api.OK {
				return nil, e
			}
			row = append(row, v)
		}
		for _, x := range cells {
			if c.Star {
				row = append(row, x.value)
			}
		}
		out = append(out, row)
	}
	return out, api.OK
}

func toldGroups(c Core, rows [][]cell, columns []cell) ([][]Value, api.Errno) {
	type group struct {
		key  []Value
		rows [][]cell
	}
	var groups []*group
	if len(c.Group) == 0 {
		groups = []*group{{rows: rows}}
		rows = nil
	}
	for _, cells := range rows {
		var key []Value
		for _, by := range c.Group {
			v, e := treeOf(by).tell(cells, nil)
			if e != api.OK {
				return nil, e
			}
			key = append(key, v)
		}
		place := slices.IndexFunc(groups, func(g *group) bool { return slices.Equal(g.key, key) })
		if place < 0 {
			place = len(groups)
			groups = append(groups, &group{key: key})
		}
		groups[place].rows = append(groups[place].rows, cells)
	}
	first := func(g *group) []cell {
		if len(g.rows) == 0 {
			return columns
		}
		return g.rows[0]
	}
	var left []*group
	for _, g := range groups {
		ok := len(c.Having) == 0
		if !ok {
			var e api.Errno
			if ok, e = toldHolds(treeOf(c.Having).tell(first(g), &g.rows)); e != api.OK {
				return nil, e
			}
		}
		if ok {
			left = append(left, g)
		}
	}
	if c.Star {
		return nil, api.ErrName
	}
	var out [][]Value
	for _, g := range left {
		var row []Value
		for _, item := range c.Items {
			v, e := treeOf(item.Expr).tell(first(g), &g.rows)
			if e != api.OK {
				return nil, e
			}
			row = append(row, v)
		}
		out = append(out, row)
	}
	return out, api.OK
}
