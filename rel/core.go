package rel

import (
	"cmp"
	"slices"

	"longstop/api"
	"longstop/eval"
	"longstop/expr"
	"longstop/schema"
	"longstop/stmt"
)

// selected gives what c comes to; its columns are of no table.
func selected(c stmt.Core, db []Data) (view, api.Errno) {
	v, e := from(c.From, db)
	if e != api.OK {
		return view{}, e
	}
	v, e = v.holding(c.Where)
	if e != api.OK {
		return view{}, e
	}
	rows, e := v.shown(c)
	if e != api.OK {
		return view{}, e
	}
	if c.Distinct {
		rows = once(rows)
	}
	names := namesOf(c, v.Names)
	return view{Scope: eval.Scope{Tables: make([]string, len(names)), Names: names}, rows: rows}, api.OK
}

func from(l []stmt.Source, db []Data) (view, api.Errno) {
	v := view{rows: [][]api.Value{{}}}
	for _, s := range l {
		joined, e := v.joined(s, db)
		if e != api.OK {
			return view{}, e
		}
		v = joined
	}
	return v, api.OK
}

// joined gives v with the columns of s behind its own.
func (v view) joined(s stmt.Source, db []Data) (view, api.Errno) {
	place := slices.IndexFunc(db, func(d Data) bool { return d.Table.Name == s.Table })
	alias := cmp.Or(s.Alias, s.Table)
	// No table is without a column: so each alias ahead stands in the scope.
	if place < 0 || slices.Contains(v.Tables, alias) {
		return view{}, api.ErrName
	}
	d := db[place]
	// A Cross that is too great is not begun, whatever On would say of its rows.
	if len(v.rows)*len(d.Rows) > api.MaxRows {
		return view{}, api.ErrRows
	}
	more := schema.Scope(d.Table, alias)
	nulls := make([]api.Value, len(more.Names))
	all := view{Scope: eval.Scope{Tables: slices.Concat(v.Tables, more.Tables), Names: slices.Concat(v.Names, more.Names)}}
	for _, row := range v.rows {
		found, e := all.matching(s, row, d.Rows)
		if e != api.OK {
			return view{}, e
		}
		if s.Join == stmt.Left && len(found) == 0 {
			found = append(found, slices.Concat(row, nulls))
		}
		all.rows = append(all.rows, found...)
	}
	return all, api.OK
}

// matching gives row with each of the others behind it that s joins to it.
func (v view) matching(s stmt.Source, row []api.Value, others [][]api.Value) ([][]api.Value, api.Errno) {
	var crossed [][]api.Value
	for _, other := range others {
		crossed = append(crossed, slices.Concat(row, other))
	}
	if s.Join == stmt.Cross {
		return crossed, api.OK
	}
	return kept(crossed, func(both []api.Value) (bool, api.Errno) { return eval.Holds(s.On, v.Scope, both) })
}

// holding gives v with those rows alone of which l holds: all, if l is none.
func (v view) holding(l []expr.Node) (view, api.Errno) {
	if len(l) == 0 {
		return v, api.OK
	}
	rows, e := kept(v.rows, func(row []api.Value) (bool, api.Errno) { return eval.Holds(l, v.Scope, row) })
	return view{Scope: v.Scope, rows: rows}, e
}

// shown gives what the Items, or the Star, of c come to, of v's rows or of
// groups of them.
func (v view) shown(c stmt.Core) ([][]api.Value, api.Errno) {
	if hasGroups(c) {
		return v.shownOfGroups(c)
	}
	v, e := v.holding(c.Having)
	switch {
	case e != api.OK:
		return nil, e
	case c.Star && len(c.From) == 0:
		return nil, api.ErrName
	case c.Star:
		return v.rows, api.OK
	}
	items := itemsOf(c)
	return each(v.rows, func(row []api.Value) ([]api.Value, api.Errno) { return each(items, v.tellerOf(row)) })
}

// namesOf gives the names of what c shows, of columns of those names.
func namesOf(c stmt.Core, columns []string) []string {
	if c.Star {
		return columns
	}
	var names []string
	for _, item := range c.Items {
		name := item.As
		if last := item.Expr[len(item.Expr)-1]; name == "" && last.Op == expr.Column {
			name = last.Name
		}
		names = append(names, name)
	}
	return names
}

// teller: tells what an expression comes to.
type teller func(l []expr.Node) (api.Value, api.Errno)

func (v view) tellerOf(row []api.Value) teller {
	return func(l []expr.Node) (api.Value, api.Errno) { return eval.Eval(l, v.Scope, row) }
}

// each gives what step makes of each of l, or the first error.
func each[A, B any](l []A, step func(A) (B, api.Errno)) ([]B, api.Errno) {
	var made []B
	for _, a := range l {
		b, e := step(a)
		if e != api.OK {
			return nil, e
		}
		made = append(made, b)
	}
	return made, api.OK
}

// kept gives those of l of which holds says so, or the first error.
func kept[A any](l []A, holds func(A) (bool, api.Errno)) ([]A, api.Errno) {
	var left []A
	for _, a := range l {
		ok, e := holds(a)
		if e != api.OK {
			return nil, e
		}
		if ok {
			left = append(left, a)
		}
	}
	return left, api.OK
}
