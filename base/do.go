package base

import (
	"slices"

	"longstop/api"
	"longstop/eval"
	"longstop/expr"
	"longstop/rel"
	"longstop/schema"
	"longstop/stmt"
)

func (s *tables) selected(q stmt.Query) (Result, api.Errno) {
	names, rows, e := rel.Run(q, s.data())
	if e != api.OK {
		return Result{}, e
	}
	return Result{Names: names, Rows: rows, Count: len(rows)}, api.OK
}

// done does a statement that changes the table which it names.
func (s *tables) done(x stmt.Stmt) (Result, api.Errno) {
	if x.Kind == stmt.Create {
		return s.created(x.Table)
	}
	t := s.find(x.Name)
	if t == nil {
		return Result{}, api.ErrName
	}
	switch x.Kind {
	case stmt.Drop:
		return s.dropped(t)
	case stmt.Insert:
		return t.inserted(x.Names, x.Rows)
	case stmt.Update:
		return t.updated(x.Sets, x.Where)
	}
	return t.deleted(x.Where)
}

func (s *tables) created(t schema.Table) (Result, api.Errno) {
	x := Change{Kind: Create, Table: t.Name, Schema: t}
	return Result{Changes: []Change{copiedChange(x)}}, s.change(x)
}

func (s *tables) dropped(t *table) (Result, api.Errno) {
	x := Change{Kind: Drop, Table: t.Name, Schema: t.Table}
	r, _ := t.deleted(nil) // no Where, no error
	return Result{Changes: append(r.Changes, copiedChange(x))}, s.change(x)
}

func (t *table) inserted(names []string, rows [][][]expr.Node) (Result, api.Errno) {
	if len(names) == 0 {
		names = schema.Scope(t.Table, t.Name).Names
	}
	places, e := t.placesOf(names)
	if e != api.OK {
		return Result{}, e
	}
	keys, _ := t.allKeys()
	var r Result
	for _, l := range rows {
		now, e := t.fresh(places, l)
		if e != api.OK {
			return Result{}, e
		}
		if !keys.add(now.keys) {
			return Result{}, api.ErrKey
		}
		if len(t.rows) == api.MaxRows {
			return Result{}, api.ErrRows
		}
		t.rows = append(t.rows, now)
		r.Count++
		r.Changes = append(r.Changes, copiedChange(Change{Kind: Insert, Table: t.Name, Now: now.row}))
	}
	t.sort()
	return r, api.OK
}

func (t *table) updated(sets []stmt.Set, where []expr.Node) (Result, api.Errno) {
	var names []string
	var l [][]expr.Node
	for _, set := range sets {
		names = append(names, set.Name)
		l = append(l, set.Expr)
	}
	places, e := t.placesOf(names)
	if e != api.OK {
		return Result{}, e
	}
	held, e := t.holding(where)
	if e != api.OK {
		return Result{}, e
	}
	var r Result
	for _, i := range held {
		old := t.rows[i].row
		now, e := t.renewed(old, places, l)
		if e != api.OK {
			return Result{}, e
		}
		t.rows[i] = now
		r.Count++
		if !slices.Equal(now.row, old) {
			r.Changes = append(r.Changes, copiedChange(Change{Kind: Update, Table: t.Name, Old: old, Now: now.row}))
		}
	}
	if e := t.settle(); e != api.OK {
		return Result{}, e
	}
	return r, api.OK
}

func (t *table) deleted(where []expr.Node) (Result, api.Errno) {
	held, e := t.holding(where)
	if e != api.OK {
		return Result{}, e
	}
	var r Result
	for _, i := range held {
		r.Count++
		r.Changes = append(r.Changes, copiedChange(Change{Kind: Delete, Table: t.Name, Old: t.rows[i].row}))
	}
	// The last one first, so that those ahead stay where they are.
	for _, i := range slices.Backward(held) {
		t.rows = slices.Delete(t.rows, i, i+1)
	}
	return r, api.OK
}

// placesOf gives the places of the columns of these names, each once.
func (t *table) placesOf(names []string) ([]int, api.Errno) {
	var places []int
	for _, name := range names {
		place := slices.IndexFunc(t.Columns, func(c schema.Column) bool { return c.Name == name })
		if place < 0 || slices.Contains(places, place) {
			return nil, api.ErrName
		}
		places = append(places, place)
	}
	return places, api.OK
}

// holding gives the places of the rows of which where holds: of all, if it is
// none.
func (t *table) holding(where []expr.Node) ([]int, api.Errno) {
	var held []int
	scope := schema.Scope(t.Table, t.Name)
	for i, r := range t.rows {
		if len(where) == 0 {
			held = append(held, i)
			continue
		}
		ok, e := eval.Holds(where, scope, r.row)
		if e != api.OK {
			return nil, e
		}
		if ok {
			held = append(held, i)
		}
	}
	return held, api.OK
}

// fresh gives the record of a further row, with what l comes to at those places.
func (t *table) fresh(places []int, l [][]expr.Node) (record, api.Errno) {
	if len(l) != len(places) {
		return record{}, api.ErrType
	}
	row := make([]api.Value, len(t.Columns))
	if e := put(row, places, l, eval.Scope{}, nil); e != api.OK {
		return record{}, e
	}
	return t.fitted(row)
}

// renewed gives the record of the old row, with what l comes to, of the old
// values, at those places.
func (t *table) renewed(old []api.Value, places []int, l [][]expr.Node) (record, api.Errno) {
	row := slices.Clone(old)
	if e := put(row, places, l, schema.Scope(t.Table, t.Name), old); e != api.OK {
		return record{}, e
	}
	return t.fitted(row)
}

// put puts what l comes to, of the values of in scope s, into row at those
// places.
func put(row []api.Value, places []int, l [][]expr.Node, s eval.Scope, of []api.Value) api.Errno {
	for i, x := range l {
		v, e := eval.Eval(x, s, of)
		if e != api.OK {
			return e
		}
		row[places[i]] = v
	}
	return api.OK
}
