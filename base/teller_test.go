package base_test

import (
	"maps"
	"slices"

	"longstop/api"
	"longstop/base"
	"longstop/datum"
	"longstop/eval"
	"longstop/expr"
	"longstop/lexer"
	"longstop/rel"
	"longstop/schema"
	"longstop/stmt"
)

// The chapter told a second time, by other means: tables stand in a map, rows
// without keys, and keys are held against each other pair by pair.

type shelf struct {
	table Table
	rows  [][]Value
}

type teller map[string]shelf

func (m teller) copied() teller {
	out := teller{}
	for name, s := range m {
		out[name] = shelf{copied(s.table), copied(s.rows)}
	}
	return out
}

// state is state of a base, told likewise.
func (m teller) state() string {
	var out string
	for _, name := range slices.Sorted(maps.Keys(m)) {
		out += printedTable(m[name].table) + ": " + printedRows(m[name].rows) + "\n"
	}
	return out
}

func at(row []Value, places []int) []Value {
	var l []Value
	for _, p := range places {
		l = append(l, row[p])
	}
	return l
}

// meet tells whether two rows of t have a key in common.
func meet(t Table, a, b []Value) bool {
	if len(t.Key) > 0 && slices.Equal(at(a, t.Key), at(b, t.Key)) {
		return true
	}
	return slices.ContainsFunc(t.Uniques, func(u []int) bool {
		return !slices.Contains(at(a, u), null) && slices.Equal(at(a, u), at(b, u))
	})
}

func (s shelf) meets() bool {
	for i, a := range s.rows {
		for _, b := range s.rows[:i] {
			if meet(s.table, a, b) {
				return true
			}
		}
	}
	return false
}

// arranged gives the shelf with its rows by their keys.
func (s shelf) arranged() shelf {
	s.rows = slices.Clone(s.rows)
	slices.SortStableFunc(s.rows, func(a, b []Value) int { return datum.Rows(at(a, s.table.Key), at(b, s.table.Key)) })
	return s
}

func (s shelf) scope() eval.Scope {
	var out eval.Scope
	for _, c := range s.table.Columns {
		out.Names = append(out.Names, c.Name)
		out.Tables = append(out.Tables, s.table.Name)
	}
	return out
}

// column gives the place of that name; -1 without one.
func (s shelf) column(name string) int {
	for i, c := range s.table.Columns {
		if c.Name == name {
			return i
		}
	}
	return -1
}

func (s shelf) holds(where []Node) ([]bool, api.Errno) {
	var l []bool
	for _, row := range s.rows {
		ok, e := true, api.OK
		if len(where) > 0 {
			ok, e = eval.Holds(where, s.scope(), row)
		}
		if e != api.OK {
			return nil, e
		}
		l = append(l, ok)
	}
	return l, api.OK
}

// do gives what is there behind a statement, and what is answered.
func (m teller) do(s Stmt) (teller, Result, api.Errno) {
	if _, e := stmt.Print(s); e != api.OK {
		return m, Result{}, api.ErrArg
	}
	next := m.copied()
	sh, there := next[s.Name]
	var r Result
	e := api.OK
	switch s.Kind {
	case stmt.Begin, stmt.Commit, stmt.Rollback:
		e = api.ErrSession
	case stmt.Select:
		var db []rel.Data
		for _, name := range slices.Sorted(maps.Keys(m)) {
			db = append(db, rel.Data{Table: m[name].table, Rows: m[name].rows})
		}
		r.Names, r.Rows, e = rel.Run(s.Query, db)
		r.Count = len(r.Rows)
	case stmt.Create:
		if _, there := next[s.Table.Name]; there {
			e = api.ErrThere
		} else if len(next) >= 16 {
			e = api.ErrSize
		}
		next[s.Table.Name] = shelf{table: s.Table}
		r.Changes = []Change{{Kind: base.Create, Table: s.Table.Name, Schema: s.Table}}
	case stmt.Drop:
		for _, row := range sh.rows {
			r.Changes = append(r.Changes, Change{Kind: base.Delete, Table: s.Name, Old: row})
		}
		r.Changes = append(r.Changes, Change{Kind: base.Drop, Table: s.Name, Schema: sh.table})
		delete(next, s.Name)
	case stmt.Insert:
		sh, r, e = sh.insert(s)
		next[s.Name] = sh
	case stmt.Update:
		sh, r, e = sh.update(s)
		next[s.Name] = sh
	case stmt.Delete:
		sh, r, e = sh.delete(s)
		next[s.Name] = sh
	}
	if !there && stmt.Drop <= s.Kind && s.Kind <= stmt.Delete {
		e = api.ErrName
	}
	if e != api.OK {
		return m, Result{}, e
	}
	return next, r, api.OK
}

func (s shelf) insert(x Stmt) (shelf, Result, api.Errno) {
	var r Result
	names := x.Names
	if len(names) == 0 {
		names = s.scope().Names
	}
	seen := map[string]int{}
	for _, name := range names {
		seen[name]++
		if s.column(name) < 0 || seen[name] > 1 {
			return s, r, api.ErrName
		}
	}
	for _, l := range x.Rows {
		if len(l) != len(names) {
			return s, r, api.ErrType
		}
		row := make([]Value, len(s.table.Columns))
		for i, name := range names {
			v, e := eval.Eval(l[i], eval.Scope{}, nil)
			if e != api.OK {
				return s, r, e
			}
			row[s.column(name)] = v
		}
		row, e := schema.Fit(s.table, row)
		if e != api.OK {
			return s, r, e
		}
		for _, other := range s.rows {
			if meet(s.table, row, other) {
				return s, r, api.ErrKey
			}
		}
		if len(s.rows) >= 2048 {
			return s, r, api.ErrRows
		}
		s.rows = append(s.rows, row)
		r.Count++
		r.Changes = append(r.Changes, Change{Kind: base.Insert, Table: x.Name, Now: row})
	}
	return s.arranged(), r, api.OK
}

func (s shelf) update(x Stmt) (shelf, Result, api.Errno) {
	var r Result
	seen := map[string]int{}
	for _, set := range x.Sets {
		seen[set.Name]++
		if s.column(set.Name) < 0 || seen[set.Name] > 1 {
			return s, r, api.ErrName
		}
	}
	holds, e := s.holds(x.Where)
	if e != api.OK {
		return s, r, e
	}
	next := shelf{table: s.table}
	for i, old := range s.rows {
		now := slices.Clone(old)
		if holds[i] {
			r.Count++
			for _, set := range x.Sets {
				v, e := eval.Eval(set.Expr, s.scope(), old)
				if e != api.OK {
					return s, r, e
				}
				now[s.column(set.Name)] = v
			}
			if now, e = schema.Fit(s.table, now); e != api.OK {
				return s, r, e
			}
		}
		next.rows = append(next.rows, now)
		if datum.Rows(old, now) != 0 {
			r.Changes = append(r.Changes, Change{Kind: base.Update, Table: x.Name, Old: old, Now: now})
		}
	}
	if next.meets() {
		return s, r, api.ErrKey
	}
	return next.arranged(), r, api.OK
}

func (s shelf) delete(x Stmt) (shelf, Result, api.Errno) {
	var r Result
	holds, e := s.holds(x.Where)
	if e != api.OK {
		return s, r, e
	}
	var left [][]Value
	for i, row := range s.rows {
		if !holds[i] {
			left = append(left, row)
			continue
		}
		r.Count++
		r.Changes = append(r.Changes, Change{Kind: base.Delete, Table: x.Name, Old: row})
	}
	s.rows = left
	return s, r, api.OK
}

// mayBe tells whether a change may be.
func mayBe(x Change) bool {
	zero := alike(x.Schema, Table{})
	if !lexer.Word(x.Table) || expr.Reserved(x.Table) || !datum.Row(x.Old...) || !datum.Row(x.Now...) {
		return false
	}
	switch x.Kind {
	case base.Create, base.Drop:
		return len(x.Old)+len(x.Now) == 0 && schema.Right(x.Schema) && x.Schema.Name == x.Table
	case base.Insert:
		return len(x.Old) == 0 && zero
	case base.Delete:
		return len(x.Now) == 0 && zero
	}
	return x.Kind == base.Update && zero
}

// redo gives what is there behind the changes.
func (m teller) redo(l []Change) (teller, api.Errno) {
	next := m.copied()
	for _, x := range l {
		if e := next.step(x); e != api.OK {
			return m, e
		}
	}
	for name, s := range next {
		if s.meets() {
			return m, api.ErrKey
		}
		next[name] = s.arranged()
	}
	return next, api.OK
}

func (m teller) step(x Change) api.Errno {
	if !mayBe(x) {
		return api.ErrArg
	}
	s, there := m[x.Table]
	if x.Kind == base.Create {
		switch {
		case there:
			return api.ErrThere
		case len(m) >= 16:
			return api.ErrSize
		}
		m[x.Table] = shelf{table: x.Schema}
		return api.OK
	}
	if !there {
		return api.ErrName
	}
	if x.Kind == base.Drop {
		if len(s.rows) > 0 || !schema.Same(s.table, x.Schema) {
			return api.ErrArg
		}
		delete(m, x.Table)
		return api.OK
	}
	place := slices.IndexFunc(s.rows, func(row []Value) bool { return datum.Rows(row, x.Old) == 0 })
	if x.Kind != base.Insert && place < 0 {
		return api.ErrNone
	}
	if x.Kind != base.Delete {
		row, e := schema.Fit(s.table, x.Now)
		if e != api.OK {
			return e
		}
		if datum.Rows(row, x.Now) != 0 {
			return api.ErrType
		}
	}
	switch x.Kind {
	case base.Insert:
		if len(s.rows) >= 2048 {
			return api.ErrRows
		}
		s.rows = append(s.rows, x.Now)
	case base.Update:
		s.rows[place] = x.Now
	case base.Delete:
		s.rows = slices.Delete(s.rows, place, place+1)
	}
	m[x.Table] = s
	return api.OK
}

// undo is redo of the changes, each turned round, the last one first.
func (m teller) undo(l []Change) (teller, api.Errno) {
	kinds := map[int]int{base.Create: base.Drop, base.Drop: base.Create, base.Insert: base.Delete, base.Delete: base.Insert}
	var back []Change
	for _, x := range l {
		if kind, there := kinds[x.Kind]; there {
			x.Kind = kind
		}
		x.Old, x.Now = x.Now, x.Old
		back = append([]Change{x}, back...)
	}
	return m.redo(back)
}
