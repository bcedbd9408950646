package base

import (
	"slices"

	"longstop/api"
	"longstop/datum"
	"longstop/expr"
	"longstop/lexer"
	"longstop/schema"
)

// change does x to a draft. It jumps from kind to kind, as far as they have
// something in common: all but a Create are of a table that is there, an Update
// and a Delete of a row that is there, an Update and an Insert make one that
// fits. Where rows stand, and whether their keys meet, settle tells when all
// changes are done.
func (s *tables) change(x Change) api.Errno {
	var row int
	var now record
	var e api.Errno
	t := s.find(x.Table)
	if !isRight(x) {
		return api.ErrArg
	}
	if x.Kind == Create {
		goto create
	}
	if t == nil {
		return api.ErrName
	}
	if x.Kind == Drop {
		goto drop
	}
	if x.Kind == Insert {
		goto fit
	}
	row = t.rowOf(x.Old)
	if row < 0 {
		return api.ErrNone
	}
	if x.Kind == Delete {
		goto gone
	}
fit:
	now, e = t.asItIs(x.Now)
	if e != api.OK {
		return e
	}
	if x.Kind == Insert {
		goto insert
	}
	t.rows[row] = now
	return api.OK
insert:
	if len(t.rows) == api.MaxRows {
		return api.ErrRows
	}
	t.rows = append(t.rows, now)
	return api.OK
gone:
	t.rows = slices.Delete(t.rows, row, row+1)
	return api.OK
create:
	return s.create(x.Schema)
drop:
	return s.drop(x.Schema)
}

// create puts a table without rows to where it stands.
func (s *tables) create(t schema.Table) api.Errno {
	at, there := s.place(t.Name)
	if there {
		return api.ErrThere
	}
	if len(s.list) == api.MaxTables {
		return api.ErrSize
	}
	s.list = slices.Insert(s.list, at, &table{Table: copiedTable(t)})
	return api.OK
}

// drop takes the table of that name away, which is there, if it is just that and
// has no rows.
func (s *tables) drop(t schema.Table) api.Errno {
	at, _ := s.place(t.Name)
	if len(s.list[at].rows) > 0 || !schema.Same(s.list[at].Table, t) {
		return api.ErrArg
	}
	s.list = slices.Delete(s.list, at, at+1)
	return api.OK
}

// turned gives the change that takes x back.
func turned(x Change) Change {
	x.Old, x.Now = x.Now, x.Old
	switch x.Kind {
	case Create:
		x.Kind = Drop
	case Drop:
		x.Kind = Create
	case Insert:
		x.Kind = Delete
	case Delete:
		x.Kind = Insert
	}
	return x
}

// isRight tells whether x may be.
func isRight(x Change) bool {
	if !lexer.Word(x.Table) || expr.Reserved(x.Table) || !datum.Row(x.Old...) || !datum.Row(x.Now...) {
		return false
	}
	switch x.Kind {
	case Create, Drop:
		return len(x.Old) == 0 && len(x.Now) == 0 && schema.Right(x.Schema) && x.Schema.Name == x.Table
	case Insert:
		return len(x.Old) == 0 && isZero(x.Schema)
	case Update:
		return isZero(x.Schema)
	case Delete:
		return len(x.Now) == 0 && isZero(x.Schema)
	}
	return false
}

func isZero(t schema.Table) bool {
	return t.Name == "" && len(t.Columns) == 0 && len(t.Key) == 0 && len(t.Uniques) == 0 && len(t.Check) == 0
}
