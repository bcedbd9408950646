package decode

import (
	"slices"
	"strings"

	"longstop/api"
	"longstop/base"
	"longstop/eval"
	"longstop/rel"
	"longstop/schema"
)

// Shape gives the table that p shows of t.
func Shape(p Part, t schema.Table) (schema.Table, api.Errno) {
	if !p.isRight() || !schema.Right(t) || p.Table != t.Name {
		return schema.Table{}, api.ErrArg
	}
	places, e := p.places(t)
	if e != api.OK {
		return schema.Table{}, e
	}
	shown := schema.Table{Name: strings.Clone(t.Name), Key: placesWithin(places, t.Key)}
	for _, place := range places {
		c := t.Columns[place]
		c.Name = strings.Clone(c.Name)
		shown.Columns = append(shown.Columns, c)
	}
	return shown, api.OK
}

// places tells where in t the columns stand that p shows.
func (p Part) places(t schema.Table) ([]int, api.Errno) {
	var places []int
	if len(p.Columns) == 0 {
		for place := range t.Columns {
			places = append(places, place)
		}
	}
	for _, name := range p.Columns {
		place := slices.IndexFunc(t.Columns, func(c schema.Column) bool { return c.Name == name })
		if place < 0 {
			return nil, api.ErrName
		}
		places = append(places, place)
	}
	return places, api.OK
}

// placesWithin tells where those of key stand in places. If one is missing it
// tells of none, as the others don't tell rows apart.
func placesWithin(places, key []int) []int {
	var out []int
	for _, place := range key {
		at := slices.Index(places, place)
		if at < 0 {
			return nil
		}
		out = append(out, at)
	}
	return out
}

// view: what a part shows of a table.
type view struct {
	table    schema.Table
	row      lens
	lacksKey bool // whether the table has a Key that is not shown
}

// lens tells what is shown of a row: of one that is not shown, or not there,
// nothing.
type lens func(row []api.Value) ([]api.Value, api.Errno)

func (p Part) view(t schema.Table) (view, api.Errno) {
	shown, e := Shape(p, t)
	if e != api.OK {
		return view{}, e
	}
	lacksKey := len(t.Key) > 0 && len(shown.Key) == 0
	return view{shown, p.lens(t), lacksKey}, api.OK
}

// lens is that for rows of t, which has all columns that p shows.
func (p Part) lens(t schema.Table) lens {
	places, _ := p.places(t)
	scope := schema.Scope(t, t.Name)
	return func(row []api.Value) ([]api.Value, api.Errno) {
		if len(row) == 0 {
			return nil, api.OK
		}
		if len(p.Where) > 0 {
			holds, e := eval.Holds(p.Where, scope, row)
			if e != api.OK || !holds {
				return nil, e
			}
		}
		var shown []api.Value
		for _, place := range places {
			v := row[place]
			v.B = strings.Clone(v.B)
			shown = append(shown, v)
		}
		return shown, api.OK
	}
}

// asChanges gives the changes that make a table of what p shows of d.
func (p Part) asChanges(d rel.Data) ([]base.Change, api.Errno) {
	v, e := p.view(d.Table)
	if e != api.OK {
		return nil, e
	}
	l := []base.Change{{Kind: base.Create, Table: p.Table, Schema: v.table}}
	for _, row := range d.Rows {
		shown, e := v.told(base.Change{Kind: base.Insert, Table: p.Table, Now: row})
		if e != api.OK {
			return nil, e
		}
		l = append(l, shown...)
	}
	return l, api.OK
}

// told tells a change of a row: one that goes out of sight is deleted, one that
// comes into sight is inserted.
func (v view) told(x base.Change) ([]base.Change, api.Errno) {
	old, e := v.row(x.Old)
	if e != api.OK {
		return nil, e
	}
	now, e := v.row(x.Now)
	if e != api.OK || slices.Equal(old, now) {
		return nil, e
	}
	kind := base.Update
	if len(old) == 0 {
		kind = base.Insert
	}
	if len(now) == 0 {
		kind = base.Delete
	}
	return []base.Change{{Kind: kind, Table: strings.Clone(x.Table), Old: old, Now: now}}, api.OK
}
