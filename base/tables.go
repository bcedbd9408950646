package base

import (
	"slices"
	"strings"

	"longstop/api"
	"longstop/rel"
	"longstop/schema"
)

// tables: those of a base, by rising names. Once a base has them they are not
// changed any more: what is done is done to a draft, which the base has then
// instead, or, with an error, nobody.
type tables struct {
	list []*table
}

// table: one of a base, and its rows as they stand.
type table struct {
	schema.Table
	rows []record
}

// record: a row, and its keys, so that they need not be told anew of all rows
// whenever one of them is changed.
type record struct {
	row  []api.Value
	keys []string
}

// place gives where the table of that name stands, or would stand.
func (s *tables) place(name string) (int, bool) {
	return slices.BinarySearchFunc(s.list, name, func(t *table, name string) int { return strings.Compare(t.Name, name) })
}

// find gives the table of that name; nil, if there is none.
func (s *tables) find(name string) *table {
	at, there := s.place(name)
	if !there {
		return nil
	}
	return s.list[at]
}

// draft gives the same tables in a list of its own, and those of these names
// with lists of rows of their own: these may be changed.
func (s *tables) draft(names ...string) *tables {
	d := &tables{slices.Clone(s.list)}
	for i, t := range d.list {
		if slices.Contains(names, t.Name) {
			d.list[i] = &table{t.Table, slices.Clone(t.rows)}
		}
	}
	return d
}

// settle brings the rows of the tables of these names to where they stand.
func (s *tables) settle(names []string) api.Errno {
	for _, t := range s.list {
		if !slices.Contains(names, t.Name) {
			continue
		}
		if e := t.settle(); e != api.OK {
			return e
		}
	}
	return api.OK
}

// data gives all tables with their rows: the very ones, not copies.
func (s *tables) data() []rel.Data {
	var db []rel.Data
	for _, t := range s.list {
		db = append(db, rel.Data{Table: t.Table, Rows: t.values()})
	}
	return db
}

// settle brings the rows to where they stand, unless two have the same key.
func (t *table) settle() api.Errno {
	if _, free := t.allKeys(); !free {
		return api.ErrKey
	}
	t.sort()
	return api.OK
}

// allKeys gives the keys of all rows, and tells whether no two have the same.
func (t *table) allKeys() (taken, bool) {
	keys := make(taken, len(t.rows))
	free := true
	for _, r := range t.rows {
		free = keys.add(r.keys) && free
	}
	return keys, free
}

// sort brings the rows to where they stand. Without a Key the first key of each
// is "", and all stay as they were put there.
func (t *table) sort() {
	slices.SortStableFunc(t.rows, func(a, b record) int { return strings.Compare(a.keys[0], b.keys[0]) })
}

// fitted gives the record of the row that the table makes of row.
func (t *table) fitted(row []api.Value) (record, api.Errno) {
	made, e := schema.Fit(t.Table, row)
	if e != api.OK {
		return record{}, e
	}
	keys, e := schema.Keys(t.Table, made)
	return record{made, keys}, e
}

// asItIs gives the record of a row of which the table makes no other one.
func (t *table) asItIs(row []api.Value) (record, api.Errno) {
	r, e := t.fitted(row)
	if e == api.OK && !slices.Equal(r.row, row) {
		return record{}, api.ErrType
	}
	return r, e
}

// rowOf gives the place of the first row of those values; -1, if there is none.
func (t *table) rowOf(row []api.Value) int {
	return slices.IndexFunc(t.rows, func(r record) bool { return slices.Equal(r.row, row) })
}

// values gives the rows: the very ones, not copies.
func (t *table) values() [][]api.Value {
	var rows [][]api.Value
	for _, r := range t.rows {
		rows = append(rows, r.row)
	}
	return rows
}

func sameTable(a, b *table) bool {
	return schema.Same(a.Table, b.Table) && rel.Bag(a.values(), b.values())
}

// taken: how many rows have a key.
type taken map[placedKey]int

// placedKey: a key, and which of a row's keys it is.
type placedKey struct {
	place int
	key   string
}

// add counts the keys of a further row in, and tells whether none of them was
// there already. The key "" keeps no other row out.
func (l taken) add(keys []string) bool {
	free := true
	for i, key := range keys {
		if key == "" {
			continue
		}
		placed := placedKey{i, key}
		free = free && l[placed] == 0
		l[placed]++
	}
	return free
}
