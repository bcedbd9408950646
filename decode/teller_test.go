package decode_test

import (
	"regexp"
	"slices"
	"strings"

	"longstop/api"
	"longstop/base"
	"longstop/expr"
	"longstop/rel"
	"longstop/schema"
	"longstop/stmt"
)

// The chapter told a second time, by other means: what is shown of rows is told
// by selects, and which table a change is of by looking back at the changes
// ahead of it.

var word = regexp.MustCompile(`^[a-z_][a-z0-9_]{0,31}$`)

const reserved = " and or not is null true false select distinct from where group by having order asc desc limit union all join left cross on as insert into values update set delete create table drop primary key unique check begin commit rollback "

func toldFree(s string) bool {
	return word.MatchString(s) && !strings.Contains(reserved, " "+s+" ")
}

func toldPartRight(p Part) bool {
	for i, name := range p.Columns {
		if !toldFree(name) || slices.Contains(p.Columns[:i], name) {
			return false
		}
	}
	return toldFree(p.Table) && (len(p.Where) == 0 || expr.Right(p.Where))
}

func toldRight(p Publication) bool {
	for i, in := range p.Parts {
		if !toldPartRight(in) || slices.ContainsFunc(p.Parts[:i], func(other Part) bool { return other.Table == in.Table }) {
			return false
		}
	}
	return toldFree(p.Name)
}

func toldShape(p Part, t Table) (Table, Errno) {
	if !toldPartRight(p) || !schema.Right(t) || p.Table != t.Name {
		return Table{}, api.ErrArg
	}
	places := map[string]int{}
	for i, c := range t.Columns {
		places[c.Name] = i
	}
	names := p.Columns
	if len(names) == 0 {
		for _, c := range t.Columns {
			names = append(names, c.Name)
		}
	}
	out := Table{Name: t.Name}
	shown := map[int]int{}
	for i, name := range names {
		place, there := places[name]
		if !there {
			return Table{}, api.ErrName
		}
		shown[place] = i
		out.Columns = append(out.Columns, t.Columns[place])
	}
	for _, place := range t.Key {
		if at, there := shown[place]; there {
			out.Key = append(out.Key, at)
		}
	}
	if len(out.Key) < len(t.Key) {
		out.Key = nil
	}
	return out, api.OK
}

// toldRows gives what a select of the part's columns comes to of rows of t.
func toldRows(p Part, t Table, rows [][]Value) ([][]Value, Errno) {
	core := stmt.Core{From: []stmt.Source{{Table: t.Name}}, Where: p.Where, Star: len(p.Columns) == 0}
	for _, name := range p.Columns {
		core.Items = append(core.Items, stmt.Item{Expr: nodes(name)})
	}
	_, out, e := rel.Run(stmt.Query{Cores: []stmt.Core{core}, Limit: -1}, []rel.Data{{Table: t, Rows: rows}})
	return out, e
}

func toldProject(p Publication, b *Base) (*Base, Errno) {
	if !toldRight(p) || b.Clone() == nil {
		return nil, api.ErrArg
	}
	out := base.New()
	for _, in := range p.Parts {
		if !slices.Contains(b.Tables(), in.Table) {
			continue
		}
		d, _ := b.Data(in.Table)
		shown, e := toldShape(in, d.Table)
		if e != api.OK {
			return nil, e
		}
		if _, e := out.Do(Stmt{Kind: stmt.Create, Table: shown}); e != api.OK {
			return nil, e
		}
		rows, e := toldRows(in, d.Table, d.Rows)
		if e != api.OK {
			return nil, e
		}
		for _, row := range rows {
			if e := out.Redo([]Change{{Kind: base.Insert, Table: in.Table, Now: row}}); e != api.OK {
				return nil, e
			}
		}
	}
	return out, api.OK
}

// tableAt gives the table that the changes ahead of the next one left by that
// name.
func tableAt(b *Base, ahead []Change, name string) Table {
	for _, x := range slices.Backward(ahead) {
		if x.Kind == base.Create && x.Table == name {
			return x.Schema
		}
	}
	d, _ := b.Data(name)
	return d.Table
}

func toldDecode(p Publication, b *Base, l []Change) ([]Change, Errno) {
	if !toldRight(p) || b.Clone() == nil {
		return nil, api.ErrArg
	}
	if e := b.Clone().Redo(l); e != api.OK {
		return nil, e
	}
	var out []Change
	last := api.OK
	for i, x := range l {
		at := slices.IndexFunc(p.Parts, func(in Part) bool { return in.Table == x.Table })
		if at < 0 {
			continue
		}
		of := x.Schema
		if x.Kind != base.Create {
			of = tableAt(b, l[:i], x.Table)
		}
		shown, e := toldShape(p.Parts[at], of)
		if e != api.OK {
			return nil, e
		}
		if x.Kind == base.Create || x.Kind == base.Drop {
			out = append(out, Change{Kind: x.Kind, Table: x.Table, Schema: shown})
			continue
		}
		m, e := toldRow(p.Parts[at], of, x)
		if e != api.OK {
			return nil, e
		}
		out = append(out, m...)
		if (x.Kind == base.Update || x.Kind == base.Delete) && len(of.Key) > 0 && len(shown.Key) == 0 {
			last = api.ErrIdentity
		}
	}
	if last != api.OK {
		return nil, last
	}
	return out, api.OK
}

func toldRow(p Part, t Table, x Change) ([]Change, Errno) {
	var old, now [][]Value
	var e Errno
	if x.Kind != base.Insert {
		if old, e = toldRows(p, t, [][]Value{x.Old}); e != api.OK {
			return nil, e
		}
	}
	if x.Kind != base.Delete {
		if now, e = toldRows(p, t, [][]Value{x.Now}); e != api.OK {
			return nil, e
		}
	}
	switch {
	case len(old) == 1 && len(now) == 1 && rel.Bag(old, now), len(old)+len(now) == 0:
		return nil, api.OK
	case len(old) == 1 && len(now) == 1:
		return []Change{{Kind: base.Update, Table: x.Table, Old: old[0], Now: now[0]}}, api.OK
	case len(old) == 1:
		return []Change{{Kind: base.Delete, Table: x.Table, Old: old[0]}}, api.OK
	}
	return []Change{{Kind: base.Insert, Table: x.Table, Now: now[0]}}, api.OK
}
