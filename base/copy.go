package base

import (
	"strings"

	"longstop/api"
	"longstop/expr"
	"longstop/schema"
)

// What is kept has no memory in common with what is handed in, and what is
// handed out none with that, nor within itself: not even a text's.

func (s *tables) copied() *tables {
	out := &tables{}
	for _, t := range s.list {
		c := &table{Table: copiedTable(t.Table)}
		for _, r := range t.rows {
			c.rows = append(c.rows, record{copiedRow(r.row), copiedTexts(r.keys)})
		}
		out.list = append(out.list, c)
	}
	return out
}

func copiedChange(x Change) Change {
	return Change{
		Kind:   x.Kind,
		Table:  strings.Clone(x.Table),
		Old:    copiedRow(x.Old),
		Now:    copiedRow(x.Now),
		Schema: copiedTable(x.Schema),
	}
}

func copiedTable(t schema.Table) schema.Table {
	out := schema.Table{
		Name:  strings.Clone(t.Name),
		Key:   append([]int(nil), t.Key...),
		Check: copiedNodes(t.Check),
	}
	for _, c := range t.Columns {
		c.Name = strings.Clone(c.Name)
		out.Columns = append(out.Columns, c)
	}
	for _, u := range t.Uniques {
		out.Uniques = append(out.Uniques, append([]int(nil), u...))
	}
	return out
}

func copiedNodes(l []expr.Node) []expr.Node {
	var out []expr.Node
	for _, n := range l {
		n.Table = strings.Clone(n.Table)
		n.Name = strings.Clone(n.Name)
		n.Value = apart(n.Value)
		out = append(out, n)
	}
	return out
}

func copiedRows(l [][]api.Value) [][]api.Value {
	var out [][]api.Value
	for _, row := range l {
		out = append(out, copiedRow(row))
	}
	return out
}

func copiedRow(row []api.Value) []api.Value {
	var out []api.Value
	for _, v := range row {
		out = append(out, apart(v))
	}
	return out
}

func copiedTexts(l []string) []string {
	var out []string
	for _, s := range l {
		out = append(out, strings.Clone(s))
	}
	return out
}

// apart gives v with a text of its own.
func apart(v api.Value) api.Value {
	v.B = strings.Clone(v.B)
	return v
}
