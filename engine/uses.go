package engine

import (
	"slices"
	"strings"

	"longstop/base"
	"longstop/stmt"
)

// tableList is the name of the list of tables, which no table has.
const tableList = ""

// uses: the tables that something reads, each once, and those that it writes.
// The names are in memory of their own, as locks keep them.
type uses struct {
	reads, writes []string
}

func (u *uses) read(table string) {
	if !slices.Contains(u.reads, table) {
		u.reads = append(u.reads, strings.Clone(table))
	}
}

func (u *uses) write(table string) {
	u.writes = append(u.writes, strings.Clone(table))
}

func usesOf(s stmt.Stmt) uses {
	var u uses
	switch s.Kind {
	case stmt.Select:
		u.readSources(s.Query)
	case stmt.Create:
		u.write(s.Table.Name)
		u.write(tableList)
	case stmt.Drop:
		u.write(s.Name)
		u.write(tableList)
	case stmt.Insert:
		u.write(s.Name)
	case stmt.Update:
		u.read(s.Name)
		u.write(s.Name)
	case stmt.Delete:
		if len(s.Where) > 0 {
			u.read(s.Name)
		}
		u.write(s.Name)
	}
	return u
}

func (u *uses) readSources(q stmt.Query) {
	for _, core := range q.Cores {
		for _, source := range core.From {
			u.read(source.Table)
		}
	}
}

// usesOfChanges: whatever is in the changes' way is in that of writing the
// tables that they name.
func usesOfChanges(l []base.Change) uses {
	var u uses
	for _, x := range l {
		u.write(x.Table)
		if x.Kind == base.Create || x.Kind == base.Drop {
			u.write(tableList)
		}
	}
	return u
}
