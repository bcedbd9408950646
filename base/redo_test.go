package base_test

import (
	"fmt"
	"slices"
	"testing"

	"longstop/api"
	"longstop/base"
)

const (
	createT = "create t: create table t (k int, a text, primary key (k))"
	dropT   = "drop t: create table t (k int, a text, primary key (k))"
	createU = "create u: create table u (k int)"
	dropU   = "drop u: create table u (k int)"
)

// some gives a base with rows by keys in t, others in u, and a table w that asks
// much of its rows.
func some(t *testing.T) *Base {
	t.Helper()
	return based(t, "create table t (k int, a text, primary key (k))", "create table u (k int)", "create table w (i int not null, d dec (1), s text, unique (s), check (i > 0))",
		"insert into t values (2, 'y'), (1, 'x'), (4, null)", "insert into u values (3), (1), (3), (2)", "insert into w values (1, 1, 'x'), (1, 2, null)")
}

func TestP1103None(t *testing.T) {
	for _, b := range []*Base{based(t), some(t)} {
		was := state(b)
		for _, l := range [][]Change{nil, {}} {
			if e, f := b.Redo(l), b.Undo(l); e != api.OK || f != api.OK || state(b) != was {
				t.Errorf("%d, %d, %s", e, f, state(b))
			}
		}
	}
}

func TestP1103RedoOfEachKind(t *testing.T) {
	b := based(t)
	redoes(t, b, createT)
	redoes(t, b, "insert t: 2, 'y'")
	redoes(t, b, "insert t: 1, 'x'")
	stands(t, b, "t", "1, 'x' | 2, 'y'")
	redoes(t, b, "update t: 1, 'x' -> 3, 'z'")
	stands(t, b, "t", "2, 'y' | 3, 'z'")
	redoes(t, b, "delete t: 2, 'y'")
	stands(t, b, "t", "3, 'z'")
	redoes(t, b, "delete t: 3, 'z'")
	redoes(t, b, dropT)
	if len(b.Tables()) != 0 {
		t.Error(b.Tables())
	}
	// And all at once, with tables beside each other.
	redoes(t, b, createT, createU, "insert u: 7", "insert t: 2, 'y'", "insert t: 1, 'x'", "insert u: 5", "update u: 7 -> 9", "delete t: 2, 'y'", "insert u: null", "update t: 1, 'x' -> 5, null")
	if got := state(b); got != "create table t (k int, a text, primary key (k)): 5, null\ncreate table u (k int): 9 | 5 | null\n" {
		t.Error(got)
	}
	redoes(t, b, "delete t: 5, null", dropT, "create t: create table t (x bool)", "insert t: true")
	stands(t, b, "t", "true")
}

func TestP1103UndoOfEachKind(t *testing.T) {
	b := some(t)
	undoes(t, b, "insert t: 2, 'y'")
	stands(t, b, "t", "1, 'x' | 4, null")
	undoes(t, b, "update t: 3, 'z' -> 1, 'x'")
	stands(t, b, "t", "3, 'z' | 4, null")
	undoes(t, b, "delete t: 0, 'w'")
	stands(t, b, "t", "0, 'w' | 3, 'z' | 4, null")
	undoes(t, b, "insert t: 0, 'w'")
	undoes(t, b, "insert t: 3, 'z'")
	undoes(t, b, "insert t: 4, null")
	undoes(t, b, createT)
	if got := b.Tables(); !slices.Equal(got, []string{"u", "w"}) {
		t.Error(got)
	}
	undoes(t, b, dropT)
	stands(t, b, "t", "")
	// The last one first.
	undoes(t, b, "update t: 1, 'x' -> 2, 'y'", "insert t: 3, 'z'", "delete t: 2, 'y'", "insert t: 2, 'y'", "delete t: 3, 'z'", "delete t: 2, 'y'")
	stands(t, b, "t", "1, 'x'")
	undoes(t, b, createT, "insert t: 1, 'x'")
	undoes(t, b, "delete u: 9", "insert u: 3", "update u: 5 -> 1", "delete u: 8")
	stands(t, b, "u", "5 | 3 | 2 | 8 | 9")
}

func TestP1103UndoIsRedoTurnedRound(t *testing.T) {
	for _, c := range [][2]string{
		{createU, dropU}, {dropU, createU}, {"insert u: 1", "delete u: 1"}, {"delete u: 1", "insert u: 1"}, {"update u: 1 -> 2", "update u: 2 -> 1"},
	} {
		for _, start := range [][]string{nil, {"create table u (k int)"}, {"create table u (k int)", "insert into u values (1)"}, {"create table u (k int)", "insert into u values (2), (1)"}, {"create table u (k text)"}} {
			b, d := based(t, start...), based(t, start...)
			if e, f := b.Undo(changes(c[0])), d.Redo(changes(c[1])); e != f || state(b) != state(d) {
				t.Errorf("Undo of %s: %d, %s; Redo of %s: %d, %s", c[0], e, state(b), c[1], f, state(d))
			}
		}
	}
}

func TestP1103SameRows(t *testing.T) {
	// Of rows that are the same the first one.
	b := some(t)
	redoes(t, b, "update u: 3 -> 9")
	stands(t, b, "u", "9 | 1 | 3 | 2")
	redoes(t, b, "insert u: 9", "delete u: 9")
	stands(t, b, "u", "1 | 3 | 2 | 9")
	redoes(t, b, "insert u: 1", "delete u: 1", "delete u: 1")
	stands(t, b, "u", "3 | 2 | 9")
	redoFails(t, b, api.ErrNone, "delete u: 3", "delete u: 3")
	undoes(t, b, "insert u: 3", "delete u: 2")
	stands(t, b, "u", "2 | 9 | 2")
	undoes(t, b, "update u: 7 -> 2")
	stands(t, b, "u", "7 | 9 | 2")
}

func TestP1103UpdateStays(t *testing.T) {
	// In a table without a Key a row stays where it stands.
	b := some(t)
	redoes(t, b, "update u: 1 -> 9", "update u: 2 -> 0")
	stands(t, b, "u", "3 | 9 | 3 | 0")
	undoes(t, b, "update u: 1 -> 9", "update u: 2 -> 0")
	stands(t, b, "u", "3 | 1 | 3 | 2")
	redoes(t, b, "update u: 3 -> 3", "update u: 1 -> null")
	stands(t, b, "u", "3 | null | 3 | 2")
	// In one with a Key it stands by that.
	redoes(t, b, "update t: 1, 'x' -> 3, 'x'")
	stands(t, b, "t", "2, 'y' | 3, 'x' | 4, null")
	redoes(t, b, "update t: 3, 'x' -> 3, 'x'")
	undoes(t, b, "update t: 9, 'x' -> 3, 'x'")
	stands(t, b, "t", "2, 'y' | 4, null | 9, 'x'")
}

// wrongChanges gives each way in which a Change may not be.
func wrongChanges() []Change {
	wideT, wideU := table("t", "k int, a text, primary key (k)"), table("u", "k int")
	one := row(whole(3))
	right := []Change{
		{Kind: base.Create, Table: "t", Schema: wideT}, {Kind: base.Drop, Table: "u", Schema: wideU},
		{Kind: base.Insert, Table: "u", Now: one}, {Kind: base.Update, Table: "u", Old: one, Now: one}, {Kind: base.Delete, Table: "u", Old: one},
	}
	var l []Change
	spoil := func(x Change, how func(*Change)) {
		x = copied(x)
		how(&x)
		l = append(l, x)
	}
	for _, x := range right {
		for _, kind := range []int{0, -1, 6, 7, 9, 256 + base.Insert, least, great} {
			spoil(x, func(x *Change) { x.Kind = kind })
		}
		for _, name := range wrongNames() {
			spoil(x, func(x *Change) { x.Table = name })
			spoil(x, func(x *Change) { x.Table, x.Schema.Name = name, name })
		}
		for _, v := range wrongValues() {
			spoil(x, func(x *Change) { x.Old = row(v) })
			spoil(x, func(x *Change) { x.Now = row(v) })
			spoil(x, func(x *Change) { x.Old = row(whole(1), v, null) })
			spoil(x, func(x *Change) { x.Now = row(whole(1), v, null) })
		}
		spoil(x, func(x *Change) { x.Old = make([]Value, 65) })
		spoil(x, func(x *Change) { x.Now = make([]Value, 65) })
	}
	for _, x := range right[:2] {
		for _, w := range wrongTables() {
			spoil(x, func(x *Change) { x.Schema = w })
			spoil(x, func(x *Change) { x.Schema, x.Table = w, w.Name })
		}
		spoil(x, func(x *Change) { x.Old = one })
		spoil(x, func(x *Change) { x.Now = one })
		spoil(x, func(x *Change) { x.Old, x.Now = row(null), row(null) })
		spoil(x, func(x *Change) { x.Table = "v" })
		spoil(x, func(x *Change) { x.Schema.Name = "v" })
	}
	for _, x := range right[2:] {
		spoil(x, func(x *Change) { x.Schema = wideU })
		spoil(x, func(x *Change) { x.Schema.Name = "u" })
		spoil(x, func(x *Change) { x.Schema.Columns = []Column{{}} })
		spoil(x, func(x *Change) { x.Schema.Key = []int{0} })
		spoil(x, func(x *Change) { x.Schema.Uniques = [][]int{nil} })
		spoil(x, func(x *Change) { x.Schema.Check = []Node{{}} })
	}
	spoil(right[2], func(x *Change) { x.Old = one })
	spoil(right[2], func(x *Change) { x.Old = row(null) })
	spoil(right[4], func(x *Change) { x.Now = one })
	spoil(right[4], func(x *Change) { x.Now = row(null) })
	return append(l, Change{}, Change{Table: "u"}, Change{Kind: base.Create}, Change{Kind: base.Create, Schema: wideU}, Change{Kind: base.Create, Table: "v"}, Change{Kind: base.Drop, Table: "u"})
}

func TestP1103ChangesThatMayNotBe(t *testing.T) {
	b, empty := some(t), based(t)
	for _, x := range wrongChanges() {
		for _, c := range []call{(*Base).Redo, (*Base).Undo} {
			fails(t, c, b, api.ErrArg, []Change{x})
			// Whatever else is wrong with it: there is no such table.
			fails(t, c, empty, api.ErrArg, []Change{x})
		}
	}
	x := wrongChanges()[0]
	// The first error, one behind the other.
	fails(t, (*Base).Redo, b, api.ErrArg, []Change{change("insert u: 5"), x})
	fails(t, (*Base).Redo, b, api.ErrName, []Change{change("insert v: 5"), x})
	fails(t, (*Base).Redo, b, api.ErrArg, []Change{x, change("insert v: 5")})
	fails(t, (*Base).Undo, b, api.ErrName, []Change{x, change("insert v: 5")})
	fails(t, (*Base).Undo, b, api.ErrArg, []Change{change("insert v: 5"), x})
	// Keys are told when all are done: so a later change's error comes first.
	fails(t, (*Base).Redo, b, api.ErrArg, []Change{change("insert t: 1, 'z'"), x})
}

func TestP1103Create(t *testing.T) {
	b := some(t)
	redoFails(t, b, api.ErrThere, createT)
	redoFails(t, b, api.ErrThere, "create t: create table t (x int)")
	redoFails(t, b, api.ErrThere, "create v: create table v (x int)", "create v: create table v (x int)")
	undoFails(t, b, api.ErrThere, dropT)
	for i := len(b.Tables()); i < api.MaxTables; i++ {
		redoes(t, b, fmt.Sprintf("create t%d: create table t%d (k int)", i, i))
	}
	redoFails(t, b, api.ErrSize, "create x: create table x (k int)")
	undoFails(t, b, api.ErrSize, "drop x: create table x (k int)")
	redoFails(t, b, api.ErrThere, createT)
	undoFails(t, b, api.ErrThere, dropT)
	redoFails(t, b, api.ErrSize, "create x: create table x (k int)", "drop t7: create table t7 (k int)")
	redoes(t, b, "drop t7: create table t7 (k int)", "create x: create table x (k int)")
	if got := b.Tables(); len(got) != api.MaxTables || !slices.IsSorted(got) || !slices.Contains(got, "x") {
		t.Error(got)
	}
}

func TestP1103Names(t *testing.T) {
	b := some(t)
	for _, s := range []string{"drop v: create table v (k int)", "insert v: 1", "update v: 1 -> 2", "delete v: 1", "insert v: 'x', 'y', 'z'", "insert k: 1", "insert v:", "update v: ->", "delete v:"} {
		redoFails(t, b, api.ErrName, s)
		redoFails(t, b, api.ErrName, "insert u: 5", s)
		redoFails(t, b, api.ErrName, s, "create v: create table v (k int)")
	}
	for _, s := range []string{"create v: create table v (k int)", "insert v: 1", "update v: 1 -> 2", "delete v: 1"} {
		undoFails(t, b, api.ErrName, s)
		undoFails(t, b, api.ErrName, s, "delete u: 5")
	}
	redoFails(t, b, api.ErrName, "delete u: 3", "delete u: 1", "delete u: 3", "delete u: 2", dropU, "insert u: 1")
}

func TestP1103Drop(t *testing.T) {
	b := some(t)
	// With rows,
	redoFails(t, b, api.ErrArg, dropT)
	redoFails(t, b, api.ErrArg, "delete t: 1, 'x'", "delete t: 2, 'y'", dropT)
	undoFails(t, b, api.ErrArg, createT)
	undoFails(t, b, api.ErrArg, createT, "insert t: 1, 'x'", "insert t: 2, 'y'")
	redoFails(t, b, api.ErrArg, "create v: create table v (k int)", "insert v: 1", "drop v: create table v (k int)")
	// or with another Schema.
	redoes(t, b, "delete t: 1, 'x'", "delete t: 2, 'y'", "delete t: 4, null")
	for _, in := range []string{"k int", "k int, a text", "k int, a text, primary key (a)", "k int, a text, primary key (k, a)", "k int not null, a text, primary key (k)", "k int, a text, primary key (k), unique (a)", "k int, a text, primary key (k), check (k > 0)", "a int, k text, primary key (a)", "k int, a int, primary key (k)", "k dec (0), a text, primary key (k)"} {
		redoFails(t, b, api.ErrArg, "drop t: create table t ("+in+")")
		undoFails(t, b, api.ErrArg, "create t: create table t ("+in+")")
	}
	redoes(t, b, dropT)
	redoFails(t, b, api.ErrName, dropT)
	undoes(t, b, dropT)
	undoes(t, b, createT)
	if got := b.Tables(); !slices.Equal(got, []string{"u", "w"}) {
		t.Error(got)
	}
}

func TestP1103NoRowIsOld(t *testing.T) {
	b := some(t)
	for _, s := range []string{"1", "1, 'y'", "1, 'x', null", "3, 'x'", "1, null", "4, ''", "null, null", "1.0, 'x'", "1, true", ""} {
		redoFails(t, b, api.ErrNone, "delete t: "+s)
		redoFails(t, b, api.ErrNone, "update t: "+s+" -> 9, 'z'")
		undoFails(t, b, api.ErrNone, "insert t: "+s)
		undoFails(t, b, api.ErrNone, "update t: 9, 'z' -> "+s)
		// Ahead of what is wrong with Now.
		redoFails(t, b, api.ErrNone, "update t: "+s+" -> 9, 9")
		redoFails(t, b, api.ErrNone, "update t: "+s+" -> null, 'x'")
	}
	redoFails(t, b, api.ErrNone, "delete t: 1, 'x'", "delete t: 1, 'x'")
	redoFails(t, b, api.ErrNone, "update t: 1, 'x' -> 5, 'x'", "update t: 1, 'x' -> 6, 'x'")
	redoFails(t, b, api.ErrNone, "delete w: 1, 1, 'x'")
	redoes(t, b, "delete w: 1, 1.0, 'x'")
}

func TestP1103Now(t *testing.T) {
	b := some(t)
	for s, e := range map[string]api.Errno{
		"": api.ErrArg, "1": api.ErrArg, "1, 1.0": api.ErrArg, "1, 1.0, 'y', null": api.ErrArg, "null, 1.0, 'y'": api.ErrNull, "'x', 1.0, 'y'": api.ErrType, "1, 'x', 'y'": api.ErrType, "1, 1.0, 1": api.ErrType, "0, 1.0, 'y'": api.ErrCheck, "1, 9223372036854775807, 'y'": api.ErrOver,
		// Fit would make another row of it.
		"1, 1, 'y'": api.ErrType, "1, 1.00, 'y'": api.ErrType, "1, 1.25, 'y'": api.ErrType, "1, 1., 'y'": api.ErrType,
		// And what Fit says comes ahead of that.
		"0, 1, 'y'": api.ErrCheck, "null, 1, 'y'": api.ErrNull,
	} {
		redoFails(t, b, e, "insert w: "+s)
		redoFails(t, b, e, "update w: 1, 1.0, 'x' -> "+s)
		undoFails(t, b, e, "delete w: "+s)
		undoFails(t, b, e, "update w: "+s+" -> 1, 1.0, 'x'")
		redoFails(t, b, e, "insert w: 2, 1.0, 'y'", "insert w: "+s, "insert v: 1")
	}
	redoes(t, b, "insert w: 2, 1.0, 'y'", "update w: 1, 1.0, 'x' -> 1, null, null")
	stands(t, b, "w", "1, null, null | 1, 2.0, null | 2, 1.0, 'y'")
}

func TestP1103MaxRows(t *testing.T) {
	for _, in := range []string{"k int", "k int, primary key (k)"} {
		b := full(t, in, api.MaxRows-1)
		redoFails(t, b, api.ErrRows, "insert t: 5000", "insert t: 5001")
		redoes(t, b, "insert t: 5000")
		redoFails(t, b, api.ErrRows, "insert t: 5001")
		undoFails(t, b, api.ErrRows, "delete t: 5001")
		// Too many are too many, though one goes behind that; and whatever is wrong with the row is told first.
		redoFails(t, b, api.ErrRows, "insert t: 5001", "delete t: 5001")
		redoFails(t, b, api.ErrRows, "insert t: 5000")
		redoFails(t, b, api.ErrType, "insert t: 'x'")
		redoFails(t, b, api.ErrArg, "insert t: 1, 2")
		redoes(t, b, "delete t: 7", "insert t: 5001")
		redoes(t, b, "update t: 5001 -> 7")
		undoes(t, b, "insert t: 5000")
		undoes(t, b, "delete t: 5002")
		if d, _ := b.Data("t"); len(d.Rows) != api.MaxRows {
			t.Errorf("%d rows", len(d.Rows))
		}
	}
	b := base.New()
	if e := b.Redo(append(changes(createU), inserts("u", api.MaxRows+1)...)); e != api.ErrRows || len(b.Tables()) != 0 {
		t.Errorf("%d, %s", e, b.Tables())
	}
	if e := b.Redo(append(changes(createU), inserts("u", api.MaxRows)...)); e != api.OK {
		t.Error(e)
	}
}

func TestP1103Keys(t *testing.T) {
	b := some(t)
	for _, l := range [][]string{
		{"insert t: 1, 'z'"}, {"insert t: 1, 'x'"}, {"insert t: 5, 'x'", "insert t: 5, 'y'"}, {"update t: 1, 'x' -> 2, 'x'"}, {"update t: 1, 'x' -> 2, 'y'"}, {"delete t: 1, 'x'", "insert t: 2, 'x'"}, {"update t: 4, null -> 1, 'x'", "delete t: 2, 'y'"},
		{"insert w: 5, 1.0, 'x'"}, {"update w: 1, 2.0, null -> 1, 2.0, 'x'"}, {"insert w: 5, 1.0, 'y'", "insert w: 6, null, 'y'"}, {"insert t: 1, 'z'", "insert u: 1"}, {"insert u: 1", "insert w: 1, 1.0, 'x'"},
		{createT[:7] + "x: create table x (k int, primary key (k))", "insert x: 1", "insert x: 1"},
	} {
		redoFails(t, b, api.ErrKey, l...)
	}
	undoFails(t, b, api.ErrKey, "delete t: 1, 'z'")
	undoFails(t, b, api.ErrKey, "update t: 1, 'x' -> 2, 'y'")
	undoFails(t, b, api.ErrKey, "delete w: 5, 1.0, 'x'")
	// Nulls of a Unique do not meet.
	redoes(t, b, "insert w: 5, 1.0, null", "insert w: 5, 1.0, null")
}

func TestP1103KeysOnTheWay(t *testing.T) {
	// Keys may meet as long as they do not in the end.
	b := some(t)
	redoes(t, b, "update t: 1, 'x' -> 2, 'x'", "update t: 2, 'y' -> 1, 'y'")
	stands(t, b, "t", "1, 'y' | 2, 'x' | 4, null")
	redoes(t, b, "insert t: 4, null", "delete t: 4, null")
	redoes(t, b, "insert t: 4, 'z'", "insert t: 4, 'w'", "delete t: 4, null", "delete t: 4, 'z'")
	stands(t, b, "t", "1, 'y' | 2, 'x' | 4, 'w'")
	redoes(t, b, "insert t: 1, 'a'", "update t: 1, 'y' -> 3, 'y'", "update t: 1, 'a' -> 7, 'a'")
	stands(t, b, "t", "2, 'x' | 3, 'y' | 4, 'w' | 7, 'a'")
	undoes(t, b, "delete t: 3, 'q'", "update t: 5, 'y' -> 3, 'y'")
	stands(t, b, "t", "2, 'x' | 3, 'q' | 4, 'w' | 5, 'y' | 7, 'a'")
	redoes(t, b, "insert w: 3, 1.0, 'x'", "update w: 1, 1.0, 'x' -> 1, 1.0, 'z'")
	// Or the table goes with them.
	redoes(t, b, "create x: create table x (k int, primary key (k))", "insert x: 1", "insert x: 1", "delete x: 1", "delete x: 1", "drop x: create table x (k int, primary key (k))")
	redoes(t, b, "create x: create table x (k int, primary key (k))", "insert x: 1", "insert x: 1", "delete x: 1", "insert x: 0")
	stands(t, b, "x", "0 | 1")
}

func TestP1103AllOrNothing(t *testing.T) {
	l := []string{"insert u: 7", "update u: 1 -> 8", "delete u: 3", "insert t: 9, 'z'", "update t: 4, null -> 0, null", "delete t: 2, 'y'", "create v: create table v (k int)", "insert v: 1", "delete u: 8", "delete u: 3", "delete u: 2", "delete u: 7", dropU}
	// Whichever is followed by a wrong one.
	for n := range l {
		for s, e := range map[string]api.Errno{"insert x: 1": api.ErrName, "delete w: 1, 1.0, 'y'": api.ErrNone, "insert w: 1, 1.0, 'x'": api.ErrKey, "insert w: 0, 1.0, 'y'": api.ErrCheck, createT: api.ErrThere} {
			redoFails(t, some(t), e, append(slices.Clone(l[:n]), s)...)
		}
	}
	b := some(t)
	redoes(t, b, l...)
	if got := state(b); got != "create table t (k int, a text, primary key (k)): 0, null | 1, 'x' | 9, 'z'\ncreate table v (k int): 1\ncreate table w (i int not null, d dec (1), s text, unique (s), check ((i > 0))): 1, 1.0, 'x' | 1, 2.0, null\n" {
		t.Error(got)
	}
	for n := range l {
		undoFails(t, b, api.ErrNone, append([]string{"insert w: 1, 1.0, 'y'"}, l[n:]...)...)
	}
	undoes(t, b, l...)
	if !b.Same(some(t)) {
		t.Error(state(b))
	}
}
