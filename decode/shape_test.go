package decode_test

import (
	"fmt"
	"slices"
	"strings"
	"testing"

	"longstop/api"
	"longstop/decode"
)

func TestP1701Right(t *testing.T) {
	longest := strings.Repeat("z", api.MaxName)
	deep := nodes(strings.Repeat("not ", api.MaxDepth-1) + "k")
	for _, p := range []Publication{
		{Name: "p"}, {Name: "p", Parts: []Part{}}, {Name: longest}, {Name: "_"}, {Name: "t", Parts: []Part{{Table: "t"}}},
		published("t"), published("t (k)"), published("t (k, a, c)"), published("t where k > 1"), published("t (k) where u.b + 1"), published("t (t); u (t)"), published("t (k); u (k) where t.k = 1"),
		{Name: "a1", Parts: []Part{{Table: longest, Columns: []string{longest, "_", "p"}, Where: deep}}},
		{Name: "p", Parts: []Part{{Table: "t", Columns: []string{}, Where: []Node{}}}},
	} {
		if !decode.Right(p) {
			t.Errorf("%s may be", short(p))
		}
	}
	for _, p := range wrongPublications() {
		if decode.Right(p) {
			t.Errorf("%s may not be", short(p))
		}
	}
}

// As many parts and columns as one likes, each once: limits are a table's and a
// base's.
func TestP1701RightOfMany(t *testing.T) {
	var names []string
	for i := range 3000 {
		names = append(names, fmt.Sprint("a", i))
	}
	p := Publication{Name: "p", Parts: []Part{{Table: "t", Columns: names}}}
	for _, name := range names {
		p.Parts = append(p.Parts, Part{Table: name})
	}
	if !decode.Right(p) {
		t.Error("many")
	}
	for _, i := range []int{0, 1, 1500, 2999} {
		for _, j := range []int{0, 1, 1500, 2999} {
			if i == j {
				continue
			}
			q := copied(p)
			q.Parts[1+i].Table = q.Parts[1+j].Table
			if decode.Right(q) {
				t.Error("part", i, "like", j)
			}
			q = copied(p)
			q.Parts[0].Columns[i] = q.Parts[0].Columns[j]
			if decode.Right(q) {
				t.Error("column", i, "like", j)
			}
		}
	}
}

const wide = "t (k int, a text not null, d dec (2), f bool not null, p point, primary key (k), unique (a), unique (p, d), check (((k > 0) and (t.a <> 'no'))))"

func TestP1702Shape(t *testing.T) {
	shapes(t, "t (a)", "t (a int)", "t (a int)")
	shapes(t, "t", "t (a int)", "t (a int)")
	shapes(t, "t", wide, "t (k int, a text not null, d dec (2), f bool not null, p point, primary key (k))")
	shapes(t, "t (k)", wide, "t (k int, primary key (k))")
	shapes(t, "t (a)", wide, "t (a text not null)")
	shapes(t, "t (p, f, d)", wide, "t (p point, f bool not null, d dec (2))")
	shapes(t, "t (p, k, f)", wide, "t (p point, k int, f bool not null, primary key (k))")
	shapes(t, "t (p, f, d, a, k)", wide, "t (p point, f bool not null, d dec (2), a text not null, k int, primary key (k))")
	shapes(t, "u (d, c, b, a)", "u (a dec (0), b dec (6), c text, d int)", "u (d int, c text, b dec (6), a dec (0))")
}

// The key's columns stand where they are shown, in the key's order; it is there
// whole, or not at all.
func TestP1702Keys(t *testing.T) {
	of := "t (a int, b text, c bool, d point, primary key (c, a, b))"
	for in, want := range map[string][]int{
		"t": {2, 0, 1}, "t (a, b, c, d)": {2, 0, 1}, "t (a, b, c)": {2, 0, 1}, "t (c, a, b)": {0, 1, 2}, "t (b, a, c)": {2, 1, 0}, "t (d, b, c, a)": {2, 3, 1}, "t (a, d, c, b)": {2, 0, 3},
		"t (a)": nil, "t (b)": nil, "t (c)": nil, "t (d)": nil, "t (a, b)": nil, "t (c, a)": nil, "t (b, c)": nil, "t (a, b, d)": nil, "t (d, c, b)": nil, "t (d, c, a)": nil,
	} {
		got, e := decode.Shape(part(in), table(of))
		if e != api.OK || !slices.Equal(got.Key, want) {
			t.Errorf("%s: %d, error %d, not %d", in, got.Key, e, want)
		}
	}
	of = strings.Replace(of, ", primary key (c, a, b)", "", 1)
	for _, in := range []string{"t", "t (a)", "t (a, b, c, d)"} {
		if got, e := decode.Shape(part(in), table(of)); e != api.OK || len(got.Key) != 0 {
			t.Errorf("%s: %d, error %d", in, got.Key, e)
		}
	}
}

// All columns that a table may have, each at each place.
func TestP1702ManyColumns(t *testing.T) {
	var l []string
	for i := range api.MaxColumns {
		l = append(l, fmt.Sprint("a", i, " dec (", i%7, ")"))
	}
	of := table("t (" + strings.Join(l, ", ") + ", primary key (a15, a0, a7))")
	for turn := range api.MaxColumns {
		p := Part{Table: "t"}
		for i := range api.MaxColumns {
			p.Columns = append(p.Columns, fmt.Sprint("a", (i+turn)%api.MaxColumns))
		}
		got, e := decode.Shape(p, of)
		if e != api.OK || len(got.Columns) != api.MaxColumns || len(got.Key) != 3 {
			t.Fatal(turn, short(got), e)
		}
		for i, c := range got.Columns {
			if c != of.Columns[(i+turn)%api.MaxColumns] {
				t.Error(turn, i, c)
			}
		}
		for i, place := range got.Key {
			if got.Columns[place] != of.Columns[of.Key[i]] {
				t.Error(turn, i, place)
			}
		}
		p.Columns = append(p.Columns, "b")
		shapeFails(t, api.ErrName, p, of)
	}
}

// What Where names need not be there: it is told of rows alone.
func TestP1702WhereIsNotAsked(t *testing.T) {
	for _, where := range []string{"nobody = 1", "u.k = 1", "1", "1 / 0", "'x'", "f(1, 2, 3)", "a > 1"} {
		shapes(t, "t (k) where "+where, wide, "t (k int, primary key (k))")
	}
}

func TestP1702ErrArg(t *testing.T) {
	of := table("t (k int, a int, primary key (k))")
	for _, p := range wrongParts() {
		shapeFails(t, api.ErrArg, p, of)
	}
	for _, wrong := range wrongTables() {
		shapeFails(t, api.ErrArg, part("t"), wrong)
		shapeFails(t, api.ErrArg, part("t (k)"), wrong)
		shapeFails(t, api.ErrArg, Part{Table: wrong.Name}, wrong)
	}
	for _, in := range []string{"u", "t1", "tt", "_", "k"} {
		shapeFails(t, api.ErrArg, part(in), of)
		shapeFails(t, api.ErrArg, part(in+" (k)"), of)
	}
}

func TestP1702ErrName(t *testing.T) {
	of := table("t (k int, a int, primary key (k))")
	for _, in := range []string{"t (nobody)", "t (t)", "t (k, nobody)", "t (nobody, k)", "t (k, a, c)", "t (kk)", "t (_)"} {
		shapeFails(t, api.ErrName, part(in), of)
	}
	// ErrArg comes first.
	shapeFails(t, api.ErrArg, part("u (nobody)"), of)
	shapeFails(t, api.ErrArg, part("t (nobody, nobody)"), of)
	shapeFails(t, api.ErrArg, part("t (nobody, table)"), of)
	shapeFails(t, api.ErrArg, Part{Table: "t", Columns: []string{"nobody"}, Where: []Node{{}}}, of)
	shapeFails(t, api.ErrArg, part("t (nobody)"), wrongTables()[10])
}
