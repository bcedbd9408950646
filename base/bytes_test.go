package base_test

import (
	"bytes"
	"encoding/binary"
	"fmt"
	"math/rand"
	"slices"
	"strings"
	"testing"

	"longstop/api"
	"longstop/base"
	"longstop/datum"
	"longstop/expr"
	"longstop/schema"
)

// toldBytes writes whatever it is given, also what is no change's: numbers as
// ints, texts as strings.
func toldBytes(l ...any) []byte {
	var b []byte
	for _, x := range l {
		switch x := x.(type) {
		case int:
			b = binary.AppendVarint(b, int64(x))
		case string:
			b = append(binary.AppendVarint(b, int64(len(x))), x...)
		case []Value:
			l := toldBytes(len(x))
			for _, v := range x {
				l = append(l, toldValue(v)...)
			}
			b = append(b, toldBytes(string(l))...)
		case Table:
			s, _ := schema.Put(x)
			b = append(b, toldBytes(string(s))...)
		case Change:
			b = append(b, toldBytes(x.Kind, x.Table, x.Old, x.Now, x.Schema)...)
		default:
			panic("toldBytes of something else")
		}
	}
	return b
}

func toldValue(v Value) []byte {
	switch v.Kind {
	case api.Int, api.Bool:
		return toldBytes(v.Kind, v.N)
	case api.Dec, api.Point:
		return toldBytes(v.Kind, v.N, v.M)
	case api.Text:
		return toldBytes(v.Kind, v.B)
	}
	return toldBytes(v.Kind)
}

// rightChanges gives changes that may be.
func rightChanges() []Change {
	wide := table("t", "k int not null, d dec (2), s text, f bool, p point, primary key (s, k), unique (d), unique (p, f), check (k > 0 and t.s <> 'no')")
	long := strings.Repeat("z", api.MaxName)
	l := []Change{
		{Kind: base.Create, Table: "t", Schema: wide}, {Kind: base.Drop, Table: "t", Schema: wide},
		{Kind: base.Create, Table: long, Schema: table(long, "a int")}, {Kind: base.Drop, Table: "_", Schema: table("_", "a int")},
	}
	for _, r := range [][]Value{
		nil, {}, row(null), row(null, null), row(whole(7)), row(whole(least), whole(great)), row(dec(-5, 2), text("it's"), truth(1), point(1, -2), null), row(text("")), row(text(strings.Repeat("a", api.MaxValue))), row(text("\x00\n")), make([]Value, 64),
		slices.Repeat(row(text(strings.Repeat("b", api.MaxValue))), 64),
	} {
		l = append(l, Change{Kind: base.Insert, Table: "t", Now: r}, Change{Kind: base.Delete, Table: long, Old: r}, Change{Kind: base.Update, Table: "t", Old: r, Now: r}, Change{Kind: base.Update, Table: "t", Old: r, Now: row(whole(1))}, Change{Kind: base.Update, Table: "t", Old: row(whole(1)), Now: r})
	}
	return l
}

// back complains unless x's bytes are as told, and GetChange gives x of them.
func back(t *testing.T, x Change) []byte {
	t.Helper()
	b, e := base.PutChange(x)
	if e != api.OK || !bytes.Equal(b, toldBytes(x)) {
		t.Fatalf("PutChange of %s: %x, %d, not %x", short(x), b, e, toldBytes(x))
	}
	got, e := base.GetChange(b)
	if e != api.OK || !alike(got, x) {
		t.Fatalf("GetChange of PutChange of %s: %s, %d", short(x), short(got), e)
	}
	return b
}

// noChange complains unless b are nobody's bytes.
func noChange(t *testing.T, what string, b []byte) {
	t.Helper()
	if x, e := base.GetChange(b); e != api.ErrForm || !alike(x, Change{}) {
		t.Fatalf("GetChange of %s, %x: %s, %d", what, b, short(x), e)
	}
}

func TestP1105Bytes(t *testing.T) {
	for s, want := range map[string]string{
		"insert t: 5":                        "\x06\x02t\x02\x00\x06\x02\x02\x0a\x00",
		"delete t: 5, null":                  "\x0a\x02t\x08\x04\x02\x0a\x00\x02\x00\x00",
		"update ab: 'x' -> true":             "\x08\x04ab\x08\x02\x06\x02x\x06\x02\x08\x02\x00",
		"create t: create table t (a int)":   "\x02\x02t\x02\x00\x02\x00\x16\x02t\x02\x02a\x02\x00\x00\x00\x00\x00",
		"drop t: create table t (a dec (2))": "\x04\x02t\x02\x00\x02\x00\x16\x02t\x02\x02a\x04\x04\x00\x00\x00\x00",
	} {
		if b, e := base.PutChange(change(s)); e != api.OK || string(b) != want {
			t.Errorf("%s: %q, %d, not %q", s, b, e, want)
		}
		if x, e := base.GetChange([]byte(want)); e != api.OK || printedChange(x) != s {
			t.Errorf("%q: %s, %d", want, printedChange(x), e)
		}
	}
}

func TestP1105ThereAndBack(t *testing.T) {
	for _, x := range rightChanges() {
		back(t, x)
	}
}

func TestP1105ChangesThatMayNotBe(t *testing.T) {
	for _, x := range wrongChanges() {
		if b, e := base.PutChange(x); e != api.ErrArg || len(b) != 0 {
			t.Fatalf("PutChange of %s: %x, %d", short(x), b, e)
		}
		// Its bytes, as far as it has some, are never read as it.
		b := toldBytes(x)
		if y, e := base.GetChange(b); alike(x, y) && e == api.OK || e == api.OK && !bytes.Equal(toldBytes(y), b) || e != api.OK && (e != api.ErrForm || !alike(y, Change{})) {
			t.Fatalf("GetChange of %x: %s, %d", b, short(y), e)
		}
	}
	for _, name := range wrongNames() {
		noChange(t, "a wrong name", toldBytes(base.Insert, name, row(), row(whole(1)), ""))
	}
	for _, kind := range []int{0, -1, 6, 256 + base.Insert, least, great} {
		noChange(t, "a wrong kind", toldBytes(kind, "t", row(), row(whole(1)), ""))
		noChange(t, "a wrong kind", toldBytes(kind, "t", row(), row(), table("t", "a int")))
	}
	noChange(t, "a text that is too long", toldBytes(base.Insert, strings.Repeat("a", api.MaxBytes+1), row(null), row(null), Table{}))
}

func TestP1105BytesCutShort(t *testing.T) {
	for _, x := range rightChanges()[:40] {
		b := back(t, x)
		for n := range len(b) {
			noChange(t, "a piece", b[:n])
			noChange(t, "a rest", b[n+1:])
		}
		for _, more := range []string{"\x00", "\x01", "\x80", "\xff", string(b), "t"} {
			noChange(t, "more", append(slices.Clone(b), more...))
		}
	}
	noChange(t, "nothing", nil)
	noChange(t, "nothing", []byte{})
}

// Each byte another one: that is nobody's bytes, or those of another change.
func TestP1105OtherBytes(t *testing.T) {
	taken := 0
	for _, x := range append(rightChanges()[:2], changes("insert t: 5, 'x', null; update ab: 'x', true -> false, <1,2>; delete u: 1.5, 7")...) {
		b := back(t, x)
		for i := range b {
			for n := range 256 {
				other := slices.Clone(b)
				other[i] = byte(n)
				y, e := base.GetChange(other)
				if e == api.OK && (!bytes.Equal(toldBytes(y), other) || alike(x, y) != bytes.Equal(b, other)) || e != api.OK && (e != api.ErrForm || !alike(y, Change{}) || int(b[i]) == n) {
					t.Fatalf("%x for %x: %s, %d", other, b, short(y), e)
				}
				if e == api.OK {
					taken++
				}
			}
		}
	}
	if taken < 500 {
		t.Errorf("only %d were a change's", taken)
	}
}

// Numbers that are written longer than they must be, and parts that are no row's
// and no table's bytes.
func TestP1105OtherForms(t *testing.T) {
	in := string(toldBytes(1, api.Int, 5))
	none := string(toldBytes(0))
	wide, _ := schema.Put(table("t", "a int"))
	good := toldBytes(base.Insert, "t", none, in, "")
	if x, e := base.GetChange(good); e != api.OK || printedChange(x) != "insert t: 5" {
		t.Fatalf("%s, %d", printedChange(x), e)
	}
	for _, b := range [][]byte{
		append([]byte("\x86\x00"), good[1:]...),
		append([]byte("\x06\x82\x00"), good[2:]...),
		toldBytes(base.Insert, "t", "", in, ""), toldBytes(base.Insert, "t", none, "", ""), toldBytes(base.Insert, "t", in, none, ""), toldBytes(base.Insert, "t", in, in, ""), toldBytes(base.Insert, "t", none, in+"\x00", ""),
		toldBytes(base.Insert, "t", none, in[:1], ""), toldBytes(base.Insert, "t", none, "\x82\x00"+in[1:], ""), toldBytes(base.Insert, "t", none, in, string(wide)), toldBytes(base.Insert, "t", none, in, "\x00"), toldBytes(base.Insert, "t", none, in),
		toldBytes(base.Insert, "t", in, ""), toldBytes(base.Insert, "t", none, in, "", ""), toldBytes(base.Delete, "t", none, in, ""), toldBytes(base.Update, "t", in, "", ""), toldBytes(base.Update, "t", "", in, ""), toldBytes(base.Delete, "t", in, "", ""),
		toldBytes(base.Create, "t", none, none, ""), toldBytes(base.Create, "t", "", "", string(wide)), toldBytes(base.Create, "t", none, none, string(wide)+"\x00"), toldBytes(base.Create, "t", none, none, string(wide[:len(wide)-1])), toldBytes(base.Create, "u", none, none, string(wide)),
		toldBytes(base.Create, "t", in, none, string(wide)), toldBytes(base.Drop, "t", none, in, string(wide)), toldBytes(base.Create, "t", string(wide)), toldBytes(base.Drop, "t", none, none, none),
	} {
		noChange(t, "another form", b)
	}
}

// A Check whose text is too long for an expression's is written, but not read:
// so says chapter 8 of the table's own bytes.
func TestP1105LongChecks(t *testing.T) {
	texts := func(size, count int) Table {
		w := table("t", "a text")
		part := "a <> '" + strings.Repeat("b", size) + "'"
		w.Check = nodes(part)
		for range count - 1 {
			w.Check = slices.Concat(w.Check, nodes(part), []Node{{Op: expr.And}})
		}
		return w
	}
	x := Change{Kind: base.Create, Table: "t", Schema: texts(250, 13)}
	back(t, x)
	x.Schema.Check = slices.Concat(texts(250, 10).Check, texts(250, 10).Check, []Node{{Op: expr.And}})
	b, e := base.PutChange(x)
	if n := len(expr.Print(x.Schema.Check)); n <= api.MaxSource || e != api.OK || !bytes.Equal(b, toldBytes(x)) {
		t.Fatalf("%d bytes: %x, %d", n, b, e)
	}
	noChange(t, "a long check", b)
	// Redo takes what PutChange takes.
	d := base.New()
	if e := d.Redo([]Change{x}); e != api.OK {
		t.Error(e)
	}
	if got, ok := d.Data("t"); !ok || !alike(got.Table, x.Schema) {
		t.Error(short(got))
	}
	done(t, d, "insert into t values ('x')")
	refuses(t, d, "insert into t values ('"+strings.Repeat("b", 250)+"')", api.ErrCheck)
}

func wildValue(r *rand.Rand) Value {
	return pick(r, null, whole(pick(r, 0, 1, -1, 63, 64, -65, great, least, r.Int())), dec(r.Intn(1000)-500, r.Intn(7)), text(pick(r, "", "a", "it's", "ä", strings.Repeat("x", r.Intn(257)))), truth(r.Intn(2)), point(r.Intn(100)-50, r.Intn(1<<20)))
}

func wildRow(r *rand.Rand) []Value {
	l := make([]Value, pick(r, 0, 1, 2, 3, r.Intn(65)))
	for i := range l {
		l[i] = wildValue(r)
	}
	return l
}

func wildChange(r *rand.Rand) Change {
	x := Change{Kind: 1 + r.Intn(5), Table: pick(r, "t", "u", "a_1", strings.Repeat("n", 1+r.Intn(32)))}
	switch x.Kind {
	case base.Create, base.Drop:
		x.Schema = table(x.Table, pick(r, "a int", "k int not null, a text, primary key (k)", "d dec (3), p point, unique (d), unique (p, d), check (d > 0)", "f bool, primary key (f), check (f or not f)"))
	case base.Insert:
		x.Now = wildRow(r)
	case base.Delete:
		x.Old = wildRow(r)
	case base.Update:
		x.Old, x.Now = wildRow(r), wildRow(r)
	}
	return x
}

func TestP1105Random(t *testing.T) {
	r := rand.New(rand.NewSource(1))
	taken := 0
	for range 4000 {
		b := back(t, wildChange(r))
		for range 4 {
			other := slices.Clone(b)
			for range 1 + r.Intn(3) {
				switch i := r.Intn(len(other)); r.Intn(4) {
				case 0:
					other[i] = byte(r.Intn(256))
				case 1:
					other[i] ^= 1 << r.Intn(8)
				case 2:
					other = slices.Insert(other, i, byte(r.Intn(256)))
				case 3:
					other = append(slices.Delete(other, i, i+1), 0)
				}
			}
			x, e := base.GetChange(other)
			if e == api.OK && !bytes.Equal(toldBytes(x), other) || e != api.OK && (e != api.ErrForm || !alike(x, Change{})) {
				t.Fatalf("%x: %s, %d", other, short(x), e)
			}
			if e == api.OK {
				taken++
			}
		}
	}
	if taken < 500 {
		t.Errorf("only %d were a change's", taken)
	}
}

// No two changes have the same bytes.
func TestP1105Apart(t *testing.T) {
	seen := map[string]string{}
	for _, x := range rightChanges() {
		b := back(t, x)
		s := fmt.Sprintf("%d %s %s %s %s", x.Kind, x.Table, printedRow(x.Old), printedRow(x.Now), printedTable(x.Schema))
		if other, there := seen[string(b)]; there && other != s {
			t.Errorf("%s and %s: %x", s, other, b)
		}
		seen[string(b)] = s
	}
	if _, e := datum.Get(nil); e != api.ErrForm {
		t.Error("no bytes are a row's: then none need not be told apart from an empty one")
	}
}
