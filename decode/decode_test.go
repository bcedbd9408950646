package decode_test

import (
	"fmt"
	"strings"
	"testing"

	"longstop/api"
	"longstop/base"
	"longstop/decode"
)

func TestP1704Example(t *testing.T) {
	b := based(t, "create table t (a int)", "insert into t values (1)")
	decodes(t, published("t (a) where a > 1"), b, changes("update t: 1 -> 2"), "insert t: 2")
}

func TestP1704Rows(t *testing.T) {
	b := some(t)
	p := published("t (c, k) where a > 10")
	for l, want := range map[string]string{
		"":                                       "",
		"insert t: 5, 11, 'z'":                   "insert t: 'z', 5",
		"insert t: 5, 10, 'z'":                   "",
		"insert t: 5, null, null":                "",
		"delete t: 2, 20, 'y'":                   "delete t: 'y', 2",
		"delete t: 1, 10, 'x'":                   "",
		"delete t: 3, null, null":                "",
		"update t: 2, 20, 'y' -> 2, 20, 'w'":     "update t: 'y', 2 -> 'w', 2",
		"update t: 2, 20, 'y' -> 7, 21, 'w'":     "update t: 'y', 2 -> 'w', 7",
		"update t: 2, 20, 'y' -> 2, 20, null":    "update t: 'y', 2 -> null, 2",
		"update t: 2, 20, 'y' -> 2, 30, 'y'":     "",
		"update t: 2, 20, 'y' -> 2, 20, 'y'":     "",
		"update t: 2, 20, 'y' -> 2, 9, 'y'":      "delete t: 'y', 2",
		"update t: 2, 20, 'y' -> 7, null, 'w'":   "delete t: 'y', 2",
		"update t: 1, 10, 'x' -> 1, 11, 'x'":     "insert t: 'x', 1",
		"update t: 3, null, null -> 4, 11, 'w'":  "insert t: 'w', 4",
		"update t: 1, 10, 'x' -> 1, 9, 'w'":      "",
		"update t: 3, null, null -> 3, 1, null":  "",
		"update t: 1, 10, 'x' -> 1, 10, 'x'":     "",
		"insert u: 1, 'q' | delete u: null, 'r'": "",
		"update u: 3, 'p' -> 4, 'p' | insert t: 5, 11, 'z' | delete u: 4, 'p'": "insert t: 'z', 5",
	} {
		decodes(t, p, b, changes(l), want)
	}
}

// A table without a key: its rows go and come by what they show.
func TestP1704RowsWithoutKeys(t *testing.T) {
	b := some(t)
	decodes(t, published("u (s)"), b, changes("delete u: 3, 'p' | update u: 3, 'p' -> 3, 'q' | update u: 1, 'q' -> 2, 'q' | insert u: null, 'z'"), "delete u: 'p' | update u: 'p' -> 'q' | insert u: 'z'")
	decodes(t, published("u (b) where s <> 'p'"), b, changes("delete u: 3, 'p' | update u: 3, 'p' -> 3, 'q' | update u: 1, 'q' -> 1, 'p' | update u: null, 'r' -> null, 's' | update u: null, 's' -> 8, 's'"), "insert u: 3 | delete u: 1 | update u: null -> 8")
	decodes(t, published("u"), b, changes("delete u: 3, 'p' | delete u: 3, 'p' | insert u: 3, 'p'"), "delete u: 3, 'p' | delete u: 3, 'p' | insert u: 3, 'p'")
}

func TestP1704Tables(t *testing.T) {
	p := published("t (c, k) where k > 1; u")
	b := base.New()
	create := "create t: t (k int, a int, c text, primary key (k), unique (c), check ((k < 100)))"
	decodes(t, p, b, changes(create), "create t: t (c text, k int, primary key (k))")
	decodes(t, p, b, changes(create+" | create v: v (b int) | insert v: 4 | insert t: 1, 1, 'x' | insert t: 2, null, 'y' | update t: 1, 1, 'x' -> 5, 1, 'x' | create u: u (b int, unique (b)) | insert u: 4 | delete v: 4 | drop v: v (b int)"),
		"create t: t (c text, k int, primary key (k)) | insert t: 'y', 2 | insert t: 'x', 5 | create u: u (b int) | insert u: 4")
	b = based(t, "create table t (k int, a int, c text, primary key (k), unique (c), check (k < 100))", "create table v (b int)")
	drop := strings.Replace(create, "create", "drop", 1)
	decodes(t, p, b, changes(drop), "drop t: t (c text, k int, primary key (k))")
	decodes(t, p, b, changes("drop v: v (b int)"), "")
	decodes(t, p, b, changes(drop+" | "+create), "drop t: t (c text, k int, primary key (k)) | create t: t (c text, k int, primary key (k))")
}

// A table that goes and comes otherwise within the changes is shown as it stands
// by then.
func TestP1704TablesAnew(t *testing.T) {
	b := some(t)
	l := append(done(t, b.Clone(), "drop table t"), changes("create t: t (a text, c dec (1), k bool) | insert t: 'a', 1.5, true | update t: 'a', 1.5, true -> 'b', 1.5, true | update t: 'b', 1.5, true -> 'b', 1.5, false | delete t: 'b', 1.5, false")...)
	decodes(t, published("t (k, c)"), b, l,
		"delete t: 1, 'x' | delete t: 2, 'y' | delete t: 3, null | drop t: t (k int, c text, primary key (k)) | create t: t (k bool, c dec (1)) | insert t: true, 1.5 | update t: true, 1.5 -> false, 1.5 | delete t: false, 1.5")
	// And another time, with the key gone and there again.
	l = append(l, changes("drop t: t (a text, c dec (1), k bool) | create t: t (c int, k int, primary key (c)) | insert t: 7, 8 | update t: 7, 8 -> 7, 9")...)
	decodes(t, published("t (c) where c is not null"), base.New(), l[4:], "create t: t (c dec (1)) | insert t: 1.5 | delete t: 1.5 | drop t: t (c dec (1)) | create t: t (c int, primary key (c)) | insert t: 7")
	decodeFails(t, api.ErrIdentity, published("t (k)"), base.New(), l[4:])
	decodes(t, published("t (k)"), base.New(), l[4:len(l)-1], "create t: t (k bool) | insert t: true | update t: true -> false | delete t: false | drop t: t (k bool) | create t: t (k int) | insert t: 8")
}

// Changes are done as Redo does them: keys may meet as long as they don't at the
// end.
func TestP1704Swapped(t *testing.T) {
	b := some(t)
	l := changes("update t: 1, 10, 'x' -> 2, 10, 'x' | update t: 2, 20, 'y' -> 1, 20, 'y'")
	decodes(t, published("t (k)"), b, l, "update t: 1 -> 2 | update t: 2 -> 1")
	decodes(t, published("t (k, a) where a > 10"), b, l, "update t: 2, 20 -> 1, 20")
	decodeFails(t, api.ErrKey, published("t (k)"), b, l[:1])
}

func TestP1704Statements(t *testing.T) {
	b := some(t)
	p := published("t (k, a) where a > 10; u (s)")
	for s, want := range map[string]string{
		"update t set a = coalesce(a, 0) + 5":            "insert t: 1, 15 | update t: 2, 20 -> 2, 25",
		"update t set a = 11":                            "insert t: 1, 11 | update t: 2, 20 -> 2, 11 | insert t: 3, 11",
		"update t set a = a - 10":                        "delete t: 2, 20",
		"update t set c = null":                          "",
		"update t set k = k + 1":                         "update t: 2, 20 -> 3, 20",
		"delete from t where k > 1":                      "delete t: 2, 20",
		"delete from t":                                  "delete t: 2, 20",
		"insert into t values (4, 4, 'd'), (5, 50, 'e')": "insert t: 5, 50",
		"update u set b = 9":                             "",
		"update u set s = 'n', b = 1 where b = 3":        "update u: 'p' -> 'n' | update u: 'p' -> 'n'",
		"drop table u":                                   "delete u: 'p' | delete u: 'q' | delete u: 'p' | delete u: 'r' | drop u: u (s text not null)",
		"drop table t":                                   "delete t: 2, 20 | drop t: t (k int, a int, primary key (k))",
		"create table v (a int)":                         "",
		"select * from t":                                "",
	} {
		decodes(t, p, b, done(t, b.Clone(), s), want)
	}
}

func TestP1704ErrArg(t *testing.T) {
	b := some(t)
	l := changes("insert t: 5, 11, 'z'")
	for _, p := range wrongPublications() {
		decodeFails(t, api.ErrArg, p, b, l)
		decodeFails(t, api.ErrArg, p, b, nil)
		// It comes ahead of Redo's error.
		decodeFails(t, api.ErrArg, p, b, changes("insert v: 1"))
	}
	for _, b := range unmade() {
		for _, p := range append(wrongPublications(), published(""), published("t")) {
			for _, l := range [][]Change{nil, l, changes("create t: t (k int)"), make([]Change, 3)} {
				decodeFails(t, api.ErrArg, p, b, l)
			}
		}
	}
}

// Redo's errors, also of changes that nobody is shown.
func TestP1704RedoErrors(t *testing.T) {
	b := some(t)
	wrong := []Change{{}, {Kind: 6, Table: "t"}, {Kind: -1, Table: "v"}, {Kind: base.Insert, Table: "T", Now: values("1, 1, 'a'")}, {Kind: base.Insert, Table: "t", Old: values("1"), Now: values("5, 1, 'a'")}, {Kind: base.Create, Table: "v"}, {Kind: base.Delete, Table: "t", Old: []Value{{Kind: 9}}}}
	for _, p := range []Publication{published(""), published("t (k)"), published("t (c) where 1 / 0 = 1"), published("t (nobody)"), published("u"), published("t; u")} {
		for s, want := range map[string]Errno{
			"drop t: t (k int)": api.ErrArg, "drop u: u (b int, s text not null)": api.ErrArg, "drop v: v (a int)": api.ErrName, "insert v: 1": api.ErrName, "update v: 1 -> 2": api.ErrName, "create t: t (k int)": api.ErrThere, "create u: u (k int)": api.ErrThere,
			"delete t: 1, 10, 'y'": api.ErrNone, "update u: 3, 'q' -> 4, 'q'": api.ErrNone, "insert t: 5, 1": api.ErrArg, "insert t: 5, 'a', 'a'": api.ErrType, "insert u: 1, null": api.ErrNull, "insert t: 1, 1, 'a'": api.ErrKey, "insert t: 5, 1, 'x'": api.ErrKey, "insert t: 100, 1, null": api.ErrCheck,
			"delete u: 1, 'q' | delete u: 1, 'q'": api.ErrNone, "update t: 2, 20, 'y' -> 1, 20, 'y'": api.ErrKey, "insert u: 1, 'a' | insert w: 4": api.ErrName,
			// Ahead of whatever is wrong with a part of another change.
			"delete t: 1, 10, 'x' | insert w: 4": api.ErrName, "insert t: 7, 7, 'z' | delete u: 1, 'z'": api.ErrNone, "insert w: 4 | delete t: 1, 10, 'x'": api.ErrName,
		} {
			decodeFails(t, want, p, b, changes(s))
		}
		for _, x := range wrong {
			decodeFails(t, api.ErrArg, p, b, []Change{x})
			decodeFails(t, api.ErrArg, p, b, append(changes("insert t: 9, 9, 'z'"), x))
		}
	}
	for i := range api.MaxTables - 2 {
		done(t, b, fmt.Sprintf("create table v%d (a int)", i))
	}
	decodeFails(t, api.ErrSize, published("t"), b, changes("create w: w (a int)"))
	c := based(t, "create table t (a int)")
	l := make([]Change, api.MaxRows+1)
	for i := range l {
		l[i] = Change{Kind: base.Insert, Table: "t", Now: []Value{whole(i)}}
	}
	decodeFails(t, api.ErrRows, published(""), c, l)
	if got, e := decode.Decode(published("t"), c, l[1:]); e != api.OK || !alike(got, l[1:]) {
		t.Error(len(got), e)
	}
}

func TestP1704ShapeErrors(t *testing.T) {
	b := some(t)
	for _, s := range []string{"insert t: 5, 5, 'z'", "delete t: 1, 10, 'x'", "update t: 1, 10, 'x' -> 1, 11, 'x'", "update t: 1, 10, 'x' -> 1, 10, 'x'", "insert u: 1, 'z' | insert t: 5, 5, 'z'"} {
		for _, in := range []string{"t (nobody)", "t (k, b)", "t (s) where false", "t (nobody) where 1 / 0 = 1", "u; t (b)"} {
			decodeFails(t, api.ErrName, published(in), b, changes(s))
		}
	}
	decodeFails(t, api.ErrName, published("v (b)"), b, changes("create v: v (a int)"))
	decodeFails(t, api.ErrName, published("v (b)"), b, changes("create v: v (a int) | drop v: v (a int) | create v: v (b int)"))
	decodeFails(t, api.ErrName, published("v (b)"), b, changes("create v: v (b int) | drop v: v (b int) | create v: v (a int)"))
	done(t, b, "create table v (a int)")
	decodeFails(t, api.ErrName, published("v (b)"), b, changes("drop v: v (a int)"))
	// Nobody asks for the Shape of what is not changed.
	decodes(t, published("v (b); t (nobody) where 1; u (s)"), b, changes("insert u: 1, 'z'"), "insert u: 'z'")
	decodes(t, published("v (b); t (nobody)"), b, nil, "")
}

func TestP1704WhereErrors(t *testing.T) {
	b := some(t)
	for in, want := range map[string]Errno{"t where nobody = 1": api.ErrName, "t where u.k = 1": api.ErrName, "t where 1": api.ErrType, "t where a": api.ErrType, "t (c) where c > 1": api.ErrType, "t where 1 / (k - 1) = 1": api.ErrZero, "t (c, a) where 1 / (k - 1) = 1": api.ErrZero, "t where k + 9223372036854775807 > 0": api.ErrOver} {
		decodeFails(t, want, published(in), b, changes("delete t: 1, 10, 'x'"))
		decodeFails(t, want, published(in), b, changes("update t: 1, 10, 'x' -> 5, 10, 'x'"))
		decodeFails(t, want, published(in), b, changes("delete t: 2, 20, 'y' | insert u: 5, 'z' | delete t: 1, 10, 'x'")[1:])
	}
	p := published("t where 1 / (k - 6) = 0")
	decodes(t, p, b, changes("insert t: 5, 5, 'z'"), "")
	decodes(t, p, b, changes("insert t: 8, 5, 'z'"), "insert t: 8, 5, 'z'")
	decodeFails(t, api.ErrZero, p, b, changes("insert t: 6, 5, 'z'"))
	decodeFails(t, api.ErrZero, p, b, changes("insert t: 8, 5, 'z' | update t: 8, 5, 'z' -> 6, 5, 'z'"))
	decodeFails(t, api.ErrZero, p, b, changes("insert t: 5, 5, 'z' | update t: 5, 5, 'z' -> 6, 5, 'z' | delete t: 6, 5, 'z'"))
	// Of an Update the old row comes first, of several changes the first one.
	p = published("t where 1 / (k - 1) = 0 and k + 9223372036854775802 > 0")
	decodeFails(t, api.ErrZero, p, b, changes("update t: 1, 10, 'x' -> 6, 10, 'x'"))
	decodeFails(t, api.ErrOver, p, b, changes("insert t: 6, 1, 'z' | update t: 1, 10, 'x' -> 4, 10, 'x'"))
	decodeFails(t, api.ErrZero, p, b, changes("delete t: 1, 10, 'x' | insert t: 6, 1, 'z'"))
	p = published("t where 1; u (nobody)")
	decodeFails(t, api.ErrType, p, b, changes("insert t: 6, 1, 'z' | insert u: 1, 'z'"))
	decodeFails(t, api.ErrName, p, b, changes("insert u: 1, 'z' | insert t: 6, 1, 'z'"))
	// Rows that stay as they are are nobody's to ask of, nor those of a table that
	// is shown by no part.
	decodes(t, published("t (k) where 1 / (k - 1) < 1"), b, changes("delete t: 3, null, null"), "delete t: 3")
	decodes(t, published("t where 1"), b, changes("insert u: 1, 'z'"), "")
	decodes(t, published("v where 1"), b, changes("create v: v (a int) | drop v: v (a int)"), "create v: v (a int) | drop v: v (a int)")
}

func TestP1704ErrIdentity(t *testing.T) {
	b := some(t)
	hidden := []string{"t (a)", "t (c, a)", "t (a) where k > 1", "t (a) where false", "u; t (a)"}
	for _, in := range hidden {
		p := published(in)
		for _, s := range []string{"delete t: 2, 20, 'y'", "delete t: 1, 10, 'x'", "update t: 2, 20, 'y' -> 2, 21, 'y'", "update t: 1, 10, 'x' -> 1, 10, 'z'", "update t: 1, 10, 'x' -> 1, 10, 'x'", "insert t: 5, 50, null | delete t: 5, 50, null", "delete t: 2, 20, 'y' | insert t: 5, 50, 'z'", "insert u: 1, 'z' | delete t: 2, 20, 'y' | delete u: 1, 'z'"} {
			decodeFails(t, api.ErrIdentity, p, b, changes(s))
		}
		// Inserts may be, and whatever is of other tables.
		if _, e := decode.Decode(p, b, changes("insert t: 5, 50, 'z' | insert t: 6, 50, null | delete u: 1, 'q' | update u: 3, 'p' -> 3, 'q'")); e != api.OK {
			t.Errorf("%s: error %d", in, e)
		}
	}
	decodes(t, published("t (a)"), b, changes("insert t: 5, 50, 'z'"), "insert t: 50")
	// A key of two columns is shown whole, or not at all.
	b = based(t, "create table t (k int, a int, c text, primary key (c, k))", "insert into t values (1, 10, 'x')")
	for in, want := range map[string]Errno{"t (a)": api.ErrIdentity, "t (k)": api.ErrIdentity, "t (c)": api.ErrIdentity, "t (c, a)": api.ErrIdentity, "t (k, c)": api.OK, "t (c, a, k)": api.OK, "t": api.OK} {
		for _, s := range []string{"delete t: 1, 10, 'x'", "update t: 1, 10, 'x' -> 1, 11, 'x'"} {
			if _, e := decode.Decode(published(in), b, changes(s)); e != want {
				t.Errorf("%s, %s: error %d, not %d", in, s, e, want)
			}
		}
	}
}

// Tables that come and go, and have a key at times only.
func TestP1704ErrIdentityOfTablesAnew(t *testing.T) {
	p := published("t (a)")
	none := "create t: t (k int, a int) | insert t: 1, 2 | update t: 1, 2 -> 1, 3 | delete t: 1, 3 | drop t: t (k int, a int)"
	key := strings.ReplaceAll(none, "a int)", "a int, primary key (k))")
	shown := "create t: t (a int) | insert t: 2 | update t: 2 -> 3 | delete t: 3 | drop t: t (a int)"
	decodes(t, p, base.New(), changes(none), shown)
	decodes(t, p, base.New(), changes(none+" | "+none), shown+" | "+shown)
	for _, l := range []string{key, none + " | " + key, key + " | " + none} {
		decodeFails(t, api.ErrIdentity, p, base.New(), changes(l))
	}
	decodes(t, p, base.New(), changes("create t: t (k int, a int, primary key (k)) | drop t: t (k int, a int, primary key (k)) | "+none), "create t: t (a int) | drop t: t (a int) | "+shown)
}

// It comes last of all errors, of whichever change they are.
func TestP1704ErrIdentityLast(t *testing.T) {
	b := some(t)
	p := published("t (a) where 1 / (k - 1) < 5; u (nobody)")
	decodeFails(t, api.ErrZero, p, b, changes("delete t: 1, 10, 'x'"))
	decodeFails(t, api.ErrZero, p, b, changes("update t: 1, 10, 'x' -> 5, 10, 'x'"))
	decodeFails(t, api.ErrZero, p, b, changes("delete t: 2, 20, 'y' | delete t: 1, 10, 'x'"))
	decodeFails(t, api.ErrName, p, b, changes("delete t: 2, 20, 'y' | insert u: 1, 'z'"))
	decodeFails(t, api.ErrIdentity, p, b, changes("delete t: 2, 20, 'y'"))
	decodeFails(t, api.ErrNone, p, b, changes("delete t: 2, 20, 'y' | delete t: 2, 20, 'y'"))
	decodeFails(t, api.ErrName, published("t (nobody)"), b, changes("delete t: 2, 20, 'y'"))
}
