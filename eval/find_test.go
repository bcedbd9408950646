package eval_test

import (
	"math/rand"
	"strings"
	"testing"

	"longstop/api"
	"longstop/eval"
)

// found complains unless Find answers that place, or that error.
func found(t *testing.T, s Scope, table, name string, place int, want api.Errno) {
	t.Helper()
	if got, e := eval.Find(s, table, name); got != place || e != want {
		t.Fatalf("Find of %q %q in %s: %d, %d, not %d, %d", table, name, short(s), got, e, place, want)
	}
}

func TestP703Find(t *testing.T) {
	s := columns("t.a", "t.b", "u.a", "c", "u.d")
	found(t, s, "t", "a", 0, api.OK)
	found(t, s, "t", "b", 1, api.OK)
	found(t, s, "u", "a", 2, api.OK)
	found(t, s, "", "b", 1, api.OK)
	found(t, s, "", "c", 3, api.OK)
	found(t, s, "", "d", 4, api.OK)
	found(t, s, "u", "d", 4, api.OK)
}

func TestP703NoColumn(t *testing.T) {
	s := columns("t.a", "t.b", "u.a", "c")
	for _, w := range [][2]string{{"", "z"}, {"t", "z"}, {"z", "a"}, {"u", "b"}, {"t", "c"}, {"", ""}, {"t", ""}, {"a", "t"}, {"", "t"}, {"", "t.a"}, {"T", "a"}, {"t", "A"}, {"t ", "a"}, {"", "bb"}, {"tt", "b"}} {
		found(t, s, w[0], w[1], 0, api.ErrName)
	}
	found(t, Scope{}, "", "a", 0, api.ErrName)
	found(t, Scope{}, "", "", 0, api.ErrName)
	found(t, Scope{Tables: []string{}, Names: []string{}}, "t", "a", 0, api.ErrName)
}

// A name that two tables have, or that one has twice.
func TestP703MoreThanOneColumn(t *testing.T) {
	s := columns("t.a", "u.a", "a", "t.b", "t.b", "c", "c", "c")
	found(t, s, "", "a", 0, api.ErrName)
	found(t, s, "t", "a", 0, api.OK)
	found(t, s, "u", "a", 1, api.OK)
	found(t, s, "t", "b", 0, api.ErrName)
	found(t, s, "", "b", 0, api.ErrName)
	found(t, s, "", "c", 0, api.ErrName)
	// A table that is not named is any; so is one that a column has not.
	found(t, columns("a", "t.b"), "", "a", 0, api.OK)
	found(t, columns("b", "t.a"), "", "a", 1, api.OK)
	found(t, columns("a", "t.a"), "t", "a", 1, api.OK)
	found(t, columns("a", "t.a"), "", "a", 0, api.ErrName)
}

// Names are any texts to Find.
func TestP703NamesThatAreNoWords(t *testing.T) {
	long := strings.Repeat("n", 1<<16)
	s := Scope{Tables: []string{"", "select", "\xff", long}, Names: []string{"", "from", "\x00", long}}
	for i := range s.Names {
		found(t, s, s.Tables[i], s.Names[i], i, api.OK)
		found(t, s, "", s.Names[i], i, api.OK)
	}
	found(t, s, "select", "", 0, api.ErrName)
}

// Lists of unlike length are told ahead of names that there are not.
func TestP703ListsOfUnlikeLength(t *testing.T) {
	for _, s := range []Scope{
		{Tables: []string{"t"}}, {Names: []string{"a"}}, {Tables: []string{"t", "u"}, Names: []string{"a"}}, {Tables: []string{"t"}, Names: []string{"a", "b"}},
		{Tables: []string{"t", "t"}, Names: []string{"a", "a", "a"}}, {Tables: []string{}, Names: []string{""}},
	} {
		for _, w := range [][2]string{{"", "a"}, {"t", "a"}, {"", "z"}, {"", ""}, {"t", "b"}} {
			found(t, s, w[0], w[1], 0, api.ErrArg)
		}
	}
}

func TestP703FindAsTold(t *testing.T) {
	r := rand.New(rand.NewSource(73))
	letters := []string{"", "a", "b", "c"}
	for range 100000 {
		s := Scope{}
		for range r.Intn(6) {
			s.Tables, s.Names = append(s.Tables, pick(r, letters...)), append(s.Names, pick(r, letters...))
		}
		table, name := pick(r, letters...), pick(r, letters...)
		if l := places(s, table, name); len(l) == 1 {
			found(t, s, table, name, l[0], api.OK)
		} else {
			found(t, s, table, name, 0, api.ErrName)
		}
	}
}

func TestP703ManyColumns(t *testing.T) {
	s := Scope{Tables: make([]string, 100000), Names: make([]string, 100000)}
	s.Names[99999] = "a"
	found(t, s, "", "a", 99999, api.OK)
	found(t, s, "", "", 0, api.ErrName)
	found(t, s, "", "b", 0, api.ErrName)
}
