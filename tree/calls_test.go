package tree_test

import (
	"slices"
	"strings"
	"testing"

	"longstop/tree"
)

func TestP1302Example(t *testing.T) {
	x := tree.New()
	if n, was := x.Put("b", 1); n != 0 || was {
		t.Error(n, was)
	}
	if n, was := x.Put("a", 2); n != 0 || was {
		t.Error(n, was)
	}
	if p, ok := x.Next(""); p != (tree.Pair{Key: "a", N: 2}) || !ok {
		t.Error(p, ok)
	}
}

func TestP1302Put(t *testing.T) {
	x := tree.New()
	for _, c := range []struct {
		key  string
		n    int
		was  int
		had  bool
		keys int
	}{
		{"k", 5, 0, false, 1},
		{"k", 5, 5, true, 1},
		{"k", 6, 5, true, 1},
		{"k", 0, 6, true, 1},
		{"k", 0, 0, true, 1},
		{"k", -1, 0, true, 1},
		{"k", great, -1, true, 1},
		{"k", least, great, true, 1},
		{"j", least, 0, false, 2},
		{"k", 7, least, true, 2},
		{"l", 0, 0, false, 3},
		{"j", great, least, true, 3},
		{"l", 1, 0, true, 3},
		{"", -7, 0, false, 4},
		{"", 7, -7, true, 4},
	} {
		n, had := x.Put(c.key, c.n)
		if n != c.was || had != c.had {
			t.Errorf("Put of %q, %d: %d, %v, not %d, %v", c.key, c.n, n, had, c.was, c.had)
		}
		if m, ok := x.Get(c.key); m != c.n || !ok {
			t.Errorf("Get of %q: %d, %v, not %d", c.key, m, ok, c.n)
		}
		if x.Len() != c.keys {
			t.Errorf("Len: %d, not %d", x.Len(), c.keys)
		}
	}
	holds(t, x, told{"": 7, "j": great, "k": 7, "l": 1})
}

// A Put of a key that is there changes no node, also in a tree that is full.
func TestP1302PutOfAKeyThatIsThere(t *testing.T) {
	for _, n := range []int{1, 7, 8, 30, 200, 700} {
		for name, keys := range orders(n) {
			x, l := made(keys...)
			before := keysOf(x)
			for i, k := range keys {
				put(t, x, l, k, l[k])
				put(t, x, l, k, i+great-n)
				put(t, x, l, k, least+i)
			}
			holds(t, x, l)
			if !slices.EqualFunc(before, keysOf(x), slices.Equal) {
				t.Errorf("%d keys, %s: other nodes", n, name)
			}
		}
	}
}

func TestP1302Delete(t *testing.T) {
	x, l := made()
	for i, k := range []string{"b", "d", "f", "h"} {
		put(t, x, l, k, []int{0, least, great, -1}[i])
	}
	for _, c := range []struct {
		key  string
		was  int
		had  bool
		keys int
	}{
		{"", 0, false, 4}, {"a", 0, false, 4}, {"c", 0, false, 4}, {"i", 0, false, 4}, {"\xff", 0, false, 4},
		{"b", 0, true, 3}, {"b", 0, false, 3},
		{"f", great, true, 2}, {"f", 0, false, 2},
		{"h", -1, true, 1}, {"d\x00", 0, false, 1},
		{"d", least, true, 0}, {"d", 0, false, 0}, {"", 0, false, 0},
	} {
		n, had := x.Delete(c.key)
		if n != c.was || had != c.had || x.Len() != c.keys {
			t.Errorf("Delete of %q: %d, %v, Len %d, not %d, %v, %d", c.key, n, had, x.Len(), c.was, c.had, c.keys)
		}
		if m, ok := x.Get(c.key); m != 0 || ok {
			t.Errorf("Get of %q: %d, %v", c.key, m, ok)
		}
	}
	holds(t, x, told{})
}

// A Delete of a key that is not there changes no node.
func TestP1302DeleteOfNone(t *testing.T) {
	for _, n := range []int{0, 1, 7, 8, 30, 200} {
		for name, keys := range orders(n) {
			x, l := made(keys...)
			before := keysOf(x)
			for _, k := range append(keys, "", "0", "99999", "\xff") {
				for _, gone := range []string{k + "\x00", k + "5", strings.TrimRight(k, "0123456789") + "x"} {
					remove(t, x, l, gone)
				}
			}
			holds(t, x, l)
			if !slices.EqualFunc(before, keysOf(x), slices.Equal) {
				t.Errorf("%d keys, %s: other nodes", n, name)
			}
		}
	}
}

func TestP1302Looks(t *testing.T) {
	x, l := made()
	for i, k := range []string{"b", "d", "f"} {
		put(t, x, l, k, i-1)
	}
	for _, c := range []struct {
		key        string
		n          int
		there      bool
		next, back tree.Pair
		up, down   bool
	}{
		{"", 0, false, tree.Pair{Key: "b", N: -1}, tree.Pair{}, true, false},
		{"a", 0, false, tree.Pair{Key: "b", N: -1}, tree.Pair{}, true, false},
		{"b", -1, true, tree.Pair{Key: "d"}, tree.Pair{}, true, false},
		{"b\x00", 0, false, tree.Pair{Key: "d"}, tree.Pair{Key: "b", N: -1}, true, true},
		{"c", 0, false, tree.Pair{Key: "d"}, tree.Pair{Key: "b", N: -1}, true, true},
		{"d", 0, true, tree.Pair{Key: "f", N: 1}, tree.Pair{Key: "b", N: -1}, true, true},
		{"e", 0, false, tree.Pair{Key: "f", N: 1}, tree.Pair{Key: "d"}, true, true},
		{"f", 1, true, tree.Pair{}, tree.Pair{Key: "d"}, false, true},
		{"f\x00", 0, false, tree.Pair{}, tree.Pair{Key: "f", N: 1}, false, true},
		{"\xff", 0, false, tree.Pair{}, tree.Pair{Key: "f", N: 1}, false, true},
	} {
		if n, ok := x.Get(c.key); n != c.n || ok != c.there {
			t.Errorf("Get of %q: %d, %v", c.key, n, ok)
		}
		if p, ok := x.Next(c.key); p != c.next || ok != c.up {
			t.Errorf("Next of %q: %v, %v", c.key, p, ok)
		}
		if p, ok := x.Back(c.key); p != c.back || ok != c.down {
			t.Errorf("Back of %q: %v, %v", c.key, p, ok)
		}
		looks(t, x, l, c.key)
	}
}

// All calls of a tree without keys, be it new or emptied again.
func isEmpty(t *testing.T, what string, x *tree.Tree) {
	t.Helper()
	for _, k := range []string{"", "\x00", "a", key(0), key(3), "\xff", strings.Repeat("z", 1000)} {
		if n, ok := x.Get(k); n != 0 || ok {
			t.Errorf("%s: Get of %q: %d, %v", what, k, n, ok)
		}
		if n, ok := x.Delete(k); n != 0 || ok {
			t.Errorf("%s: Delete of %q: %d, %v", what, k, n, ok)
		}
		if p, ok := x.Next(k); p != (tree.Pair{}) || ok {
			t.Errorf("%s: Next of %q: %v, %v", what, k, p, ok)
		}
		if p, ok := x.Back(k); p != (tree.Pair{}) || ok {
			t.Errorf("%s: Back of %q: %v, %v", what, k, p, ok)
		}
	}
	if l := x.All(); len(l) != 0 || x.Len() != 0 {
		t.Errorf("%s: %v, %d", what, l, x.Len())
	}
	if a, b, c, d := x.Shape(); a != 0 || b != 0 || c != 0 || d != 0 {
		t.Errorf("%s: Shape: %d, %d, %d, %d", what, a, b, c, d)
	}
}

func TestP1302Empty(t *testing.T) {
	isEmpty(t, "new", tree.New())
	for _, n := range []int{1, 2, 7, 8, 9, 40, 700} {
		x, l := made(mixed(n)...)
		// The same tree, three times.
		for range 3 {
			for _, k := range rising(n) {
				remove(t, x, l, k)
			}
			isEmpty(t, "emptied", x)
			for i, k := range falling(n) {
				put(t, x, l, k, i)
			}
			holds(t, x, l)
		}
	}
}

func oddKeys() []string {
	long := strings.Repeat("long", 1<<18)
	return []string{
		"", "\x00", "\x00\x00", "\x00\x00\x00", "\x00a", "\x01", " ", "A", "Z", "a", "a\x00", "a\x00\x00", "a\x00b",
		"a\x01", "aa", "aaa", "aaaa", "aaab", "ab", "b", "ba", "z", "\x7f", "\x80", "\xc3", "é", "\xc3\xff", "日", "\xfe",
		"\xff", "\xff\x00", "\xff\xfe", "\xff\xff", "\xff\xff\xff", "1", "10", "2", "-1", long, long[1:], long + "\x00",
		long + "a", long + "b", long[:1<<20-1], long + long, "longest", "lon",
	}
}

// Keys are held against each other byte by byte, whatever stands in them.
func TestP1302OddKeys(t *testing.T) {
	keys := oddKeys()
	sorted := slices.SortedFunc(slices.Values(keys), strings.Compare)
	for _, order := range [][]string{keys, sorted, slices.Concat(sorted[20:], sorted[:20])} {
		x, l := tree.New(), told{}
		for i, k := range order {
			put(t, x, l, k, i-20)
			looks(t, x, l, k)
		}
		holds(t, x, l)
		for i, k := range sorted {
			looks(t, x, l, k)
			looks(t, x, l, k+"\x00")
			if p, ok := x.Next(k); ok != (i+1 < len(sorted)) || ok && p.Key != sorted[i+1] {
				t.Errorf("Next of %s: %s", short(k), short(p))
			}
			if p, ok := x.Back(k); ok != (i > 0) || ok && p.Key != sorted[i-1] {
				t.Errorf("Back of %s: %s", short(k), short(p))
			}
		}
		for _, k := range order {
			remove(t, x, l, k+"\x00\x00\x00\x00")
			remove(t, x, l, k)
			looks(t, x, l, k)
		}
		isEmpty(t, "emptied", x)
	}
}

func TestP1302TheKeyWithoutBytes(t *testing.T) {
	x, l := made("")
	if p, ok := x.Next(""); ok || p != (tree.Pair{}) {
		t.Error(p, ok)
	}
	put(t, x, l, "", 3)
	put(t, x, l, "\x00", 4)
	if p, ok := x.Next(""); !ok || p != (tree.Pair{Key: "\x00", N: 4}) {
		t.Error(p, ok)
	}
	if p, ok := x.Back("\x00"); !ok || p != (tree.Pair{N: 3}) {
		t.Error(p, ok)
	}
	if p, ok := x.Back(""); ok || p != (tree.Pair{}) {
		t.Error(p, ok)
	}
	for _, k := range mixed(200) {
		put(t, x, l, k, 1)
		looks(t, x, l, "")
	}
	remove(t, x, l, "")
	looks(t, x, l, "")
	holds(t, x, l)
}

// A tree in which a way has four nodes: each key, and each gap between two, also
// where what is asked for stands in a node above, or at an end of a leaf.
func TestP1302LooksAtEachPlace(t *testing.T) {
	const n = 900
	for name, keys := range orders(n) {
		x, l := made(keys...)
		if height, _, _, _ := x.Shape(); height < 4 {
			t.Fatalf("%s: height %d", name, height)
		}
		all := x.All()
		if !slices.Equal(all, l.all()) {
			t.Fatal(name)
		}
		for i, p := range all {
			next, ok := x.Next(p.Key)
			if ok != (i+1 < n) || ok && next != all[i+1] || !ok && next != (tree.Pair{}) {
				t.Errorf("%s: Next of %q: %v, %v", name, p.Key, next, ok)
			}
			gap, had := x.Next(p.Key + "\x00")
			if gap != next || had != ok {
				t.Errorf("%s: Next behind %q: %v, %v", name, p.Key, gap, had)
			}
			if back, ok := x.Back(p.Key + "\x00"); back != p || !ok {
				t.Errorf("%s: Back from behind %q: %v, %v", name, p.Key, back, ok)
			}
			back, ok := x.Back(p.Key)
			if ok != (i > 0) || ok && back != all[i-1] || !ok && back != (tree.Pair{}) {
				t.Errorf("%s: Back of %q: %v, %v", name, p.Key, back, ok)
			}
			if m, ok := x.Get(p.Key); m != p.N || !ok {
				t.Errorf("%s: Get of %q: %d, %v", name, p.Key, m, ok)
			}
			if m, ok := x.Get(p.Key + "\x00"); m != 0 || ok {
				t.Errorf("%s: Get behind %q: %d, %v", name, p.Key, m, ok)
			}
		}
		endsOfLeaves(t, x)
	}
}

// endsOfLeaves: behind a leaf's last key, and ahead of its first one, stands a
// key of a node above.
func endsOfLeaves(t *testing.T, x *tree.Tree) {
	t.Helper()
	above := map[string]int{}
	for _, n := range tree.Nodes(x) {
		for _, k := range n.Keys {
			above[k] = n.Depth
		}
	}
	steps := map[int]int{}
	for _, n := range tree.Nodes(x) {
		if !n.Leaf {
			continue
		}
		if p, ok := x.Next(n.Keys[len(n.Keys)-1]); ok {
			steps[n.Depth-above[p.Key]]++
		}
		if p, ok := x.Back(n.Keys[0]); ok {
			steps[n.Depth-above[p.Key]]++
		}
	}
	if steps[0] > 0 || steps[1] == 0 || steps[2] == 0 || steps[3] == 0 {
		t.Errorf("levels above a leaf: %v", steps)
	}
}

func TestP1302AllAndLenBehindEach(t *testing.T) {
	for _, keys := range orders(150) {
		x, l := tree.New(), told{}
		for i, k := range keys {
			put(t, x, l, k, -i)
			holds(t, x, l)
			looks(t, x, l, k)
			holds(t, x, l)
			put(t, x, l, k, i)
			holds(t, x, l)
		}
		for i, k := range mixed(150) {
			remove(t, x, l, k)
			holds(t, x, l)
			looks(t, x, l, k)
			remove(t, x, l, k)
			holds(t, x, l)
			if i%3 == 0 {
				put(t, x, l, k, least)
				holds(t, x, l)
				remove(t, x, l, k)
			}
		}
		isEmpty(t, "emptied", x)
	}
}
