package tree_test

import (
	"fmt"
	"math"
	"math/rand"
	"slices"
	"strings"
	"testing"

	"longstop/tree"
)

const (
	least = math.MinInt
	great = math.MaxInt
)

// told is a second teller of the chapter: keys in no order, gone through whole
// for each answer.
type told map[string]int

func (l told) put(key string, n int) (int, bool) {
	was, ok := l[key]
	l[key] = n
	return was, ok
}

func (l told) remove(key string) (int, bool) {
	was, ok := l[key]
	delete(l, key)
	return was, ok
}

func (l told) next(key string) (tree.Pair, bool) {
	found, ok := tree.Pair{}, false
	for k, n := range l {
		if strings.Compare(k, key) > 0 && (!ok || k < found.Key) {
			found, ok = tree.Pair{Key: k, N: n}, true
		}
	}
	return found, ok
}

func (l told) back(key string) (tree.Pair, bool) {
	found, ok := tree.Pair{}, false
	for k, n := range l {
		if strings.Compare(k, key) < 0 && (!ok || k > found.Key) {
			found, ok = tree.Pair{Key: k, N: n}, true
		}
	}
	return found, ok
}

func (l told) all() []tree.Pair {
	var out []tree.Pair
	for k, n := range l {
		out = append(out, tree.Pair{Key: k, N: n})
	}
	slices.SortFunc(out, func(a, b tree.Pair) int { return strings.Compare(a.Key, b.Key) })
	return out
}

// short tells x in a line that can be read.
func short(x any) string {
	s := fmt.Sprintf("%+q", x)
	return s[:min(len(s), 200)]
}

func put(t *testing.T, x *tree.Tree, l told, key string, n int) {
	t.Helper()
	was, ok := x.Put(key, n)
	if m, had := l.put(key, n); was != m || ok != had {
		t.Fatalf("Put of %s: %d, %v, not %d, %v", short(key), was, ok, m, had)
	}
	sound(t, x, l)
}

func remove(t *testing.T, x *tree.Tree, l told, key string) {
	t.Helper()
	was, ok := x.Delete(key)
	if m, had := l.remove(key); was != m || ok != had {
		t.Fatalf("Delete of %s: %d, %v, not %d, %v", short(key), was, ok, m, had)
	}
	sound(t, x, l)
}

// looks holds Get, Next and Back of a key against the teller.
func looks(t *testing.T, x *tree.Tree, l told, key string) {
	t.Helper()
	n, ok := x.Get(key)
	if m, had := l[key]; n != m || ok != had {
		t.Fatalf("Get of %s: %d, %v, not %d, %v", short(key), n, ok, m, had)
	}
	p, ok := x.Next(key)
	if q, had := l.next(key); p != q || ok != had {
		t.Fatalf("Next of %s: %s, %v, not %s, %v", short(key), short(p), ok, short(q), had)
	}
	p, ok = x.Back(key)
	if q, had := l.back(key); p != q || ok != had {
		t.Fatalf("Back of %s: %s, %v, not %s, %v", short(key), short(p), ok, short(q), had)
	}
}

// holds complains unless x has just what l has.
func holds(t *testing.T, x *tree.Tree, l told) {
	t.Helper()
	if got, want := x.All(), l.all(); !slices.Equal(got, want) {
		t.Fatalf("All: %s, not %s", short(got), short(want))
	}
	sound(t, x, l)
}

// sound complains unless the nodes of x are what the chapter's words say, and
// Len and Shape tell of them.
func sound(t *testing.T, x *tree.Tree, l told) {
	t.Helper()
	if bad := tree.Wrong(x); bad != "" {
		t.Fatalf("%d keys: %s", len(l), bad)
	}
	if x.Len() != len(l) {
		t.Fatalf("Len: %d, not %d", x.Len(), len(l))
	}
	shaped(t, x)
}

// shaped holds Shape against the nodes one by one, and against P1304.
func shaped(t *testing.T, x *tree.Tree) {
	t.Helper()
	l := tree.Nodes(x)
	depth, few, many, keys := 0, 0, 0, 0
	for i, n := range l {
		depth = max(depth, n.Depth)
		many = max(many, len(n.Keys))
		keys += len(n.Keys)
		if i < 2 || len(n.Keys) < few {
			few = len(n.Keys)
		}
	}
	height, nodes, fewest, most := x.Shape()
	if height != depth || nodes != len(l) || fewest != few || most != many {
		t.Fatalf("Shape: %d, %d, %d, %d, not %d, %d, %d, %d", height, nodes, fewest, most, depth, len(l), few, many)
	}
	if height > 0 && 2*int(math.Pow(4, float64(height-1)))-1 > keys {
		t.Fatalf("%d keys: height %d", keys, height)
	}
	if keys != x.Len() || most > 7 || nodes > 1 && fewest < 3 {
		t.Fatalf("%d keys, Len %d, nodes with %d to %d", keys, x.Len(), fewest, most)
	}
}

// key gives texts that rise as their numbers do.
func key(i int) string { return fmt.Sprintf("%05d", i) }

func rising(n int) []string {
	var l []string
	for i := range n {
		l = append(l, key(i))
	}
	return l
}

func falling(n int) []string {
	l := rising(n)
	slices.Reverse(l)
	return l
}

func mixed(n int) []string {
	l := rising(n)
	r := rand.New(rand.NewSource(int64(n)))
	r.Shuffle(n, func(i, j int) { l[i], l[j] = l[j], l[i] })
	return l
}

// fromTheEnds takes the first, the last, the second, the last but one, ...
func fromTheEnds(n int) []string {
	l := rising(n)
	var out []string
	for len(l) > 1 {
		out = append(out, l[0], l[len(l)-1])
		l = l[1 : len(l)-1]
	}
	return append(out, l...)
}

// orders: of n keys.
func orders(n int) map[string][]string {
	return map[string][]string{"rising": rising(n), "falling": falling(n), "mixed": mixed(n), "from the ends": fromTheEnds(n)}
}

// made gives a tree with these keys, put in this order, with numbers of both
// signs, and what it has.
func made(keys ...string) (*tree.Tree, told) {
	x, l := tree.New(), told{}
	for i, k := range keys {
		x.Put(k, i-len(keys)/2)
		l.put(k, i-len(keys)/2)
	}
	return x, l
}

// keysOf gives the keys of each node, the root's first.
func keysOf(x *tree.Tree) [][]string {
	var l [][]string
	for _, n := range tree.Nodes(x) {
		l = append(l, n.Keys)
	}
	return l
}

// sizesOf gives how many keys each node has, the root first.
func sizesOf(x *tree.Tree) []int {
	var l []int
	for _, k := range keysOf(x) {
		l = append(l, len(k))
	}
	return l
}
