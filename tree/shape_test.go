package tree_test

import (
	"slices"
	"testing"

	"longstop/tree"
)

func isShape(t *testing.T, what string, x *tree.Tree, height, nodes, least, most int) {
	t.Helper()
	if a, b, c, d := x.Shape(); a != height || b != nodes || c != least || d != most {
		t.Fatalf("%s: %d, %d, %d, %d, not %d, %d, %d, %d", what, a, b, c, d, height, nodes, least, most)
	}
}

func TestP1303Empty(t *testing.T) {
	isShape(t, "new", tree.New(), 0, 0, 0, 0)
	x, _ := made("a")
	x.Delete("a")
	isShape(t, "emptied", x, 0, 0, 0, 0)
}

// Up to 7 keys stand in a root alone, whose least is its own.
func TestP1303TheRootAlone(t *testing.T) {
	for name, keys := range orders(7) {
		x, l := tree.New(), told{}
		for i, k := range keys {
			put(t, x, l, k, i)
			isShape(t, name, x, 1, 1, i+1, i+1)
		}
		for _, k := range keys {
			put(t, x, l, k, 7)
			isShape(t, name, x, 1, 1, 7, 7)
		}
		for i, k := range mixed(7) {
			remove(t, x, l, k)
			if i < 6 {
				isShape(t, name, x, 1, 1, 6-i, 6-i)
			}
		}
		isShape(t, name, x, 0, 0, 0, 0)
	}
}

// The eighth key parts the root, wherever it stands: one key above two leaves,
// one of which must have four.
func TestP1303TheEighthKey(t *testing.T) {
	for eighth := range 8 {
		keys := rising(8)
		keys = append(slices.Delete(slices.Clone(keys), eighth, eighth+1), keys[eighth])
		x, l := made(keys...)
		isShape(t, "eight", x, 2, 3, 3, 4)
		holds(t, x, l)
		put(t, x, l, keys[7], 9)
		isShape(t, "eight", x, 2, 3, 3, 4)
		// Seven may stand as three nodes or as one; six must be one.
		remove(t, x, l, key(7))
		remove(t, x, l, key(0))
		isShape(t, "six", x, 1, 1, 6, 6)
		holds(t, x, l)
	}
}

// A node below the root has up to 7 keys, too: the eighth parts a leaf.
func TestP1303ALeafOfSeven(t *testing.T) {
	for leaf, end := range map[int]string{1: " ", 2: "9"} {
		x, l := made(rising(8)...)
		sizes := sizesOf(x)
		for sizes[leaf] < 7 {
			sizes[leaf]++
			put(t, x, l, end+key(sizes[leaf]), 1)
			isShape(t, "it grows", x, 2, 3, min(sizes[1], sizes[2]), max(sizes[1], sizes[2]))
		}
		put(t, x, l, end+key(5)+end, 1)
		isShape(t, "eight", x, 2, 4, 3, 4)
		holds(t, x, l)
	}
}

// fiveAndThree gives two leaves below a root, that one with five keys and the
// other one with three.
func fiveAndThree(t *testing.T, five int) (*tree.Tree, told) {
	t.Helper()
	x, l := made(rising(8)...)
	for i := 0; len(keysOf(x)[five]) < 5; i++ {
		put(t, x, l, []string{1: " ", 2: "9"}[five]+key(i), i)
	}
	for len(keysOf(x)[3-five]) > 3 {
		remove(t, x, l, keysOf(x)[3-five][0])
	}
	if sizes := sizesOf(x); len(sizes) != 3 || sizes[five] != 5 || sizes[3-five] != 3 {
		t.Fatal(sizes)
	}
	return x, l
}

// Five keys, the one above and two do not fit into one node: so the leaf that
// loses one of its three gets another one from its neighbour, by way of the root.
func TestP1304AKeyOfTheNeighbour(t *testing.T) {
	for five := 1; five <= 2; five++ {
		for gone := range 3 {
			x, l := fiveAndThree(t, five)
			before := keysOf(x)
			remove(t, x, l, before[3-five][gone])
			isShape(t, "moved", x, 2, 3, 3, 4)
			holds(t, x, l)
			after := keysOf(x)
			up, down := before[five][4], after[2][0]
			if five == 2 {
				up, down = before[five][0], after[1][2]
			}
			if after[0][0] != up || down != before[0][0] {
				t.Errorf("%v, behind %v", after, before)
			}
		}
	}
}

// Two leaves of three, one of which loses a key: with the key above they are one
// node; if the root had that key alone, they are the root.
func TestP1304TwoNodesBecomeOne(t *testing.T) {
	for gone := range 7 {
		x, l := made(rising(8)...)
		for _, k := range keysOf(x)[1:] {
			if len(k) == 4 {
				remove(t, x, l, k[0])
			}
		}
		isShape(t, "three", x, 2, 3, 3, 3)
		remove(t, x, l, slices.Concat(keysOf(x)...)[gone])
		isShape(t, "one", x, 1, 1, 6, 6)
		holds(t, x, l)
	}
	// The root has two keys here, so it stays: the first, the middle and the last
	// leaf lose one.
	for leaf := 1; leaf <= 3; leaf++ {
		x, l := threeLeaves(t)
		remove(t, x, l, keysOf(x)[leaf][1])
		isShape(t, "two", x, 2, 3, 3, 6)
		holds(t, x, l)
	}
}

// threeLeaves gives a root of two keys above three leaves of three each.
func threeLeaves(t *testing.T) (*tree.Tree, told) {
	t.Helper()
	x, l := made(rising(14)...)
	for again := true; again; {
		again = false
		for _, k := range keysOf(x)[1:] {
			if len(k) > 3 {
				remove(t, x, l, k[0])
				again = true
				break
			}
		}
	}
	if sizes := sizesOf(x); !slices.Equal(sizes, []int{2, 3, 3, 3}) {
		t.Fatal(sizes)
	}
	return x, l
}

// Keys are put until a way has four nodes, and taken away until none is left;
// Shape is held against the nodes behind each.
func TestP1304LongRows(t *testing.T) {
	const n = 700
	for in, keys := range orders(n) {
		for out, gone := range orders(n) {
			x, l := tree.New(), told{}
			highest := 0
			for i, k := range keys {
				put(t, x, l, k, i)
				height, _, _, _ := x.Shape()
				if height < highest {
					t.Fatalf("%s: height %d behind %d", in, height, highest)
				}
				highest = height
			}
			if highest < 4 {
				t.Fatalf("%s: height %d", in, highest)
			}
			holds(t, x, l)
			for i, k := range gone {
				remove(t, x, l, k)
				looks(t, x, l, k)
				if i%50 == 0 {
					holds(t, x, l)
				}
			}
			isEmpty(t, in+", "+out, x)
		}
	}
}

// Each key is taken away for itself, at all depths, out of trees of each height.
func TestP1304EachKeyAlone(t *testing.T) {
	places := map[[2]int]int{}
	for _, n := range []int{1, 2, 6, 7, 8, 9, 10, 15, 16, 23, 31, 40, 63, 100, 180, 600} {
		for _, keys := range [][]string{rising(n), falling(n), mixed(n)} {
			x, _ := made(keys...)
			for _, node := range tree.Nodes(x) {
				height, _, _, _ := x.Shape()
				for _, k := range node.Keys {
					y, l := made(keys...)
					remove(t, y, l, k)
					if n < 100 || l[key(0)]%50 == 0 {
						holds(t, y, l)
					}
					looks(t, y, l, k)
					places[[2]int{height, node.Depth}]++
				}
			}
		}
	}
	for _, p := range [][2]int{{1, 1}, {2, 1}, {2, 2}, {3, 1}, {3, 2}, {3, 3}, {4, 1}, {4, 2}, {4, 3}, {4, 4}} {
		if places[p] == 0 {
			t.Errorf("height %d: no key at depth %d", p[0], p[1])
		}
	}
}

// The root's keys, or those of a middle node, are taken away again and again.
func TestP1304KeysOfOneDepth(t *testing.T) {
	for depth := 1; depth <= 4; depth++ {
		for _, keys := range orders(700) {
			x, l := made(keys...)
			for i := 0; len(l) > 0; i++ {
				var here []string
				for _, node := range tree.Nodes(x) {
					if node.Depth == depth {
						here = append(here, node.Keys...)
					}
				}
				if len(here) == 0 {
					here = tree.Nodes(x)[0].Keys
				}
				k := here[i*7%len(here)]
				remove(t, x, l, k)
				looks(t, x, l, k)
			}
			isEmpty(t, "emptied", x)
		}
	}
}

// The fewest keys that a tree of a height may have: all nodes have as few keys
// as they may. One less, and the height is less.
func TestP1304TheFewestKeys(t *testing.T) {
	for height, fewest := range map[int]int{2: 7, 3: 31, 4: 127} {
		x, l := made(mixed(700)...)
		for {
			if h, _, _, _ := x.Shape(); h < height || len(l) < fewest {
				break
			}
			remove(t, x, l, fullest(x))
		}
		if h, _, _, _ := x.Shape(); h >= height {
			t.Errorf("%d keys: height %d", len(l), h)
		}
		holds(t, x, l)
	}
}

// fullest gives the first key of the leaf that has most.
func fullest(x *tree.Tree) string {
	var found []string
	for _, n := range tree.Nodes(x) {
		if n.Leaf && len(n.Keys) > len(found) {
			found = n.Keys
		}
	}
	return found[0]
}
