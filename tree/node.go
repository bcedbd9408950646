package tree

import (
	"cmp"
	"slices"
)

// entry is a key with its value.
type entry[K cmp.Ordered, V any] struct {
	key   K
	value V
}

// node has entries, rising by their keys, and, if it is no leaf, one child more:
// what stands in a child is below the entry at its place, and above the one
// ahead of that. A nil node is one without entries.
type node[K cmp.Ordered, V any] struct {
	entries  []entry[K, V]
	children []*node[K, V]
}

func (n *node[K, V]) isLeaf() bool { return len(n.children) == 0 }

// child gives the child at that place, nil of a leaf.
func (n *node[K, V]) child(i int) *node[K, V] {
	if n.isLeaf() {
		return nil
	}
	return n.children[i]
}

// find gives the place of the first entry that is not below key, and whether
// its key is that one.
func (n *node[K, V]) find(key K) (int, bool) {
	return slices.BinarySearchFunc(n.entries, key, func(e entry[K, V], key K) int {
		return cmp.Compare(e.key, key)
	})
}

// get gives the key's value, if n or a node below it has it.
func (n *node[K, V]) get(key K) (value V, ok bool) {
	for n != nil {
		i, there := n.find(key)
		if there {
			return n.entries[i].value, true
		}
		n = n.child(i)
	}
	return value, false
}

// next gives the least entry above key: of those on the way down, the deepest.
func (n *node[K, V]) next(key K) (found entry[K, V], ok bool) {
	for n != nil {
		i, there := n.find(key)
		if there {
			i++
		}
		if i < len(n.entries) {
			found, ok = n.entries[i], true
		}
		n = n.child(i)
	}
	return found, ok
}

// back gives the greatest entry below key: of those on the way down, the deepest.
func (n *node[K, V]) back(key K) (found entry[K, V], ok bool) {
	for n != nil {
		i, _ := n.find(key)
		if i > 0 {
			found, ok = n.entries[i-1], true
		}
		n = n.child(i)
	}
	return found, ok
}

// gather puts the entries of n and of the nodes below it behind l, rising.
func (n *node[K, V]) gather(l []entry[K, V]) []entry[K, V] {
	if n == nil {
		return l
	}
	for i, e := range n.entries {
		l = append(n.child(i).gather(l), e)
	}
	return n.child(len(n.entries)).gather(l)
}

// height gives how many nodes a way from n to a leaf has: all have as many.
func (n *node[K, V]) height() int {
	h := 0
	for ; n != nil; n = n.child(0) {
		h++
	}
	return h
}

// sizes puts behind l how many entries n has, and each node below it.
func (n *node[K, V]) sizes(l []int) []int {
	l = append(l, len(n.entries))
	for _, c := range n.children {
		l = c.sizes(l)
	}
	return l
}
