package tree

import (
	"cmp"
	"slices"
)

// How many entries a node has, the root at least one.
const (
	leastEntries = 3
	mostEntries  = 7
)

// balanced is a root with all nodes below it, all leaves as deep. Without
// entries there is no root.
type balanced[K cmp.Ordered, V any] struct {
	root  *node[K, V]
	count int
}

// put gives the key that value, and answers the one that it had.
func (b *balanced[K, V]) put(key K, value V) (was V, there bool) {
	if b.root == nil {
		b.root = &node[K, V]{}
	}
	was, there = b.root.put(key, value)
	if len(b.root.entries) > mostEntries {
		b.root = &node[K, V]{children: []*node[K, V]{b.root}}
		b.root.part(0)
	}
	if !there {
		b.count++
	}
	return was, there
}

// remove takes the key away, and answers the value that it had.
func (b *balanced[K, V]) remove(key K) (was V, there bool) {
	was, there = b.root.remove(key)
	if !there {
		return was, false
	}
	b.count--
	if len(b.root.entries) == 0 {
		b.root = b.root.child(0)
	}
	return was, true
}

// put may leave n with an entry too many: the node above it parts it then.
func (n *node[K, V]) put(key K, value V) (was V, there bool) {
	i, there := n.find(key)
	switch {
	case there:
		was = n.entries[i].value
		n.entries[i].value = value
	case n.isLeaf():
		n.entries = slices.Insert(n.entries, i, entry[K, V]{key, value})
	default:
		was, there = n.children[i].put(key, value)
		if len(n.children[i].entries) > mostEntries {
			n.part(i)
		}
	}
	return was, there
}

// part makes two nodes of the child at that place; its middle entry goes up
// between them.
func (n *node[K, V]) part(i int) {
	left := n.children[i]
	middle := len(left.entries) / 2
	right := &node[K, V]{entries: slices.Clone(left.entries[middle+1:])}
	if !left.isLeaf() {
		right.children = slices.Clone(left.children[middle+1:])
		left.children = slices.Delete(left.children, middle+1, len(left.children))
	}
	n.entries = slices.Insert(n.entries, i, left.entries[middle])
	n.children = slices.Insert(n.children, i+1, right)
	left.entries = slices.Delete(left.entries, middle, len(left.entries))
}

// remove may leave n with an entry too few: the node above it mends that then.
func (n *node[K, V]) remove(key K) (was V, there bool) {
	if n == nil {
		return was, false
	}
	i, there := n.find(key)
	if !there {
		was, there = n.child(i).remove(key)
		n.mend(i)
		return was, there
	}
	was = n.entries[i].value
	if n.isLeaf() {
		_, n.entries = without(n.entries, i)
		return was, true
	}
	n.entries[i] = n.children[i].removeLast()
	n.mend(i)
	return was, true
}

// removeLast takes the greatest entry away of n and the nodes below it.
func (n *node[K, V]) removeLast() entry[K, V] {
	last := len(n.entries)
	if n.isLeaf() {
		e, rest := without(n.entries, last-1)
		n.entries = rest
		return e
	}
	e := n.children[last].removeLast()
	n.mend(last)
	return e
}

// mend gives the child at that place an entry more, if it has too few: one of a
// neighbour that can spare it, or all of a neighbour.
func (n *node[K, V]) mend(i int) {
	if n.isLeaf() || len(n.children[i].entries) >= leastEntries {
		return
	}
	switch {
	case n.canSpare(i - 1):
		n.moveRight(i - 1)
	case n.canSpare(i + 1):
		n.moveLeft(i)
	case i > 0:
		n.join(i - 1)
	default:
		n.join(i)
	}
}

// canSpare tells whether there is a child at that place with an entry to spare.
func (n *node[K, V]) canSpare(i int) bool {
	return i >= 0 && i < len(n.children) && len(n.children[i].entries) > leastEntries
}

// moveRight moves the last entry of the child at that place up, and the entry
// that stood there down to the next child's beginning.
func (n *node[K, V]) moveRight(i int) {
	from, to := n.children[i], n.children[i+1]
	to.entries = slices.Insert(to.entries, 0, n.entries[i])
	n.entries[i], from.entries = without(from.entries, len(from.entries)-1)
	if !from.isLeaf() {
		c, rest := without(from.children, len(from.children)-1)
		to.children, from.children = slices.Insert(to.children, 0, c), rest
	}
}

// moveLeft moves the first entry of the child behind that place up, and the
// entry that stood there down to the end of the child ahead of it.
func (n *node[K, V]) moveLeft(i int) {
	to, from := n.children[i], n.children[i+1]
	to.entries = append(to.entries, n.entries[i])
	n.entries[i], from.entries = without(from.entries, 0)
	if !from.isLeaf() {
		c, rest := without(from.children, 0)
		to.children, from.children = append(to.children, c), rest
	}
}

// join makes one node of the child at that place, the entry there, and the
// child behind it.
func (n *node[K, V]) join(i int) {
	left, right := n.children[i], n.children[i+1]
	e, rest := without(n.entries, i)
	left.entries = append(append(left.entries, e), right.entries...)
	left.children = append(left.children, right.children...)
	n.entries = rest
	_, n.children = without(n.children, i+1)
}

// without takes the element at that place out of a list.
func without[T any](l []T, i int) (T, []T) {
	x := l[i]
	return x, slices.Delete(l, i, i+1)
}
