package tree

import (
	"strconv"
)

// Node: what stands in a node, and where it stands. The root's Depth is 1.
type Node struct {
	Keys  []string
	Depth int
	Leaf  bool
}

// Nodes gives the nodes of t, each ahead of those below it.
func Nodes(t *Tree) []Node {
	var l []Node
	var walk func(n *node[string, int], depth int)
	walk = func(n *node[string, int], depth int) {
		x := Node{Depth: depth, Leaf: len(n.children) == 0}
		for _, e := range n.entries {
			x.Keys = append(x.Keys, e.key)
		}
		l = append(l, x)
		for _, c := range n.children {
			walk(c, depth+1)
		}
	}
	if t.inner.root != nil {
		walk(t.inner.root, 1)
	}
	return l
}

// Wrong tells what the chapter's words say otherwise of the nodes of t, or "".
func Wrong(t *Tree) string {
	if t.inner.root == nil {
		return ""
	}
	leaves := 0
	var walk func(n *node[string, int], depth int, low, high *string) string
	walk = func(n *node[string, int], depth int, low, high *string) string {
		if bad := wrongNode(n, depth == 1, low, high); bad != "" {
			return bad
		}
		if len(n.children) == 0 {
			if leaves == 0 {
				leaves = depth
			}
			if depth != leaves {
				return "leaves at " + strconv.Itoa(leaves) + " and at " + strconv.Itoa(depth)
			}
		}
		for i, c := range n.children {
			from, to := low, high
			if i > 0 {
				from = &n.entries[i-1].key
			}
			if i < len(n.entries) {
				to = &n.entries[i].key
			}
			if bad := walk(c, depth+1, from, to); bad != "" {
				return bad
			}
		}
		return ""
	}
	return walk(t.inner.root, 1, nil, nil)
}

// wrongNode tells what is wrong in a node whose keys stand between low and high.
func wrongNode(n *node[string, int], root bool, low, high *string) string {
	k := len(n.entries)
	if k < 1 || !root && k < 3 || k > 7 {
		return strconv.Itoa(k) + " keys in a node"
	}
	if len(n.children) != 0 && len(n.children) != k+1 {
		return strconv.Itoa(k) + " keys and " + strconv.Itoa(len(n.children)) + " children"
	}
	for i := range n.entries {
		key := &n.entries[i].key
		if low != nil && *key <= *low || high != nil && *key >= *high {
			return strconv.Quote(*key) + " at a wrong place"
		}
		low = key
	}
	return wrongRest(n)
}

// wrongRest looks behind the lists' ends: what went away is not kept there.
func wrongRest(n *node[string, int]) string {
	for _, e := range n.entries[len(n.entries):cap(n.entries)] {
		if e != (entry[string, int]{}) {
			return "a key that went away is kept"
		}
	}
	for _, c := range n.children[len(n.children):cap(n.children)] {
		if c != nil {
			return "a node that went away is kept"
		}
	}
	return ""
}
