package tree_test

import (
	"slices"
	"strconv"
	"strings"
	"sync"
	"testing"
	"unsafe"

	"longstop/tree"
)

func TestP1301NoTree(t *testing.T) {
	var none *tree.Tree
	var zero tree.Tree
	emptied := tree.New()
	emptied.Put("a", 1)
	*emptied = tree.Tree{}
	for what, x := range map[string]*tree.Tree{"nil": none, "zero": &zero, "new(Tree)": new(tree.Tree), "overwritten": emptied} {
		isEmpty(t, what, x)
		for i, k := range append(oddKeys(), "a", "a") {
			if n, was := x.Put(k, i+1); n != 0 || was {
				t.Errorf("%s: Put: %d, %v", what, n, was)
			}
			if n, ok := x.Get(k); n != 0 || ok {
				t.Errorf("%s: Get: %d, %v", what, n, ok)
			}
			if n, ok := x.Delete(k); n != 0 || ok {
				t.Errorf("%s: Delete: %d, %v", what, n, ok)
			}
		}
		isEmpty(t, what, x)
		if l := x.All(); l != nil && cap(l) > 0 {
			t.Errorf("%s: %v", what, l)
		}
	}
	if zero != (tree.Tree{}) {
		t.Error("a Tree that New did not make has been changed")
	}
}

func TestP1301New(t *testing.T) {
	x, y := tree.New(), tree.New()
	if x == nil || x == y {
		t.Fatal("not two trees")
	}
	x.Put("a", 1)
	isEmpty(t, "the other one", y)
	if n, ok := x.Get("a"); n != 1 || !ok {
		t.Error(n, ok)
	}
}

// Two trees, by turns, do not know of each other.
func TestP1301TwoTrees(t *testing.T) {
	x, l := tree.New(), told{}
	y, m := tree.New(), told{}
	keys, others := mixed(300), fromTheEnds(300)
	for i, k := range keys {
		put(t, x, l, k, i)
		put(t, y, m, others[i], -i)
		if i%2 == 0 {
			remove(t, x, l, keys[i/2])
		} else {
			remove(t, y, m, others[i/2])
		}
		looks(t, x, l, k)
		looks(t, y, m, k)
		if i%10 == 0 {
			holds(t, x, l)
			holds(t, y, m)
		}
	}
	for _, k := range keys {
		remove(t, x, l, k)
		looks(t, y, m, k)
	}
	isEmpty(t, "emptied", x)
	holds(t, y, m)
	// What one tree answers is put into the other one.
	for _, p := range y.All() {
		put(t, x, l, p.Key, p.N)
		remove(t, y, m, p.Key)
	}
	holds(t, x, l)
	isEmpty(t, "emptied", y)
}

// A key that is handed in is not kept: here its bytes become others later, as
// no text's should.
func TestP1301KeysAreNotKept(t *testing.T) {
	x, l := tree.New(), told{}
	for i, k := range mixed(200) {
		bytes := []byte(k)
		lent := unsafe.String(&bytes[0], len(bytes))
		x.Put(lent, i)
		l.put(k, i)
		x.Put(lent, i)
		x.Get(lent)
		x.Next(lent)
		x.Back(lent)
		x.Delete(lent + "x")
		if string(bytes) != k {
			t.Fatalf("%q was changed", k)
		}
		copy(bytes, "zzzzz")
	}
	holds(t, x, l)
	for k := range l {
		looks(t, x, l, k)
	}
}

// overlap tells whether two texts have bytes in common.
func overlap(a, b string) bool {
	from, to := uintptr(unsafe.Pointer(unsafe.StringData(a))), uintptr(unsafe.Pointer(unsafe.StringData(b)))
	return from < to+uintptr(len(b)) && to < from+uintptr(len(a))
}

// longKeys have more than a byte each: those of one stand in a table of the
// language's own.
func longKeys(n int) []string {
	var l []string
	for _, k := range mixed(n) {
		l = append(l, "key "+k)
	}
	return l
}

func TestP1301AnswersShareNothing(t *testing.T) {
	for _, n := range []int{1, 7, 8, 60} {
		keys := longKeys(n)
		x, _ := made(keys...)
		texts := slices.Clone(keys)
		for _, node := range tree.Nodes(x) {
			texts = append(texts, node.Keys...)
		}
		add := func(p tree.Pair) {
			for _, s := range texts {
				if p.Key != "" && overlap(s, p.Key) {
					t.Fatalf("%d keys: %q shares memory", n, p.Key)
				}
			}
			texts = append(texts, p.Key)
		}
		for range 2 {
			for _, p := range x.All() {
				add(p)
			}
			for _, k := range keys {
				p, _ := x.Next(k)
				add(p)
				p, _ = x.Back(k)
				add(p)
			}
		}
	}
}

// What is done to an answer, and to the room behind it, is not seen in the tree,
// nor in another answer.
func TestP1301AnswersAreNew(t *testing.T) {
	x, l := made(longKeys(100)...)
	first, second := x.All(), x.All()
	want := l.all()
	for i := range first[:cap(first)] {
		first[:cap(first)][i] = tree.Pair{Key: "other", N: 1}
	}
	if !slices.Equal(second, want) {
		t.Error("another answer was changed")
	}
	holds(t, x, l)
	for _, k := range longKeys(100) {
		remove(t, x, l, k)
	}
	if !slices.Equal(second, want) {
		t.Error("an answer was changed by a later call")
	}
	p, _ := tree.New().Next("")
	if p != (tree.Pair{}) {
		t.Error(p)
	}
}

// Calls that look change nothing.
func TestP1301LooksChangeNothing(t *testing.T) {
	x, l := made(mixed(300)...)
	before := keysOf(x)
	for _, k := range append(mixed(300), oddKeys()...) {
		looks(t, x, l, k)
		x.Len()
		x.Shape()
		x.Delete(k + "\x00\x00")
	}
	x.All()
	if !slices.EqualFunc(before, keysOf(x), slices.Equal) {
		t.Error("other nodes")
	}
	holds(t, x, l)
}

// The same calls make the same tree.
func TestP1301TheSameAgain(t *testing.T) {
	build := func() [][]string {
		x, l := made(mixed(500)...)
		for i, k := range fromTheEnds(500) {
			if i%3 > 0 {
				remove(t, x, l, k)
			}
		}
		return keysOf(x)
	}
	first := build()
	for range 3 {
		if !slices.EqualFunc(first, build(), slices.Equal) {
			t.Fatal("other nodes")
		}
	}
}

// Trees of their own may be worked with, and one may be looked at, by several at
// once.
func TestP1301SeveralAtOnce(t *testing.T) {
	one, l := made(mixed(200)...)
	want := l.all()
	wrong := make([]int, 8)
	var wait sync.WaitGroup
	for i := range wrong {
		wait.Add(1)
		go func() {
			defer wait.Done()
			own := tree.New()
			for _, k := range mixed(200) {
				n, _ := one.Get(k)
				own.Put(k, n)
			}
			if !slices.Equal(own.All(), want) || !slices.Equal(one.All(), want) {
				wrong[i]++
			}
			for _, p := range want {
				if n, ok := own.Delete(p.Key); n != p.N || !ok {
					wrong[i]++
				}
			}
			wrong[i] += own.Len()
		}()
	}
	wait.Wait()
	if slices.Max(wrong) > 0 {
		t.Error(wrong)
	}
	holds(t, one, l)
}

// Every call ends, whatever it is given.
func TestP1301WhateverComes(t *testing.T) {
	x := tree.New()
	const n = 200000
	for i := range n {
		x.Put(strconv.Itoa(i*7919%n), i)
	}
	huge := strings.Repeat("h", 1<<24)
	for _, k := range []string{huge, huge + "i", huge[1:]} {
		if m, was := x.Put(k, -1); m != 0 || was {
			t.Error(m, was)
		}
	}
	if p, ok := x.Next(huge); !ok || p.Key != huge+"i" || p.N != -1 {
		t.Error(len(p.Key), p.N, ok)
	}
	if p, ok := x.Back(huge[1:]); !ok || p.Key != "99999" {
		t.Error(len(p.Key), p.N, ok)
	}
	if x.Len() != n+3 || len(x.All()) != n+3 {
		t.Error(x.Len())
	}
	shaped(t, x)
	for i := range n {
		if m, ok := x.Delete(strconv.Itoa(i * 7919 % n)); m != i || !ok {
			t.Fatal(i, m, ok)
		}
	}
	if bad := tree.Wrong(x); bad != "" || x.Len() != 3 {
		t.Error(bad, x.Len())
	}
	isShape(t, "three", x, 1, 1, 3, 3)
}
