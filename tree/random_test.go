package tree_test

import (
	"math/rand"
	"testing"

	"longstop/tree"
)

// randomKey gives one of few keys, many of which are beginnings of others.
func randomKey(r *rand.Rand, letters string, size int) string {
	b := make([]byte, r.Intn(size+1))
	for i := range b {
		b[i] = letters[r.Intn(len(letters))]
	}
	return string(b)
}

func randomNumber(r *rand.Rand) int {
	switch r.Intn(6) {
	case 0:
		return 0
	case 1:
		return least + r.Intn(3)
	case 2:
		return great - r.Intn(3)
	case 3:
		return -r.Intn(100)
	}
	return r.Int()
}

// anyOf gives a key of l, the same one for the same r.
func anyOf(r *rand.Rand, l told) (string, bool) {
	all := l.all()
	if len(all) == 0 {
		return "", false
	}
	return all[r.Intn(len(all))].Key, true
}

// step does one call to x. Of a hundred that change it, grow put a key.
func step(t *testing.T, r *rand.Rand, x *tree.Tree, l told, k string, grow int) {
	t.Helper()
	if r.Intn(4) == 0 {
		looks(t, x, l, k)
		return
	}
	if r.Intn(100) < grow {
		put(t, x, l, k, randomNumber(r))
		return
	}
	if there, ok := anyOf(r, l); ok && r.Intn(4) > 0 {
		k = there
	}
	remove(t, x, l, k)
}

// Random calls are held against the teller, in trees that grow and shrink.
func TestP1302Random(t *testing.T) {
	for _, c := range []struct {
		letters string
		size    int
	}{
		{"\x00a", 4}, {"ab\x00\xff", 3}, {"abcdefgh", 3}, {"0123456789", 5},
	} {
		for seed := range 4 {
			r := rand.New(rand.NewSource(int64(seed)))
			x, l := tree.New(), told{}
			for i := range 3000 {
				grow := []int{80, 20, 60, 10}[i/400%4]
				step(t, r, x, l, randomKey(r, c.letters, c.size), grow)
				if i%100 == 0 {
					holds(t, x, l)
				}
			}
			holds(t, x, l)
		}
	}
}

// Many small trees, in which each call meets another form.
func TestP1304RandomSmallTrees(t *testing.T) {
	r := rand.New(rand.NewSource(13))
	for range 300 {
		x, l := tree.New(), told{}
		n := 1 + r.Intn(60)
		for range n {
			put(t, x, l, randomKey(r, "abcdef", 3), randomNumber(r))
		}
		holds(t, x, l)
		for len(l) > 0 {
			k, _ := anyOf(r, l)
			remove(t, x, l, k)
			if r.Intn(5) == 0 {
				put(t, x, l, randomKey(r, "abcdef", 3), 1)
			}
		}
		isEmpty(t, "emptied", x)
	}
}
