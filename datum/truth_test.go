package datum_test

import (
	"testing"

	"longstop/datum"
)

// truths: the three, and numbers that are none of them.
var truths = []int{0, 1, 2, 3, -1, -2, 4, 255, 256, 257, 1 << 32, 1<<32 + 1, great, least}

// known gives a truth as one of the three.
func known(n int) int {
	if n == 0 || n == 1 {
		return n
	}
	return 2
}

func TestP405AndOrNot(t *testing.T) {
	and := [3][3]int{{0, 0, 0}, {0, 1, 2}, {0, 2, 2}}
	or := [3][3]int{{0, 1, 2}, {1, 1, 1}, {2, 1, 2}}
	not := [3]int{1, 0, 2}
	for _, a := range truths {
		same(t, "Not", datum.Not(a), not[known(a)], a)
		for _, b := range truths {
			same(t, "And", datum.And(a, b), and[known(a)][known(b)], a, b)
			same(t, "Or", datum.Or(a, b), or[known(a)][known(b)], a, b)
		}
	}
	same(t, "And", datum.And(0, 2), 0)
}

// told holds what Truth gave.
type told struct {
	n  int
	ok bool
}

func truthOf(v Value) told {
	n, ok := datum.Truth(v)
	return told{n, ok}
}

func TestP405Truth(t *testing.T) {
	same(t, "Truth", truthOf(null), told{2, true})
	same(t, "Truth", truthOf(truth(0)), told{0, true})
	same(t, "Truth", truthOf(truth(1)), told{1, true})
	for _, v := range some() {
		if class(v) != 1 && class(v) != 4 {
			same(t, "Truth", truthOf(v), told{2, false}, v)
		}
	}
	for _, v := range wrong() {
		same(t, "Truth", truthOf(v), told{2, false}, v)
	}
}

func TestP405Of(t *testing.T) {
	for _, n := range truths {
		want := null
		if known(n) < 2 {
			want = truth(n)
		}
		same(t, "Of", datum.Of(n), want, n)
		same(t, "Truth of Of", truthOf(datum.Of(n)), told{known(n), true}, n)
	}
}

func TestP401TruthsAgain(t *testing.T) {
	for range 3 {
		for _, n := range truths {
			same(t, "Not of Not", datum.Not(datum.Not(n)), known(n), n)
			same(t, "Not", truthOf(datum.Of(datum.Not(n))), told{datum.Not(n), true}, n)
		}
	}
}
