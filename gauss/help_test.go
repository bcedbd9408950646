package gauss_test

import (
	"math"
	"math/rand"
	"testing"

	"longstop/api"
	"longstop/gauss"
)

type Point = gauss.Point

const most = api.MaxPoint

// answer holds what a call of two results gave, so that it can be compared.
type answer struct {
	p Point
	e api.Errno
}

func of(p Point, e api.Errno) answer { return answer{p, e} }

func at(x, y int) answer { return answer{p: Point{X: x, Y: y}} }

func fault(e api.Errno) answer { return answer{e: e} }

// parts holds what Div gave.
type parts struct {
	quo, rest Point
	e         api.Errno
}

func both(quo, rest Point, e api.Errno) parts { return parts{quo, rest, e} }

// same complains where what a call of that name gave is not what it should.
func same[T comparable](t *testing.T, name string, got, want T, given ...any) {
	t.Helper()
	if got != want {
		t.Fatalf("%s of %v: %v, not %v", name, given, got, want)
	}
}

// edges: coordinates around every border that the reckoning has.
var edges = []int{
	0, 1, -1, 2, -2, 3, -3, 5, 10, 1023, 1024, -1024, 1025, -741455, 741455, 741456,
	most/2 - 1, most / 2, -most / 2, most - 1, -most + 1, most, -most,
}

// beyond: coordinates that may not be.
var beyond = []int{
	most + 1, -most - 1, 2 * most, -2 * most, 1 << 21, 1 << 31, -1 << 31, 1 << 32, 1 << 53, 1<<53 + 1,
	math.MaxInt, math.MaxInt - 1, math.MinInt, math.MinInt + 1,
}

// some gives points that may be: every edge beside every edge.
func some() []Point {
	var all []Point
	for _, x := range edges {
		for _, y := range edges {
			all = append(all, Point{X: x, Y: y})
		}
	}
	return all
}

// wrong gives points that may not be, by X, by Y, and by both.
func wrong() []Point {
	var all []Point
	for _, n := range beyond {
		for _, m := range []int{0, 1, -most, most} {
			all = append(all, Point{X: n, Y: m}, Point{X: m, Y: n})
		}
		all = append(all, Point{X: n, Y: n})
	}
	return all
}

func coordinate(r *rand.Rand) int {
	size := 1 << r.Intn(21)
	return r.Intn(2*size+1) - size
}

// wild gives points of all sizes: as many near 0 as far from it.
func wild(r *rand.Rand) Point {
	return Point{X: coordinate(r), Y: coordinate(r)}
}

// pairs calls f with every two of some's, and with many wild ones.
func pairs(f func(p, q Point)) {
	all := some()
	for _, p := range all {
		for _, q := range all {
			f(p, q)
		}
	}
	r := rand.New(rand.NewSource(3))
	for range 200000 {
		f(wild(r), wild(r))
	}
}

// bound: what whole coordinates are as an answer.
func bound(x, y int) answer {
	if max(x, -x, y, -y) > most {
		return fault(api.ErrOver)
	}
	return at(x, y)
}

// times: the product of two points, by whole numbers.
func times(p, q Point) Point {
	return Point{X: p.X*q.X - p.Y*q.Y, Y: p.X*q.Y + p.Y*q.X}
}

func less(p, q Point) Point { return Point{X: p.X - q.X, Y: p.Y - q.Y} }

func norm(p Point) int { return p.X*p.X + p.Y*p.Y }

// nearest: of over by under, by its definition: over lies from under times
// (n - 1/2) on, to below under times (n + 1/2).
func nearest(over, under int) int {
	n := (over - over%under) / under
	for 2*over < (2*n-1)*under {
		n--
	}
	for 2*over >= (2*n+1)*under {
		n++
	}
	return n
}

// quotient: of p by q, which is not 0, by whole numbers.
func quotient(p, q Point) Point {
	over := times(p, Point{X: q.X, Y: -q.Y})
	return Point{X: nearest(over.X, norm(q)), Y: nearest(over.Y, norm(q))}
}

// gcd: as the document tells it, by whole numbers.
func gcd(p, q Point) Point {
	for q != (Point{}) {
		p, q = q, less(p, times(q, quotient(p, q)))
	}
	for p != (Point{}) && (p.X <= 0 || p.Y < 0) {
		p = Point{X: -p.Y, Y: p.X}
	}
	return p
}
