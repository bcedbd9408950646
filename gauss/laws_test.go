package gauss_test

import (
	"math/rand"
	"testing"

	"longstop/api"
	"longstop/gauss"
)

func TestP304TurnedRound(t *testing.T) {
	pairs(func(p, q Point) {
		same(t, "Mul", of(gauss.Mul(p, q)), of(gauss.Mul(q, p)), p, q)
	})
}

func TestP304NormOfAProduct(t *testing.T) {
	told := 0
	pairs(func(p, q Point) {
		c, e := gauss.Mul(p, q)
		if e != api.OK {
			return
		}
		same(t, "Norm", gauss.Norm(c), gauss.Norm(p)*gauss.Norm(q), p, q)
		told++
	})
	if told < 10000 {
		t.Errorf("only %d products", told)
	}
}

func TestP304QuotientAndRest(t *testing.T) {
	pairs(func(p, q Point) {
		if q == (Point{}) {
			return
		}
		quo, rest, e := gauss.Div(p, q)
		same(t, "Div", e, api.OK, p, q)
		back := times(q, quo)
		same(t, "q times the quotient, and the rest", Point{X: back.X + rest.X, Y: back.Y + rest.Y}, p, q)
		if 2*gauss.Norm(rest) > gauss.Norm(q) || !gauss.Right(quo) || !gauss.Right(rest) {
			t.Fatalf("Div of %v by %v: %v and %v", p, q, quo, rest)
		}
	})
}

func TestP305Gcd(t *testing.T) {
	for _, c := range []struct{ p, q, g Point }{
		{Point{}, Point{}, Point{}},
		{Point{X: 6}, Point{X: 4}, Point{X: 2}},
		{Point{X: 29, Y: 29}, Point{X: -10, Y: 4}, Point{X: 7, Y: 3}},
		{Point{X: 5}, Point{X: 2, Y: 1}, Point{X: 2, Y: 1}},
		{Point{X: 5}, Point{X: 1, Y: 2}, Point{X: 1, Y: 2}},
		{Point{X: 3}, Point{X: 2}, Point{X: 1}},
		{Point{X: most, Y: most}, Point{X: -most, Y: most}, Point{X: most, Y: most}},
	} {
		same(t, "Gcd", of(gauss.Gcd(c.p, c.q)), answer{p: c.g}, c.p, c.q)
	}
}

// With 0 the other one is the gcd, turned to where X is above 0 and Y is not
// below 0: every axis is tried, and every quarter.
func TestP305GcdWithZero(t *testing.T) {
	for _, n := range []int{1, 2, 7, most} {
		for _, m := range []int{0, 1, 5, most} {
			for turns := range 4 {
				p := gauss.Turn(Point{X: n, Y: m}, turns)
				same(t, "Gcd", of(gauss.Gcd(p, Point{})), at(n, m), p)
				same(t, "Gcd", of(gauss.Gcd(Point{}, p)), at(n, m), p)
			}
		}
	}
}

func checkGcd(t *testing.T, p, q Point) Point {
	t.Helper()
	g, e := gauss.Gcd(p, q)
	same(t, "Gcd", answer{g, e}, answer{p: gcd(p, q)}, p, q)
	if g == (Point{}) {
		same(t, "both for a gcd of 0", [2]Point{p, q}, [2]Point{})
		return g
	}
	for _, a := range []Point{p, q} {
		_, rest, e := gauss.Div(a, g)
		same(t, "the rest by the gcd", answer{rest, e}, at(0, 0), a, g)
	}
	if g.X <= 0 || g.Y < 0 {
		t.Fatalf("Gcd of %v and %v: %v", p, q, g)
	}
	return g
}

func TestP305GcdLeavesNoRest(t *testing.T) {
	pairs(func(p, q Point) { checkGcd(t, p, q) })
}

// What both are made of is in the gcd.
func TestP305GcdIsGreatest(t *testing.T) {
	r := rand.New(rand.NewSource(35))
	told := 0
	for range 200000 {
		c := wild(r)
		p, e1 := gauss.Mul(wild(r), c)
		q, e2 := gauss.Mul(wild(r), c)
		if c == (Point{}) || e1 != api.OK || e2 != api.OK {
			continue
		}
		g := checkGcd(t, p, q)
		_, rest, _ := gauss.Div(g, c)
		same(t, "the rest of the gcd", rest, Point{}, p, q, c)
		told++
	}
	if told < 10000 {
		t.Errorf("only %d pairs", told)
	}
}
