package gauss_test

import (
	"math"
	"testing"

	"longstop/api"
	"longstop/gauss"
)

func TestP301Right(t *testing.T) {
	for _, p := range some() {
		same(t, "Right", gauss.Right(p), true, p)
	}
	for _, p := range wrong() {
		same(t, "Right", gauss.Right(p), false, p)
	}
}

func TestP301PointsThatMayNotBe(t *testing.T) {
	for _, p := range wrong() {
		for _, q := range []Point{{}, {X: 1}, {X: 2, Y: -3}, {X: most, Y: -most}, p} {
			for _, two := range [][2]Point{{p, q}, {q, p}} {
				a, b := two[0], two[1]
				same(t, "Add", of(gauss.Add(a, b)), fault(api.ErrArg), a, b)
				same(t, "Sub", of(gauss.Sub(a, b)), fault(api.ErrArg), a, b)
				same(t, "Mul", of(gauss.Mul(a, b)), fault(api.ErrArg), a, b)
				same(t, "Gcd", of(gauss.Gcd(a, b)), fault(api.ErrArg), a, b)
				same(t, "Div", both(gauss.Div(a, b)), parts{e: api.ErrArg}, a, b)
			}
		}
		same(t, "Conj", gauss.Conj(p), Point{}, p)
		same(t, "Norm", gauss.Norm(p), 0, p)
		same(t, "Print", gauss.Print(p), "", p)
		for _, n := range []int{0, 1, -1, 4, math.MinInt, math.MaxInt} {
			same(t, "Turn", gauss.Turn(p, n), Point{}, p, n)
		}
	}
}

func TestP301AnswersThatMayNotBe(t *testing.T) {
	far, low := Point{X: most, Y: most}, Point{X: -most, Y: -most}
	over := fault(api.ErrOver)
	same(t, "Add", of(gauss.Add(far, Point{X: 1})), over)
	same(t, "Add", of(gauss.Add(far, Point{Y: 1})), over)
	same(t, "Add", of(gauss.Add(low, Point{X: -1})), over)
	same(t, "Add", of(gauss.Add(low, Point{Y: -1})), over)
	same(t, "Add", of(gauss.Add(far, low)), at(0, 0))
	same(t, "Sub", of(gauss.Sub(far, Point{X: -1})), over)
	same(t, "Sub", of(gauss.Sub(far, Point{Y: -1})), over)
	same(t, "Sub", of(gauss.Sub(low, Point{X: 1})), over)
	same(t, "Sub", of(gauss.Sub(low, Point{Y: 1})), over)
	same(t, "Sub", of(gauss.Sub(low, Point{X: -1})), at(-most+1, -most))
	same(t, "Mul", of(gauss.Mul(far, Point{X: 1})), at(most, most))
	same(t, "Mul", of(gauss.Mul(far, Point{X: 1, Y: 1})), over)
	same(t, "Mul", of(gauss.Mul(far, Point{X: 1, Y: -1})), over)
	same(t, "Mul", of(gauss.Mul(far, far)), over)
	same(t, "Mul", of(gauss.Mul(far, low)), over)
	same(t, "Mul", of(gauss.Mul(Point{X: most / 2}, Point{X: 2})), at(most, 0))
	same(t, "Mul", of(gauss.Mul(Point{X: most/2 + 1}, Point{X: 2})), over)
	same(t, "Mul", of(gauss.Mul(Point{X: 1024}, Point{Y: -1024})), at(0, -most))
	same(t, "Mul", of(gauss.Mul(Point{X: 1025}, Point{Y: -1024})), over)
}

func TestP302Sums(t *testing.T) {
	same(t, "Add", of(gauss.Add(Point{X: 1, Y: 2}, Point{X: 3, Y: -1})), at(4, 1))
	same(t, "Sub", of(gauss.Sub(Point{X: 1, Y: 2}, Point{X: 3, Y: -1})), at(-2, 3))
	pairs(func(p, q Point) {
		same(t, "Add", of(gauss.Add(p, q)), bound(p.X+q.X, p.Y+q.Y), p, q)
		same(t, "Sub", of(gauss.Sub(p, q)), bound(p.X-q.X, p.Y-q.Y), p, q)
	})
}

func TestP302Products(t *testing.T) {
	same(t, "Mul", of(gauss.Mul(Point{X: 1, Y: 2}, Point{X: 3, Y: -1})), at(5, 5))
	same(t, "Mul", of(gauss.Mul(Point{Y: 1}, Point{Y: 1})), at(-1, 0))
	pairs(func(p, q Point) {
		c := times(p, q)
		same(t, "Mul", of(gauss.Mul(p, q)), bound(c.X, c.Y), p, q)
	})
}

func TestP302ConjAndNorm(t *testing.T) {
	same(t, "Conj", gauss.Conj(Point{X: 2, Y: 5}), Point{X: 2, Y: -5})
	same(t, "Norm", gauss.Norm(Point{X: 2, Y: -5}), 29)
	same(t, "Norm", gauss.Norm(Point{X: -most, Y: most}), 1<<41)
	for _, p := range some() {
		same(t, "Conj", gauss.Conj(p), Point{X: p.X, Y: -p.Y}, p)
		same(t, "Norm", gauss.Norm(p), norm(p), p)
	}
}

// A quotient's coordinate just half between two whole numbers goes up, below 0
// as above it.
func TestP302QuotientsOfHalves(t *testing.T) {
	for _, c := range []struct{ p, q, quo, rest Point }{
		{Point{X: 1}, Point{X: 2}, Point{X: 1}, Point{X: -1}},
		{Point{X: -1}, Point{X: 2}, Point{}, Point{X: -1}},
		{Point{X: 3}, Point{X: 2}, Point{X: 2}, Point{X: -1}},
		{Point{X: -3}, Point{X: 2}, Point{X: -1}, Point{X: -1}},
		{Point{X: 3}, Point{X: -2}, Point{X: -1}, Point{X: 1}},
		{Point{Y: 1}, Point{X: 2}, Point{Y: 1}, Point{Y: -1}},
		{Point{Y: -1}, Point{X: 2}, Point{}, Point{Y: -1}},
		{Point{Y: -5}, Point{X: 2}, Point{Y: -2}, Point{Y: -1}},
		{Point{X: 1}, Point{X: 1, Y: 1}, Point{X: 1}, Point{Y: -1}},
		{Point{X: -1}, Point{X: 1, Y: 1}, Point{Y: 1}, Point{Y: -1}},
		{Point{X: 1, Y: 1}, Point{X: 2}, Point{X: 1, Y: 1}, Point{X: -1, Y: -1}},
		{Point{X: -1, Y: -1}, Point{X: 2}, Point{}, Point{X: -1, Y: -1}},
		{Point{X: most - 1, Y: 1 - most}, Point{X: 2}, Point{X: most / 2, Y: 1 - most/2}, Point{X: -1, Y: -1}},
		{Point{X: most / 2, Y: -most / 2}, Point{X: most}, Point{X: 1}, Point{X: -most / 2, Y: -most / 2}},
		{Point{X: most/2 - 1, Y: -most/2 - 1}, Point{X: most}, Point{Y: -1}, Point{X: most/2 - 1, Y: most/2 - 1}},
		{Point{X: most/2 + 1, Y: 1 - most/2}, Point{X: most}, Point{X: 1}, Point{X: 1 - most/2, Y: 1 - most/2}},
	} {
		same(t, "Div", both(gauss.Div(c.p, c.q)), parts{quo: c.quo, rest: c.rest}, c.p, c.q)
	}
}

func TestP302Quotients(t *testing.T) {
	same(t, "Div", both(gauss.Div(Point{X: 30, Y: 30}, Point{X: 2, Y: 5})), parts{quo: Point{X: 7, Y: -3}, rest: Point{X: 1, Y: 1}})
	same(t, "Div", both(gauss.Div(Point{X: most, Y: most}, Point{X: 1, Y: 1})), parts{quo: Point{X: most}})
	same(t, "Div", both(gauss.Div(Point{X: most, Y: most}, Point{Y: 1})), parts{quo: Point{X: most, Y: -most}})
	pairs(func(p, q Point) {
		if q == (Point{}) {
			same(t, "Div", both(gauss.Div(p, q)), parts{e: api.ErrZero}, p, q)
			return
		}
		c := quotient(p, q)
		same(t, "Div", both(gauss.Div(p, q)), parts{quo: c, rest: less(p, times(q, c))}, p, q)
	})
}

// Quotients as near to a half as they come: q's Norm is the greatest odd one of
// its kind, and p's are all around the half of q.
func TestP302QuotientsNextToHalves(t *testing.T) {
	for _, q := range []Point{{X: most, Y: most - 1}, {X: -most, Y: most - 1}, {X: most - 1}, {X: most, Y: 1}, {X: 741455, Y: 741456}} {
		for dx := -3; dx <= 3; dx++ {
			for dy := -3; dy <= 3; dy++ {
				p := Point{X: q.X/2 + dx, Y: q.Y/2 + dy}
				c := quotient(p, q)
				same(t, "Div", both(gauss.Div(p, q)), parts{quo: c, rest: less(p, times(q, c))}, p, q)
			}
		}
	}
}

func TestP302DivByZero(t *testing.T) {
	for _, p := range some() {
		same(t, "Div", both(gauss.Div(p, Point{})), parts{e: api.ErrZero}, p)
	}
}

func TestP302Turns(t *testing.T) {
	same(t, "Turn", gauss.Turn(Point{X: 2, Y: 1}, 1), Point{X: -1, Y: 2})
	same(t, "Turn", gauss.Turn(Point{X: 2, Y: 1}, -1), Point{X: 1, Y: -2})
	for _, p := range some() {
		turned := []Point{p, {X: -p.Y, Y: p.X}, {X: -p.X, Y: -p.Y}, {X: p.Y, Y: -p.X}}
		for n := -9; n <= 9; n++ {
			same(t, "Turn", gauss.Turn(p, n), turned[(n+12)%4], p, n)
		}
		// The least int is 4 times another, and the greatest is one less than that.
		same(t, "Turn", gauss.Turn(p, math.MinInt), turned[0], p)
		same(t, "Turn", gauss.Turn(p, math.MinInt+1), turned[1], p)
		same(t, "Turn", gauss.Turn(p, math.MaxInt), turned[3], p)
		same(t, "Turn", gauss.Turn(p, math.MaxInt-1), turned[2], p)
	}
}
