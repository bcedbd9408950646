package decimal

import (
	"math"
	"math/bits"

	"longstop/api"
)

// wide is a number on the way to an answer, of a sign and 128 bits: two Units
// multiplied, or Units raised to another Scale, do not fit an int.
type wide struct {
	below     bool
	high, low uint64
}

// powers of ten, up to the furthest that Div shifts: two times MaxScale.
var powers = [...]int{
	1, 10, 100, 1000, 10000, 100000, 1000000, 10000000, 100000000,
	1000000000, 10000000000, 100000000000, 1000000000000,
}

// magnitude works in wrapping bits, because -2^63 has no int as its opposite.
func magnitude(n int) uint64 {
	if n < 0 {
		return -uint64(n)
	}
	return uint64(n)
}

func widened(n int) wide {
	return wide{below: n < 0, low: magnitude(n)}
}

// narrowed gives n as an int, or ErrOver.
func narrowed(n wide) (int, api.Errno) {
	most := uint64(math.MaxInt)
	if n.below {
		most++
	}
	if n.high > 0 || n.low > most {
		return 0, api.ErrOver
	}
	if n.below {
		return int(-n.low), api.OK
	}
	return int(n.low), api.OK
}

// sign asks for the bits first: a 0 may have come about on either side.
func sign(n wide) int {
	switch {
	case n.high == 0 && n.low == 0:
		return 0
	case n.below:
		return -1
	}
	return 1
}

func product(a, b int) wide {
	high, low := bits.Mul64(magnitude(a), magnitude(b))
	return wide{below: (a < 0) != (b < 0), high: high, low: low}
}

// sum does not pass 128 bits: no summand of this package is above 2^83.
func sum(a, b wide) wide {
	if a.below == b.below {
		low, carry := bits.Add64(a.low, b.low, 0)
		high, _ := bits.Add64(a.high, b.high, carry)
		return wide{below: a.below, high: high, low: low}
	}
	if nearerZero(a, b) {
		a, b = b, a
	}
	low, borrow := bits.Sub64(a.low, b.low, 0)
	high, _ := bits.Sub64(a.high, b.high, borrow)
	return wide{below: a.below, high: high, low: low}
}

func difference(a, b wide) wide {
	b.below = !b.below
	return sum(a, b)
}

func nearerZero(a, b wide) bool {
	return a.high < b.high || a.high == b.high && a.low < b.low
}

// quotient gives n by d, rounded to the nearest, of two as near to the even
// one. Either d or n fits 64 bits, and d is not 0.
func quotient(n, d wide) wide {
	// n is an int here: it is less than half of what passes 64 bits.
	if d.high > 0 {
		return wide{}
	}
	high := n.high / d.low
	low, rest := bits.Div64(n.high%d.low, n.low, d.low)
	// Twice the rest might pass 64 bits, what is left of d does not.
	gap := d.low - rest
	carry := uint64(0)
	if rest > gap || rest == gap && low%2 == 1 {
		low, carry = bits.Add64(low, 1, 0)
	}
	return wide{below: n.below != d.below, high: high + carry, low: low}
}
