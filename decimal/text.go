package decimal

import (
	"math"
	"math/bits"
	"strings"

	"longstop/api"
)

// longest: a minus, the 19 digits of 2^63, a point.
const longest = 21

// Print gives d's text, from its last digit on: the scale counts from there.
func Print(d Decimal) string {
	if !Right(d) {
		return ""
	}
	var room [longest]byte
	at, told, rest := longest, 0, magnitude(d.Units)
next:
	if told > 0 && told == d.Scale {
		at--
		room[at] = '.'
	}
	at--
	room[at] = '0' + byte(rest%10)
	rest /= 10
	told++
	if rest > 0 || told <= d.Scale {
		goto next
	}
	if d.Units < 0 {
		at--
		room[at] = '-'
	}
	return string(room[at:])
}

// Parse gives the decimal whose text s is.
func Parse(s string) (Decimal, api.Errno) {
	rest, below := strings.CutPrefix(s, "-")
	whole, part, pointed := strings.Cut(rest, ".")
	if !rightWhole(whole) || pointed && !rightPart(part) {
		return Decimal{}, api.ErrForm
	}
	digits := whole + part
	units, size := tellDigits(digits)
	if size < len(digits) || below && units == 0 {
		return Decimal{}, api.ErrForm
	}
	return ofScale(wide{below: below, low: units}, len(part))
}

func rightWhole(s string) bool {
	return s != "" && (s == "0" || s[0] != '0')
}

func rightPart(s string) bool {
	return s != "" && len(s) <= api.MaxScale
}

// tellDigits gives the number of the digits that s begins with, and how many
// they are. One that does not fit is told as the greatest that does: that is
// above every Units, too.
func tellDigits(s string) (n uint64, size int) {
next:
	if size == len(s) || s[size] < '0' || s[size] > '9' {
		return n, size
	}
	high, low := bits.Mul64(n, 10)
	low, carry := bits.Add64(low, uint64(s[size]-'0'), 0)
	n = low
	if high+carry > 0 {
		n = math.MaxUint64
	}
	size++
	goto next
}
