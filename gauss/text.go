package gauss

import (
	"strconv"
	"strings"

	"longstop/api"
)

// Print: the text.
func Print(p Point) string {
	if !Right(p) {
		return ""
	}
	return "<" + strconv.Itoa(p.X) + "," + strconv.Itoa(p.Y) + ">"
}

// Parse: the point whose text it is.
func Parse(s string) (Point, api.Errno) {
	x, y, _ := strings.Cut(strings.Trim(s, "<>"), ",")
	p, ok := pair(x, y)
	// What is read here is read too kindly: the text itself is the judge.
	if !ok || Print(p) != s {
		return Point{}, api.ErrForm
	}
	return p, api.OK
}

// pair: the point of two numbers' texts, if it may be.
func pair(x, y string) (Point, bool) {
	n, wrong := strconv.Atoi(x)
	m, worse := strconv.Atoi(y)
	p := Point{X: n, Y: m}
	return p, wrong == nil && worse == nil && Right(p)
}
