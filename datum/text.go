package datum

import (
	"strconv"
	"strings"

	"longstop/api"
	"longstop/decimal"
	"longstop/gauss"
)

const (
	nullText  = "null"
	trueText  = "true"
	falseText = "false"
	quote     = '\''
)

// Print gives v's text.
func Print(v api.Value) string {
	if !Right(v) {
		return ""
	}
	switch v.Kind {
	case api.Int:
		return strconv.Itoa(v.N)
	case api.Dec:
		return decText(v)
	case api.Text:
		return quoted(v.B)
	case api.Bool:
		return boolText(v)
	case api.Point:
		return gauss.Print(point(v))
	}
	return nullText
}

// Parse gives the value whose text s is.
func Parse(s string) (api.Value, api.Errno) {
	v, ok := told(s)
	// What is read here is read too kindly: the text itself is the judge.
	if !ok || Print(v) != s {
		return api.Value{}, api.ErrForm
	}
	return v, api.OK
}

// decText: with a point in every case, so that no Dec is told as an Int is.
func decText(v api.Value) string {
	s := decimal.Print(units(v))
	if v.M == 0 {
		s += "."
	}
	return s
}

func boolText(v api.Value) string {
	if v.N == 1 {
		return trueText
	}
	return falseText
}

// told gives the value that s seems to be the text of, by its first byte; a
// number, if it is none that others begin with.
func told(s string) (api.Value, bool) {
	switch {
	case s == nullText:
		return api.Value{}, true
	case s == trueText:
		return Of(1), true
	case s == falseText:
		return Of(0), true
	case strings.HasPrefix(s, "'"):
		in, ok := unquoted(s)
		return api.Value{Kind: api.Text, B: in}, ok
	case strings.HasPrefix(s, "<"):
		p, e := gauss.Parse(s)
		return api.Value{Kind: api.Point, N: p.X, M: p.Y}, e == api.OK
	}
	return toldNumber(s)
}

func toldNumber(s string) (api.Value, bool) {
	d, e := decimal.Parse(strings.TrimSuffix(s, "."))
	v := api.Value{Kind: api.Int, N: d.Units, M: d.Scale}
	if strings.Contains(s, ".") {
		v.Kind = api.Dec
	}
	return v, e == api.OK
}

// quoted gives s within quotes, each quote within it twice.
func quoted(s string) string {
	out := append(make([]byte, 0, len(s)+2), quote)
	at := 0
next:
	if at == len(s) {
		return string(append(out, quote))
	}
	if s[at] == quote {
		out = append(out, quote)
	}
	out = append(out, s[at])
	at++
	goto next
}

// unquoted gives what stands within the quotes of s, each two of them as one.
func unquoted(s string) (string, bool) {
	var out []byte
	at := 1
next:
	if at >= len(s) {
		return "", false
	}
	if s[at] == quote {
		at++
		if at == len(s) {
			return string(out), true
		}
		if s[at] != quote {
			return "", false
		}
	}
	out = append(out, s[at])
	at++
	goto next
}
