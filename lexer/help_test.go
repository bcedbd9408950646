package lexer_test

import (
	"fmt"
	"math/big"
	"math/rand"
	"regexp"
	"slices"
	"strings"
	"testing"
	"unicode/utf8"

	"longstop/api"
	"longstop/lexer"
)

type (
	Token = lexer.Token
	Value = api.Value
)

const great = "9223372036854775807"

// allSigns: the chapter's, one by one.
var allSigns = strings.Fields("( ) , . ; * + - / % = <> < <= > >=")

func name(s string) Token { return Token{Kind: lexer.Name, Text: s} }

func sign(s string) Token { return Token{Kind: lexer.Sign, Text: s} }

func whole(s string, n int) Token {
	return Token{Kind: lexer.Literal, Text: s, Value: Value{Kind: api.Int, N: n}}
}

func dec(s string, units, scale int) Token {
	return Token{Kind: lexer.Literal, Text: s, Value: Value{Kind: api.Dec, N: units, M: scale}}
}

func text(s, in string) Token {
	return Token{Kind: lexer.Literal, Text: s, Value: Value{Kind: api.Text, B: in}}
}

// quoted gives the literal of a text.
func quoted(in string) Token {
	return text("'"+strings.ReplaceAll(in, "'", "''")+"'", in)
}

// at gives t at a place.
func at(place int, t Token) Token {
	t.At = place
	return t
}

// placeless gives tokens without their places.
func placeless(l []Token) []Token {
	l = slices.Clone(l)
	for i := range l {
		l[i].At = 0
	}
	return l
}

// split is of texts that are tokens.
func split(t *testing.T, s string) []Token {
	t.Helper()
	l, e := lexer.Split(s)
	if e != api.OK {
		t.Fatalf("Split of %s: %d", short(s), e)
	}
	return l
}

// refused complains unless Split answers that error, and nothing beside it.
func refused(t *testing.T, s string, want api.Errno) {
	t.Helper()
	if l, e := lexer.Split(s); e != want || len(l) != 0 {
		t.Errorf("Split of %s: %s and %d, not %d", short(s), short(l), e, want)
	}
}

// short tells x in a line that can be read.
func short(x any) string {
	s := fmt.Sprintf("%q", x)
	if _, ok := x.([]Token); ok {
		s = fmt.Sprintf("%+v", x)
	}
	return s[:min(len(s), 300)]
}

var (
	aWord   = regexp.MustCompile(`^[a-z_][a-z_0-9]*`)
	aNumber = regexp.MustCompile(`^([0-9]+)(\.?)([0-9]*)`)
	aText   = regexp.MustCompile(`(?s)^'((?:[^']|'')*)'`)
)

// expected tells a text's tokens by the chapter's sentences, another way.
func expected(s string) ([]Token, api.Errno) {
	if len(s) > 4096 {
		return nil, api.ErrSize
	}
	var l []Token
	for i := 0; i < len(s); {
		if strings.ContainsRune(" \t\n", rune(s[i])) {
			i++
			continue
		}
		t, ok := expectedToken(s[i:])
		if !ok {
			return nil, api.ErrSyntax
		}
		l = append(l, at(i, t))
		i += len(t.Text)
	}
	return l, api.OK
}

// expectedToken tells what stands at the beginning of s.
func expectedToken(s string) (Token, bool) {
	if in := aWord.FindString(s); in != "" {
		return name(in), len(in) <= 32
	}
	if in := aNumber.FindStringSubmatch(s); in != nil {
		return expectedNumber(in[0], in[1], in[2], in[3])
	}
	if in := aText.FindStringSubmatch(s); in != nil {
		value := strings.ReplaceAll(in[1], "''", "'")
		return text(in[0], value), len(value) <= 256 && utf8.ValidString(value)
	}
	longest := ""
	for _, in := range allSigns {
		if strings.HasPrefix(s, in) && len(in) > len(longest) {
			longest = in
		}
	}
	return sign(longest), longest != ""
}

func expectedNumber(all, front, point, behind string) (Token, bool) {
	units, _ := new(big.Int).SetString(front+behind, 10)
	right := units.IsInt64() && len(behind) <= 6 && (front == "0" || front[0] != '0')
	n := int(units.Int64())
	if point == "" {
		return whole(all, n), right
	}
	return dec(all, n, len(behind)), right
}

// held complains unless Split tells of s what is expected.
func held(t *testing.T, s string) ([]Token, api.Errno) {
	t.Helper()
	got, e := lexer.Split(s)
	want, f := expected(s)
	if e != f || e != api.OK && len(got) != 0 || e == api.OK && !slices.Equal(got, want) {
		t.Fatalf("Split of %s: %s and %d, not %s and %d", short(s), short(got), e, short(want), f)
	}
	return got, e
}

// pieces: what texts are made of, whole tokens and parts of them.
func pieces() []string {
	return append(slices.Clone(allSigns),
		" ", " ", " ", "\t", "\n", "  ",
		"a", "b1", "_", "select", "null", "true", "z_9", "e5", "x", "n"+strings.Repeat("m", 31), "n"+strings.Repeat("m", 32),
		"0", "1", "9", "10", "00", "01", "1.", "2.5", "2.50", "0.", "0.0", ".5", "0.123456", "0.1234567", great, "9223372036854775808", "922337203685477580.7", "922337203685477580.8",
		"'", "''", "'''", "''''", "'a'", "'it''s'", "'1'", "' '", "'\n'", "'é日'", "'\xff'", "'\r'",
		"'"+strings.Repeat("a", 256)+"'", "'"+strings.Repeat("''", 256)+"'", "'"+strings.Repeat("a", 257)+"'",
		"é", "\xff", "\x80", "A", "Z", "?", "!", "\"", "\r", "\x00", "\x7f", "@", "`", "{", "/", ":",
	)
}

// wild gives a text of pieces: of such that are tokens or blanks alone mostly,
// so that many of the texts are right as a whole.
func wild(r *rand.Rand, all []string) string {
	var b strings.Builder
	careful := r.Intn(4) > 0
	for range r.Intn(12) {
		in := all[r.Intn(len(all))]
		if _, e := expected(in); careful && e != api.OK {
			continue
		}
		b.WriteString(in)
	}
	return b.String()
}
