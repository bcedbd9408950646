package lexer_test

import (
	"math"
	"math/rand"
	"slices"
	"strings"
	"testing"

	"longstop/api"
	"longstop/lexer"
)

// some gives tokens of every Kind, at its edges.
func some() []Token {
	l := []Token{
		name("a"), name("_"), name("a1"), name("null"), name("select"), name(strings.Repeat("n", api.MaxName)),
		whole("0", 0), whole("7", 7), whole(great, math.MaxInt), dec("1.", 1, 0), dec("2.50", 250, 2), dec("0.000001", 1, 6),
		quoted(""), quoted("a"), quoted("it's"), quoted("'"), quoted(" a\nb\r"), quoted("é日"), quoted("\x00"), quoted(strings.Repeat("'", api.MaxValue)), quoted(strings.Repeat("a", api.MaxValue)),
	}
	for _, s := range allSigns {
		l = append(l, sign(s))
	}
	return l
}

// wrong gives tokens of which one part is not what Split tells.
func wrong() []Token {
	l := []Token{
		{}, {Kind: lexer.Name}, {Kind: lexer.Sign}, {Kind: lexer.Literal}, {Text: "a"}, {Text: "("}, {Text: "1", Value: Value{Kind: api.Int, N: 1}},
		name("A"), name("1a"), name("1"), name("("), name(strings.Repeat("n", api.MaxName+1)), name("a b"), name(" a"), name("a "), name("a\n"), name("é"), name("a."), name("a\x00"),
		sign("a"), sign("1"), sign("'a'"), sign("?"), sign("=="), sign("!="), sign("( "), sign(" ("), sign("< ="), sign("()"), sign("=<"), sign(" "), sign("--"),
		whole("01", 1), whole("-1", -1), whole("9223372036854775808", math.MinInt), whole("1 ", 1), whole("1", 2), whole("1.", 1), whole("1 1", 1), whole("", 0), whole("a", 0),
		dec("1", 1, 0), dec("1.", 1, 1), dec("1.0", 1, 0), dec("2.50", 25, 1), dec("2.5", 250, 2), dec(".5", 5, 1), dec("-2.5", -25, 1), dec("1.1234567", 11234567, 7), dec("1.2.3", 12, 1),
		text("a", "a"), text("'a'", "b"), text("'a", "a"), text("'a' ", "a"), text("'it''s'", "it''s"), text("'it's'", "it's"), text("''", "'"), text("'a'b'", "a'b"), text("'\xff'", "\xff"), quoted(strings.Repeat("a", api.MaxValue+1)),
		{Kind: lexer.Literal, Text: "null"}, {Kind: lexer.Literal, Text: "true", Value: Value{Kind: api.Bool, N: 1}}, {Kind: lexer.Literal, Text: "<1,2>", Value: Value{Kind: api.Point, N: 1, M: 2}},
		{Kind: lexer.Literal, Text: "1", Value: Value{Kind: api.Int, N: 1, B: "1"}}, {Kind: lexer.Literal, Text: "1", Value: Value{Kind: api.Int, N: 1, M: 1}},
		{Kind: lexer.Name, Text: strings.Repeat("a", api.MaxSource+1)}, {Kind: lexer.Name, Text: "a" + strings.Repeat(" ", api.MaxSource)}, {Kind: lexer.Sign, Text: strings.Repeat("(", 1<<20)},
	}
	for _, t := range some() {
		for _, kind := range []int{-1, 0, 1, 2, 3, 4, 256 + t.Kind, 1<<32 + t.Kind, math.MinInt, math.MaxInt} {
			if kind != t.Kind {
				l = append(l, Token{Kind: kind, Text: t.Text, Value: t.Value})
			}
		}
		l = append(l,
			Token{Kind: t.Kind, Text: t.Text + " ", Value: t.Value}, Token{Kind: t.Kind, Text: "\n" + t.Text, Value: t.Value}, Token{Kind: t.Kind, Text: t.Text + " ,", Value: t.Value}, Token{Kind: t.Kind, Text: t.Text + "?", Value: t.Value},
			Token{Kind: t.Kind, Text: t.Text, Value: Value{Kind: api.Bool, N: 1}}, Token{Kind: t.Kind, Text: t.Text, Value: Value{Kind: t.Value.Kind, N: t.Value.N ^ 1, M: t.Value.M, B: t.Value.B}},
			Token{Kind: t.Kind, Text: t.Text, Value: Value{Kind: t.Value.Kind, N: t.Value.N, M: t.Value.M + 1, B: t.Value.B}}, Token{Kind: t.Kind, Text: t.Text, Value: Value{Kind: t.Value.Kind, N: t.Value.N, M: t.Value.M, B: t.Value.B + "x"}})
	}
	return l
}

func TestP503Word(t *testing.T) {
	long := strings.Repeat("n", api.MaxName)
	for s, want := range map[string]bool{
		"a": true, "z": true, "_": true, "_a1": true, "a_b": true, "a0": true, "a9": true, "__": true, "_1": true, "null": true, "select": true, "and": true, long: true, long[1:] + "9": true, "_" + long[1:]: true,
		"": false, "1": false, "1a": false, "0_": false, "A": false, "aA": false, "a ": false, " a": false, "a b": false, "a\n": false, "a.b": false, "a(": false, "(": false, "'a'": false, "a'": false, "a-b": false, "é": false, "aé": false, "a\xff": false, "a\x00": false, "\x00": false, "a?": false, "a\r": false,
		"{": false, "`": false, "@": false, "[": false, "/": false, ":": false, "a:": false, "a/": false, "a`": false, "a{": false, long + "n": false, long + "1": false, long + " ": false, " " + long: false, strings.Repeat("n", 1<<20): false,
	} {
		if lexer.Word(s) != want {
			t.Errorf("Word of %s: %v", short(s), !want)
		}
	}
}

// What is a word is what Split tells as a Name, and nothing else is one.
func TestP503WordsAreNames(t *testing.T) {
	for a := range 256 {
		for b := range 256 {
			for _, s := range []string{string([]byte{byte(a)}), string([]byte{byte(a), byte(b)}), string([]byte{'_', byte(a), byte(b)})} {
				l, e := expected(s)
				want := e == api.OK && len(l) == 1 && l[0] == name(s)
				if lexer.Word(s) != want || lexer.Right(name(s)) != want {
					t.Fatalf("Word of %q: %v", s, lexer.Word(s))
				}
			}
		}
	}
}

func TestP503Right(t *testing.T) {
	for _, in := range some() {
		for _, place := range []int{0, 1, -1, 4096, math.MaxInt, math.MinInt} {
			if !lexer.Right(at(place, in)) {
				t.Errorf("%+v is right", at(place, in))
			}
		}
	}
	for _, in := range wrong() {
		for _, place := range []int{0, 7, -1} {
			if lexer.Right(at(place, in)) {
				t.Errorf("%s is not right", short([]Token{in}))
			}
		}
	}
}

// Right is what Split tells of the Text alone, whatever the token came from.
func TestP503RightIsSplits(t *testing.T) {
	r := rand.New(rand.NewSource(3))
	all := pieces()
	right := 0
	for range 100000 {
		in := Token{Kind: 1 + r.Intn(3), Text: all[r.Intn(len(all))], At: r.Intn(9)}
		if r.Intn(4) == 0 {
			in.Text += all[r.Intn(len(all))]
		}
		l, e := expected(in.Text)
		if len(l) == 1 && r.Intn(4) > 0 {
			in.Kind, in.Value = l[0].Kind, l[0].Value
		}
		want := e == api.OK && len(l) == 1 && l[0] == at(0, in)
		if lexer.Right(in) != want {
			t.Fatalf("Right of %s: %v", short([]Token{in}), !want)
		}
		if want {
			right++
		}
	}
	if right < 1000 {
		t.Error("too few tokens were right:", right)
	}
}

func TestP503Join(t *testing.T) {
	for want, l := range map[string][]Token{
		"":                 nil,
		"a":                {name("a")},
		"a1 <= 2.5":        {name("a1"), sign("<="), dec("2.5", 25, 1)},
		"a . b":            {name("a"), sign("."), name("b")},
		"< =":              {sign("<"), sign("=")},
		"< >":              {sign("<"), sign(">")},
		"1 2":              {whole("1", 1), whole("2", 2)},
		"1 . 5":            {whole("1", 1), sign("."), whole("5", 5)},
		"'a' 'b'":          {quoted("a"), quoted("b")},
		"'it''s' ( ) ;":    {quoted("it's"), sign("("), sign(")"), sign(";")},
		"a 'x\ny' a 1. .":  {at(9, name("a")), at(-1, quoted("x\ny")), at(9, name("a")), dec("1.", 1, 0), sign(".")},
		"select * from t":  {name("select"), sign("*"), name("from"), name("t")},
		"'' '' ''":         {quoted(""), quoted(""), quoted("")},
		"a a a a a a a a":  slices.Repeat([]Token{name("a")}, 8),
		"'  ' ,":           {quoted("  "), sign(",")},
		"- - 9.0 null _ %": {sign("-"), sign("-"), dec("9.0", 90, 1), name("null"), name("_"), sign("%")},
	} {
		if got := lexer.Join(l); got != want {
			t.Errorf("Join of %s: %q, not %q", short(l), got, want)
		}
	}
	if lexer.Join([]Token{}) != "" {
		t.Error("Join of no tokens")
	}
}

// Join knows no MaxSource: what it is handed may be longer than a text may be.
func TestP503LongJoin(t *testing.T) {
	l := slices.Repeat([]Token{quoted(strings.Repeat("'", api.MaxValue))}, 100)
	got := lexer.Join(l)
	want := strings.TrimSuffix(strings.Repeat("'"+strings.Repeat("''", api.MaxValue)+"' ", 100), " ")
	if got != want {
		t.Error(len(got), len(want))
	}
	refused(t, got, api.ErrSize)
}

func TestP503JoinOfWrongTokens(t *testing.T) {
	a := name("a")
	for _, in := range wrong() {
		for _, l := range [][]Token{{in}, {in, a}, {a, in}, {a, in, a}} {
			if got := lexer.Join(l); got != "" {
				t.Errorf("Join of %s: %s", short(l), short(got))
			}
		}
	}
}

func TestP504ThereAndBack(t *testing.T) {
	l := some()
	for _, a := range l {
		for _, b := range l {
			back(t, []Token{a, b})
		}
	}
	r := rand.New(rand.NewSource(4))
	for range 20000 {
		in := make([]Token, r.Intn(10))
		for i := range in {
			in[i] = at(r.Intn(100)-50, l[r.Intn(len(l))])
		}
		back(t, in)
	}
}

// back complains unless Split of Join are the same tokens, but for At.
func back(t *testing.T, l []Token) {
	t.Helper()
	s := lexer.Join(l)
	if len(s) > api.MaxSource {
		return
	}
	if got := split(t, s); !slices.Equal(placeless(got), placeless(l)) {
		t.Fatalf("Split of Join of %s: %s", short(l), short(got))
	}
}

func TestP504OfTexts(t *testing.T) {
	r := rand.New(rand.NewSource(5))
	all := pieces()
	for range 50000 {
		if l, e := lexer.Split(wild(r, all)); e == api.OK {
			for _, in := range l {
				if !lexer.Right(in) {
					t.Fatalf("%s is right", short([]Token{in}))
				}
			}
			back(t, l)
		}
	}
}

// A text of MaxSource bytes comes back, too, where Join writes no more.
func TestP504OfMaxSource(t *testing.T) {
	s := strings.Repeat("ab ", api.MaxSource/3) + "c"
	if len(s) != api.MaxSource || lexer.Join(split(t, s)) != s {
		t.Error(len(s))
	}
}
