package lexer_test

import (
	"slices"
	"strings"
	"testing"
	"unsafe"

	"longstop/api"
	"longstop/lexer"
)

const sample = "select a.b, 'it''s' from t where x<>-2.50 and y >= 3. ;"

// within tells whether two texts have memory in common.
func within(a, b string) bool {
	if a == "" || b == "" {
		return false
	}
	from, to := uintptr(unsafe.Pointer(unsafe.StringData(a))), uintptr(unsafe.Pointer(unsafe.StringData(b)))
	return from < to+uintptr(len(b)) && to < from+uintptr(len(a))
}

func TestP501NewMemory(t *testing.T) {
	for _, s := range []string{sample, "abc", "'abc'", "12.5", "<>"} {
		l, again := split(t, s), split(t, s)
		for i, in := range l {
			for _, other := range []string{in.Text, in.Value.B} {
				if within(other, s) || within(other, again[i].Text) || within(other, again[i].Value.B) {
					t.Errorf("Split of %q: %q shares its memory", s, other)
				}
			}
		}
		joined := lexer.Join(l)
		for _, in := range l {
			if within(joined, in.Text) || within(joined, in.Value.B) {
				t.Errorf("Join of %q shares its memory", s)
			}
		}
	}
}

func TestP501AnswersAreApart(t *testing.T) {
	a, b := split(t, sample), split(t, sample)
	want := slices.Clone(b)
	for i := range a {
		a[i] = name("other")
	}
	room := append(a, name("x"))[:cap(a)]
	for i := range room {
		room[i] = name("y")
	}
	if !slices.Equal(b, want) || !slices.Equal(split(t, sample), want) {
		t.Error("an answer was changed by what was done to another one")
	}
}

func TestP501ArgumentsStay(t *testing.T) {
	room := split(t, sample)
	was := slices.Clone(room)
	if lexer.Join(room[:4]) != "select a . b" {
		t.Error(lexer.Join(room[:4]))
	}
	lexer.Join(append(room[:4:4], Token{}))
	lexer.Right(room[0])
	if !slices.Equal(room, was) {
		t.Error("Join changed what it was handed")
	}
}

// What is answered does not hang on what was called before.
func TestP501Again(t *testing.T) {
	for _, s := range []string{sample, "", "a?", "'", "1.2.3", strings.Repeat(" ", api.MaxSource+1)} {
		l, e := lexer.Split(s)
		joined, word := lexer.Join(l), lexer.Word(s)
		lexer.Split("other 'text'")
		lexer.Join([]Token{{Kind: 9}})
		again, f := lexer.Split(string([]byte(s)))
		if e != f || !slices.Equal(l, again) || lexer.Join(again) != joined || lexer.Word(s) != word {
			t.Errorf("%s: not the same again", short(s))
		}
	}
}

// Beside an error there is no token, not even of what stood ahead of the fault.
func TestP501NothingBesideErrors(t *testing.T) {
	refused(t, "select a from t where ?", api.ErrSyntax)
	refused(t, "select a from t where 'b", api.ErrSyntax)
	refused(t, "a"+strings.Repeat(" ", api.MaxSource), api.ErrSize)
}

func TestP501Kinds(t *testing.T) {
	if lexer.Name != 1 || lexer.Sign != 2 || lexer.Literal != 3 {
		t.Error(lexer.Name, lexer.Sign, lexer.Literal)
	}
	for _, in := range split(t, sample) {
		if in.Kind != lexer.Literal && in.Value != (Value{}) {
			t.Errorf("%+v has a value", in)
		}
	}
}
