package lexer

import "strings"

const (
	blanks = " \t\n"
	// The signs of one byte that no sign of two begins with.
	signs = "(),.;*+-/%="
	quote = '\''
)

// told gives the Kind of the token that stands at a place of s, and where it
// ends; a Kind of 0, if none does. It goes by the bytes alone: a word may still
// be too long, and a literal no value's text.
func told(s string, at int) (kind, end int) {
	switch c := byteAt(s, at); {
	case isLetter(c):
		goto word
	case isDigit(c):
		goto whole
	case c == quote:
		goto text
	case c == '<':
		goto less
	case c == '>':
		goto greater
	case strings.IndexByte(signs, c) >= 0:
		return Sign, at + 1
	}
	return 0, 0
word:
	at++
	if c := byteAt(s, at); isLetter(c) || isDigit(c) {
		goto word
	}
	return Name, at
whole:
	at++
	if isDigit(byteAt(s, at)) {
		goto whole
	}
	if byteAt(s, at) != '.' {
		return Literal, at
	}
part:
	at++
	if isDigit(byteAt(s, at)) {
		goto part
	}
	return Literal, at
text:
	at++
	if at == len(s) {
		return 0, 0
	}
	if s[at] != quote {
		goto text
	}
	at++
	if byteAt(s, at) == quote {
		goto text
	}
	return Literal, at
less:
	if byteAt(s, at+1) == '>' {
		return Sign, at + 2
	}
greater:
	if byteAt(s, at+1) == '=' {
		return Sign, at + 2
	}
	return Sign, at + 1
}

// pastBlanks gives the first place from at on where no blank stands.
func pastBlanks(s string, at int) int {
	for strings.IndexByte(blanks, byteAt(s, at)) >= 0 {
		at++
	}
	return at
}

// byteAt gives 0 past the end: outside of quotes that is part of nothing.
func byteAt(s string, at int) byte {
	if at < len(s) {
		return s[at]
	}
	return 0
}

func isLetter(c byte) bool {
	return 'a' <= c && c <= 'z' || c == '_'
}

func isDigit(c byte) bool {
	return '0' <= c && c <= '9'
}
