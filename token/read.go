package token

import (
	"strconv"
	"strings"

	"parterre/api"
)

// unsaid counts the bytes that s begins with and that say nothing: blanks,
// and a remark. None of them is a byte 10, so that they are all of one line.
func unsaid(s string) int {
	blanks := span(s, isBlank)
	if blanks == len(s) || s[blanks] != '#' {
		return blanks
	}
	return blanks + span(s[blanks:], inLine)
}

// read is the token that s (of a byte at least) begins with, without its
// place, and how many bytes it has; or false, and how many bytes stand ahead
// of the wrong one.
func read(s string) (api.Token, int, bool) {
	switch c := s[0]; {
	case c == '\n':
		return api.Token{Kind: api.TEnd}, 1, true
	case isLetter(c):
		return word(s)
	case c == '-':
		if span(s[1:], isDigit) == 0 {
			return api.Token{}, 0, false
		}
		fallthrough // from here on it is a number like any other
	case isDigit(c):
		return number(s)
	}
	return api.Token{}, 0, false
}

// word is read, where s begins with a letter.
func word(s string) (api.Token, int, bool) {
	size := span(s, isLetter)
	if size < len(s) && (isDigit(s[size]) || s[size] == '-') {
		return api.Token{}, size, false
	}
	return api.Token{Kind: api.TWord, Text: strings.Clone(s[:size])}, size, true
}

// number is read, where s begins with a digit, or with a - and a digit. That
// it is too great is told ahead of what stands behind it: it is further left.
func number(s string) (api.Token, int, bool) {
	size := 1 + span(s[1:], isDigit)
	n, err := strconv.ParseInt(s[:size], 10, 32)
	if err != nil {
		return api.Token{}, 0, false
	}
	if size < len(s) && (isLetter(s[size]) || s[size] == '-') {
		return api.Token{}, size, false
	}
	return api.Token{Kind: api.TNumber, N: int(n), Text: strings.Clone(s[:size])}, size, true
}

// span counts the bytes that s begins with and that are of a kind.
func span(s string, is func(byte) bool) int {
	for i := range len(s) {
		if !is(s[i]) {
			return i
		}
	}
	return len(s)
}

func isBlank(c byte) bool  { return c == ' ' || c == '\t' || c == '\r' }
func isLetter(c byte) bool { return 'a' <= c && c <= 'z' }
func isDigit(c byte) bool  { return '0' <= c && c <= '9' }
func inLine(c byte) bool   { return c != '\n' }
