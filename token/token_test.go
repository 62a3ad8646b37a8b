package token_test

import (
	"math"
	"slices"
	"strings"
	"testing"
	"unsafe"

	"parterre/api"
	"parterre/token"
)

// start is where the tests of Next begin: no line or column of it is usual.
var start = api.Spot{Line: 7, Col: 20}

// told is all that Next tells.
type told struct {
	tok  api.Token
	at   int
	spot api.Spot
	code int
}

func next(s string, at int) told {
	tok, to, spot, code := token.Next(s, at, start)
	return told{tok, to, spot, code}
}

func spotAt(line, col int) api.Spot { return api.Spot{Line: line, Col: col} }

func word(line, col int, text string) api.Token {
	return api.Token{Kind: api.TWord, Line: line, Col: col, Text: text}
}

func number(line, col, n int, text string) api.Token {
	return api.Token{Kind: api.TNumber, N: n, Line: line, Col: col, Text: text}
}

func end(line, col int) api.Token {
	return api.Token{Kind: api.TEnd, Line: line, Col: col}
}

func checkNext(t *testing.T, s string, at int, want told) {
	t.Helper()
	if got := next(s, at); got != want {
		t.Errorf("Next(%.40q, %d): %+v, want %+v", s, at, got, want)
	}
}

// checkWrong asks for ErrText at the byte that stands col columns on.
func checkWrong(t *testing.T, s string, at, col int) {
	t.Helper()
	checkNext(t, s, at, told{api.Token{}, at, spotAt(7, 20+col), api.ErrText})
}

// Promise 2.1: Next.

func TestNextOfWords(t *testing.T) {
	checkNext(t, "seat 5", 0, told{word(7, 20, "seat"), 4, spotAt(7, 24), 0})
	checkNext(t, "az", 0, told{word(7, 20, "az"), 2, spotAt(7, 22), 0})
	checkNext(t, "x", 0, told{word(7, 20, "x"), 1, spotAt(7, 21), 0})
	checkNext(t, "gap\n", 0, told{word(7, 20, "gap"), 3, spotAt(7, 23), 0})
	checkNext(t, "gap#\n", 0, told{word(7, 20, "gap"), 3, spotAt(7, 23), 0})
	long := strings.Repeat("q", 5000)
	checkNext(t, long, 0, told{word(7, 20, long), 5000, spotAt(7, 5020), 0})
}

func TestNextOfNumbers(t *testing.T) {
	checkNext(t, "5", 0, told{number(7, 20, 5, "5"), 1, spotAt(7, 21), 0})
	checkNext(t, "1234567890 ", 0, told{number(7, 20, 1234567890, "1234567890"), 10, spotAt(7, 30), 0})
	checkNext(t, "-3#", 0, told{number(7, 20, -3, "-3"), 2, spotAt(7, 22), 0})
	checkNext(t, "0", 0, told{number(7, 20, 0, "0"), 1, spotAt(7, 21), 0})
	checkNext(t, "-0\n", 0, told{number(7, 20, 0, "-0"), 2, spotAt(7, 22), 0})
	checkNext(t, "-007\t", 0, told{number(7, 20, -7, "-007"), 4, spotAt(7, 24), 0})
	zeros := strings.Repeat("0", 300)
	checkNext(t, zeros+"9", 0, told{number(7, 20, 9, zeros+"9"), 301, spotAt(7, 321), 0})
}

func TestNextOfNumbersAtTheEdges(t *testing.T) {
	for text, n := range map[string]int{
		"2147483647":     1<<31 - 1,
		"-2147483648":    -1 << 31,
		"0002147483647":  1<<31 - 1,
		"-0002147483648": -1 << 31,
	} {
		size := len(text)
		checkNext(t, text, 0, told{number(7, 20, n, text), size, spotAt(7, 20+size), 0})
	}
	for _, text := range []string{
		"2147483648", "-2147483649", "0002147483648", "-0002147483649", "4294967296", "4294967301",
		"9223372036854775807", "9223372036854775808", "-9223372036854775809",
		"18446744073709551616", "18446744073709551621", strings.Repeat("1", 5000),
	} {
		checkWrong(t, text, 0, 0)
		checkWrong(t, "a \t"+text+" 5", 1, 2)
	}
}

func TestNextOfEnds(t *testing.T) {
	checkNext(t, "\n", 0, told{end(7, 20), 1, spotAt(8, 1), 0})
	checkNext(t, "a\n\nb", 1, told{end(7, 20), 2, spotAt(8, 1), 0})
	checkNext(t, "a \t\r\nb", 1, told{end(7, 23), 5, spotAt(8, 1), 0})
	checkNext(t, "# seat % \xff #\nb", 0, told{end(7, 32), 13, spotAt(8, 1), 0})
}

func TestNextPassesOverBlanksAndRemarks(t *testing.T) {
	checkNext(t, "  \t\r seat", 0, told{word(7, 25, "seat"), 9, spotAt(7, 29), 0})
	checkNext(t, "\r\r-4 ", 1, told{number(7, 21, -4, "-4"), 4, spotAt(7, 23), 0})
	checkNext(t, "seat 5", 4, told{number(7, 21, 5, "5"), 6, spotAt(7, 22), 0})
	checkNext(t, "seat", 2, told{word(7, 20, "at"), 4, spotAt(7, 22), 0})
	checkNext(t, " A", 1, told{api.Token{}, 1, start, api.ErrText})
}

func TestNextAtTheEnd(t *testing.T) {
	checkNext(t, "", 0, told{api.Token{}, 0, start, api.ErrNone})
	checkNext(t, "seat", 4, told{api.Token{}, 4, start, api.ErrNone})
	checkNext(t, "seat\n", 5, told{api.Token{}, 5, start, api.ErrNone})
	checkNext(t, "a \t\r ", 1, told{api.Token{}, 5, spotAt(7, 24), api.ErrNone})
	checkNext(t, "a # b 5 %", 1, told{api.Token{}, 9, spotAt(7, 28), api.ErrNone})
	checkNext(t, "#", 0, told{api.Token{}, 1, spotAt(7, 21), api.ErrNone})
}

func TestNextOfNoPlace(t *testing.T) {
	for _, s := range []string{"", "a", "seat 5\n", "%"} {
		for _, at := range []int{-1, -2, math.MinInt, len(s) + 1, len(s) + 2, math.MaxInt} {
			checkNext(t, s, at, told{api.Token{}, at, start, api.ErrArg})
		}
	}
}

func TestNextOfOtherBytes(t *testing.T) {
	for c := range 256 {
		s := string([]byte{byte(c)})
		switch {
		case c >= 'a' && c <= 'z':
			checkNext(t, s, 0, told{word(7, 20, s), 1, spotAt(7, 21), 0})
		case c >= '0' && c <= '9':
			checkNext(t, s, 0, told{number(7, 20, c-'0', s), 1, spotAt(7, 21), 0})
		case c == 10:
			checkNext(t, s, 0, told{end(7, 20), 1, spotAt(8, 1), 0})
		case c == 32 || c == 9 || c == 13 || c == '#':
			checkNext(t, s, 0, told{api.Token{}, 1, spotAt(7, 21), api.ErrNone})
		default:
			checkWrong(t, s, 0, 0)
			checkWrong(t, "5 \t"+s+" 5\n", 1, 2)
			checkNext(t, "ab"+s, 0, byteBehind(c, "ab", word(7, 20, "ab")))
			checkNext(t, "-12"+s, 0, byteBehind(c, "-12", number(7, 20, -12, "-12")))
		}
	}
}

// byteBehind is what Next tells of a token with such a byte right behind it:
// only a - spoils the token ahead of it.
func byteBehind(c int, text string, tok api.Token) told {
	size := len(text)
	if c == '-' {
		return told{api.Token{}, 0, spotAt(7, 20+size), api.ErrText}
	}
	return told{tok, size, spotAt(7, 20+size), 0}
}

func TestNextOfALoneMinus(t *testing.T) {
	for _, s := range []string{"-", "- 5", "--5", "-a", "-\n", "-#", "-\xff", "-/", "-:"} {
		checkWrong(t, s, 0, 0)
		checkWrong(t, "a  "+s, 1, 2)
	}
}

func TestNextOfWhatRunsTogether(t *testing.T) {
	for _, s := range []string{"ab0", "ab9", "ab5c", "ab-", "ab-5", "ab--", "12a", "12z9", "12-", "12-3", "12--"} {
		checkWrong(t, s, 0, 2)
		checkWrong(t, "\t\t"+s+"\n", 0, 4)
	}
	checkWrong(t, "-12a", 0, 3)
	checkWrong(t, "-12-", 0, 3)
}

func TestNextGoesOnFromAnySpot(t *testing.T) {
	for _, from := range []api.Spot{{}, {Line: -4, Col: -9}, {Line: 1, Col: 1}, {Line: math.MinInt, Col: math.MinInt}} {
		tok, to, spot, code := token.Next("x ab", 1, from)
		if tok != word(from.Line, from.Col+1, "ab") || to != 4 || spot != spotAt(from.Line, from.Col+3) || code != 0 {
			t.Errorf("from %v: %+v, %d, %v, %d", from, tok, to, spot, code)
		}
	}
	for _, s := range []string{"ab", "\n", "", "%", "5a", " # x"} {
		token.Next(s, 0, spotAt(math.MaxInt, math.MaxInt))
	}
}

func TestTextsAreTheCallersOwn(t *testing.T) {
	s := strings.Repeat("ab", 3) + " 123"
	for _, at := range []int{0, 6} {
		tok, to, _, _ := token.Next(s, at, start)
		first := to - len(tok.Text)
		if s[first:to] != tok.Text || unsafe.StringData(s[first:to]) == unsafe.StringData(tok.Text) {
			t.Errorf("the text %q shares the memory of what was handed in", tok.Text)
		}
	}
}

// Promise 2.2: All.

func checkAll(t *testing.T, s string, spot api.Spot, code int, want ...api.Token) {
	t.Helper()
	l, gotSpot, gotCode := token.All(s)
	if !slices.Equal(l, want) || gotSpot != spot || gotCode != code {
		t.Errorf("All(%.40q): %+v, %v, %d, want %+v, %v, %d", s, l, gotSpot, gotCode, want, spot, code)
	}
}

func TestAll(t *testing.T) {
	checkAll(t, "seat 5 -3", spotAt(1, 10), 0, word(1, 1, "seat"), number(1, 6, 5, "5"), number(1, 8, -3, "-3"))
	checkAll(t, "\tgap 2 # so\r\n\n radius 0\n", spotAt(4, 1), 0,
		word(1, 2, "gap"), number(1, 6, 2, "2"), end(1, 13), end(2, 1),
		word(3, 2, "radius"), number(3, 9, 0, "0"), end(3, 10))
	checkAll(t, "a\nb # last", spotAt(2, 9), 0, word(1, 1, "a"), end(1, 2), word(2, 1, "b"))
}

func TestAllOfNothing(t *testing.T) {
	checkAll(t, "", spotAt(1, 1), 0)
	checkAll(t, " \t\r", spotAt(1, 4), 0)
	checkAll(t, "# 5 %", spotAt(1, 6), 0)
	checkAll(t, "#\n#", spotAt(2, 2), 0, end(1, 2))
}

func TestAllTellsTheTokensAheadOfAnError(t *testing.T) {
	checkAll(t, "%", spotAt(1, 1), api.ErrText)
	checkAll(t, "a 1\n b?", spotAt(2, 3), api.ErrText, word(1, 1, "a"), number(1, 3, 1, "1"), end(1, 4), word(2, 2, "b"))
	checkAll(t, "a 1\n b5 ?", spotAt(2, 3), api.ErrText, word(1, 1, "a"), number(1, 3, 1, "1"), end(1, 4))
	checkAll(t, "\n\n 2147483648x", spotAt(3, 2), api.ErrText, end(1, 1), end(2, 1))
	checkAll(t, "a 5 -", spotAt(1, 5), api.ErrText, word(1, 1, "a"), number(1, 3, 5, "5"))
}

func TestAllOfTheLargestTexts(t *testing.T) {
	for _, piece := range []string{"\n", "a ", "# %\n", " ", "0", "-1 \n"} {
		full := strings.Repeat(piece, api.MaxText/len(piece))
		if l, _, code := token.All(full); code != 0 || (strings.TrimSpace(piece) != "" && len(l) == 0) {
			t.Errorf("%q, %d bytes: %d tokens, code %d", piece, len(full), len(l), code)
		}
		checkAll(t, full+" ", api.Spot{}, api.ErrLarge)
		checkAll(t, full+"%", api.Spot{}, api.ErrLarge)
		checkAll(t, "%"+full, api.Spot{}, api.ErrLarge)
	}
	checkAll(t, strings.Repeat(" ", api.MaxText-1)+"%", spotAt(1, api.MaxText), api.ErrText)
	checkAll(t, strings.Repeat(" ", api.MaxText), spotAt(1, api.MaxText+1), 0)
}

// Promise 2.2: Line.

func checkLine(t *testing.T, l []api.Token, at int, want []api.Token, to int) {
	t.Helper()
	got, gotTo := token.Line(l, at)
	if !slices.Equal(got, want) || gotTo != to {
		t.Errorf("Line of %d from %d: %+v, %d, want %+v, %d", len(l), at, got, gotTo, want, to)
	}
}

func TestLine(t *testing.T) {
	l := []api.Token{word(1, 1, "a"), number(1, 3, 5, "5"), end(1, 4), end(2, 1), word(3, 1, "b"), number(3, 3, 6, "6")}
	checkLine(t, l, 0, l[0:2], 3)
	checkLine(t, l, 1, l[1:2], 3)
	checkLine(t, l, 2, nil, 3)
	checkLine(t, l, 3, nil, 4)
	checkLine(t, l, 4, l[4:6], 6)
	checkLine(t, l, 5, l[5:6], 6)
	checkLine(t, l[:3], 0, l[0:2], 3)
	checkLine(t, []api.Token{{}, {Kind: -1}, {Kind: 9}, {Kind: api.TEnd}}, 0, []api.Token{{}, {Kind: -1}, {Kind: 9}}, 4)
}

func TestLineOfNoPlace(t *testing.T) {
	l := []api.Token{word(1, 1, "a"), end(1, 2), word(2, 1, "b")}
	for _, at := range []int{-1, -2, math.MinInt, 3, 4, math.MaxInt} {
		checkLine(t, l, at, nil, at)
	}
	for _, at := range []int{-1, 0, 1} {
		checkLine(t, nil, at, nil, at)
		checkLine(t, []api.Token{}, at, nil, at)
	}
}

func TestLinesAreTheCallersOwn(t *testing.T) {
	l := []api.Token{word(1, 1, "a"), number(1, 3, 5, "5"), end(1, 4), word(2, 1, "b")}
	kept := slices.Clone(l)
	for at := range l {
		row, _ := token.Line(l, at)
		for i := range row {
			row[i] = api.Token{Kind: 99}
		}
		_ = append(row, api.Token{Kind: 99})
	}
	if !slices.Equal(l, kept) {
		t.Errorf("the list was changed: %+v", l)
	}
}
