package token_test

import (
	"math/big"
	"regexp"
	"slices"
	"strings"
	"testing"

	"parterre/api"
	"parterre/token"
)

// Promise 2.3 and T3: whatever the text, what is wrong is found from the
// left, and at its place.

var (
	quiet   = regexp.MustCompile(`^[ \t\r]*(#[^\n]*)?`)
	token1  = regexp.MustCompile(`^(\n|[a-z]+|-?[0-9]+)`)
	tooMuch = regexp.MustCompile(`^([a-z]+[0-9-]|-?[0-9]+[a-z-])`)
	least   = big.NewInt(-1 << 31)
	most    = big.NewInt(1<<31 - 1)
)

// place is the spot of the byte at i of s, counted from the beginning.
func place(s string, i int) api.Spot {
	return spotAt(1+strings.Count(s[:i], "\n"), i-strings.LastIndexByte(s[:i], '\n'))
}

// expect is All's answer worked out another way: the tokens of s from at on,
// and where the byte is that is wrong (the length: none is).
func expect(s string, at int) ([]api.Token, int) {
	at += len(quiet.FindString(s[at:]))
	if at == len(s) {
		return nil, at
	}
	text := token1.FindString(s[at:])
	tok := api.Token{Line: place(s, at).Line, Col: place(s, at).Col, Text: text}
	n, isNumber := new(big.Int).SetString(text, 10)
	switch {
	case text == "", isNumber && (n.Cmp(least) < 0 || n.Cmp(most) > 0):
		return nil, at
	case tooMuch.MatchString(s[at:]):
		return nil, at + len(text)
	case text == "\n":
		tok.Kind, tok.Text = api.TEnd, ""
	case isNumber:
		tok.Kind, tok.N = api.TNumber, int(n.Int64())
	default:
		tok.Kind = api.TWord
	}
	rest, wrong := expect(s, at+len(text))
	return append([]api.Token{tok}, rest...), wrong
}

// texts goes through all rows of at most n of the pieces.
func texts(n int, pieces []string, do func(string)) {
	var grow func(s string, left int)
	grow = func(s string, left int) {
		do(s)
		if left == 0 {
			return
		}
		for _, p := range pieces {
			grow(s+p, left-1)
		}
	}
	grow("", n)
}

func TestAllAsWorkedOutAnotherWay(t *testing.T) {
	pieces := []string{"a", "z", "0", "7", "-", " ", "\t", "#", "\n", "?", "2147483648", "-2147483648"}
	texts(4, pieces, func(s string) {
		want, wrong := expect(s, 0)
		code := api.ErrText
		if wrong == len(s) {
			code = api.OK
		}
		l, spot, got := token.All(s)
		if !slices.Equal(l, want) || spot != place(s, wrong) || got != code {
			t.Fatalf("All(%q): %+v, %v, %d, want %+v, %v, %d", s, l, spot, got, want, place(s, wrong), code)
		}
	})
}

func TestWhatIsFurtherRightDoesNotMatter(t *testing.T) {
	pieces := []string{"a", "5", "-", " ", "\n", "?", "#", "4294967296"}
	texts(4, pieces, func(s string) {
		l, spot, code := token.All(s)
		if code == 0 {
			return
		}
		for _, more := range []string{"\n", "\n5", "\n?", "\n-\n3a"} {
			l2, spot2, code2 := token.All(s + more)
			if !slices.Equal(l, l2) || spot != spot2 || code != code2 {
				t.Fatalf("%q: %v, %d; with %q behind it %v, %d", s, spot, code, more, spot2, code2)
			}
		}
	})
}

func TestTheLeftmostErrorIsTold(t *testing.T) {
	for s, spot := range map[string]api.Spot{
		"99999999999a":     spotAt(1, 1),
		"99999999999-":     spotAt(1, 1),
		"-99999999999z":    spotAt(1, 1),
		"5a 99999999999":   spotAt(1, 2),
		"ab-5c ?":          spotAt(1, 3),
		"# ?\n -?":         spotAt(2, 2),
		"a 1\n1- 2a\n?":    spotAt(2, 2),
		"seat A\nwheel 5x": spotAt(1, 6),
	} {
		if _, got, code := token.All(s); got != spot || code != api.ErrText {
			t.Errorf("All(%q): %v, %d, want %v", s, got, code, spot)
		}
	}
}

func TestNextStepsAsAllDoes(t *testing.T) {
	s := " seat 1 2\t3 # x\r\n\n#\nkill -5"
	want, behind, _ := token.All(s)
	var got []api.Token
	at, spot, code := 0, spotAt(1, 1), 0
	for {
		var tok api.Token
		tok, at, spot, code = token.Next(s, at, spot)
		if code != 0 {
			break
		}
		got = append(got, tok)
	}
	if !slices.Equal(got, want) || at != len(s) || spot != behind || code != api.ErrNone {
		t.Errorf("%+v, %d, %v, %d, want %+v, %v", got, at, spot, code, want, behind)
	}
}
