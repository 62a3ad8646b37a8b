package parse

import (
	"parterre/api"
	"parterre/token"
	"parterre/venue"
)

// line is a line of a manifest: its tokens, and the spot where it ends.
type line struct {
	tokens []api.Token
	end    api.Spot
}

// lineAt is the line of tokens that begins at at, and where the next begins;
// behind is the spot behind the text, where a line without a TEnd ends.
func lineAt(tokens []api.Token, at int, behind api.Spot) (line, int) {
	l, next := token.Line(tokens, at)
	if last := tokens[next-1]; last.Kind == api.TEnd {
		return line{l, spotOf(last)}, next
	}
	return line{l, behind}, next
}

// fact is a line that is well formed: its word, and all its numbers.
type fact struct {
	word    api.Token
	numbers []api.Token
}

// number is the fact's number at i, counted from 0 on.
func (f fact) number(i int) int { return f.numbers[i].N }

// tell is the fact that l (of a token at least) tells.
func tell(l line) (fact, error) {
	word, rest := l.tokens[0], l.tokens[1:]
	// Only words have such a text, so that the kind of token need not be asked.
	senses := sensesOf(word.Text)
	if len(senses) == 0 {
		return fact{}, wrongToken(word)
	}
	for i := range senses {
		if i == len(rest) {
			return fact{}, wrongAt(l.end)
		}
		if rest[i].Kind != api.TNumber {
			return fact{}, wrongToken(rest[i])
		}
	}
	if len(rest) > len(senses) {
		return fact{}, wrongToken(rest[len(senses)])
	}
	// A loop of its own: the line's form is told ahead of its numbers' ranges.
	for i, s := range senses {
		if !s.lets(rest[i].N) {
			return fact{}, wrongToken(rest[i])
		}
	}
	return fact{word, rest}, nil
}

// sense is what a number of a line says.
type sense int

const (
	isRow sense = iota
	isX
	isY
	isR
	isGap
	isRadius
)

// sensesOf is what the numbers behind a word say; none of a word that no line
// begins with.
func sensesOf(word string) []sense {
	switch word {
	case "seat", "wheel", "companion":
		return []sense{isRow, isX, isY}
	case "kill":
		return []sense{isRow, isX}
	case "pole":
		return []sense{isX, isY, isR}
	case "gap":
		return []sense{isGap}
	case "radius":
		return []sense{isRadius}
	}
	return nil
}

// lets tells whether venue lets n, by itself. Venue alone knows how far its
// numbers go: n stands in a hall that may be but for n.
func (s sense) lets(n int) bool {
	seat, pole := api.Seat{}, api.Pole{R: 1}
	v := api.Venue{Gap: 1}
	switch s {
	case isRow:
		seat.Row = n
	case isX:
		seat.X = n
	case isY:
		seat.Y = n
	case isR:
		pole.R = n
	case isGap:
		v.Gap = n
	case isRadius:
		v.Radius = n
	}
	v.Seats, v.Poles = []api.Seat{seat}, []api.Pole{pole}
	return venue.May(v)
}
