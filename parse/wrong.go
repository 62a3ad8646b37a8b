package parse

import (
	"errors"

	"parterre/api"
	"parterre/fault"
)

// wrong is why a text is no manifest. A fault can be asked by package fault
// alone; this is what Venue and Check ask, ahead of a fault being made of it.
type wrong struct {
	code int
	spot api.Spot
}

// Error is the code and the place in words, as those of the fault are.
func (w wrong) Error() string { return fault.Text(toFault(w.code, w.spot)) }

// wrongAt is an error of the text at that spot.
func wrongAt(spot api.Spot) error { return wrong{api.ErrText, spot} }

// wrongToken is an error of the text at that token.
func wrongToken(tok api.Token) error { return wrongAt(spotOf(tok)) }

func spotOf(tok api.Token) api.Spot { return api.Spot{Line: tok.Line, Col: tok.Col} }

// ask is the code and the place that err tells; OK, nowhere, of none.
func ask(err error) (int, api.Spot) {
	var w wrong
	if errors.As(err, &w) {
		return w.code, w.spot
	}
	return api.OK, api.Spot{}
}

// toFault is the fault of that code at that spot; nil of OK.
func toFault(code int, spot api.Spot) error { return fault.New(code, spot.Line, spot.Col) }
