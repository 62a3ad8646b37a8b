package parse

import (
	"slices"

	"parterre/api"
	"parterre/token"
	"parterre/venue"
)

// place is what no two seats share.
type place struct{ row, x int }

// hall is a venue whose lines are being read. Its kills may stand ahead of
// their seats, so that they are kept as they were told until the end.
type hall struct {
	venue     api.Venue
	seats     map[place]int // the numbers of the seats, as they were told
	kills     []fact
	hasRadius bool // a radius of 0 may be told, too
}

// read is the venue that s tells, or the first that is wrong.
func read(s string) (api.Venue, error) {
	tokens, spot, code := token.All(s)
	if code != api.OK {
		return api.Venue{}, wrong{code, spot}
	}
	h := hall{seats: map[place]int{}}
	for at := 0; at < len(tokens); {
		l, next := lineAt(tokens, at, spot)
		if err := h.read(l); err != nil {
			return api.Venue{}, err
		}
		at = next
	}
	return h.whole(spot)
}

func (h *hall) read(l line) error {
	if len(l.tokens) == 0 {
		return nil
	}
	f, err := tell(l)
	if err != nil {
		return err
	}
	if !h.add(f) {
		return wrongToken(f.word)
	}
	return nil
}

// add puts f into the hall; false if it is there already, or too much.
func (h *hall) add(f fact) bool {
	switch f.word.Text {
	case "seat":
		return h.addSeat(f, api.Plain)
	case "wheel":
		return h.addSeat(f, api.Wheel)
	case "companion":
		return h.addSeat(f, api.Companion)
	case "kill":
		h.kills = append(h.kills, f)
		return len(h.kills) <= api.MaxKills
	case "pole":
		pole := api.Pole{X: f.number(0), Y: f.number(1), R: f.number(2)}
		h.venue.Poles = append(h.venue.Poles, pole)
		return len(h.venue.Poles) <= api.MaxKills
	case "gap":
		first := !h.hasGap()
		h.venue.Gap = f.number(0)
		return first
	case "radius":
		first := !h.hasRadius
		h.venue.Radius, h.hasRadius = f.number(0), true
		return first
	}
	return false
}

// hasGap tells whether a gap was told: none that may be is 0.
func (h *hall) hasGap() bool { return h.venue.Gap != 0 }

func (h *hall) addSeat(f fact, kind int) bool {
	seat := api.Seat{Row: f.number(0), X: f.number(1), Y: f.number(2), Kind: kind}
	here := place{seat.Row, seat.X}
	if _, taken := h.seats[here]; taken {
		return false
	}
	h.seats[here] = len(h.venue.Seats)
	h.venue.Seats = append(h.venue.Seats, seat)
	return len(h.venue.Seats) <= api.MaxSeats
}

// whole is the venue, once all lines are read; behind is the spot behind them.
func (h *hall) whole(behind api.Spot) (api.Venue, error) {
	if len(h.venue.Seats) == 0 || !h.hasGap() {
		return api.Venue{}, wrongAt(behind)
	}
	for _, f := range h.kills {
		if err := h.kill(f); err != nil {
			return api.Venue{}, err
		}
	}
	v, ok := venue.Norm(h.venue)
	if !ok {
		return api.Venue{}, wrongAt(behind)
	}
	return v, nil
}

// kill kills the seat that f tells of.
func (h *hall) kill(f fact) error {
	seat, stands := h.seats[place{f.number(0), f.number(1)}]
	if !stands {
		return wrongToken(f.numbers[0])
	}
	if slices.Contains(h.venue.Kills, seat) {
		return wrongToken(f.word)
	}
	h.venue.Kills = append(h.venue.Kills, seat)
	return nil
}
