package place

import (
	"parterre/api"
	"parterre/geom"
	"parterre/run"
)

// seatsOf is Seats of a party that may be, with what of v is usable told. It
// need not ask whether v may be: where it may not, there is no run.
func seatsOf(v api.Venue, usable []bool, p api.Party, first int) ([]int, bool) {
	seats, found := run.Of(v, usable, first, p.Size)
	if !found || !suit(v, p, seats) {
		return nil, false
	}
	return seats, true
}

// suit tells whether seats of v, each next to the one ahead of it and as many
// as p's persons, are of the kinds that p needs.
func suit(v api.Venue, p api.Party, seats []int) bool {
	wheels := 0
	for i, a := range seats {
		switch v.Seats[a].Kind {
		case api.Wheel:
			if !isCompanion(v, seats, i-1) && !isCompanion(v, seats, i+1) {
				return false
			}
			wheels++
			fallthrough // it is kept for those with wheelchairs, as a companion's is
		case api.Companion:
			if p.Wheels == 0 {
				return false
			}
		}
	}
	return wheels == p.Wheels
}

// isCompanion tells whether there is a seat i among those seats, and it is for
// a companion: one beyond their ends is another party's.
func isCompanion(v api.Venue, seats []int, i int) bool {
	return 0 <= i && i < len(seats) && v.Seats[seats[i]].Kind == api.Companion
}

// anyClash tells whether two parties can't sit on those seats of v at once.
func anyClash(v api.Venue, ps, qs []int) bool {
	for _, a := range ps {
		for _, b := range qs {
			if a == b || clash(v, a, b) {
				return true
			}
		}
	}
	return false
}

// clash is geom.Clash of two seats of a v that may be, which it would ask anew
// for each two of them.
func clash(v api.Venue, a, b int) bool {
	return geom.Far(v.Seats[a], v.Seats[b]) < int64(v.Radius)*int64(v.Radius)
}
