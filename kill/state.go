package kill

import (
	"slices"

	"parterre/api"
	"parterre/geom"
)

// byKills stands for Kills among the numbers of poles.
const byKills = -1

// state is what a seat is to the one who sells it.
type state int

const (
	free   state = iota // nothing kills it
	hidden              // poles do, and they alone
	struck              // it is among Kills, whatever poles do
)

// stateOf is the state of seat a of v, which may be, so that its kills rise.
func stateOf(v api.Venue, a int) state {
	if _, found := slices.BinarySearch(v.Kills, a); found {
		return struck
	}
	for _, p := range v.Poles {
		if hides(p, v.Seats[a]) {
			return hidden
		}
	}
	return free
}

// hiders is the numbers of the poles of v, which may be, that hide seat a.
func hiders(v api.Venue, a int) []int {
	var l []int
	for i, p := range v.Poles {
		if hides(p, v.Seats[a]) {
			l = append(l, i)
		}
	}
	return l
}

// hides tells whether s is nearer to p than its R. Both are of a venue that may
// be: neither square is greater than 2^43.
func hides(p api.Pole, s api.Seat) bool {
	return geom.Far(s, api.Seat{X: p.X, Y: p.Y}) < int64(p.R)*int64(p.R)
}

// isSeat tells whether a is the number of one of v's seats.
func isSeat(v api.Venue, a int) bool { return 0 <= a && a < len(v.Seats) }
