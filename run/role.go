package run

import "parterre/api"

// role is what a seat is in the run that it sits in.
type role int

const (
	none     role = iota // it is not usable: it sits in no run
	head                 // the run begins with it
	follower             // it sits next to the one ahead of it
)

// roleOf is the role of seat a of v, which may be; none if it is no seat.
func roleOf(v api.Venue, usable []bool, a int) role {
	switch {
	case !isUsable(v, usable, a):
		return none
	case isUsable(v, usable, a-1) && next(v, a-1):
		return follower
	}
	return head
}

// isUsable tells whether a is a seat of v that is usable. The marks may be
// fewer than the seats, or more.
func isUsable(v api.Venue, usable []bool, a int) bool {
	return isSeat(v, a) && a < len(usable) && usable[a]
}

// isSeat tells whether a is the number of one of v's seats.
func isSeat(v api.Venue, a int) bool { return 0 <= a && a < len(v.Seats) }

// next tells of seats a and a + 1 of v, which may be, whether they are next to
// one another. As v may be, within a row the second has the greater X, and the
// difference doesn't wrap round.
func next(v api.Venue, a int) bool {
	ahead, behind := v.Seats[a], v.Seats[a+1]
	return ahead.Row == behind.Row && behind.X-ahead.X <= v.Gap
}
