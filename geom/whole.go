package geom

import "parterre/api"

// extent is what a number of a spot measures, and with that how far it goes.
type extent int

const (
	reach      extent = iota // how near is near
	coordinate               // X, Y
)

// fits tells whether n is a number that such an extent lets.
func fits(n int, e extent) bool {
	switch e {
	case reach:
		if n < 1 {
			return false
		}
		fallthrough // a reach is a coordinate that is above 0
	case coordinate:
		return -api.MaxCoord <= n && n <= api.MaxCoord
	}
	return false
}

// standsMay tells whether something may stand at x, y.
func standsMay(x, y int) bool { return fits(x, coordinate) && fits(y, coordinate) }

// isSeat tells whether a is the number of one of v's seats.
func isSeat(v api.Venue, a int) bool { return 0 <= a && a < len(v.Seats) }

// square is the square of the distance of a and b. Both stand where they may,
// so that it is 2^43 at most: no root is taken, and nothing is rounded.
func square(a, b api.Seat) int64 {
	x, y := int64(a.X)-int64(b.X), int64(a.Y)-int64(b.Y)
	return x*x + y*y
}

// nearer tells whether a and b, which stand where they may, are nearer than r,
// which is not below 0.
func nearer(a, b api.Seat, r int) bool { return square(a, b) < int64(r)*int64(r) }

// clash tells of two seats of v, which may be, whether they clash. One seat
// does not clash with itself; two of different rows at one place do.
func clash(v api.Venue, a, b int) bool {
	return a != b && nearer(v.Seats[a], v.Seats[b], v.Radius)
}

// those is the numbers of v's seats of which it holds, rising.
func those(v api.Venue, holds func(seat int) bool) []int {
	var l []int
	for a := range v.Seats {
		if holds(a) {
			l = append(l, a)
		}
	}
	return l
}
