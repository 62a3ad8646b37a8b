package venue

import (
	"cmp"
	"slices"

	"parterre/api"
)

// extent is what a number of a venue measures, and with that how far it goes.
type extent int

const (
	length     extent = iota // a gap, a pole's R
	distance                 // a radius
	coordinate               // X, Y
	row
	kind
)

// fits tells whether n is a number that such an extent lets.
func fits(n int, e extent) bool {
	switch e {
	case length:
		if n == 0 {
			return false
		}
		fallthrough // a length is a distance that is not 0
	case distance:
		if n < 0 {
			return false
		}
		fallthrough // a distance is a coordinate that is not below 0
	case coordinate:
		return -api.MaxCoord <= n && n <= api.MaxCoord
	case row:
		return 0 <= n && n < api.MaxRows
	case kind:
		return api.Plain <= n && n <= api.Companion
	}
	return false
}

// compare orders seats without a difference of theirs, which could wrap round.
func compare(a, b api.Seat) int {
	return cmp.Or(cmp.Compare(a.Row, b.Row), cmp.Compare(a.X, b.X))
}

func seatsMay(l []api.Seat) bool {
	if len(l) == 0 || len(l) > api.MaxSeats {
		return false
	}
	for i, s := range l {
		if !seatMay(s) || i > 0 && !Less(l[i-1], s) {
			return false
		}
	}
	return true
}

func seatMay(s api.Seat) bool {
	return fits(s.Row, row) && standsMay(s.X, s.Y) && fits(s.Kind, kind)
}

// standsMay tells whether a seat, or a pole, may stand at x, y.
func standsMay(x, y int) bool { return fits(x, coordinate) && fits(y, coordinate) }

func killsMay(l []int, seats int) bool {
	if len(l) > api.MaxKills {
		return false
	}
	for i, k := range l {
		if !isSeat(k, seats) || i > 0 && l[i-1] >= k {
			return false
		}
	}
	return true
}

// isSeat tells whether k is the number of one of so many seats.
func isSeat(k, seats int) bool { return 0 <= k && k < seats }

func polesMay(l []api.Pole) bool {
	if len(l) > api.MaxKills {
		return false
	}
	for _, p := range l {
		if !standsMay(p.X, p.Y) || !fits(p.R, length) {
			return false
		}
	}
	return true
}

// marks tells of each of so many seats whether it is among kills; false if a
// kill is none of them.
func marks(kills []int, seats int) ([]bool, bool) {
	killed := make([]bool, seats)
	for _, k := range kills {
		if !isSeat(k, seats) {
			return nil, false
		}
		killed[k] = true
	}
	return killed, true
}

// sorted is the numbers of the seats of l, in the order of their seats.
func sorted(l []api.Seat) []int {
	order := make([]int, len(l))
	for i := range order {
		order[i] = i
	}
	slices.SortFunc(order, func(i, j int) int { return compare(l[i], l[j]) })
	return order
}
