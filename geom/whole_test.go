package geom_test

import (
	"math/rand"
	"slices"
	"testing"

	"parterre/api"
	"parterre/geom"
	"parterre/venue"
)

// Promise 6.2: distances are whole numbers: no two that are one apart are
// taken for one, however great they are.

// TestOneApart looks, for great radii, for the seats that are just within and
// just without, where their squares are next to that of the radius.
func TestOneApart(t *testing.T) {
	for r := most; r > most-200; r-- {
		for x := r; x > r-200; x-- {
			// the greatest y with which the seat is not beyond the radius
			y := 0
			for step := most; step > 0; step /= 2 {
				if x*x+(y+step)*(y+step) <= r*r {
					y += step
				}
			}
			for _, s := range []api.Seat{{Row: 9, X: x, Y: y}, {Row: 9, X: x, Y: -y - 1}, {Row: 9, X: -x, Y: y + 1}} {
				want := within(s, api.Seat{}, r)
				v := api.Venue{Seats: []api.Seat{{}, s}, Gap: 1, Radius: r}
				if geom.Clash(v, 0, 1) != want || len(geom.Near(v, s.X, s.Y, r)) > 1 != want {
					t.Fatalf("%v with radius %d: want %v", s, r, want)
				}
			}
		}
	}
}

// number draws a number that is often at or near an edge.
func number(r *rand.Rand, least, last int) int {
	l := []int{least, last, min(least+r.Intn(5), last), max(last-r.Intn(5), least), least + r.Intn(last-least+1)}
	return l[r.Intn(len(l))]
}

// drawn is a venue that may be, with its seats no further out than reach.
func drawn(r *rand.Rand, reach int) api.Venue {
	v := api.Venue{Gap: number(r, 1, most), Radius: number(r, 0, min(2*reach, most))}
	for range 1 + r.Intn(25) {
		s := api.Seat{Row: number(r, 0, 999), X: number(r, -reach, reach), Y: number(r, -reach, reach), Kind: r.Intn(3)}
		if !slices.ContainsFunc(v.Seats, func(o api.Seat) bool { return o.Row == s.Row && o.X == s.X }) {
			v.Seats = append(v.Seats, s)
		}
	}
	slices.SortFunc(v.Seats, func(a, b api.Seat) int {
		if venue.Less(a, b) {
			return -1
		}
		return 1
	})
	return v
}

func TestVenuesByChance(t *testing.T) {
	r := rand.New(rand.NewSource(6))
	for range 1500 {
		reach := []int{1, 3, 10, 1000, most - 1, most}[r.Intn(6)]
		v := drawn(r, reach)
		if !venue.May(v) {
			t.Fatalf("%v may not be", v)
		}
		checkVenue(t, v)
		for range 10 {
			spot, n := api.Seat{X: number(r, -reach, reach), Y: number(r, -reach, reach)}, number(r, 1, reach)
			var want []int
			for a, s := range v.Seats {
				if within(s, spot, n) {
					want = append(want, a)
				}
			}
			checkNear(t, v, spot.X, spot.Y, n, want...)
		}
	}
}

// TestKillsAndPolesDoNotCount has all that stand in the way: who clashes with
// whom, and who is near, stays.
func TestKillsAndPolesDoNotCount(t *testing.T) {
	with, without := hall(), hall()
	with.Kills = []int{0, 1, 2, 3, 4, 5}
	without.Kills, without.Poles = nil, nil
	if !slices.EqualFunc(geom.Graph(with), geom.Graph(without), slices.Equal[[]int]) {
		t.Error(geom.Graph(with), geom.Graph(without))
	}
	if !slices.Equal(geom.Near(with, 1, 1, 9), geom.Near(without, 1, 1, 9)) {
		t.Error(geom.Near(with, 1, 1, 9), geom.Near(without, 1, 1, 9))
	}
}

func FuzzFar(f *testing.F) {
	f.Add(0, 0, 3, 4)
	f.Add(-most, most, most, -most)
	f.Add(most+1, 0, 0, 0)
	f.Fuzz(func(t *testing.T, x, y, u, w int) {
		a, b := api.Seat{X: x, Y: y}, api.Seat{X: u, Y: w}
		want := far(a, b).Int64()
		for _, n := range []int{x, y, u, w} {
			if n < -most || n > most {
				want = 0
			}
		}
		checkFar(t, a, b, want)
		v := api.Venue{Seats: []api.Seat{{Row: 0, X: x, Y: y}, {Row: 1, X: u, Y: w}}, Gap: 1, Radius: 1000}
		if venue.May(v) {
			checkVenue(t, v)
			checkNear(t, v, x, y, 1, map[bool][]int{true: {0, 1}, false: {0}}[x == u && y == w]...)
		}
	})
}
