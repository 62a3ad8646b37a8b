package kill_test

import (
	"math/big"
	"math/rand"
	"slices"
	"testing"

	"parterre/api"
	"parterre/kill"
	"parterre/venue"
)

// Promise 8.2: who can't see is not seated. What is answered is held against a
// second reading of the chapter, in numbers of any length.

// sees tells whether s is not nearer to p than its R.
func sees(s api.Seat, p api.Pole) bool {
	x, y, r := big.NewInt(int64(s.X)), big.NewInt(int64(s.Y)), big.NewInt(int64(p.R))
	x.Sub(x, big.NewInt(int64(p.X)))
	y.Sub(y, big.NewInt(int64(p.Y)))
	x.Mul(x, x)
	y.Mul(y, y)
	return x.Add(x, y).Cmp(r.Mul(r, r)) >= 0
}

// checkVenue holds all of kill, of v, which may be, against sees.
func checkVenue(t *testing.T, v api.Venue) {
	t.Helper()
	if !venue.May(v) {
		t.Fatalf("%v may not be", v)
	}
	by := make([][]int, len(v.Seats))
	for _, a := range v.Kills {
		by[a] = []int{-1}
	}
	for i, p := range v.Poles {
		for a, s := range v.Seats {
			if !sees(s, p) {
				by[a] = append(by[a], i)
			}
		}
	}
	check(t, v, by...)
}

// TestAllSpotsOfAGrid puts a pole of every small R on every spot of a grid and
// around it.
func TestAllSpotsOfAGrid(t *testing.T) {
	v := api.Venue{Gap: 1, Kills: []int{0, 7, 8, 24}}
	for i := range 25 {
		v.Seats = append(v.Seats, api.Seat{Row: i / 5, X: i % 5, Y: i / 5 * 2, Kind: i % 3})
	}
	for r := 1; r < 12; r++ {
		for x := -2; x < 7; x++ {
			for y := -2; y < 11; y++ {
				v.Poles = []api.Pole{{X: x, Y: y, R: r}, {X: 4 - x, Y: 8 - y, R: 3}}
				checkVenue(t, v)
			}
		}
	}
}

// TestAllKills goes through all choices of kills of five seats, with poles over
// none of them, one and two.
func TestAllKills(t *testing.T) {
	for _, poles := range [][]api.Pole{nil, {{X: 2, R: 1}}, {{X: 2, R: 1}, {X: 3, Y: 1, R: 2}}} {
		for set := range 1 << 5 {
			v := api.Venue{Seats: row(5), Gap: 1, Poles: poles}
			for a := range 5 {
				if set>>a&1 == 1 {
					v.Kills = append(v.Kills, a)
				}
			}
			checkVenue(t, v)
		}
	}
}

// TestOneApart looks, for great R, for the seats that are just within and just
// without.
func TestOneApart(t *testing.T) {
	for r := most; r > most-50; r-- {
		v := api.Venue{Gap: 1, Poles: []api.Pole{{R: r}}}
		for x := r - 50; x <= r; x++ {
			// the greatest y with which the seat is not beyond the pole's R
			y := 0
			for step := most; step > 0; step /= 2 {
				if x*x+(y+step)*(y+step) <= r*r {
					y += step
				}
			}
			n := x - (r - 50)
			v.Seats = append(v.Seats, api.Seat{Row: 2 * n, X: x, Y: y}, api.Seat{Row: 2*n + 1, X: -x, Y: -y - 1})
		}
		checkVenue(t, v)
	}
}

// number draws a number that is often at or near an edge.
func number(r *rand.Rand, least, last int) int {
	l := []int{least, last, min(least+r.Intn(5), last), max(last-r.Intn(5), least), least + r.Intn(last-least+1)}
	return l[r.Intn(len(l))]
}

// drawn is a venue that may be, with its seats and poles no further out than
// reach.
func drawn(r *rand.Rand, reach int) api.Venue {
	v := api.Venue{Gap: number(r, 1, most), Radius: number(r, 0, most)}
	for range 1 + r.Intn(25) {
		s := api.Seat{Row: number(r, 0, 999), X: number(r, -reach, reach), Y: number(r, -reach, reach), Kind: r.Intn(3)}
		if !slices.ContainsFunc(v.Seats, func(o api.Seat) bool { return o.Row == s.Row && o.X == s.X }) {
			v.Seats = append(v.Seats, s)
		}
	}
	slices.SortFunc(v.Seats, func(a, b api.Seat) int {
		if venue.Less(a, b) {
			return -1
		}
		return 1
	})
	for a := range v.Seats {
		if r.Intn(4) == 0 {
			v.Kills = append(v.Kills, a)
		}
	}
	for range r.Intn(6) {
		v.Poles = append(v.Poles, api.Pole{X: number(r, -reach, reach), Y: number(r, -reach, reach), R: number(r, 1, min(2*reach, most))})
	}
	return v
}

func TestVenuesByChance(t *testing.T) {
	r := rand.New(rand.NewSource(8))
	for range 3000 {
		checkVenue(t, drawn(r, []int{1, 3, 10, 1000, most - 1, most}[r.Intn(6)]))
	}
}

// TestWhoIsSeatedSees: seats that can be sold and seats that can't are all the
// seats, none is both, and what can be sold is in sight of every pole.
func TestWhoIsSeatedSees(t *testing.T) {
	r := rand.New(rand.NewSource(82))
	for range 1000 {
		v := drawn(r, 20)
		killed := kill.Killed(v)
		for a, usable := range kill.Usable(v) {
			if usable == slices.Contains(killed, a) {
				t.Fatalf("%v: seat %d is in both or in none", v, a)
			}
			if usable && (slices.Contains(v.Kills, a) || slices.ContainsFunc(v.Poles, func(p api.Pole) bool { return !sees(v.Seats[a], p) })) {
				t.Fatalf("%v: seat %d can be sold", v, a)
			}
		}
	}
}

// Rules 2 and 3 of DOC.md.

// copied is v with lists of its own.
func copied(v api.Venue) api.Venue {
	v.Seats, v.Kills, v.Poles = slices.Clone(v.Seats), slices.Clone(v.Kills), slices.Clone(v.Poles)
	return v
}

func TestNothingIsChangedOrShared(t *testing.T) {
	v := hall()
	// room behind the lists, which an answer could be laid into
	v.Kills, v.Poles, v.Seats = append(v.Kills, 77)[:2], append(v.Poles, api.Pole{X: 77})[:5], append(v.Seats, api.Seat{X: 77})[:7]
	before := copied(v)
	usable, killed, by := kill.Usable(v), kill.Killed(v), kill.By(v, 3)
	for _, l := range [][]int{killed, by, kill.By(v, 1), kill.By(v, 5)} {
		l = append(l, 78)
		clear(l)
	}
	clear(usable)
	if !venue.Same(v, before) || v.Kills[:3][2] != 77 || v.Poles[:6][5].X != 77 || v.Seats[:8][7].X != 77 {
		t.Error("what was handed in was changed")
	}
	check(t, v, byOfHall()...)

	// What was handed in is not kept: it is other, and so are the answers.
	v.Kills[0], v.Poles[1].R, v.Seats[5].Y = 0, 6, 99
	check(t, v, []int{-1}, nil, []int{1, 4}, []int{-1, 1}, []int{1}, nil, nil)
}

func FuzzKill(f *testing.F) {
	f.Add(0, 0, 3, 4, 0, 0, 5, 1)
	f.Add(-most, most, most, -most, most, most, most, 0)
	f.Add(1, 2, 3, 4, 5, 6, 0, -1)
	f.Fuzz(func(t *testing.T, x, y, u, w, px, py, pr, killed int) {
		v := api.Venue{
			Seats: []api.Seat{{X: x, Y: y}, {Row: 1, X: u, Y: w}},
			Gap:   1,
			Kills: []int{killed},
			Poles: []api.Pole{{X: 1, Y: 1, R: 9}, {X: px, Y: py, R: pr}},
		}
		for range 2 {
			if venue.May(v) {
				checkVenue(t, v)
			} else {
				checkNone(t, "drawn", v)
			}
			v.Kills = nil
		}
	})
}
