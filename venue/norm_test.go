package venue_test

import (
	"iter"
	"math"
	"slices"
	"testing"

	"parterre/api"
	"parterre/venue"
)

// Promise 3.2: Norm.

func checkNorm(t *testing.T, name string, v, want api.Venue) {
	t.Helper()
	if got, ok := venue.Norm(v); !ok || !venue.Same(got, want) {
		t.Errorf("%s: Norm(%v) is %v, %v, want %v", name, v, got, ok, want)
	}
}

func checkNone(t *testing.T, name string, v api.Venue) {
	t.Helper()
	got, ok := venue.Norm(v)
	if ok || len(got.Seats)+len(got.Kills)+len(got.Poles) > 0 || got.Gap != 0 || got.Radius != 0 {
		t.Errorf("%s: Norm is %v, %v", name, got, ok)
	}
}

// orders goes through all orders of the numbers from 0 to n - 1.
func orders(n int) iter.Seq[[]int] {
	return func(yield func([]int) bool) {
		l := upTo(n)
		var from func(at int) bool
		from = func(at int) bool {
			if at == n {
				return yield(slices.Clone(l))
			}
			for i := at; i < n; i++ {
				l[at], l[i] = l[i], l[at]
				more := from(at + 1)
				l[at], l[i] = l[i], l[at]
				if !more {
					return false
				}
			}
			return true
		}
		from(0)
	}
}

// shuffled is v with its seats in that order, and its kills told by it.
func shuffled(v api.Venue, order []int) api.Venue {
	u := copied(v)
	for i, was := range order {
		u.Seats[i] = v.Seats[was]
	}
	for i, k := range v.Kills {
		u.Kills[i] = slices.Index(order, k)
	}
	return u
}

func TestNormOfAllOrdersAndKills(t *testing.T) {
	want := hall()
	for killed := range 1 << len(want.Seats) {
		want.Kills = nil
		for k := range want.Seats {
			if killed>>k&1 == 1 {
				want.Kills = append(want.Kills, k)
			}
		}
		for order := range orders(len(want.Seats)) {
			v := shuffled(want, order)
			checkNorm(t, "as they come", v, want)
			slices.Reverse(v.Kills)
			v.Kills = append(v.Kills, v.Kills...)
			checkNorm(t, "twice and back", v, want)
		}
	}
}

func TestNormOfWhatIsNormal(t *testing.T) {
	checkNorm(t, "hall", hall(), hall())
	small := api.Venue{Seats: seatsInRow(1), Gap: 1}
	checkNorm(t, "small", small, small)
	for name, f := range others() {
		v := change(f)
		u, ok := venue.Norm(v)
		if !ok {
			checkNone(t, name, v)
			continue
		}
		if !venue.May(u) {
			t.Errorf("%s: %s of what Norm answers may not be", name, venue.Wrong(u))
		}
		checkNorm(t, name, u, u)
	}
}

func TestNormLeavesThePolesInTheirOrder(t *testing.T) {
	v := change(func(v *api.Venue) {
		v.Poles = []api.Pole{{X: 5, R: 3}, {X: -5, R: 3}, {X: 5, R: 3}, {X: -5, Y: -1, R: 1}}
	})
	checkNorm(t, "poles", v, v)
}

func TestNormOfTheMost(t *testing.T) {
	want := api.Venue{Seats: seatsInRow(4096), Gap: 1 << 20, Radius: 1 << 20, Kills: upTo(200), Poles: slices.Repeat([]api.Pole{{R: 1 << 20}}, 200)}
	v := copied(want)
	slices.Reverse(v.Seats)
	for i, k := range v.Kills {
		v.Kills[i] = 4095 - k
	}
	checkNorm(t, "the most", v, want)
	again := v
	again.Kills = slices.Repeat(v.Kills, 9) // too many, but for those told already
	checkNorm(t, "kills told again", again, want)

	more := v
	more.Kills = append(slices.Clone(v.Kills), 0)
	checkNone(t, "a kill more", more)
	more = v
	more.Seats = append(slices.Clone(v.Seats), api.Seat{Row: 5})
	checkNone(t, "a seat more", more)
	more = v
	more.Poles = append(slices.Clone(v.Poles), api.Pole{R: 1})
	checkNone(t, "a pole more", more)
}

func TestNormOfWhatMayNotBe(t *testing.T) {
	for name, f := range map[string]func(v *api.Venue){
		"nothing":           func(v *api.Venue) { *v = api.Venue{} },
		"no seats":          func(v *api.Venue) { v.Seats, v.Kills = nil, nil },
		"no seats, kills":   func(v *api.Venue) { v.Seats = nil },
		"one seat twice":    func(v *api.Venue) { v.Seats[4] = v.Seats[0] },
		"one place, near":   func(v *api.Venue) { v.Seats[1].X = v.Seats[0].X },
		"one place, far":    func(v *api.Venue) { v.Seats[4] = api.Seat{Row: 0, X: -4, Y: 9, Kind: api.Companion} },
		"row below":         func(v *api.Venue) { v.Seats[0].Row = -1 },
		"row above":         func(v *api.Venue) { v.Seats[0].Row = 1000 },
		"x":                 func(v *api.Venue) { v.Seats[2].X = 1<<20 + 1 },
		"y":                 func(v *api.Venue) { v.Seats[2].Y = math.MinInt },
		"kind":              func(v *api.Venue) { v.Seats[2].Kind = 3 },
		"gap":               func(v *api.Venue) { v.Gap = 0 },
		"gap above":         func(v *api.Venue) { v.Gap = 1<<20 + 1 },
		"radius":            func(v *api.Venue) { v.Radius = -1 },
		"radius above":      func(v *api.Venue) { v.Radius = math.MaxInt },
		"kill below":        func(v *api.Venue) { v.Kills = []int{0, -1} },
		"kill behind":       func(v *api.Venue) { v.Kills = []int{5, 0} },
		"kill far behind":   func(v *api.Venue) { v.Kills = []int{math.MaxInt} },
		"kill far below":    func(v *api.Venue) { v.Kills = []int{math.MinInt} },
		"pole's x":          func(v *api.Venue) { v.Poles[1].X = -1<<20 - 1 },
		"pole's y":          func(v *api.Venue) { v.Poles[1].Y = 1<<20 + 1 },
		"pole's r":          func(v *api.Venue) { v.Poles[0].R = 0 },
		"pole's r is great": func(v *api.Venue) { v.Poles[0].R = 1<<20 + 1 },
	} {
		checkNone(t, name, change(f))
		checkNone(t, name+", back", change(func(v *api.Venue) {
			f(v)
			slices.Reverse(v.Seats)
		}))
	}
}

// Promise 3.3: what is answered is the caller's own.

func TestNormSharesNothing(t *testing.T) {
	for _, order := range [][]int{{0, 1, 2, 3, 4}, {4, 2, 0, 3, 1}} {
		v := shuffled(hall(), order)
		before := copied(v)
		got, _ := venue.Norm(v)
		if !venue.Same(v, before) {
			t.Error("what was handed in was changed")
		}
		v.Seats[0].Y, v.Kills[0], v.Poles[0].R = 77, 3, 77
		if !venue.Same(got, hall()) {
			t.Error("what is answered was changed by way of what was handed in")
		}
		v = copied(before)
		got, _ = venue.Norm(v)
		got.Seats[0].Y, got.Kills[0], got.Poles[0].R = 78, 3, 78
		_ = append(got.Seats[:1], got.Seats[2:]...)
		if !venue.Same(v, before) {
			t.Error("what was handed in was changed by way of what is answered")
		}
	}
}
