package venue_test

import (
	"math"
	"slices"
	"testing"

	"parterre/api"
	"parterre/venue"
)

// hall is a venue that may be, with something in every part.
func hall() api.Venue {
	return api.Venue{
		Seats: []api.Seat{
			{Row: 0, X: -4, Y: 3},
			{Row: 0, X: 2, Y: 3, Kind: api.Wheel},
			{Row: 0, X: 6, Y: 2, Kind: api.Companion},
			{Row: 3, X: -9, Y: 0},
			{Row: 3, X: -4, Y: 3, Kind: api.Wheel},
		},
		Gap:    4,
		Radius: 7,
		Kills:  []int{1, 4},
		Poles:  []api.Pole{{X: 5, Y: -2, R: 3}, {X: -8, Y: 1, R: 1}},
	}
}

// seatsInRow is n seats that may be, beside one another.
func seatsInRow(n int) []api.Seat {
	l := make([]api.Seat, n)
	for i := range l {
		l[i] = api.Seat{Row: 2, X: i}
	}
	return l
}

// upTo is the numbers from 0 to n - 1.
func upTo(n int) []int {
	l := make([]int, n)
	for i := range l {
		l[i] = i
	}
	return l
}

// change makes a venue of the hall by f.
func change(f func(v *api.Venue)) api.Venue {
	v := hall()
	f(&v)
	return v
}

func checkWrong(t *testing.T, v api.Venue, want string) {
	t.Helper()
	if got := venue.Wrong(v); got != want {
		t.Errorf("Wrong is %q, want %q", got, want)
	}
	if got := venue.May(v); got != (want == "") {
		t.Errorf("May is %v, where %q is wrong", got, want)
	}
}

// Promise 3.1: Less.

func TestLess(t *testing.T) {
	// Rising; those of one line are the same to Less.
	groups := [][]api.Seat{
		{{Row: math.MinInt, X: math.MinInt}},
		{{Row: math.MinInt, X: math.MaxInt}},
		{{Row: -1, X: 5}},
		{{Row: 0, X: -1}},
		{{Row: 0, X: 0}, {Row: 0, X: 0, Y: 9}, {Row: 0, X: 0, Y: -9, Kind: api.Companion}},
		{{Row: 0, X: 1, Y: -5}},
		{{Row: 1, X: math.MinInt, Y: 7}, {Row: 1, X: math.MinInt}},
		{{Row: 1, X: -3}},
		{{Row: math.MaxInt, X: math.MinInt}},
		{{Row: math.MaxInt, X: math.MaxInt}},
	}
	for i, as := range groups {
		for j, bs := range groups {
			for _, a := range as {
				for _, b := range bs {
					if got := venue.Less(a, b); got != (i < j) {
						t.Errorf("Less(%v, %v) is %v", a, b, got)
					}
				}
			}
		}
	}
}

// Promise 3.1: Wrong and May.

func TestWhatMayBe(t *testing.T) {
	checkWrong(t, hall(), "")
	checkWrong(t, api.Venue{Seats: seatsInRow(1), Gap: 1}, "")
	checkWrong(t, api.Venue{}, "seats")
}

// TestNumbersAtTheEdges puts numbers around the least and the greatest one
// into each place that holds one.
func TestNumbersAtTheEdges(t *testing.T) {
	const most = 1 << 20
	for _, x := range []struct {
		name        string
		put         func(v *api.Venue, n int)
		least, last int
		want        string
	}{
		{"row", func(v *api.Venue, n int) { v.Seats = []api.Seat{{Row: n}} }, 0, 999, "seats"},
		{"x", func(v *api.Venue, n int) { v.Seats = []api.Seat{{X: n}} }, -most, most, "seats"},
		{"y", func(v *api.Venue, n int) { v.Seats = []api.Seat{{Y: n}} }, -most, most, "seats"},
		{"kind", func(v *api.Venue, n int) { v.Seats = []api.Seat{{Kind: n}} }, 0, 2, "seats"},
		{"last y", func(v *api.Venue, n int) { v.Seats[4].Y = n }, -most, most, "seats"},
		{"last kind", func(v *api.Venue, n int) { v.Seats[4].Kind = n }, 0, 2, "seats"},
		{"gap", func(v *api.Venue, n int) { v.Gap = n }, 1, most, "gap"},
		{"radius", func(v *api.Venue, n int) { v.Radius = n }, 0, most, "radius"},
		{"kill", func(v *api.Venue, n int) { v.Kills = []int{n} }, 0, 4, "kills"},
		{"first pole's x", func(v *api.Venue, n int) { v.Poles[0].X = n }, -most, most, "poles"},
		{"first pole's y", func(v *api.Venue, n int) { v.Poles[0].Y = n }, -most, most, "poles"},
		{"first pole's r", func(v *api.Venue, n int) { v.Poles[0].R = n }, 1, most, "poles"},
		{"last pole's x", func(v *api.Venue, n int) { v.Poles[1].X = n }, -most, most, "poles"},
		{"last pole's y", func(v *api.Venue, n int) { v.Poles[1].Y = n }, -most, most, "poles"},
		{"last pole's r", func(v *api.Venue, n int) { v.Poles[1].R = n }, 1, most, "poles"},
	} {
		t.Run(x.name, func(t *testing.T) {
			put := func(n int) api.Venue {
				v := hall()
				v.Kills = nil // so that fewer seats may be, too
				x.put(&v, n)
				return v
			}
			for _, n := range []int{x.least, x.least + 1, x.last - 1, x.last} {
				checkWrong(t, put(n), "")
			}
			for _, n := range []int{math.MinInt, math.MinInt + 1, -1 << 32, x.least - 1, x.last + 1, 1 << 32, math.MaxInt} {
				checkWrong(t, put(n), x.want)
			}
		})
	}
}

func TestHowManyMayBe(t *testing.T) {
	v := hall()
	v.Seats = seatsInRow(4096)
	v.Kills = upTo(4096)[3896:]
	v.Poles = slices.Repeat(v.Poles[:1], 200)
	checkWrong(t, v, "")
	more := v
	more.Seats = seatsInRow(4097)
	checkWrong(t, more, "seats")
	more = v
	more.Kills = upTo(201)
	checkWrong(t, more, "kills")
	more = v
	more.Poles = slices.Repeat(v.Poles[:1], 201)
	checkWrong(t, more, "poles")
}

func TestSeatsRise(t *testing.T) {
	for name, f := range map[string]func(l []api.Seat){
		"one twice":              func(l []api.Seat) { l[1] = l[0] },
		"of one place":           func(l []api.Seat) { l[1].X = l[0].X },
		"the last of one place":  func(l []api.Seat) { l[4].X = l[3].X },
		"swapped in a row":       func(l []api.Seat) { l[0], l[1] = l[1], l[0] },
		"the last two swapped":   func(l []api.Seat) { l[3], l[4] = l[4], l[3] },
		"rows swapped":           func(l []api.Seat) { l[2], l[3] = l[3], l[2] },
		"first and last swapped": func(l []api.Seat) { l[0], l[4] = l[4], l[0] },
	} {
		t.Run(name, func(t *testing.T) {
			checkWrong(t, change(func(v *api.Venue) { f(v.Seats) }), "seats")
		})
	}
	for _, l := range [][]api.Seat{
		{{Row: 4, X: 9}, {Row: 5, X: -9}},
		{{X: 1, Y: 9}, {X: 2, Y: -9}},
		{{X: -1 << 20}, {X: 1 << 20}, {Row: 999, X: -1 << 20}},
	} {
		checkWrong(t, api.Venue{Seats: l, Gap: 1}, "")
	}
}

func TestKillsRise(t *testing.T) {
	for _, l := range [][]int{{0, 0}, {4, 4}, {1, 0}, {0, 2, 1}, {0, 1, 1}, {3, 4, 0}, {0, 5}, {-1, 0}, {5}, {-1}} {
		checkWrong(t, change(func(v *api.Venue) { v.Kills = l }), "kills")
	}
	for _, l := range [][]int{nil, {}, {0}, {4}, {0, 4}, {0, 1, 2, 3, 4}} {
		checkWrong(t, change(func(v *api.Venue) { v.Kills = l }), "")
	}
}

func TestPolesStandInAnyOrder(t *testing.T) {
	for _, l := range [][]api.Pole{nil, {}, {{R: 1}, {R: 1}}, {{X: 5, R: 2}, {X: -5, R: 9}}, {{R: 1 << 20, X: 1 << 20, Y: -1 << 20}}} {
		checkWrong(t, change(func(v *api.Venue) { v.Poles = l }), "")
	}
}

// TestTheFirstWrongIsTold breaks every choice of parts at once.
func TestTheFirstWrongIsTold(t *testing.T) {
	parts := []struct {
		name  string
		spoil func(v *api.Venue)
	}{
		{"seats", func(v *api.Venue) { v.Seats[4].Kind = 3 }},
		{"gap", func(v *api.Venue) { v.Gap = 0 }},
		{"radius", func(v *api.Venue) { v.Radius = -1 }},
		{"kills", func(v *api.Venue) { v.Kills = []int{5} }},
		{"poles", func(v *api.Venue) { v.Poles[1].R = 0 }},
	}
	for choice := range 1 << len(parts) {
		v, want := hall(), ""
		for i, part := range parts {
			if choice>>i&1 == 1 {
				part.spoil(&v)
				if want == "" {
					want = part.name
				}
			}
		}
		checkWrong(t, v, want)
	}
	checkWrong(t, change(func(v *api.Venue) { v.Seats = nil }), "seats") // and no kill is a seat
}

// Promise 3.1: Same.

// others are changes of the hall, each of which makes it another.
func others() map[string]func(v *api.Venue) {
	return map[string]func(v *api.Venue){
		"row":            func(v *api.Venue) { v.Seats[4].Row++ },
		"x":              func(v *api.Venue) { v.Seats[0].X-- },
		"y":              func(v *api.Venue) { v.Seats[2].Y++ },
		"kind":           func(v *api.Venue) { v.Seats[3].Kind = api.Companion },
		"no seats":       func(v *api.Venue) { v.Seats = nil },
		"a seat less":    func(v *api.Venue) { v.Seats = v.Seats[:4] },
		"a seat more":    func(v *api.Venue) { v.Seats = append(v.Seats, api.Seat{Row: 9}) },
		"seats swapped":  func(v *api.Venue) { v.Seats[0], v.Seats[1] = v.Seats[1], v.Seats[0] },
		"gap":            func(v *api.Venue) { v.Gap++ },
		"radius":         func(v *api.Venue) { v.Radius-- },
		"gap for radius": func(v *api.Venue) { v.Gap, v.Radius = v.Radius, v.Gap },
		"kill":           func(v *api.Venue) { v.Kills[1]-- },
		"no kills":       func(v *api.Venue) { v.Kills = nil },
		"a kill less":    func(v *api.Venue) { v.Kills = v.Kills[:1] },
		"a kill more":    func(v *api.Venue) { v.Kills = append(v.Kills, 4) },
		"pole's x":       func(v *api.Venue) { v.Poles[0].X++ },
		"pole's y":       func(v *api.Venue) { v.Poles[1].Y++ },
		"pole's r":       func(v *api.Venue) { v.Poles[1].R++ },
		"no poles":       func(v *api.Venue) { v.Poles = nil },
		"a pole less":    func(v *api.Venue) { v.Poles = v.Poles[:1] },
		"a pole more":    func(v *api.Venue) { v.Poles = append(v.Poles, v.Poles[1]) },
		"poles swapped":  func(v *api.Venue) { v.Poles[0], v.Poles[1] = v.Poles[1], v.Poles[0] },
	}
}

func TestSame(t *testing.T) {
	if !venue.Same(hall(), hall()) || !venue.Same(api.Venue{}, api.Venue{}) {
		t.Error("a venue is not the same as itself")
	}
	for name, f := range others() {
		v := change(f)
		if venue.Same(v, hall()) || venue.Same(hall(), v) {
			t.Errorf("%s: the two are the same", name)
		}
		if !venue.Same(v, change(f)) {
			t.Errorf("%s: not the same as itself", name)
		}
	}
}

func TestNilAndEmptyListsAreTheSame(t *testing.T) {
	empty := api.Venue{Seats: []api.Seat{}, Kills: []int{}, Poles: []api.Pole{}}
	if !venue.Same(api.Venue{}, empty) || !venue.Same(empty, api.Venue{}) {
		t.Error("a nil list is not the same as an empty one")
	}
	checkWrong(t, empty, "seats")
	full, bare := hall(), hall()
	full.Kills, full.Poles = nil, nil
	bare.Kills, bare.Poles = []int{}, []api.Pole{}
	if !venue.Same(full, bare) {
		t.Error("a nil list is not the same as an empty one")
	}
	checkWrong(t, full, "")
	checkWrong(t, bare, "")
}

// Promise 3.3: a venue is plain data.

// copied is v with lists of its own.
func copied(v api.Venue) api.Venue {
	v.Seats, v.Kills, v.Poles = slices.Clone(v.Seats), slices.Clone(v.Kills), slices.Clone(v.Poles)
	return v
}

func TestWhatIsHandedInIsNotChanged(t *testing.T) {
	for name, f := range others() {
		v := change(f)
		before := copied(v)
		venue.May(v)
		venue.Wrong(v)
		venue.Same(v, v)
		venue.Norm(v)
		if !venue.Same(v, before) {
			t.Errorf("%s: it was changed", name)
		}
	}
}
