package run_test

import (
	"math"
	"slices"
	"testing"

	"parterre/api"
	"parterre/run"
	"parterre/venue"
)

const most = 1 << 20

// noSeats are numbers that are no seat of any venue.
var noSeats = []int{math.MinInt, math.MinInt + 1, -1 << 32, -2, -1, api.MaxSeats, 1 << 32, math.MaxInt - 1, math.MaxInt}

// hall is a venue that may be: three seats of row 0 at the gap and nearer, one
// beyond it; a row that starts where row 0 ends; a row of one; Y far apart,
// all kinds, a kill and a pole over all of row 0.
func hall() api.Venue {
	return api.Venue{
		Seats: []api.Seat{
			{Row: 0, X: -5, Y: 900},
			{Row: 0, X: -2, Y: -900, Kind: api.Wheel},
			{Row: 0, X: -1, Kind: api.Companion},
			{Row: 0, X: 3},
			{Row: 1, X: 4},
			{Row: 1, X: 7, Y: most},
			{Row: 9, X: 8},
		},
		Gap:    3,
		Radius: 40,
		Kills:  []int{1},
		Poles:  []api.Pole{{X: 0, Y: 0, R: 1000}},
	}
}

// all is n marks that are set.
func all(n int) []bool { return slices.Repeat([]bool{true}, n) }

// but is as many marks as the hall has seats, all set but those.
func but(unset ...int) []bool {
	l := all(7)
	for _, a := range unset {
		l[a] = false
	}
	return l
}

func checkRuns(t *testing.T, v api.Venue, usable []bool, want ...[]int) {
	t.Helper()
	if got := run.Runs(v, usable); !slices.EqualFunc(got, want, slices.Equal[[]int]) {
		t.Errorf("Runs of %v, %v is %v, want %v", v, usable, got, want)
	}
}

// checkLong holds Long of a, and Of from a on at all sizes near it, against
// what is wanted.
func checkLong(t *testing.T, v api.Venue, usable []bool, a, want int) {
	t.Helper()
	if got := run.Long(v, usable, a); got != want {
		t.Errorf("Long of %v, %v, %d is %d, want %d", v, usable, a, got, want)
	}
	var seats []int
	for size := 1; size <= want; size++ {
		seats = append(seats, a+size-1)
		checkOf(t, v, usable, a, size, seats...)
	}
	for _, size := range []int{want + 1, want + 2, api.MaxSeats + 1, math.MaxInt - 1, math.MaxInt, 0, -1, math.MinInt} {
		checkOf(t, v, usable, a, size)
	}
}

// checkOf wants those seats; where none are named, a false.
func checkOf(t *testing.T, v api.Venue, usable []bool, first, size int, want ...int) {
	t.Helper()
	got, ok := run.Of(v, usable, first, size)
	if !slices.Equal(got, want) || ok != (len(want) > 0) {
		t.Errorf("Of of %v, %v, %d, %d is %v, %v, want %v", v, usable, first, size, got, ok, want)
	}
}

// Promise 7.1: Next.

func TestNextOfTheHall(t *testing.T) {
	v := hall()
	for a, want := range []bool{true, true, false, false, true, false, false} {
		if run.Next(v, a) != want {
			t.Errorf("Next of %d: want %v", a, want)
		}
	}
	for _, a := range append(noSeats, 7, 8) {
		if run.Next(v, a) {
			t.Errorf("%d has a next one", a)
		}
	}
}

// TestAtJustTheGap has two seats of a row with their X the gap apart, one less
// and one more.
func TestAtJustTheGap(t *testing.T) {
	for _, gap := range []int{1, 2, 3, 1000, most - 1, most} {
		for _, x := range []int{-most, -gap, -1, 0, most - gap} {
			for _, more := range []int{1, gap - 1, gap, gap + 1, gap * 2} {
				v := api.Venue{Seats: []api.Seat{{Row: 4, X: x}, {Row: 4, X: x + more}}, Gap: gap}
				if !venue.May(v) {
					continue // beyond the coordinates, or at one place
				}
				want := more <= gap
				if run.Next(v, 0) != want || run.Next(v, 1) {
					t.Errorf("gap %d, from %d on %d more: want %v", gap, x, more, want)
				}
				checkLong(t, v, all(2), 0, map[bool]int{true: 2, false: 1}[want])
				checkLong(t, v, all(2), 1, 1)
			}
		}
	}
}

// TestTheGreatestGap has the two ends of a row, which are farther apart than
// any gap, with and without one between them.
func TestTheGreatestGap(t *testing.T) {
	v := api.Venue{Seats: []api.Seat{{X: -most}, {X: most}}, Gap: most}
	checkRuns(t, v, all(2), []int{0}, []int{1})
	v.Seats = []api.Seat{{X: -most}, {X: 0}, {X: most}}
	checkRuns(t, v, all(3), []int{0, 1, 2})
	v.Seats[1].X = 1
	checkRuns(t, v, all(3), []int{0}, []int{1, 2})
}

// TestRowsPart has seats of which only the row is other.
func TestRowsPart(t *testing.T) {
	v := api.Venue{Seats: []api.Seat{{Row: 0, X: 0}, {Row: 1, X: 1}, {Row: 1, X: 2}, {Row: 2, X: 1}, {Row: 3, X: 1}}, Gap: 9}
	for a, want := range []bool{false, true, false, false, false} {
		if run.Next(v, a) != want {
			t.Errorf("Next of %d: want %v", a, want)
		}
	}
	checkRuns(t, v, all(5), []int{0}, []int{1, 2}, []int{3}, []int{4})
}

// TestNextAsksNothingElse changes all of the hall but rows, X and the gap.
func TestNextAsksNothingElse(t *testing.T) {
	v, u := hall(), hall()
	u.Radius, u.Kills, u.Poles = 0, nil, nil
	for a := range u.Seats {
		u.Seats[a].Y, u.Seats[a].Kind = most-a, api.Companion-u.Seats[a].Kind
	}
	for a := range v.Seats {
		if run.Next(v, a) != run.Next(u, a) {
			t.Errorf("Next of %d is other", a)
		}
		checkLong(t, u, all(7), a, run.Long(v, all(7), a))
	}
	checkRuns(t, u, all(7), run.Runs(v, all(7))...)
}

// Promise 7.1: Runs.

func TestRunsOfTheHall(t *testing.T) {
	v := hall()
	checkRuns(t, v, all(7), []int{0, 1, 2}, []int{3}, []int{4, 5}, []int{6})
	checkRuns(t, v, but(0), []int{1, 2}, []int{3}, []int{4, 5}, []int{6})
	checkRuns(t, v, but(1), []int{0}, []int{2}, []int{3}, []int{4, 5}, []int{6})
	checkRuns(t, v, but(2), []int{0, 1}, []int{3}, []int{4, 5}, []int{6})
	checkRuns(t, v, but(3), []int{0, 1, 2}, []int{4, 5}, []int{6})
	checkRuns(t, v, but(0, 1, 3, 4, 6), []int{2}, []int{5})
	checkRuns(t, v, but(0, 1, 2, 3, 4, 5, 6))
}

// TestMarksThatAreMissing has fewer marks than seats, and more.
func TestMarksThatAreMissing(t *testing.T) {
	v := hall()
	checkRuns(t, v, nil)
	checkRuns(t, v, []bool{})
	checkRuns(t, v, all(1), []int{0})
	checkRuns(t, v, all(2), []int{0, 1})
	checkRuns(t, v, all(3), []int{0, 1, 2})
	checkRuns(t, v, all(5), []int{0, 1, 2}, []int{3}, []int{4})
	checkRuns(t, v, all(8), []int{0, 1, 2}, []int{3}, []int{4, 5}, []int{6})
	checkRuns(t, v, all(5000), []int{0, 1, 2}, []int{3}, []int{4, 5}, []int{6})
	for n := range 4 {
		for a := range 7 {
			checkLong(t, v, all(n), a, max(0, min(n, 3)-a))
		}
	}
	checkLong(t, v, all(5000), 6, 1)
	checkLong(t, v, all(5000), 7, 0)
}

// TestKillsAndPolesAreNotAsked: only the marks tell what is usable.
func TestKillsAndPolesAreNotAsked(t *testing.T) {
	v := hall()
	v.Kills = []int{0, 1, 2, 3, 4, 5, 6}
	checkRuns(t, v, all(7), []int{0, 1, 2}, []int{3}, []int{4, 5}, []int{6})
	checkLong(t, v, all(7), 0, 3)
}

// Promise 7.1: Of and Long.

func TestLongOfTheHall(t *testing.T) {
	v := hall()
	for _, x := range []struct {
		usable []bool
		want   []int
	}{
		{all(7), []int{3, 2, 1, 1, 2, 1, 1}},
		{but(0), []int{0, 2, 1, 1, 2, 1, 1}},
		{but(1), []int{1, 0, 1, 1, 2, 1, 1}},
		{but(2), []int{2, 1, 0, 1, 2, 1, 1}},
		{but(3, 5), []int{3, 2, 1, 0, 1, 0, 1}},
		{all(2), []int{2, 1, 0, 0, 0, 0, 0}},
		{nil, []int{0, 0, 0, 0, 0, 0, 0}},
	} {
		for a, want := range x.want {
			checkLong(t, v, x.usable, a, want)
		}
	}
}

func TestOneSeat(t *testing.T) {
	v := api.Venue{Seats: []api.Seat{{Row: 999, X: -most}}, Gap: 1}
	checkRuns(t, v, all(1), []int{0})
	checkLong(t, v, all(1), 0, 1)
	checkRuns(t, v, []bool{false})
	checkLong(t, v, []bool{false}, 0, 0)
	if run.Next(v, 0) {
		t.Error("one seat has a next one")
	}
}

func TestOfNoSeats(t *testing.T) {
	v := hall()
	for _, a := range append(noSeats, 7, 8) {
		checkLong(t, v, all(7), a, 0)
		checkLong(t, v, all(5000), a, 0)
		checkLong(t, v, nil, a, 0)
	}
}

func TestWhatMayNotBe(t *testing.T) {
	for name, f := range map[string]func(v *api.Venue){
		"nothing":      func(v *api.Venue) { *v = api.Venue{} },
		"seats fall":   func(v *api.Venue) { v.Seats[0], v.Seats[1] = v.Seats[1], v.Seats[0] },
		"one place":    func(v *api.Venue) { v.Seats[6] = v.Seats[5] },
		"row":          func(v *api.Venue) { v.Seats[6].Row = api.MaxRows },
		"x":            func(v *api.Venue) { v.Seats[5].X = math.MaxInt },
		"x, wrapping":  func(v *api.Venue) { v.Seats[4].X, v.Seats[5].X = math.MinInt, math.MaxInt },
		"y":            func(v *api.Venue) { v.Seats[0].Y = most + 1 },
		"kind":         func(v *api.Venue) { v.Seats[3].Kind = -1 },
		"no gap":       func(v *api.Venue) { v.Gap = 0 },
		"gap below":    func(v *api.Venue) { v.Gap = math.MinInt },
		"gap above":    func(v *api.Venue) { v.Gap = most + 1 },
		"radius":       func(v *api.Venue) { v.Radius = -1 },
		"kill":         func(v *api.Venue) { v.Kills[0] = 7 },
		"pole":         func(v *api.Venue) { v.Poles[0].R = 0 },
		"a seat more":  func(v *api.Venue) { v.Seats, v.Kills = row(api.MaxSeats+1), nil },
		"kills, twice": func(v *api.Venue) { v.Kills = []int{3, 3} },
	} {
		v := hall()
		f(&v)
		for _, usable := range [][]bool{nil, all(7), all(5000)} {
			if l := run.Runs(v, usable); len(l) > 0 {
				t.Errorf("%s: Runs is %v", name, l)
			}
			for a := -1; a < 9; a++ {
				checkLong(t, v, usable, a, 0)
				if run.Next(v, a) {
					t.Errorf("%s: %d has a next one", name, a)
				}
			}
		}
	}
}

// row is n seats beside one another.
func row(n int) []api.Seat {
	l := make([]api.Seat, n)
	for i := range l {
		l[i] = api.Seat{Row: 3, X: i}
	}
	return l
}

// TestTheMost has as many seats as may be, in one run, in two and each alone.
func TestTheMost(t *testing.T) {
	v := api.Venue{Seats: row(api.MaxSeats), Gap: 1}
	seats := make([]int, api.MaxSeats)
	for a := range seats {
		seats[a] = a
	}
	usable := all(api.MaxSeats)
	checkRuns(t, v, usable, seats)
	checkOf(t, v, usable, 0, api.MaxSeats, seats...)
	checkOf(t, v, usable, 0, api.MaxSeats+1)
	checkOf(t, v, usable, 1, api.MaxSeats-1, seats[1:]...)
	checkOf(t, v, usable, 1, api.MaxSeats)
	checkLong(t, v, usable, api.MaxSeats-1, 1)

	usable[2000] = false
	checkRuns(t, v, usable, seats[:2000], seats[2001:])
	checkOf(t, v, usable, 0, 2000, seats[:2000]...)
	checkOf(t, v, usable, 0, 2001)

	for a := range v.Seats {
		v.Seats[a].X = 2 * a
	}
	if l := run.Runs(v, all(api.MaxSeats)); len(l) != api.MaxSeats || !slices.Equal(l[4095], []int{4095}) {
		t.Error(len(l))
	}
}
