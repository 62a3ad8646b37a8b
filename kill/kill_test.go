package kill_test

import (
	"fmt"
	"math"
	"slices"
	"testing"

	"parterre/api"
	"parterre/kill"
	"parterre/venue"
)

const most = 1 << 20

// noSeats are numbers that are no seat of any venue.
var noSeats = []int{math.MinInt, math.MinInt + 1, -1 << 32, -2, -1, api.MaxSeats, 1 << 32, math.MaxInt - 1, math.MaxInt}

// hall is a venue that may be: a seat that nothing kills, one among Kills, one
// behind a pole, one with both, one just at a pole's R, one behind three poles
// of which two are one, and one that is far off.
func hall() api.Venue {
	return api.Venue{
		Seats: []api.Seat{
			{Row: 0, X: -40, Y: 7},
			{Row: 0, X: -9, Y: 0, Kind: api.Wheel},
			{Row: 0, X: 0, Y: 4, Kind: api.Companion},
			{Row: 0, X: 2, Y: 3},
			{Row: 1, X: 3, Y: 4, Kind: api.Companion},
			{Row: 7, X: 20, Y: 20, Kind: api.Wheel},
			{Row: 999, X: most, Y: -most},
		},
		Gap:    9,
		Radius: 50,
		Kills:  []int{1, 3},
		Poles:  []api.Pole{{X: 21, Y: 20, R: 2}, {X: 0, Y: 0, R: 5}, {X: 20, Y: 20, R: 1}, {X: 21, Y: 20, R: 2}, {X: 0, Y: 4, R: 1}},
	}
}

// byOfHall is what kills each of the hall's seats.
func byOfHall() [][]int { return [][]int{{}, {-1}, {1, 4}, {-1, 1}, {}, {0, 2, 3}, {}} }

// change makes a venue of the hall by f.
func change(f func(v *api.Venue)) api.Venue {
	v := hall()
	f(&v)
	return v
}

// row is n seats beside one another.
func row(n int) []api.Seat {
	l := make([]api.Seat, n)
	for i := range l {
		l[i] = api.Seat{Row: 3, X: i}
	}
	return l
}

// check holds all of kill, of v, against what kills each of its seats.
func check(t *testing.T, v api.Venue, by ...[]int) {
	t.Helper()
	if len(by) != len(v.Seats) {
		t.Fatalf("%d seats, and told of %d what kills them", len(v.Seats), len(by))
	}
	usable, killed := make([]bool, len(by)), []int{}
	for a, want := range by {
		if got := kill.By(v, a); !slices.Equal(got, want) {
			t.Fatalf("By of %s, %d is %v, want %v", told(v), a, got, want)
		}
		usable[a] = len(want) == 0
		if !usable[a] {
			killed = append(killed, a)
		}
	}
	if got := kill.Usable(v); !slices.Equal(got, usable) {
		t.Fatalf("Usable of %s is other than By", told(v))
	}
	if got := kill.Killed(v); !slices.Equal(got, killed) {
		t.Fatalf("Killed of %s is %v, want %v", told(v), got, killed)
	}
}

// told is v in words, without its lists if they are long.
func told(v api.Venue) string {
	if len(v.Seats)+len(v.Poles) > 100 {
		return fmt.Sprintf("a venue of %d seats, %d kills, %d poles", len(v.Seats), len(v.Kills), len(v.Poles))
	}
	return fmt.Sprint(v)
}

// checkNone wants nothing of v, which may not be.
func checkNone(t *testing.T, name string, v api.Venue) {
	t.Helper()
	if venue.May(v) {
		t.Fatalf("%s: it may be", name)
	}
	if l := kill.Usable(v); len(l) > 0 {
		t.Errorf("%s: Usable is %v", name, l)
	}
	if l := kill.Killed(v); len(l) > 0 {
		t.Errorf("%s: Killed is %v", name, l)
	}
	for _, a := range append([]int{0, 1, 2, 3, 4, 5, 6, 7}, noSeats...) {
		if l := kill.By(v, a); len(l) > 0 {
			t.Errorf("%s: By of %d is %v", name, a, l)
		}
	}
}

// Promise 8.1.

func TestHall(t *testing.T) {
	v := hall()
	check(t, v, byOfHall()...)
	v.Kills = nil
	check(t, v, nil, nil, []int{1, 4}, []int{1}, nil, []int{0, 2, 3}, nil)
	v.Poles = nil
	check(t, v, nil, nil, nil, nil, nil, nil, nil)
	v.Kills = []int{0, 6}
	check(t, v, []int{-1}, nil, nil, nil, nil, nil, []int{-1})
	v.Kills = []int{0, 1, 2, 3, 4, 5, 6}
	check(t, v, []int{-1}, []int{-1}, []int{-1}, []int{-1}, []int{-1}, []int{-1}, []int{-1})
}

func TestOneSeat(t *testing.T) {
	v := api.Venue{Seats: []api.Seat{{}}, Gap: 1}
	check(t, v, nil)
	v.Poles = []api.Pole{{R: 1}}
	check(t, v, []int{0})
	v.Kills = []int{0}
	check(t, v, []int{-1, 0})
	v.Poles = nil
	check(t, v, []int{-1})
	v.Seats, v.Kills, v.Poles = []api.Seat{{Row: 999, X: -most, Y: most, Kind: api.Wheel}}, nil, []api.Pole{{X: most, Y: -most, R: most}}
	check(t, v, nil)
	v.Poles = []api.Pole{{X: -most, Y: most, R: most}, {X: -most, Y: most, R: 1}, {X: -most + 1, Y: most, R: 1}}
	check(t, v, []int{0, 1})
}

// TestAtJustTheR has a seat with its distance from a pole its R, one less and
// one more.
func TestAtJustTheR(t *testing.T) {
	for _, x := range []struct{ x, y, r int }{
		{1, 0, 1}, {0, -1, 1}, {3, 4, 5}, {-5, 12, 13}, {8, -15, 17}, {-600000, -800000, 1000000}, {629145, -838860, 1048575}, {most, 0, most}, {0, -most, most},
	} {
		for _, r := range []int{1, x.r - 1, x.r, x.r + 1, most - 1, most} {
			if r < 1 || r > most {
				continue
			}
			var want []int
			if r > x.r {
				want = []int{0}
			}
			check(t, api.Venue{Seats: []api.Seat{{X: x.x, Y: x.y}}, Gap: 1, Poles: []api.Pole{{R: r}}}, want)
			check(t, api.Venue{Seats: []api.Seat{{}}, Gap: 1, Poles: []api.Pole{{X: x.x, Y: x.y, R: r}}}, want)
		}
	}
}

// TestEachPoleHasItsOwnR has poles of one place of which some reach the seat.
func TestEachPoleHasItsOwnR(t *testing.T) {
	v := api.Venue{Seats: []api.Seat{{X: 10}, {Row: 1, X: 10, Y: 1}}, Gap: 1}
	for r := 1; r <= 20; r++ {
		v.Poles = append(v.Poles, api.Pole{X: 5, R: r % 10 * 2})
	}
	v.Poles[9].R, v.Poles[19].R = 5, 6
	check(t, v, []int{2, 3, 4, 5, 6, 7, 8, 12, 13, 14, 15, 16, 17, 18, 19}, []int{2, 3, 4, 5, 6, 7, 8, 12, 13, 14, 15, 16, 17, 18, 19})
	v.Poles = v.Poles[9:12]
	check(t, v, nil, nil)
}

// TestNothingElseIsAsked changes all of the hall but where seats and poles
// stand and what is among Kills.
func TestNothingElseIsAsked(t *testing.T) {
	v := hall()
	v.Gap, v.Radius = 1, 0
	check(t, v, byOfHall()...)
	v.Gap, v.Radius = most, most
	check(t, v, byOfHall()...)
	for a := range v.Seats {
		v.Seats[a].Row, v.Seats[a].Kind = 100*a, api.Companion-v.Seats[a].Kind
	}
	check(t, v, byOfHall()...)
}

// TestRowsDoNotPart has seats of one place in two rows: a pole hides both, a
// kill strikes one.
func TestRowsDoNotPart(t *testing.T) {
	v := api.Venue{Seats: []api.Seat{{Row: 0, X: 8, Y: 8}, {Row: 999, X: 8, Y: 8}}, Gap: 1, Poles: []api.Pole{{X: 8, Y: 8, R: 1}}}
	check(t, v, []int{0}, []int{0})
	v.Poles, v.Kills = nil, []int{1}
	check(t, v, nil, []int{-1})
}

func TestNilAndEmptyListsAreTheSame(t *testing.T) {
	for _, v := range []api.Venue{
		{Seats: row(2), Gap: 1},
		{Seats: row(2), Gap: 1, Kills: []int{}, Poles: []api.Pole{}},
	} {
		check(t, v, nil, nil)
	}
	checkNone(t, "nil", api.Venue{Gap: 1})
	checkNone(t, "empty", api.Venue{Seats: []api.Seat{}, Gap: 1, Kills: []int{}, Poles: []api.Pole{}})
}

func TestOfNoSeat(t *testing.T) {
	// With all of them killed, so that a number that is taken for a seat shows.
	for _, v := range []api.Venue{
		{Seats: row(3), Gap: 1, Kills: []int{0, 1, 2}},
		{Seats: row(3), Gap: 1, Poles: []api.Pole{{R: most}}},
		{Seats: row(3), Gap: 1, Kills: []int{0, 1, 2}, Poles: []api.Pole{{R: most}}},
		hall(),
	} {
		for _, a := range append([]int{len(v.Seats), len(v.Seats) + 1}, noSeats...) {
			if l := kill.By(v, a); len(l) > 0 {
				t.Errorf("By of %v, %d is %v", v, a, l)
			}
		}
	}
}

func TestWhatMayNotBe(t *testing.T) {
	for name, f := range map[string]func(v *api.Venue){
		"nothing":        func(v *api.Venue) { *v = api.Venue{} },
		"no seats":       func(v *api.Venue) { v.Seats, v.Kills = nil, nil },
		"too many seats": func(v *api.Venue) { v.Seats = row(api.MaxSeats + 1) },
		"seats fall":     func(v *api.Venue) { v.Seats[0], v.Seats[1] = v.Seats[1], v.Seats[0] },
		"one place":      func(v *api.Venue) { v.Seats[1].X = v.Seats[0].X },
		"row":            func(v *api.Venue) { v.Seats[6].Row = api.MaxRows },
		"x":              func(v *api.Venue) { v.Seats[6].X = most + 1 },
		"y":              func(v *api.Venue) { v.Seats[6].Y = math.MinInt },
		"kind":           func(v *api.Venue) { v.Seats[6].Kind = -1 },
		"no gap":         func(v *api.Venue) { v.Gap = 0 },
		"gap above":      func(v *api.Venue) { v.Gap = most + 1 },
		"radius below":   func(v *api.Venue) { v.Radius = -1 },
		"radius above":   func(v *api.Venue) { v.Radius = math.MaxInt },
		"kill below":     func(v *api.Venue) { v.Kills[0] = -1 },
		"kill behind":    func(v *api.Venue) { v.Kills[1] = 7 },
		"kills fall":     func(v *api.Venue) { v.Kills[0], v.Kills[1] = v.Kills[1], v.Kills[0] },
		"kill twice":     func(v *api.Venue) { v.Kills[1] = v.Kills[0] },
		"too many kills": func(v *api.Venue) { v.Kills = slices.Repeat([]int{1}, api.MaxKills+1) },
		"pole's x":       func(v *api.Venue) { v.Poles[0].X = -most - 1 },
		"pole's y":       func(v *api.Venue) { v.Poles[4].Y = math.MaxInt },
		"pole's no r":    func(v *api.Venue) { v.Poles[1].R = 0 },
		"pole's r below": func(v *api.Venue) { v.Poles[1].R = -5 },
		"pole's great r": func(v *api.Venue) { v.Poles[1].R = math.MinInt },
		"too many poles": func(v *api.Venue) { v.Poles = slices.Repeat(v.Poles[:1], api.MaxKills+1) },
	} {
		checkNone(t, name, change(f))
	}
}

// TestTheMost has as many seats, kills and poles as may be: the poles over
// none, some and all.
func TestTheMost(t *testing.T) {
	v := api.Venue{Seats: row(api.MaxSeats), Gap: 1}
	by := make([][]int, api.MaxSeats)
	check(t, v, by...)
	for i := range api.MaxKills {
		v.Kills = append(v.Kills, api.MaxSeats-2*api.MaxKills+2*i+1)
		by[v.Kills[i]] = []int{-1}
	}
	check(t, v, by...)
	for i := range api.MaxKills { // over the last seat
		v.Poles = append(v.Poles, api.Pole{X: most, R: most - api.MaxSeats + 2})
		by[api.MaxSeats-1] = append(by[api.MaxSeats-1], i)
	}
	v.Poles[0].R = 1
	by[4095] = slices.Delete(by[4095], 1, 2)
	check(t, v, by...)
	all := make([]int, api.MaxKills)
	for i := range v.Poles {
		v.Poles[i].R, all[i] = most, i
	}
	by[0] = nil // just at their R
	for a := 1; a < api.MaxSeats; a++ {
		by[a] = all
		if slices.Contains(v.Kills, a) {
			by[a] = append([]int{-1}, all...)
		}
	}
	check(t, v, by...)
}
