package print_test

import (
	"fmt"
	"math"
	"slices"
	"strings"
	"testing"

	"parterre/api"
	"parterre/print"
	"parterre/venue"
)

// hall is a venue that may be, with something in every part.
func hall() api.Venue {
	return api.Venue{
		Seats: []api.Seat{
			{Row: 0, X: -4, Y: 3},
			{Row: 0, X: 2, Y: -3, Kind: api.Wheel},
			{Row: 0, X: 6, Y: 2, Kind: api.Companion},
			{Row: 12, X: -9, Y: 0},
			{Row: 12, X: -4, Y: 3, Kind: api.Wheel},
			{Row: 999, X: 0, Y: 8},
		},
		Gap:    4,
		Radius: 7,
		Kills:  []int{1, 3, 5},
		Poles:  []api.Pole{{X: 5, Y: -2, R: 3}, {X: -8, Y: 1, R: 1}, {X: 5, Y: -2, R: 3}},
	}
}

// change makes a venue of the hall by f.
func change(f func(v *api.Venue)) api.Venue {
	v := hall()
	f(&v)
	return v
}

// copied is v with lists of its own.
func copied(v api.Venue) api.Venue {
	v.Seats, v.Kills, v.Poles = slices.Clone(v.Seats), slices.Clone(v.Kills), slices.Clone(v.Poles)
	return v
}

// most is a venue with as much of everything as may be, its numbers long ones.
func most() api.Venue {
	v := api.Venue{Gap: 1 << 20, Radius: 1 << 20}
	for i := range api.MaxSeats {
		row, at := 999-i%16, -1<<20+i/16
		v.Seats = append(v.Seats, api.Seat{Row: row, X: at, Y: -1<<20 + i%3, Kind: api.Companion - i%7%3})
	}
	for i := range api.MaxKills {
		v.Kills = append(v.Kills, i*20)
		v.Poles = append(v.Poles, api.Pole{X: -1 << 20, Y: -1<<20 + i%2, R: 1<<20 - i})
	}
	v, _ = venue.Norm(v)
	return v
}

// notToBe are changes of the hall, each of which makes it one that may not be.
func notToBe() map[string]func(v *api.Venue) {
	return map[string]func(v *api.Venue){
		"nothing":         func(v *api.Venue) { *v = api.Venue{} },
		"no seats":        func(v *api.Venue) { v.Seats, v.Kills = nil, nil },
		"no seats, kills": func(v *api.Venue) { v.Seats = nil },
		"too many seats":  func(v *api.Venue) { v.Seats = append(most().Seats, api.Seat{Row: 999, X: 1 << 20}) },
		"one place":       func(v *api.Venue) { v.Seats[1].X = v.Seats[0].X },
		"seats fall":      func(v *api.Venue) { v.Seats[0], v.Seats[1] = v.Seats[1], v.Seats[0] },
		"rows fall":       func(v *api.Venue) { v.Seats[5].Row = 11 },
		"row below":       func(v *api.Venue) { v.Seats[0].Row = -1 },
		"row above":       func(v *api.Venue) { v.Seats[5].Row = 1000 },
		"x":               func(v *api.Venue) { v.Seats[5].X = 1<<20 + 1 },
		"y":               func(v *api.Venue) { v.Seats[5].Y = math.MinInt },
		"kind above":      func(v *api.Venue) { v.Seats[5].Kind = 3 },
		"kind below":      func(v *api.Venue) { v.Seats[0].Kind = -1 },
		"gap":             func(v *api.Venue) { v.Gap = 0 },
		"gap above":       func(v *api.Venue) { v.Gap = 1<<20 + 1 },
		"radius":          func(v *api.Venue) { v.Radius = -1 },
		"kill below":      func(v *api.Venue) { v.Kills[0] = -1 },
		"kill behind":     func(v *api.Venue) { v.Kills[2] = 6 },
		"kill far behind": func(v *api.Venue) { v.Kills[2] = math.MaxInt },
		"kills fall":      func(v *api.Venue) { v.Kills[0], v.Kills[1] = v.Kills[1], v.Kills[0] },
		"kill twice":      func(v *api.Venue) { v.Kills[0] = v.Kills[1] },
		"too many poles":  func(v *api.Venue) { v.Poles = slices.Repeat(v.Poles[:1], 201) },
		"pole's x":        func(v *api.Venue) { v.Poles[0].X = -1<<20 - 1 },
		"pole's r":        func(v *api.Venue) { v.Poles[2].R = 0 },
	}
}

func checkVenue(t *testing.T, v api.Venue, want string) {
	t.Helper()
	if got, code := print.Venue(v); got != want || code != api.OK {
		t.Errorf("Venue(%v): %q, %d, want %q", v, got, code, want)
	}
}

func checkMap(t *testing.T, v api.Venue, own []int, want string) {
	t.Helper()
	if got := print.Map(v, own); got != want {
		t.Errorf("Map with own %v: %q, want %q", own, got, want)
	}
}

// Promise 5.1: Seat.

func TestSeat(t *testing.T) {
	for _, x := range []struct {
		seat api.Seat
		want string
	}{
		{api.Seat{}, "seat 0 0 0"},
		{api.Seat{Row: 1, X: 2, Y: 3}, "seat 1 2 3"},
		{api.Seat{Row: 1, X: 2, Y: 3, Kind: api.Wheel}, "wheel 1 2 3"},
		{api.Seat{Row: 999, X: -10, Y: 1 << 20, Kind: api.Companion}, "companion 999 -10 1048576"},
		{api.Seat{Row: -1, X: -2, Y: -3, Kind: 3}, "? -1 -2 -3"},
		{api.Seat{Row: 7, Kind: -1}, "? 7 0 0"},
		{api.Seat{X: 7, Kind: math.MinInt}, "? 0 7 0"},
		{api.Seat{Y: 7, Kind: math.MaxInt}, "? 0 0 7"},
		{api.Seat{Row: math.MinInt, X: math.MaxInt, Y: math.MinInt}, "seat -9223372036854775808 9223372036854775807 -9223372036854775808"},
		{api.Seat{Row: math.MaxInt, X: math.MinInt, Y: math.MaxInt, Kind: 4}, "? 9223372036854775807 -9223372036854775808 9223372036854775807"},
	} {
		if got := print.Seat(x.seat); got != x.want {
			t.Errorf("Seat(%v): %q, want %q", x.seat, got, x.want)
		}
	}
}

// Promise 5.1: Venue.

func TestVenue(t *testing.T) {
	checkVenue(t, hall(), "gap 4\nradius 7\n"+
		"seat 0 -4 3\nwheel 0 2 -3\ncompanion 0 6 2\nseat 12 -9 0\nwheel 12 -4 3\nseat 999 0 8\n"+
		"kill 0 2\nkill 12 -9\nkill 999 0\n"+
		"pole 5 -2 3\npole -8 1 1\npole 5 -2 3\n")
	bare := api.Venue{Seats: []api.Seat{{Row: 3, X: 1, Y: -2}}, Gap: 1}
	checkVenue(t, bare, "gap 1\nradius 0\nseat 3 1 -2\n")
	bare.Kills, bare.Poles = []int{}, []api.Pole{}
	checkVenue(t, bare, "gap 1\nradius 0\nseat 3 1 -2\n")
	bare.Kills = []int{0}
	checkVenue(t, bare, "gap 1\nradius 0\nseat 3 1 -2\nkill 3 1\n")
	bare.Kills, bare.Poles = nil, []api.Pole{{X: 1 << 20, Y: -1 << 20, R: 1 << 20}}
	checkVenue(t, bare, "gap 1\nradius 0\nseat 3 1 -2\npole 1048576 -1048576 1048576\n")
}

func TestSeatsOfAVenueAreAsSeat(t *testing.T) {
	v := most()
	s, _ := print.Venue(v)
	lines := strings.Split(s, "\n")
	if len(lines) != 2+api.MaxSeats+2*api.MaxKills+1 || lines[0] != "gap 1048576" || lines[1] != "radius 1048576" || lines[len(lines)-1] != "" {
		t.Fatal(len(lines), lines[0], lines[1])
	}
	for i, seat := range v.Seats {
		if lines[2+i] != print.Seat(seat) {
			t.Errorf("line %d is %q, want %q", 2+i, lines[2+i], print.Seat(seat))
		}
	}
}

func TestWhatMayNotBe(t *testing.T) {
	for name, f := range notToBe() {
		v := change(f)
		if s, code := print.Venue(v); s != "" || code != api.ErrArg {
			t.Errorf("%s: Venue is %q, %d", name, s, code)
		}
		for _, own := range [][]int{nil, {1, -1, 0, 1}, make([]int, 10)} {
			if s := print.Map(v, own); s != "" {
				t.Errorf("%s: Map is %q", name, s)
			}
		}
	}
}

// Promise 5.2: Map.

func TestMap(t *testing.T) {
	for _, x := range []struct {
		own  []int
		want string
	}{
		{nil, "0 .xc\n12 xw\n999 x\n"},
		{[]int{}, "0 .xc\n12 xw\n999 x\n"},
		{[]int{0, 0, 0, 0, 0, 0}, "0 .xc\n12 xw\n999 x\n"},
		{[]int{1, 1, 1, 1, 1, 1}, "0 #x#\n12 x#\n999 x\n"},
		{[]int{-1, -1, -1, -1, -1, -1}, "0 -x-\n12 x-\n999 x\n"},
		{[]int{math.MaxInt, 2, math.MinInt, 3, 512, -9}, "0 #x-\n12 x#\n999 x\n"},
		{[]int{-1}, "0 -xc\n12 xw\n999 x\n"},
		{[]int{0, 0, 7}, "0 .x#\n12 xw\n999 x\n"},
		{[]int{0, 0, 0, 0, -7, 0, 1, -1, 1}, "0 .xc\n12 x-\n999 x\n"},
	} {
		checkMap(t, hall(), x.own, x.want)
	}
}

func TestEachSign(t *testing.T) {
	for kind, free := range []string{".", "w", "c"} {
		for own, taken := range map[int]string{0: free, 1: "#", 512: "#", math.MaxInt: "#", -1: "-", math.MinInt: "-"} {
			v := api.Venue{Seats: []api.Seat{{Row: 5, X: 1, Kind: kind}}, Gap: 1}
			checkMap(t, v, []int{own}, "5 "+taken+"\n")
			v.Kills = []int{0}
			checkMap(t, v, []int{own}, "5 x\n")
		}
	}
}

func TestRowsOfTheMap(t *testing.T) {
	for _, x := range []struct {
		rows []int
		want string
	}{
		{[]int{0}, "0 .\n"},
		{[]int{999}, "999 .\n"},
		{[]int{0, 0}, "0 ..\n"},
		{[]int{0, 1}, "0 .\n1 .\n"},
		{[]int{7, 7, 7, 10, 11, 11, 100}, "7 ...\n10 .\n11 ..\n100 .\n"},
		{[]int{3, 4, 4}, "3 .\n4 ..\n"},
	} {
		v := api.Venue{Gap: 1}
		for i, row := range x.rows {
			v.Seats = append(v.Seats, api.Seat{Row: row, X: i * 50})
		}
		checkMap(t, v, nil, x.want)
	}
	full := most()
	full.Kills = nil
	if got := print.Map(full, slices.Repeat([]int{1}, 5000)); !strings.HasSuffix(got, "\n999 "+strings.Repeat("#", 256)+"\n") || strings.Count(got, "\n") != 16 {
		t.Error(got)
	}
}

// TestPolesAreNotOnTheMap has a pole over every seat: only Kills are crossed.
func TestPolesAreNotOnTheMap(t *testing.T) {
	v := change(func(v *api.Venue) { v.Kills, v.Poles = nil, []api.Pole{{R: 1 << 20}} })
	checkMap(t, v, nil, "0 .wc\n12 .w\n999 .\n")
}

// mapped is the map of a venue that may be, found another way: row by row.
func mapped(v api.Venue, own []int) string {
	whose := append(slices.Clone(own), make([]int, len(v.Seats))...)
	all := ""
	for row := range api.MaxRows {
		signs := ""
		for i, s := range v.Seats {
			if s.Row == row {
				sign := string(".wc"[s.Kind])
				if slices.Contains(v.Kills, i) {
					sign = "x"
				} else if whose[i] != 0 {
					sign = map[bool]string{true: "#", false: "-"}[whose[i] > 0]
				}
				signs += sign
			}
		}
		if signs != "" {
			all += fmt.Sprintf("%d %s\n", row, signs)
		}
	}
	return all
}

// TestAllOwners goes through all own's of up to seven numbers, for the hall
// with all choices of kills.
func TestAllOwners(t *testing.T) {
	v := hall()
	for killed := range 1 << len(v.Seats) {
		v.Kills = nil
		for k := range v.Seats {
			if killed>>k&1 == 1 {
				v.Kills = append(v.Kills, k)
			}
		}
		if killed%5 != 0 {
			continue // the choices that are left have each seat killed, and not
		}
		var grow func(own []int)
		grow = func(own []int) {
			if got, want := print.Map(v, own), mapped(v, own); got != want {
				t.Fatalf("Map with kills %v, own %v: %q, want %q", v.Kills, own, got, want)
			}
			if len(own) < 7 {
				for _, n := range []int{-1, 0, 1} {
					grow(append(slices.Clone(own), n))
				}
			}
		}
		grow(nil)
	}
}

// Rules 2 and 3 of DOC.md.

func TestNothingIsChanged(t *testing.T) {
	for _, v := range []api.Venue{hall(), most(), change(func(v *api.Venue) { slices.Reverse(v.Seats) })} {
		was, own := copied(v), []int{3, -2, 0, 5}
		first, code := print.Venue(v)
		picture := print.Map(v, own)
		if !venue.Same(v, was) || !slices.Equal(own, []int{3, -2, 0, 5}) {
			t.Error("what was handed in was changed")
		}
		again, codeAgain := print.Venue(v)
		if first != again || code != codeAgain || picture != print.Map(v, own) {
			t.Error("the same venue was answered in another way")
		}
	}
}
