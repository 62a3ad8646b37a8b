package geom_test

import (
	"math"
	"math/big"
	"slices"
	"testing"

	"parterre/api"
	"parterre/geom"
	"parterre/venue"
)

const most = 1 << 20

// beyond are numbers that are no coordinate of anything that may be.
var beyond = []int{math.MinInt, math.MinInt + 1, -1 << 32, -most - 1, most + 1, 1 << 32, math.MaxInt - 1, math.MaxInt}

// hall is a venue that may be, with something in every part: two seats of one
// place, some on a line, one far off.
func hall() api.Venue {
	return api.Venue{
		Seats: []api.Seat{
			{Row: 0, X: -3, Y: 0},
			{Row: 0, X: 0, Y: 0, Kind: api.Wheel},
			{Row: 0, X: 4, Y: 3, Kind: api.Companion},
			{Row: 7, X: 0, Y: 0},
			{Row: 7, X: 1, Y: 9},
			{Row: 999, X: most, Y: -most},
		},
		Gap:    4,
		Radius: 5,
		Kills:  []int{1, 4},
		Poles:  []api.Pole{{X: 0, Y: 0, R: 50}},
	}
}

// change makes a venue of the hall by f.
func change(f func(v *api.Venue)) api.Venue {
	v := hall()
	f(&v)
	return v
}

// copied is v with lists of its own.
func copied(v api.Venue) api.Venue {
	v.Seats, v.Kills, v.Poles = slices.Clone(v.Seats), slices.Clone(v.Kills), slices.Clone(v.Poles)
	return v
}

// notToBe are changes of the hall, each of which makes it one that may not be.
func notToBe() map[string]func(v *api.Venue) {
	return map[string]func(v *api.Venue){
		"nothing":        func(v *api.Venue) { *v = api.Venue{} },
		"no seats":       func(v *api.Venue) { v.Seats, v.Kills = nil, nil },
		"too many seats": func(v *api.Venue) { v.Seats = row(api.MaxSeats + 1) },
		"one place":      func(v *api.Venue) { v.Seats[1].X = v.Seats[0].X },
		"seats fall":     func(v *api.Venue) { v.Seats[0], v.Seats[1] = v.Seats[1], v.Seats[0] },
		"row below":      func(v *api.Venue) { v.Seats[0].Row = -1 },
		"row above":      func(v *api.Venue) { v.Seats[5].Row = 1000 },
		"x":              func(v *api.Venue) { v.Seats[5].X = most + 1 },
		"y":              func(v *api.Venue) { v.Seats[5].Y = math.MinInt },
		"kind":           func(v *api.Venue) { v.Seats[5].Kind = 3 },
		"gap":            func(v *api.Venue) { v.Gap = 0 },
		"gap above":      func(v *api.Venue) { v.Gap = most + 1 },
		"radius":         func(v *api.Venue) { v.Radius = -5 },
		"radius above":   func(v *api.Venue) { v.Radius = most + 1 },
		"great radius":   func(v *api.Venue) { v.Radius = math.MaxInt },
		"kill below":     func(v *api.Venue) { v.Kills[0] = -1 },
		"kill behind":    func(v *api.Venue) { v.Kills[1] = 6 },
		"kills fall":     func(v *api.Venue) { v.Kills[0], v.Kills[1] = v.Kills[1], v.Kills[0] },
		"kill twice":     func(v *api.Venue) { v.Kills[0] = v.Kills[1] },
		"pole's x":       func(v *api.Venue) { v.Poles[0].X = -most - 1 },
		"pole's r":       func(v *api.Venue) { v.Poles[0].R = 0 },
		"too many poles": func(v *api.Venue) { v.Poles = slices.Repeat(v.Poles[:1], api.MaxKills+1) },
	}
}

// row is n seats beside one another.
func row(n int) []api.Seat {
	l := make([]api.Seat, n)
	for i := range l {
		l[i] = api.Seat{Row: 3, X: i}
	}
	return l
}

// far is the square of the distance in numbers of any length.
func far(a, b api.Seat) *big.Int {
	x := new(big.Int).Sub(big.NewInt(int64(a.X)), big.NewInt(int64(b.X)))
	y := new(big.Int).Sub(big.NewInt(int64(a.Y)), big.NewInt(int64(b.Y)))
	return x.Add(x.Mul(x, x), y.Mul(y, y))
}

// within tells whether a and b are nearer than r, in numbers of any length.
func within(a, b api.Seat, r int) bool {
	n := big.NewInt(int64(r))
	return far(a, b).Cmp(n.Mul(n, n)) < 0
}

func checkFar(t *testing.T, a, b api.Seat, want int64) {
	t.Helper()
	if got := geom.Far(a, b); got != want {
		t.Errorf("Far(%v, %v) is %d, want %d", a, b, got, want)
	}
	if got := geom.Far(b, a); got != want {
		t.Errorf("Far(%v, %v) is %d, want %d", b, a, got, want)
	}
}

// checkVenue holds Clash and Graph of v, which may be, against each other and
// against within.
func checkVenue(t *testing.T, v api.Venue) {
	t.Helper()
	graph := geom.Graph(v)
	if len(graph) != len(v.Seats) {
		t.Fatalf("Graph of %d seats has %d lists", len(v.Seats), len(graph))
	}
	for a := range v.Seats {
		var want []int
		for b := range v.Seats {
			clash := a != b && within(v.Seats[a], v.Seats[b], v.Radius)
			if got := geom.Clash(v, a, b); got != clash {
				t.Fatalf("Clash of %v and %v with Radius %d is %v", v.Seats[a], v.Seats[b], v.Radius, got)
			}
			if clash {
				want = append(want, b)
			}
		}
		if !slices.Equal(graph[a], want) {
			t.Fatalf("Graph of %v: seat %d has %v, want %v", v, a, graph[a], want)
		}
	}
}

func checkNear(t *testing.T, v api.Venue, x, y, r int, want ...int) {
	t.Helper()
	if got := geom.Near(v, x, y, r); !slices.Equal(got, want) {
		t.Errorf("Near(%d, %d, %d) is %v, want %v", x, y, r, got, want)
	}
}

// Promise 6.1: Far.

func TestFar(t *testing.T) {
	for _, x := range []struct {
		a, b api.Seat
		want int64
	}{
		{api.Seat{}, api.Seat{}, 0},
		{api.Seat{}, api.Seat{X: 3, Y: 4}, 25},
		{api.Seat{}, api.Seat{X: 1}, 1},
		{api.Seat{}, api.Seat{Y: -1}, 1},
		{api.Seat{X: -1, Y: 2}, api.Seat{X: 4, Y: -10}, 169},
		{api.Seat{X: -7, Y: -8}, api.Seat{X: -7, Y: -8}, 0},
		{api.Seat{X: 1 << 16}, api.Seat{}, 1 << 32},
		{api.Seat{X: -most}, api.Seat{X: most}, 1 << 42},
		{api.Seat{Y: -most}, api.Seat{Y: most}, 1 << 42},
		{api.Seat{X: most, Y: -most}, api.Seat{X: -most, Y: most}, 1 << 43},
		{api.Seat{X: most - 1, Y: most}, api.Seat{X: -most, Y: -most}, 1<<43 - 1<<22 + 1},
	} {
		checkFar(t, x.a, x.b, x.want)
	}
}

// TestFarAsksOnlyWhereTheyAre has rows and kinds of which no seat may be.
func TestFarAsksOnlyWhereTheyAre(t *testing.T) {
	for _, n := range append([]int{-1, 0, 1, 2, 3, 999, 1000}, beyond...) {
		checkFar(t, api.Seat{Row: n}, api.Seat{X: 3, Y: 4}, 25)
		checkFar(t, api.Seat{Kind: n}, api.Seat{X: 3, Y: 4}, 25)
		checkFar(t, api.Seat{Row: n, Kind: n}, api.Seat{Row: -n, X: -3, Y: 4, Kind: -n}, 25)
	}
}

func TestFarOfCoordinatesBeyond(t *testing.T) {
	others := []api.Seat{{}, {X: 5}, {Y: -5}, {X: most, Y: -most}, {X: -most, Y: most}}
	for _, n := range beyond {
		for _, o := range others {
			for _, s := range []api.Seat{{X: n}, {Y: n}, {X: n, Y: 1}, {X: 1, Y: n}, {X: n, Y: n}} {
				checkFar(t, s, o, 0)
			}
		}
		for _, m := range beyond {
			checkFar(t, api.Seat{X: n}, api.Seat{X: m}, 0)
			checkFar(t, api.Seat{X: n}, api.Seat{Y: m}, 0)
		}
	}
}

func TestFarAtTheEdges(t *testing.T) {
	edges := []int{-most, -most + 1, -1, 0, 1, most - 1, most}
	for _, x := range edges {
		for _, y := range edges {
			for _, u := range edges {
				for _, w := range edges {
					a, b := api.Seat{X: x, Y: y}, api.Seat{X: u, Y: w}
					checkFar(t, a, b, far(a, b).Int64())
				}
			}
		}
	}
}

// Promise 6.1: Clash and Graph.

func TestHall(t *testing.T) {
	v := hall()
	for radius, want := range map[int][][]int{
		0:    {{}, {}, {}, {}, {}, {}},
		1:    {{}, {3}, {}, {1}, {}, {}},
		3:    {{}, {3}, {}, {1}, {}, {}},
		4:    {{1, 3}, {0, 3}, {}, {0, 1}, {}, {}},
		5:    {{1, 3}, {0, 3}, {}, {0, 1}, {}, {}},
		6:    {{1, 3}, {0, 2, 3}, {1, 3}, {0, 1, 2}, {}, {}},
		7:    {{1, 3}, {0, 2, 3}, {1, 3, 4}, {0, 1, 2}, {2}, {}},
		most: {{1, 2, 3, 4}, {0, 2, 3, 4}, {0, 1, 3, 4}, {0, 1, 2, 4}, {0, 1, 2, 3}, {}},
	} {
		v.Radius = radius
		got := geom.Graph(v)
		if !slices.EqualFunc(got, want, slices.Equal[[]int]) {
			t.Errorf("radius %d: %v, want %v", radius, got, want)
		}
		checkVenue(t, v)
	}
}

// TestAtJustTheRadius has two seats with their distance the radius, one less
// and one more.
func TestAtJustTheRadius(t *testing.T) {
	for _, x := range []struct{ x, y, r int }{
		{1, 0, 1}, {0, 1, 1}, {3, 4, 5}, {-5, 12, 13}, {8, -15, 17}, {600000, -800000, 1000000}, {629145, -838860, 1048575}, {most, 0, most}, {0, -most, most},
	} {
		v := api.Venue{Seats: []api.Seat{{Row: 1}, {Row: 2, X: x.x, Y: x.y}}, Gap: 1}
		for _, y := range []struct {
			radius int
			want   bool
		}{{0, false}, {1, false}, {x.r - 1, false}, {x.r, false}, {min(x.r+1, most), x.r < most}, {most, x.r < most}} {
			v.Radius = y.radius
			if geom.Clash(v, 0, 1) != y.want || geom.Clash(v, 1, 0) != y.want {
				t.Errorf("%v with radius %d: want %v", x, y.radius, y.want)
			}
			checkVenue(t, v)
		}
	}
}

// TestRowsDoNotPart has seats of one place in two rows: they clash with any
// radius that there is.
func TestRowsDoNotPart(t *testing.T) {
	v := api.Venue{Seats: []api.Seat{{Row: 0, X: 8, Y: 8}, {Row: 999, X: 8, Y: 8}}, Gap: 1}
	for _, radius := range []int{0, 1, 2, most} {
		v.Radius = radius
		if geom.Clash(v, 0, 1) != (radius > 0) {
			t.Errorf("radius %d", radius)
		}
		checkVenue(t, v)
	}
}

func TestClashOfNoSeats(t *testing.T) {
	v := hall()
	v.Radius = most
	n := len(v.Seats)
	for _, none := range append([]int{-1, -2, n, n + 1}, beyond...) {
		for a := range v.Seats {
			if geom.Clash(v, none, a) || geom.Clash(v, a, none) {
				t.Errorf("%d clashes with %d", none, a)
			}
		}
		for _, other := range append([]int{-1, n}, beyond...) {
			if geom.Clash(v, none, other) {
				t.Errorf("%d clashes with %d", none, other)
			}
		}
	}
}

func TestOneSeat(t *testing.T) {
	v := api.Venue{Seats: []api.Seat{{Row: 4, X: 2, Y: -2}}, Gap: 1, Radius: 9}
	if g := geom.Graph(v); len(g) != 1 || len(g[0]) != 0 || geom.Clash(v, 0, 0) {
		t.Error(g)
	}
	checkNear(t, v, 2, -2, 1, 0)
	checkNear(t, v, 2, -3, 1)
}

func TestWhatMayNotBe(t *testing.T) {
	for name, f := range notToBe() {
		v := change(f)
		if g := geom.Graph(v); len(g) != 0 {
			t.Errorf("%s: Graph is %v", name, g)
		}
		for a := range 6 {
			for b := range 6 {
				if geom.Clash(v, a, b) {
					t.Errorf("%s: %d and %d clash", name, a, b)
				}
			}
		}
		if l := geom.Near(v, 0, 0, most); len(l) != 0 {
			t.Errorf("%s: Near is %v", name, l)
		}
	}
}

// TestTheMost has as many seats as may be, all in reach of one another, and
// none.
func TestTheMost(t *testing.T) {
	v := api.Venue{Seats: row(api.MaxSeats), Gap: 1, Radius: most}
	for a, l := range geom.Graph(v) {
		want := make([]int, 0, api.MaxSeats)
		for b := range api.MaxSeats {
			if b != a {
				want = append(want, b)
			}
		}
		if !slices.Equal(l, want) {
			t.Fatal(a, len(l))
		}
	}
	if l := geom.Near(v, 0, 0, most); len(l) != api.MaxSeats || !slices.IsSorted(l) || l[4095] != 4095 {
		t.Error(len(l))
	}
	v.Radius = 1
	for a, l := range geom.Graph(v) {
		if len(l) != 0 {
			t.Fatal(a, l)
		}
	}
	v.Radius = 2
	for a, l := range geom.Graph(v) {
		want := slices.DeleteFunc([]int{a - 1, a + 1}, func(b int) bool { return b < 0 || b >= api.MaxSeats })
		if !slices.Equal(l, want) {
			t.Fatal(a, l)
		}
	}
}

// Promise 6.1: Near.

func TestNear(t *testing.T) {
	v := hall()
	checkNear(t, v, 0, 0, 1, 1, 3)
	checkNear(t, v, 0, 0, 3, 1, 3)
	checkNear(t, v, 0, 0, 4, 0, 1, 3)
	checkNear(t, v, 0, 0, 5, 0, 1, 3)
	checkNear(t, v, 0, 0, 6, 0, 1, 2, 3)
	checkNear(t, v, 0, 0, 9, 0, 1, 2, 3)
	checkNear(t, v, 0, 0, 10, 0, 1, 2, 3, 4)
	checkNear(t, v, 0, 0, most, 0, 1, 2, 3, 4)
	checkNear(t, v, 4, 3, 1, 2)
	checkNear(t, v, 5, 3, 1)
	checkNear(t, v, 5, 3, 2, 2)
	checkNear(t, v, most, -most, 1, 5)
	checkNear(t, v, most, -most, most, 5)
	checkNear(t, v, most-1, -most, 1)
	checkNear(t, v, most-1, -most, 2, 5)
	checkNear(t, v, most, 0, most, 2, 4)
	checkNear(t, v, most, -1, most, 2, 4, 5)
	checkNear(t, v, most, 3, most, 2, 4)
	checkNear(t, v, most, 3, most-4)
	checkNear(t, v, most, 3, most-3, 2)
	checkNear(t, v, -most, most, most)
	checkNear(t, v, -most, most, 1)
}

func TestNearOfWhatMayNotBe(t *testing.T) {
	v := hall()
	for _, n := range beyond {
		checkNear(t, v, n, 0, most)
		checkNear(t, v, 0, n, most)
		checkNear(t, v, n, n, 1)
		checkNear(t, v, n, n, n)
		checkNear(t, v, 0, 0, n)
	}
	for _, r := range []int{0, -1, -5, -most} {
		checkNear(t, v, 0, 0, r)
	}
}

// TestNearOfAGrid goes through all spots and reaches of a grid.
func TestNearOfAGrid(t *testing.T) {
	v := api.Venue{Gap: 1}
	for i := range 49 {
		v.Seats = append(v.Seats, api.Seat{Row: i / 7, X: i % 7, Y: i / 7 * 2, Kind: i % 3})
	}
	for r := 1; r < 20; r++ {
		for x := -3; x < 10; x++ {
			for y := -3; y < 17; y++ {
				var want []int
				for a, s := range v.Seats {
					if within(s, api.Seat{X: x, Y: y}, r) {
						want = append(want, a)
					}
				}
				checkNear(t, v, x, y, r, want...)
			}
		}
	}
}

// Rules 2 and 3 of DOC.md.

func TestNothingIsChangedOrShared(t *testing.T) {
	v := hall()
	v.Radius = most
	was := copied(v)
	graph, near := geom.Graph(v), geom.Near(v, 0, 0, most)
	for a := range graph {
		for i := range graph[a] {
			graph[a][i] = 77
		}
		_ = append(graph[a], 78)
		for b := a + 1; b < len(graph); b++ {
			if slices.Contains(graph[b], 77) || slices.Contains(graph[b], 78) {
				t.Fatalf("lists of %d and %d are shared", a, b)
			}
		}
	}
	for i := range near {
		near[i] = 79
	}
	if !venue.Same(v, was) {
		t.Error("what was handed in was changed")
	}
	checkVenue(t, v)
	checkNear(t, v, 0, 0, most, 0, 1, 2, 3, 4)
}
