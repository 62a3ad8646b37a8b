package place_test

import (
	"fmt"
	"math"
	"slices"
	"testing"

	"parterre/api"
	"parterre/place"
	"parterre/venue"
)

const most = 1 << 20

// noSeats are numbers that are no seat of any venue.
var noSeats = []int{math.MinInt, math.MinInt + 1, -1 << 32, -2, -1, api.MaxSeats, 1 << 32, math.MaxInt - 7, math.MaxInt - 1, math.MaxInt}

// noParties are parties that may not be.
var noParties = []api.Party{
	{}, {Size: -1}, {Size: 9}, {Size: math.MinInt}, {Size: math.MaxInt},
	{Wheels: 1}, {Size: 1, Wheels: 1}, {Size: 3, Wheels: 2}, {Size: 8, Wheels: 3}, {Size: 2, Wheels: 2},
	{Size: 2, Wheels: -1}, {Size: 2, Wheels: math.MinInt}, {Size: math.MaxInt, Wheels: math.MaxInt}, {Size: 1, Wheels: math.MinInt},
}

// hall is a venue by rows of signs, a sign a seat: . w c by their kinds, x W C
// those among Kills, and a blank where no seat stands. Seats of a row stand 3
// apart, which is its Gap, and rows 10.
func hall(radius int, rows ...string) api.Venue {
	v := api.Venue{Gap: 3, Radius: radius}
	for r, row := range rows {
		for k, sign := range row {
			s := api.Seat{Row: r, X: 3 * k, Y: 10 * r}
			switch sign {
			case ' ':
				continue
			case 'w', 'W':
				s.Kind = api.Wheel
			case 'c', 'C':
				s.Kind = api.Companion
			}
			if sign == 'x' || sign == 'W' || sign == 'C' {
				v.Kills = append(v.Kills, len(v.Seats))
			}
			v.Seats = append(v.Seats, s)
		}
	}
	return v
}

// of is a party.
func of(size, wheels int) api.Party { return api.Party{Size: size, Wheels: wheels} }

// told is v in words, without its lists if they are long.
func told(v api.Venue) string {
	if len(v.Seats)+len(v.Kills)+len(v.Poles) > 100 {
		return fmt.Sprintf("a venue of %d seats, %d kills, %d poles", len(v.Seats), len(v.Kills), len(v.Poles))
	}
	return fmt.Sprint(v)
}

// toldList is l in words, without what is far behind in it.
func toldList(l []int) string {
	if len(l) > 40 {
		return fmt.Sprint(l[:40], " and ", len(l)-40, " more")
	}
	return fmt.Sprint(l)
}

// check wants those first seats, and no others, of p in v.
func check(t *testing.T, v api.Venue, p api.Party, firsts ...int) {
	t.Helper()
	if l := place.All(v, p); !slices.Equal(l, firsts) {
		t.Fatalf("All of %s, %v is %s, want %s", told(v), p, toldList(l), toldList(firsts))
	}
	step := max(1, len(v.Seats)/50)
	for k := -1; k <= len(v.Seats); k += step {
		_, may := slices.BinarySearch(firsts, k)
		checkFirst(t, v, p, k, may)
	}
	for _, k := range noSeats {
		if k != len(v.Seats) {
			checkFirst(t, v, p, k, false)
		}
	}
}

// checkFirst wants of one first seat that p may sit there in v, or may not.
func checkFirst(t *testing.T, v api.Venue, p api.Party, first int, may bool) {
	t.Helper()
	var seats []int
	for i := 0; may && i < p.Size; i++ {
		seats = append(seats, first+i)
	}
	if place.May(v, p, first) != may {
		t.Fatalf("May of %s, %v, %d: want %v", told(v), p, first, may)
	}
	if l, ok := place.Seats(v, p, first); ok != may || !slices.Equal(l, seats) {
		t.Fatalf("Seats of %s, %v, %d is %s, %v, want %v", told(v), p, first, toldList(l), ok, seats)
	}
}

// checkApart wants of two placements that they are apart, or not, either way
// round.
func checkApart(t *testing.T, v api.Venue, p api.Party, a int, q api.Party, b int, want bool) {
	t.Helper()
	if place.Apart(v, p, a, q, b) != want || place.Apart(v, q, b, p, a) != want {
		t.Fatalf("Apart of %s, %v, %d, %v, %d: want %v", told(v), p, a, q, b, want)
	}
}

// Promise 11.1.

func TestPlain(t *testing.T) {
	v := hall(0, "........")
	check(t, v, of(1, 0), 0, 1, 2, 3, 4, 5, 6, 7)
	check(t, v, of(2, 0), 0, 1, 2, 3, 4, 5, 6)
	check(t, v, of(5, 0), 0, 1, 2, 3)
	check(t, v, of(7, 0), 0, 1)
	check(t, v, of(8, 0), 0)
	check(t, v, of(2, 1))
	check(t, v, of(8, 1))
	v = hall(0, ".......")
	check(t, v, of(7, 0), 0)
	check(t, v, of(8, 0))
	check(t, hall(0, "."), of(1, 0), 0)
	check(t, hall(0, "."), of(2, 0))
}

// TestOverTheEdgeOfARun has rows, a hole, a seat among Kills and one behind a
// pole: no party sits on both sides.
func TestOverTheEdgeOfARun(t *testing.T) {
	v := hall(0, "...", "..", ".... ..", "..x.", "....")
	v.Poles = []api.Pole{{X: 3, Y: 41, R: 2}} // it hides seat 16
	check(t, v, of(1, 0), 0, 1, 2, 3, 4, 5, 6, 7, 8, 9, 10, 11, 12, 14, 15, 17, 18)
	check(t, v, of(2, 0), 0, 1, 3, 5, 6, 7, 9, 11, 17)
	check(t, v, of(3, 0), 0, 5, 6)
	check(t, v, of(4, 0), 5)
	check(t, v, of(5, 0))
}

// TestAtJustTheGap has seats as far apart as Gap, and one more.
func TestAtJustTheGap(t *testing.T) {
	v := api.Venue{Seats: []api.Seat{{X: -4}, {X: 1}, {X: 7}, {X: 12}, {Row: 1, X: 13}}, Gap: 5}
	check(t, v, of(1, 0), 0, 1, 2, 3, 4)
	check(t, v, of(2, 0), 0, 2)
	v.Gap = 6
	check(t, v, of(2, 0), 0, 1, 2)
	check(t, v, of(4, 0), 0)
	v.Gap = 4
	check(t, v, of(2, 0))
}

// TestAtJustTheR has a pole that is nearer to one seat than its R, and just at
// it to the next.
func TestAtJustTheR(t *testing.T) {
	v := hall(0, "....")
	v.Poles = []api.Pole{{X: 0, Y: 4, R: 5}}
	check(t, v, of(1, 0), 1, 2, 3)
	check(t, v, of(2, 0), 1, 2)
	v.Poles[0].R = 6
	check(t, v, of(2, 0), 2)
	v.Poles[0].R = 4
	check(t, v, of(2, 0), 0, 1, 2)
}

func TestKinds(t *testing.T) {
	for _, x := range []struct {
		row    string
		p      api.Party
		firsts []int
	}{
		// just as many wheelchairs' seats as there are wheelchairs
		{"wc", of(2, 1), []int{0}},
		{"wc", of(2, 0), nil},
		{"wc", of(1, 0), nil},
		{"..", of(2, 1), nil},
		{".c", of(2, 1), nil},
		{"ww", of(2, 1), nil},
		{"wcw", of(3, 1), nil},
		{"wc.", of(3, 1), []int{0}},
		{"wcwc", of(4, 1), nil},
		{"wcwc", of(4, 2), []int{0}},
		{"wcwc", of(2, 1), []int{0, 1, 2}},
		{"wc..", of(4, 2), nil},
		{"wwwccc", of(6, 2), nil},
		// beside each of them a companion's
		{"cw.", of(3, 1), []int{0}},
		{"c.w", of(3, 1), nil},
		{"w.c", of(3, 1), nil},
		{"cwwc", of(4, 2), []int{0}},
		{"wwcc", of(4, 2), nil},
		{"ccww", of(4, 2), nil},
		{"wccw", of(4, 2), []int{0}},
		{"cw.w", of(4, 2), nil},
		{"w.cw", of(4, 2), nil},
		// one between two is beside both
		{"wcw.", of(4, 2), []int{0}},
		{".wcw", of(4, 2), []int{0}},
		{"wcw", of(3, 2), nil}, // but such a party may not be
		// more companions' than needed
		{"wcc", of(3, 1), []int{0}},
		{"ccwcc", of(5, 1), []int{0}},
		{"cc.cwc", of(6, 1), []int{0}},
		// none of them without wheelchairs
		{"c", of(1, 0), nil},
		{"c.", of(2, 0), nil},
		{".c.c.", of(1, 0), []int{0, 2, 4}},
		{"..w..c..", of(2, 0), []int{0, 3, 6}},
		// at the ends
		{"......wc", of(8, 1), []int{0}},
		{"wc......", of(8, 1), []int{0}},
		{".......w", of(8, 1), nil},
		{"wc....cw", of(8, 2), []int{0}},
		{"wc....w.", of(8, 2), nil},
	} {
		check(t, hall(0, x.row), x.p, x.firsts...)
	}
}

// TestCompanionBeyondTheParty has one beside the wheelchair's seat that is not
// of the party's seats.
func TestCompanionBeyondTheParty(t *testing.T) {
	check(t, hall(0, "cw.c"), of(2, 1), 0)
	check(t, hall(0, "c.wc"), of(2, 1), 2)
	check(t, hall(0, ".w", "c."), of(2, 1))
	check(t, hall(0, ".w c"), of(2, 1))
	check(t, hall(0, "cwwc."), of(2, 1), 0, 2)
	check(t, hall(0, "cwwc."), of(3, 1), 2)
	check(t, hall(0, "cw.wc"), of(3, 1), 0, 2)
}

// TestWhoIsKilledAccompaniesNobody has companions' and wheelchairs' seats that
// can't be sold.
func TestWhoIsKilledAccompaniesNobody(t *testing.T) {
	check(t, hall(0, "wC"), of(2, 1))
	check(t, hall(0, ".wC"), of(2, 1))
	check(t, hall(0, "cwC"), of(2, 1), 0)
	check(t, hall(0, "Wcw"), of(2, 1), 1)
	check(t, hall(0, "wcW."), of(2, 1), 0)
	check(t, hall(0, "wcW."), of(4, 2))
	v := hall(0, "cwc")
	v.Poles = []api.Pole{{X: 0, Y: 0, R: 3}}
	check(t, v, of(2, 1), 1)
	check(t, v, of(3, 1))
}

// TestRadiusIsNotAsked: those of one party may sit as near as they like.
func TestRadiusIsNotAsked(t *testing.T) {
	for _, radius := range []int{0, 1, 4, 1000, most} {
		check(t, hall(radius, "...", "wc"), of(2, 0), 0, 1)
		check(t, hall(radius, "...", "wc"), of(2, 1), 3)
	}
}

// TestPartyThatMayNotBe has seats that would suit three with two wheelchairs,
// and nine.
func TestPartyThatMayNotBe(t *testing.T) {
	v := hall(0, "wcw", "....cwwc.........", "..")
	for _, p := range noParties {
		check(t, v, p)
		for a := range v.Seats {
			checkApart(t, v, p, a, of(1, 0), 20, false)
			checkApart(t, v, p, a, p, 11, false)
		}
	}
	checkApart(t, v, of(8, 0), 11, of(1, 0), 20, true)
}

func TestVenueThatMayNotBe(t *testing.T) {
	for name, f := range map[string]func(v *api.Venue){
		"nothing":        func(v *api.Venue) { *v = api.Venue{} },
		"no seats":       func(v *api.Venue) { v.Seats, v.Kills = nil, nil },
		"too many seats": func(v *api.Venue) { v.Seats = row(api.MaxSeats + 1) },
		"seats fall":     func(v *api.Venue) { v.Seats[5], v.Seats[6] = v.Seats[6], v.Seats[5] },
		"one place":      func(v *api.Venue) { v.Seats[6].X = v.Seats[5].X },
		"row":            func(v *api.Venue) { v.Seats[6].Row = api.MaxRows },
		"x":              func(v *api.Venue) { v.Seats[6].X = math.MaxInt },
		"y":              func(v *api.Venue) { v.Seats[6].Y = most + 1 },
		"kind":           func(v *api.Venue) { v.Seats[6].Kind = 3 },
		"no gap":         func(v *api.Venue) { v.Gap = 0 },
		"gap above":      func(v *api.Venue) { v.Gap = most + 1 },
		"radius below":   func(v *api.Venue) { v.Radius = -1 },
		"radius above":   func(v *api.Venue) { v.Radius = most + 1 },
		"great radius":   func(v *api.Venue) { v.Radius = math.MinInt },
		"kill behind":    func(v *api.Venue) { v.Kills[0] = 7 },
		"kill twice":     func(v *api.Venue) { v.Kills = []int{2, 2} },
		"too many kills": func(v *api.Venue) { v.Kills = slices.Repeat([]int{2}, api.MaxKills+1) },
		"pole's r":       func(v *api.Venue) { v.Poles[0].R = 0 },
		"too many poles": func(v *api.Venue) { v.Poles = slices.Repeat(v.Poles, api.MaxKills+1) },
	} {
		v := hall(0, "..x.wc.")
		v.Poles = []api.Pole{{X: 500, Y: 500, R: 1}}
		check(t, v, of(1, 0), 0, 1, 3, 6)
		checkApart(t, v, of(1, 0), 0, of(2, 1), 4, true)
		f(&v)
		if venue.May(v) {
			t.Fatalf("%s: it may be", name)
		}
		for _, p := range []api.Party{of(1, 0), of(2, 0), of(2, 1)} {
			check(t, v, p)
			checkApart(t, v, of(1, 0), 0, p, 4, false)
			checkApart(t, v, of(1, 0), 0, p, 1, false)
			checkApart(t, v, of(1, 0), 0, p, 6, false)
		}
	}
}

func TestNilAndEmptyListsAreTheSame(t *testing.T) {
	v := hall(0, "..")
	v.Kills, v.Poles = []int{}, []api.Pole{}
	check(t, v, of(1, 0), 0, 1)
	check(t, v, of(2, 0), 0)
	checkApart(t, v, of(1, 0), 0, of(1, 0), 1, true)
	check(t, api.Venue{Seats: []api.Seat{}, Gap: 1, Kills: []int{}, Poles: []api.Pole{}}, of(1, 0))
}

// row is n seats beside one another.
func row(n int) []api.Seat {
	l := make([]api.Seat, n)
	for i := range l {
		l[i] = api.Seat{Row: 3, X: i}
	}
	return l
}

// TestTheMost has as many seats, kills and poles as may be.
func TestTheMost(t *testing.T) {
	v := api.Venue{Seats: row(api.MaxSeats), Gap: 1, Radius: 1}
	for i := range api.MaxKills {
		v.Kills = append(v.Kills, 10*i)
		v.Poles = append(v.Poles, api.Pole{X: 4000, Y: 3, R: 5}) // over seats 3997 to 4003
	}
	var eights []int
	for a := range api.MaxSeats - 7 {
		if (a > 1990 || a%10 == 1 || a%10 == 2) && (a+7 < 3997 || a > 4003) {
			eights = append(eights, a)
		}
	}
	check(t, v, of(8, 0), eights...)
	for a := range v.Seats {
		v.Seats[a].Kind = []int{api.Wheel, api.Companion}[a%2]
	}
	var twos []int
	for a := range api.MaxSeats - 1 {
		if (a > 1990 || a%10 != 0 && a%10 != 9) && (a+1 < 3997 || a > 4003) {
			twos = append(twos, a)
		}
	}
	check(t, v, of(2, 1), twos...)
	check(t, v, of(2, 0))
	checkApart(t, v, of(2, 1), 4094, of(2, 1), 4092, true)
	checkApart(t, v, of(2, 1), 4094, of(2, 1), 4093, false)
	v.Radius = 2
	checkApart(t, v, of(2, 1), 4094, of(2, 1), 4092, false)
}

// Promise 11.2.

func TestApartInARow(t *testing.T) {
	v := hall(0, "........")
	for radius, free := range map[int]int{0: 1, 1: 1, 3: 1, 4: 2, 6: 2, 7: 3, 9: 3, 10: 4, 12: 4, 13: 5} {
		v.Radius = radius
		for a := -1; a < 9; a++ {
			for b := -1; b < 9; b++ {
				may := a >= 0 && a < 7 && b >= 0 && b < 6
				// free: how many seats on one's first seat must be behind the other's last
				checkApart(t, v, of(2, 0), a, of(3, 0), b, may && (b-(a+1) >= free || a-(b+2) >= free))
			}
		}
	}
}

// TestApartOverRows has two parties of two in two rows: the nearest seats of
// the two count.
func TestApartOverRows(t *testing.T) {
	for _, x := range []struct {
		radius, a, b int
		want         bool
	}{
		{10, 0, 5, true},
		{11, 0, 5, false},
		{10, 0, 6, true},
		{11, 0, 6, false},
		{10, 0, 7, true},
		{11, 0, 7, false}, // of 1 and 7 the square is 109
		{11, 0, 8, true},  // of 1 and 8 it is 136
		{12, 0, 8, false},
		{11, 3, 7, false},
		{11, 3, 6, false},
		{11, 3, 5, true},
		{12, 3, 5, false},
	} {
		checkApart(t, hall(x.radius, ".....", "....."), of(2, 0), x.a, of(2, 0), x.b, x.want)
	}
}

// TestAtJustTheRadius has two seats with their distance the radius, one less
// and one more.
func TestAtJustTheRadius(t *testing.T) {
	for _, x := range []struct{ x, y, far int }{
		{0, 1, 1}, {3, 4, 5}, {-5, 12, 13}, {8, -15, 17}, {-600000, -800000, 1000000}, {629145, -838860, 1048575}, {0, -most, most}, {most, 0, most},
	} {
		v := api.Venue{Seats: []api.Seat{{}, {Row: 1, X: x.x, Y: x.y}}, Gap: 1}
		for _, radius := range []int{0, 1, x.far - 1, x.far, x.far + 1, most} {
			if radius <= most {
				v.Radius = radius
				checkApart(t, v, of(1, 0), 0, of(1, 0), 1, radius <= x.far)
			}
		}
	}
}

// TestFarthest has the two seats that are as far from one another as may be.
func TestFarthest(t *testing.T) {
	v := api.Venue{Seats: []api.Seat{{X: -most, Y: -most}, {X: most, Y: most}}, Gap: most, Radius: most}
	checkApart(t, v, of(1, 0), 0, of(1, 0), 1, true)
}

// TestOneSeatIsNeverApart: with no radius nothing clashes, but two parties
// can't have one seat.
func TestOneSeatIsNeverApart(t *testing.T) {
	v := hall(0, "....", "wcw")
	checkApart(t, v, of(1, 0), 0, of(1, 0), 0, false)
	checkApart(t, v, of(2, 0), 0, of(2, 0), 1, false)
	checkApart(t, v, of(4, 0), 0, of(1, 0), 3, false)
	checkApart(t, v, of(4, 0), 0, of(1, 0), 2, false)
	checkApart(t, v, of(2, 1), 4, of(2, 1), 5, false)
	checkApart(t, v, of(2, 0), 0, of(2, 0), 2, true)
	checkApart(t, v, of(4, 0), 0, of(2, 1), 4, true)
}

// TestOnePlaceInTwoRows: two seats that stand at one place are two seats, and
// clash as soon as there is a radius.
func TestOnePlaceInTwoRows(t *testing.T) {
	v := api.Venue{Seats: []api.Seat{{X: 5, Y: 5}, {Row: 1, X: 5, Y: 5}}, Gap: 1}
	checkApart(t, v, of(1, 0), 0, of(1, 0), 1, true)
	v.Radius = 1
	checkApart(t, v, of(1, 0), 0, of(1, 0), 1, false)
}

// TestEachSeatClashes bends a row so that only two inner seats are near.
func TestEachSeatClashes(t *testing.T) {
	v := api.Venue{Gap: 1, Radius: 9}
	for a := range 8 {
		far := []int{90, 60, 30, 0}
		v.Seats = append(v.Seats, api.Seat{X: a, Y: []int{far[a%4] + 20, -far[3-a%4] - 20}[a/4]})
	}
	checkApart(t, v, of(4, 0), 0, of(4, 0), 4, true)
	for p := range 4 {
		for q := range 4 {
			u := v
			u.Seats = slices.Clone(v.Seats)
			u.Seats[p].Y, u.Seats[4+q].Y = 4, -4
			checkApart(t, u, of(4, 0), 0, of(4, 0), 4, u.Seats[4+q].X-u.Seats[p].X >= 5) // 8 apart: 5 more are above 9
		}
	}
}

// TestBothMustBe has, each way, one that may sit and one that may not.
func TestBothMustBe(t *testing.T) {
	v := hall(0, "....xwc.", "c")
	checkApart(t, v, of(2, 0), 0, of(2, 1), 5, true)
	for _, b := range append([]int{0, 3, 4, 6, 7, 8, 9}, noSeats...) {
		checkApart(t, v, of(2, 0), 0, of(2, 1), b, false)
	}
	checkApart(t, v, of(2, 0), 3, of(2, 1), 5, false)
	checkApart(t, v, of(3, 0), 2, of(2, 1), 5, false)
	checkApart(t, v, of(1, 0), 6, of(1, 0), 0, false)
	checkApart(t, v, of(1, 0), 8, of(1, 0), 0, false)
}
