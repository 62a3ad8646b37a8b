package place_test

import (
	"math/big"
	"math/rand"
	"regexp"
	"slices"
	"strings"
	"testing"

	"parterre/api"
	"parterre/place"
	"parterre/venue"
)

// Promise 11.3: a placement is its first seat. What is answered is held against
// a second reading of the chapter, in which a party's seats are read as a word
// of signs, and distances are numbers of any length.

// alone finds a wheelchair's seat, in a word with a sign at each end, that has
// no companion's beside it.
var alone = regexp.MustCompile("[^c]w[^c]")

// square is the square of the distance of two spots.
func square(x, y, u, w int) *big.Int {
	dx, dy := big.NewInt(int64(x)), big.NewInt(int64(y))
	dx.Sub(dx, big.NewInt(int64(u)))
	dy.Sub(dy, big.NewInt(int64(w)))
	return dx.Add(dx.Mul(dx, dx), dy.Mul(dy, dy))
}

// nearer tells whether two spots are nearer to one another than r.
func nearer(x, y, u, w, r int) bool {
	return square(x, y, u, w).Cmp(big.NewInt(0).Mul(big.NewInt(int64(r)), big.NewInt(int64(r)))) < 0
}

// word is the seats of v, one behind the other, as signs: an x can't be sold,
// and a bar stands between two that are not next to one another.
func word(v api.Venue) []string {
	l := make([]string, len(v.Seats))
	for a, s := range v.Seats {
		l[a] = []string{".", "w", "c"}[s.Kind]
		if slices.Contains(v.Kills, a) || slices.ContainsFunc(v.Poles, func(p api.Pole) bool { return nearer(s.X, s.Y, p.X, p.Y, p.R) }) {
			l[a] = "x"
		}
		if a > 0 && (v.Seats[a-1].Row != s.Row || s.X-v.Seats[a-1].X > v.Gap) {
			l[a] = "|" + l[a]
		}
	}
	return l
}

// sits reads the chapter of a party that may be and seats as signs.
func sits(p api.Party, signs []string, first int) bool {
	if first < 0 || first > len(signs)-p.Size {
		return false
	}
	w := strings.TrimPrefix(strings.Join(signs[first:first+p.Size], ""), "|")
	return !strings.ContainsAny(w, "x|") && strings.Count(w, "w") == p.Wheels && !alone.MatchString("."+w+".") && (p.Wheels > 0 || !strings.Contains(w, "c"))
}

// together tells whether two placements share a seat or have two that clash.
func together(v api.Venue, p api.Party, a int, q api.Party, b int) bool {
	for _, s := range v.Seats[a : a+p.Size] {
		for _, o := range v.Seats[b : b+q.Size] {
			if s == o || nearer(s.X, s.Y, o.X, o.Y, v.Radius) {
				return true
			}
		}
	}
	return false
}

// parties is all parties that may be.
func parties() []api.Party {
	var l []api.Party
	for size := 1; size <= 8; size++ {
		for wheels := 0; wheels <= 2 && wheels <= size-wheels; wheels++ {
			l = append(l, of(size, wheels))
		}
	}
	return l
}

// checkPlaces holds all of place but Apart, of v, which may be, against sits.
func checkPlaces(t *testing.T, v api.Venue) {
	t.Helper()
	if !venue.May(v) {
		t.Fatalf("%v may not be", v)
	}
	signs := word(v)
	for _, p := range parties() {
		var firsts []int
		for a := range v.Seats {
			if sits(p, signs, a) {
				firsts = append(firsts, a)
			}
		}
		check(t, v, p, firsts...)
	}
}

// checkPairs holds Apart of two parties, at all seats of v, against together.
func checkPairs(t *testing.T, v api.Venue, p, q api.Party) {
	t.Helper()
	signs := word(v)
	for a := -1; a <= len(v.Seats); a++ {
		for b := -1; b <= len(v.Seats); b++ {
			want := sits(p, signs, a) && sits(q, signs, b) && !together(v, p, a, q, b)
			checkApart(t, v, p, a, q, b, want)
		}
	}
}

// rows calls f with each row of n of those signs.
func rows(n int, signs string, f func(row string)) {
	if n == 0 {
		f("")
		return
	}
	for _, sign := range signs {
		rows(n-1, signs, func(row string) { f(row + string(sign)) })
	}
}

// TestAllRows goes through all rows of up to five seats of every kind, usable
// or not, with holes, and through all rows of eight of the three kinds that end
// as they begin.
func TestAllRows(t *testing.T) {
	for n := 1; n <= 5; n++ {
		rows(n, ".wcx ", func(row string) {
			if strings.TrimSpace(row) != "" {
				checkPlaces(t, hall(0, row))
			}
		})
	}
	rows(4, ".wc", func(row string) {
		back := []byte(row)
		slices.Reverse(back)
		checkPlaces(t, hall(0, row+string(back)))
		checkPlaces(t, hall(0, row+row))
	})
}

// TestAllPairsOfAHall goes through all pairs of parties and seats of a hall, by
// several radiuses.
func TestAllPairsOfAHall(t *testing.T) {
	for _, radius := range []int{0, 1, 4, 11, 25} {
		v := hall(radius, "..wcwc.", "cwwc.", ". ..x")
		v.Poles = []api.Pole{{X: 0, Y: 21, R: 2}}
		for _, p := range parties() {
			for _, q := range parties() {
				if p.Size <= 5 && q.Size <= 5 && (p.Size < q.Size || p.Size == q.Size && p.Wheels <= q.Wheels) {
					checkPairs(t, v, p, q)
				}
			}
		}
	}
}

// drawn is a venue that may be, of a few short rows, with its seats within
// reach of one another.
func drawn(r *rand.Rand) api.Venue {
	reach := []int{3, 10, 40, 1000, most}[r.Intn(5)]
	v := api.Venue{Gap: 1 + r.Intn(4), Radius: []int{0, r.Intn(4), r.Intn(12), r.Intn(reach + 1)}[r.Intn(4)]}
	for row := range 1 + r.Intn(4) {
		x := r.Intn(2*reach+1) - reach
		y := r.Intn(2*reach+1) - reach
		for n := r.Intn(9); n >= 0 && x <= most; n-- {
			y = min(max(y+r.Intn(3)-1, -most), most)
			kind := []int{0, 0, 0, 1, 2, 2}[r.Intn(6)]
			v.Seats = append(v.Seats, api.Seat{Row: row * 100, X: x, Y: y, Kind: kind})
			x += 1 + r.Intn(4)*r.Intn(2)
		}
	}
	for a := range v.Seats {
		if r.Intn(12) == 0 {
			v.Kills = append(v.Kills, a)
		}
	}
	for range r.Intn(3) {
		s := v.Seats[r.Intn(len(v.Seats))]
		v.Poles = append(v.Poles, api.Pole{X: max(s.X-r.Intn(3), -most), Y: max(s.Y-r.Intn(3), -most), R: 1 + r.Intn(3)})
	}
	return v
}

func TestPlacesByChance(t *testing.T) {
	r := rand.New(rand.NewSource(11))
	for range 1500 {
		checkPlaces(t, drawn(r))
	}
}

func TestPairsByChance(t *testing.T) {
	r := rand.New(rand.NewSource(112))
	l := parties()
	for range 300 {
		checkPairs(t, drawn(r), l[r.Intn(7)], l[r.Intn(len(l))])
	}
}

// TestAPlacementIsItsFirstSeat: no two placements of a party have the same
// seats, and each of them is told back by its first one.
func TestAPlacementIsItsFirstSeat(t *testing.T) {
	r := rand.New(rand.NewSource(113))
	for range 500 {
		v := drawn(r)
		for _, p := range parties() {
			all := place.All(v, p)
			if !slices.IsSorted(all) || len(slices.Compact(slices.Clone(all))) != len(all) {
				t.Fatalf("All of %v, %v is %v: it does not rise", v, p, all)
			}
			for _, first := range all {
				seats, ok := place.Seats(v, p, first)
				if !ok || len(seats) != p.Size || seats[0] != first || !place.May(v, p, seats[0]) {
					t.Fatalf("Seats of %v, %v, %d is %v, %v", v, p, first, seats, ok)
				}
			}
		}
	}
}

// TestApartHaveNoSeatTogether: two parties that are apart have no seat together,
// and without a radius that is all that keeps two from being apart.
func TestApartHaveNoSeatTogether(t *testing.T) {
	r := rand.New(rand.NewSource(114))
	for range 300 {
		v, p, q := drawn(r), of(1+r.Intn(4), 0), of(2+r.Intn(3), 1)
		for _, a := range place.All(v, p) {
			checkApart(t, v, p, a, p, a, false)
			for _, b := range place.All(v, q) {
				apart, none := place.Apart(v, p, a, q, b), a >= b+q.Size || b >= a+p.Size
				if apart && !none || v.Radius == 0 && apart != none {
					t.Fatalf("%v: %v at %d and %v at %d: apart is %v, and none together is %v", v, p, a, q, b, apart, none)
				}
			}
		}
	}
}

// Rules 2 and 3 of DOC.md.

// copied is v with lists of its own.
func copied(v api.Venue) api.Venue {
	v.Seats, v.Kills, v.Poles = slices.Clone(v.Seats), slices.Clone(v.Kills), slices.Clone(v.Poles)
	return v
}

func TestNothingIsChangedOrShared(t *testing.T) {
	v := hall(4, "..xwcw.", "....")
	// room behind the lists, which an answer could be laid into
	v.Kills, v.Poles, v.Seats = append(v.Kills, 77)[:1], append(v.Poles, api.Pole{X: 500, R: 1}, api.Pole{X: 77})[:1], append(v.Seats, api.Seat{X: 77})[:11]
	before := copied(v)
	all, _ := place.All(v, of(2, 0)), place.Apart(v, of(2, 0), 0, of(2, 1), 3)
	seats, _ := place.Seats(v, of(2, 1), 3)
	for _, l := range [][]int{all, seats} {
		l = append(l, 78)
		clear(l)
	}
	if !venue.Same(v, before) || v.Kills[:2][1] != 77 || v.Poles[:2][1].X != 77 || v.Seats[:12][11].X != 77 {
		t.Error("what was handed in was changed")
	}
	check(t, v, of(2, 0), 0, 7, 8, 9)
	check(t, v, of(2, 1), 3, 4)
	checkApart(t, v, of(2, 0), 0, of(2, 1), 3, true)

	// What was handed in is not kept: it is other, and so are the answers.
	v.Kills[0], v.Seats[8].X, v.Seats[5].Kind, v.Radius = 0, 2, api.Plain, 7
	check(t, v, of(2, 0), 1, 5, 7, 9)
	check(t, v, of(2, 1), 3)
	checkApart(t, v, of(2, 0), 1, of(2, 1), 3, false)
}

func FuzzPlace(f *testing.F) {
	f.Add("..xwcw.", "cwwc", 2, 1, 3, 0, 3, 4, 0, 0, 1)
	f.Add("wcw.", " ..", 4, 2, 1, 0, 0, 4, 10, 3, 5)
	f.Add(".", "", -1, 5, 9, -3, most+1, 0, 0, 0, 0)
	f.Fuzz(func(t *testing.T, front, back string, size, wheels, other, first, second, radius, px, py, pr int) {
		if len(front)+len(back) > 40 {
			return
		}
		v := hall(radius, front, back)
		v.Poles = []api.Pole{{X: px, Y: py, R: pr}}
		p, q := of(size, wheels), of(other, 0)
		may := venue.May(v) && slices.Contains(parties(), p)
		if !may {
			check(t, v, p)
			checkApart(t, v, p, first, q, second, false)
			return
		}
		signs := word(v)
		checkFirst(t, v, p, first, sits(p, signs, first))
		checkPlaces(t, v)
		want := sits(p, signs, first) && slices.Contains(parties(), q) && sits(q, signs, second) && !together(v, p, first, q, second)
		checkApart(t, v, p, first, q, second, want)
	})
}
