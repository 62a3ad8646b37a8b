package print_test

import (
	"math/rand"
	"slices"
	"strings"
	"testing"

	"parterre/api"
	"parterre/parse"
	"parterre/print"
	"parterre/venue"
)

// Promise 5.3 and T3: what is printed is read as it was.

// checkRead reads what v, which may be, is printed as.
func checkRead(t *testing.T, v api.Venue) {
	t.Helper()
	s, code := print.Venue(v)
	if code != api.OK || len(s) > api.MaxText || !strings.HasSuffix(s, "\n") {
		t.Fatalf("Venue(%v): %d bytes, %d", v, len(s), code)
	}
	if got, err := parse.Venue(s); err != nil || !venue.Same(got, v) {
		t.Fatalf("%q is read as %v, %v, where it was %v", s, got, err, v)
	}
}

func TestReadAsItWas(t *testing.T) {
	checkRead(t, hall())
	checkRead(t, most())
	checkRead(t, api.Venue{Seats: []api.Seat{{}}, Gap: 1})
	checkRead(t, api.Venue{Seats: []api.Seat{{Row: 999, X: -1 << 20, Y: 1 << 20, Kind: api.Wheel}}, Gap: 1 << 20, Radius: 1})
}

// TestAllSmallVenues goes through all kinds and kills of four seats, with few
// and many poles.
func TestAllSmallVenues(t *testing.T) {
	poles := []api.Pole{{X: 3, Y: -1, R: 2}, {X: -3, R: 1}, {X: 3, Y: -1, R: 2}, {R: 1 << 20}}
	for n := range 4 * 81 * 16 {
		v := api.Venue{Gap: 1 + n%3, Radius: n % 4, Poles: poles[:n%4+n%2]}
		kinds, killed := n/4%81, n/(4*81)
		for i := range 4 {
			v.Seats = append(v.Seats, api.Seat{Row: i / 2 * 5, X: i%2 - 1, Y: -i, Kind: kinds % 3})
			kinds /= 3
			if killed>>i&1 == 1 {
				v.Kills = append(v.Kills, i)
			}
		}
		checkRead(t, v)
	}
}

// TestVenuesByChance draws venues with numbers at the edges and within.
func TestVenuesByChance(t *testing.T) {
	r := rand.New(rand.NewSource(5))
	number := func(least, last int) int {
		l := []int{least, last, min(least+r.Intn(9), last), least + r.Intn(last-least+1)}
		return l[r.Intn(len(l))]
	}
	coordinate := func() int { return number(-1<<20, 1<<20) }
	for range 2000 {
		v := api.Venue{Gap: number(1, 1<<20), Radius: number(0, 1<<20)}
		for range 1 + r.Intn(20) {
			s := api.Seat{Row: number(0, 999), X: coordinate(), Y: coordinate(), Kind: r.Intn(3)}
			if !slices.ContainsFunc(v.Seats, func(o api.Seat) bool { return o.Row == s.Row && o.X == s.X }) {
				v.Seats = append(v.Seats, s)
			}
		}
		for range r.Intn(6) {
			v.Kills = append(v.Kills, r.Intn(len(v.Seats)))
			v.Poles = append(v.Poles, api.Pole{X: coordinate(), Y: coordinate(), R: number(1, 1<<20)})
		}
		normal, ok := venue.Norm(v)
		if !ok {
			t.Fatalf("%v may not be", v)
		}
		checkRead(t, normal)
		if got, want := print.Map(normal, nil), mapped(normal, nil); got != want {
			t.Fatalf("Map(%v): %q, want %q", normal, got, want)
		}
	}
}

// TestOneTextAVenue prints whatever is read of texts that tell one venue in
// other ways: all are the same text then.
func TestOneTextAVenue(t *testing.T) {
	want, _ := print.Venue(hall())
	lines := strings.Split(strings.TrimSuffix(want, "\n"), "\n")
	r := rand.New(rand.NewSource(7))
	for range 200 {
		told := slices.Clone(lines[:len(lines)-3]) // poles stay in their order
		r.Shuffle(len(told), func(i, j int) { told[i], told[j] = told[j], told[i] })
		told = append(told, lines[len(lines)-3:]...)
		s := strings.ReplaceAll(strings.Join(told, " # told\n\n"), " ", "\t ")
		v, err := parse.Venue(s)
		if err != nil {
			t.Fatal(s, err)
		}
		if got, _ := print.Venue(v); got != want {
			t.Fatalf("%q is printed as %q, want %q", s, got, want)
		}
	}
}

func FuzzRead(f *testing.F) {
	f.Add("gap 5\nseat 0 -5 1\nwheel 0 0 1 # w\nkill 0 -5\nradius 3\npole 1 2 3")
	f.Fuzz(func(t *testing.T, s string) {
		v, err := parse.Venue(s)
		if err != nil {
			if s, code := print.Venue(v); s != "" || code != api.ErrArg {
				t.Fatalf("no venue is printed as %q, %d", s, code)
			}
			return
		}
		checkRead(t, v)
		if got, want := print.Map(v, nil), mapped(v, nil); got != want {
			t.Fatalf("Map(%v): %q, want %q", v, got, want)
		}
	})
}
