package run_test

import (
	"math/rand"
	"slices"
	"testing"

	"parterre/api"
	"parterre/run"
	"parterre/venue"
)

// Promise 7.2: parties sit together. What is answered is held against a second
// reading of the chapter, which asks of every piece of seats whether it is one.

// together tells whether those seats are usable ones of one row of v, each at
// most Gap behind the one ahead of it, none left out between them.
func together(v api.Venue, usable []bool, seats []int) bool {
	for i, a := range seats {
		if a < 0 || a >= len(v.Seats) || a >= len(usable) || !usable[a] {
			return false
		}
		if i == 0 {
			continue
		}
		ahead := v.Seats[seats[i-1]]
		if a != seats[i-1]+1 || v.Seats[a].Row != ahead.Row || v.Seats[a].X > ahead.X+v.Gap {
			return false
		}
	}
	return len(seats) > 0
}

// piece is the numbers from first to last.
func piece(first, last int) []int {
	var l []int
	for a := first; a <= last; a++ {
		l = append(l, a)
	}
	return l
}

// longest is all pieces of v that sit together and do so no longer with a seat
// more at either end.
func longest(v api.Venue, usable []bool) [][]int {
	var l [][]int
	for first := range v.Seats {
		for last := first; last < len(v.Seats); last++ {
			if together(v, usable, piece(first, last)) &&
				!together(v, usable, piece(first-1, last)) &&
				!together(v, usable, piece(first, last+1)) {
				l = append(l, piece(first, last))
			}
		}
	}
	return l
}

// checkVenue holds all of run, of v and those marks, against together.
func checkVenue(t *testing.T, v api.Venue, usable []bool) {
	t.Helper()
	checkRuns(t, v, usable, longest(v, usable)...)
	for a := -1; a <= len(v.Seats); a++ {
		if got, want := run.Next(v, a), together(v, all(len(v.Seats)), []int{a, a + 1}); got != want {
			t.Errorf("Next of %v, %d is %v", v, a, got)
		}
		long := 0
		for size := 1; size <= len(v.Seats)+1; size++ {
			if seats := piece(a, a+size-1); together(v, usable, seats) {
				long = size
				checkOf(t, v, usable, a, size, seats...)
			} else {
				checkOf(t, v, usable, a, size)
			}
		}
		if got := run.Long(v, usable, a); got != long {
			t.Errorf("Long of %v, %v, %d is %d, want %d", v, usable, a, got, long)
		}
	}
}

// marks is the first n digits of set, as marks.
func marks(set, n int) []bool {
	l := make([]bool, n)
	for i := range l {
		l[i] = set>>i&1 == 1
	}
	return l
}

// TestAllSmallVenues goes through all venues of up to five seats whose steps
// are below the gap, at it, beyond it or to another row, with all marks of
// their seats, and some that are missing or too many.
func TestAllSmallVenues(t *testing.T) {
	steps := []api.Seat{{X: 1}, {X: 2}, {X: 3}, {Row: 1, X: -1}}
	var from func(v api.Venue)
	from = func(v api.Venue) {
		n := len(v.Seats)
		if !venue.May(v) {
			t.Fatalf("%v may not be", v)
		}
		for set := range 1 << n {
			checkVenue(t, v, marks(set, n))
		}
		for short := range n {
			checkVenue(t, v, all(short))
		}
		checkVenue(t, v, all(n+2))
		if n == 5 {
			return
		}
		for _, s := range steps {
			behind := v.Seats[n-1]
			behind.Row, behind.X = behind.Row+s.Row, behind.X+s.X
			u := v
			u.Seats = append(slices.Clone(v.Seats), behind)
			from(u)
		}
	}
	from(api.Venue{Seats: []api.Seat{{Row: 5, X: -2}}, Gap: 2})
}

// drawn is a venue that may be, of few rows, many of its steps near its gap.
func drawn(r *rand.Rand) api.Venue {
	v := api.Venue{Gap: []int{1, 2, 5, 300, most - 1, most}[r.Intn(6)]}
	s := api.Seat{Row: r.Intn(900), X: -most + r.Intn(3)}
	for range 1 + r.Intn(30) {
		s.Y, s.Kind = r.Intn(2*most+1)-most, r.Intn(3)
		v.Seats = append(v.Seats, s)
		s.X += max(1, v.Gap+r.Intn(4)-2-r.Intn(2)*r.Intn(v.Gap))
		if s.X > most || r.Intn(9) == 0 {
			s.Row, s.X = s.Row+1+r.Intn(3), -most+r.Intn(2*most)
		}
	}
	return v
}

func TestVenuesByChance(t *testing.T) {
	r := rand.New(rand.NewSource(7))
	for range 400 {
		v := drawn(r)
		if !venue.May(v) {
			t.Fatalf("%v may not be", v)
		}
		n := len(v.Seats)
		checkVenue(t, v, all(n))
		for range 5 {
			checkVenue(t, v, marks(r.Int()|r.Int(), max(0, n+r.Intn(7)-4)))
		}
	}
}

// TestRunsAreAllOfTheSeats: each usable seat sits in one run, at its place.
func TestRunsAreAllOfTheSeats(t *testing.T) {
	r := rand.New(rand.NewSource(72))
	for range 300 {
		v := drawn(r)
		usable := marks(r.Int()|r.Int(), len(v.Seats))
		var got, want []int
		for _, l := range run.Runs(v, usable) {
			got = append(got, l...)
			checkOf(t, v, usable, l[0], len(l), l...)
			checkOf(t, v, usable, l[0], len(l)+1)
		}
		for a, is := range usable {
			if is {
				want = append(want, a)
			}
		}
		if !slices.Equal(got, want) {
			t.Errorf("Runs of %v, %v has %v", v, usable, got)
		}
	}
}

// Rules 2 and 3 of DOC.md.

func TestNothingIsChangedOrShared(t *testing.T) {
	v, usable := hall(), but(3)
	want := [][]int{{0, 1, 2}, {4, 5}, {6}}
	runs := run.Runs(v, usable)
	seats, _ := run.Of(v, usable, 0, 3)
	for i, l := range runs {
		_ = append(l, 77)
		for _, behind := range runs[i+1:] {
			if slices.Contains(behind, 77) {
				t.Fatalf("the runs share what is behind run %d", i)
			}
		}
		for k := range l {
			l[k] = 78
		}
	}
	if !slices.Equal(seats, []int{0, 1, 2}) {
		t.Error("Of and Runs share their seats")
	}
	clear(seats)
	if !venue.Same(v, hall()) || !slices.Equal(usable, but(3)) {
		t.Error("what was handed in was changed")
	}
	checkRuns(t, v, usable, want...)
	checkOf(t, v, usable, 0, 3, 0, 1, 2)

	// What was handed in is not kept: it is other, and so are the answers.
	v.Seats[2].X, usable[5] = 0, false
	checkRuns(t, v, usable, []int{0, 1, 2}, []int{4}, []int{6})
	v.Seats[1].X = -3
	checkRuns(t, v, usable, []int{0, 1, 2}, []int{4}, []int{6})
	v.Seats[1].X = -4
	checkRuns(t, v, usable, []int{0, 1}, []int{2}, []int{4}, []int{6})
}

func FuzzRuns(f *testing.F) {
	f.Add(2, 0, 0, 2, 5, []byte{1, 1, 1})
	f.Add(most, -most, 0, most, 9, []byte{1, 0, 1, 1})
	f.Add(-1, 0, 1, 2, 3, []byte{})
	f.Fuzz(func(t *testing.T, gap, x, y, z, row int, set []byte) {
		v := api.Venue{Seats: []api.Seat{{X: x}, {X: y}, {X: z}, {Row: row, X: z}}, Gap: gap}
		usable := make([]bool, len(set))
		for i, b := range set {
			usable[i] = b&1 == 1
		}
		if venue.May(v) {
			checkVenue(t, v, usable)
			return
		}
		checkRuns(t, v, usable)
		for _, n := range []int{gap, x, y, z, row, 0, 1, 2, 3} {
			checkLong(t, v, usable, n, 0)
			if run.Next(v, n) {
				t.Errorf("Next of %v, %d", v, n)
			}
		}
	})
}
