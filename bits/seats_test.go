package bits_test

import (
	"math/rand"
	"slices"
	"testing"

	"parterre/api"
	"parterre/bits"
)

// Promise 9.2: many seats at once. What is answered is held against a second
// reading of the chapter, in which a set is a row of marks, one a number.

// marks is s as a row of marks.
func marks(s bits.Set) []bool {
	var l []bool
	for _, w := range s {
		for range 64 {
			l = append(l, w%2 == 1)
			w /= 2
		}
	}
	return l
}

// mark is mark k of l, where those that l has not are false.
func mark(l []bool, k int) bool { return k < len(l) && l[k] }

// checkMarks holds got against a row of marks.
func checkMarks(t *testing.T, name string, got bits.Set, want []bool) {
	t.Helper()
	if !slices.Equal(marks(got), want) {
		t.Fatalf("%s is %s", name, told(got))
	}
}

// checkTwo holds what is answered of a and b against their marks.
func checkTwo(t *testing.T, a, b bits.Set) {
	t.Helper()
	x, y := marks(a), marks(b)
	or, and, not := make([]bool, max(len(x), len(y))), make([]bool, max(len(x), len(y))), make([]bool, len(x))
	for k := range or {
		or[k], and[k] = mark(x, k) || mark(y, k), mark(x, k) && mark(y, k)
	}
	for k := range not {
		not[k] = x[k] && !mark(y, k)
	}
	checkMarks(t, "Or", bits.Or(a, b), or)
	checkMarks(t, "And", bits.And(a, b), and)
	checkMarks(t, "Not", bits.Not(a, b), not)
}

// checkOne holds what is answered of s and of s and k against its marks.
func checkOne(t *testing.T, s bits.Set, k int) {
	t.Helper()
	l := marks(s)
	var list []int
	for i, is := range l {
		if is {
			list = append(list, i)
		}
	}
	if got := bits.List(s); !slices.Equal(got, list) || bits.Count(s) != len(list) {
		t.Fatalf("List of %s has %d, Count %d, want %d", told(s), len(got), bits.Count(s), len(list))
	}
	if got := bits.Has(s, k); got != (k >= 0 && mark(l, k)) {
		t.Fatalf("Has of %s, %d is %v", told(s), k, got)
	}
	with, less := slices.Clone(l), slices.Clone(l)
	if k >= 0 && k < len(l) {
		with[k], less[k] = true, false
	}
	checkMarks(t, "Add", bits.Add(s, k), with)
	checkMarks(t, "Less", bits.Less(s, k), less)
	checkOf(t, list, 64*len(s), s)
}

// checkOf wants s of l and n, if n may be.
func checkOf(t *testing.T, l []int, n int, s bits.Set) {
	t.Helper()
	got, code := bits.Of(l, n)
	if n > api.MaxSeats {
		s = nil
	}
	if (code == api.OK) != (n <= api.MaxSeats) || !slices.Equal(got, s) {
		t.Fatalf("Of %d numbers below %d is %s, %d", len(l), n, told(got), code)
	}
}

// TestAllSmallSets goes through all sets, of up to two words, of some numbers
// at the edges of words, and all pairs of them.
func TestAllSmallSets(t *testing.T) {
	at := []int{0, 1, 63, 64, 126, 127}
	var sets []bits.Set
	for _, words := range []int{0, 1, 2} {
		for chosen := range 1 << (3 * words) {
			s := make(bits.Set, words)
			for i, k := range at[:3*words] {
				s[k/64] |= uint64(chosen>>i&1) << (k % 64)
			}
			sets = append(sets, s)
		}
	}
	for _, a := range sets {
		for k := -130; k < 200; k++ {
			checkOne(t, a, k)
		}
		for _, b := range sets {
			checkTwo(t, a, b)
		}
	}
}

// TestOfAllLengths has, for every number of seats that may be, all seats, none
// and each third.
func TestOfAllLengths(t *testing.T) {
	var all, third []int
	for n := 0; n <= api.MaxSeats; n++ {
		for _, l := range [][]int{nil, third, all} {
			s, code := bits.Of(l, n)
			if code != api.OK || len(s) != n/64+min(n%64, 1) || bits.Count(s) != len(l) {
				t.Fatalf("Of %d numbers below %d is %s, %d", len(l), n, told(s), code)
			}
			if n%61 == 0 && !slices.Equal(bits.List(s), l) {
				t.Fatalf("Of %d numbers below %d has others", len(l), n)
			}
		}
		if len(all) > 0 {
			if s, code := bits.Of(all, n-1); len(s) > 0 || code != api.ErrArg {
				t.Fatalf("Of %d, among others, below %d is %s, %d", n-1, n-1, told(s), code)
			}
		}
		if n%3 == 0 {
			third = append(third, n)
		}
		all = append(all, n)
	}
}

// drawn is a set of up to words words, some of them full or empty.
func drawn(r *rand.Rand, words int) bits.Set {
	s := make(bits.Set, r.Intn(words+1))
	for i := range s {
		s[i] = []uint64{0, full, 1, 1 << 63, r.Uint64(), r.Uint64() & r.Uint64() & r.Uint64()}[r.Intn(6)]
	}
	return s
}

func TestSetsByChance(t *testing.T) {
	r := rand.New(rand.NewSource(9))
	for range 3000 {
		words := []int{1, 2, 5, 64, 70}[r.Intn(5)]
		a, b := drawn(r, words), drawn(r, words)
		checkTwo(t, a, b)
		checkOne(t, a, r.Intn(64*words+1))
		checkOne(t, b, -r.Intn(200))
	}
}

// TestOneByOne builds a set by Add and takes it down by Less, and holds each
// step against Of.
func TestOneByOne(t *testing.T) {
	r := rand.New(rand.NewSource(92))
	s, _ := bits.Of(nil, 200)
	steps := []bits.Set{s}
	order := r.Perm(200)
	for i, k := range order {
		s = bits.Add(s, k)
		of, _ := bits.Of(order[:i+1], 200)
		want(t, "Add, by and by,", s, of)
		steps = append(steps, s)
	}
	for i := len(order) - 1; i >= 0; i-- {
		s = bits.Less(s, order[i])
		want(t, "Less, by and by,", s, steps[i])
	}
}

func FuzzBits(f *testing.F) {
	f.Add(uint64(5), uint64(0), uint64(6), uint64(1<<63), 2, 2, 64)
	f.Add(uint64(full), uint64(full), uint64(full), uint64(full), 2, 1, -1)
	f.Add(uint64(0), uint64(0), uint64(0), uint64(0), 0, 1, 1<<62)
	f.Fuzz(func(t *testing.T, a, b, c, d uint64, m, n, k int) {
		x, y := bits.Set{a, b}[:uint(m)%3], bits.Set{c, d}[:uint(n)%3]
		checkTwo(t, x, y)
		checkTwo(t, y, x)
		checkOne(t, x, k)
		checkOne(t, y, k)
		s, code := bits.Of([]int{m, k}, n)
		may := n <= api.MaxSeats && 0 <= min(m, k) && max(m, k) < n
		if may != (code == api.OK) || !may && (len(s) > 0 || code != api.ErrArg) {
			t.Fatalf("Of %d, %d below %d is %s, %d", m, k, n, told(s), code)
		}
		if l := bits.List(s); may && !slices.Equal(l, slices.Compact([]int{min(m, k), max(m, k)})) {
			t.Fatalf("Of %d, %d below %d has %v", m, k, n, l)
		}
	})
}
