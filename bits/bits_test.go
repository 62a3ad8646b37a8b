package bits_test

import (
	"fmt"
	"math"
	"slices"
	"testing"

	"parterre/api"
	"parterre/bits"
)

const full = math.MaxUint64

// noNumbers are numbers that no set of at most MaxSeats numbers has a word for.
var noNumbers = []int{math.MinInt, math.MinInt + 1, -1 << 32, -4096, -65, -64, -63, -2, -1, api.MaxSeats, api.MaxSeats + 63, 1 << 32, 1 << 62, math.MaxInt - 1, math.MaxInt}

// told is s in words, without its words if they are many.
func told(s bits.Set) string {
	if len(s) > 6 {
		return fmt.Sprintf("a set of %d words", len(s))
	}
	return fmt.Sprintf("%x", []uint64(s))
}

// want holds got against want.
func want(t *testing.T, name string, got, want bits.Set) {
	t.Helper()
	if !slices.Equal(got, want) {
		t.Errorf("%s is %s, want %s", name, told(got), told(want))
	}
}

// Promise 9.1.

func TestOf(t *testing.T) {
	for _, x := range []struct {
		l []int
		n int
		s bits.Set
	}{
		{nil, 0, nil},
		{[]int{}, 0, nil},
		{nil, 1, bits.Set{0}},
		{nil, 63, bits.Set{0}},
		{nil, 64, bits.Set{0}},
		{nil, 65, bits.Set{0, 0}},
		{nil, 128, bits.Set{0, 0}},
		{nil, 129, bits.Set{0, 0, 0}},
		{[]int{0}, 1, bits.Set{1}},
		{[]int{0, 2}, 3, bits.Set{5}},
		{[]int{2, 0}, 3, bits.Set{5}},
		{[]int{2, 0, 2, 2, 0}, 3, bits.Set{5}},
		{[]int{62}, 63, bits.Set{1 << 62}},
		{[]int{63}, 64, bits.Set{1 << 63}},
		{[]int{63}, 65, bits.Set{1 << 63, 0}},
		{[]int{64}, 65, bits.Set{0, 1}},
		{[]int{127, 0}, 128, bits.Set{1, 1 << 63}},
		{[]int{128, 63, 64, 1}, 130, bits.Set{1<<63 | 2, 1, 1}},
	} {
		s, code := bits.Of(x.l, x.n)
		if code != api.OK {
			t.Errorf("Of %v, %d is error %d", x.l, x.n, code)
		}
		want(t, fmt.Sprintf("Of %v, %d", x.l, x.n), s, x.s)
	}
}

func TestOfTheMost(t *testing.T) {
	s, code := bits.Of(nil, api.MaxSeats)
	if code != api.OK || len(s) != 64 || bits.Count(s) != 0 {
		t.Errorf("Of nothing and the most: %s, %d", told(s), code)
	}
	l := make([]int, api.MaxSeats)
	for i := range l {
		l[i] = i
	}
	for range 2 {
		s, code = bits.Of(l, api.MaxSeats)
		if code != api.OK || !slices.Equal(s, slices.Repeat(bits.Set{full}, 64)) {
			t.Errorf("Of all: %s, %d", told(s), code)
		}
		slices.Reverse(l)
	}
	s, code = bits.Of(slices.Repeat(l, 3), api.MaxSeats)
	if code != api.OK || bits.Count(s) != api.MaxSeats || !slices.Equal(bits.List(s), l) {
		t.Errorf("Of all, thrice: %s, %d", told(s), code)
	}
}

func TestOfWhatIsNone(t *testing.T) {
	check := func(l []int, n int) {
		t.Helper()
		if s, code := bits.Of(l, n); len(s) > 0 || code != api.ErrArg {
			t.Errorf("Of %v, %d is %s, %d", l, n, told(s), code)
		}
	}
	for _, n := range []int{math.MinInt, -1 << 32, -64, -1, api.MaxSeats + 1, 1 << 32, math.MaxInt} {
		check(nil, n)
		check([]int{0}, n)
		check([]int{n}, n)
		check([]int{n - 1}, n)
	}
	for _, n := range []int{0, 1, 2, 63, 64, 65, 128, api.MaxSeats - 1, api.MaxSeats} {
		for _, k := range append([]int{n, n + 1}, noNumbers...) {
			check([]int{k}, n)
			if n > 0 { // wherever it stands
				check([]int{k, 0}, n)
				check([]int{0, n - 1, k}, n)
				check([]int{0, k, n - 1}, n)
			}
		}
	}
}

func TestHas(t *testing.T) {
	s := bits.Set{5, 1<<63 | 1, 0, 2}
	for k := range 300 {
		if bits.Has(s, k) != slices.Contains([]int{0, 2, 64, 127, 193}, k) {
			t.Errorf("Has of %d is %v", k, bits.Has(s, k))
		}
	}
	// With all bits set, so that a number that is taken for another shows.
	all := slices.Repeat(bits.Set{full}, 64)
	for _, k := range noNumbers {
		if bits.Has(all, k) || bits.Has(all[:1], k) || bits.Has(nil, k) || bits.Has(bits.Set{}, k) {
			t.Errorf("Has of %d", k)
		}
	}
	for n := 1; n <= 64; n++ {
		if !bits.Has(all[:n], 64*n-1) || bits.Has(all[:n], 64*n) {
			t.Errorf("Has at the end of %d words", n)
		}
	}
}

func TestAddAndLess(t *testing.T) {
	s := bits.Set{5, 1 << 63}
	for _, x := range []struct {
		k         int
		add, less bits.Set
	}{
		{0, s, bits.Set{4, 1 << 63}},
		{1, bits.Set{7, 1 << 63}, s},
		{2, s, bits.Set{1, 1 << 63}},
		{63, bits.Set{1<<63 | 5, 1 << 63}, s},
		{64, bits.Set{5, 1<<63 | 1}, s},
		{126, bits.Set{5, 3 << 62}, s},
		{127, s, bits.Set{5, 0}},
		{128, s, s},
		{191, s, s},
	} {
		want(t, fmt.Sprint("Add of ", x.k), bits.Add(s, x.k), x.add)
		want(t, fmt.Sprint("Less of ", x.k), bits.Less(s, x.k), x.less)
	}
}

func TestAddAndLessWithoutAWord(t *testing.T) {
	for _, s := range []bits.Set{nil, {}, {0}, {full}, {0, 0}, {full, full}, make(bits.Set, 64), slices.Repeat(bits.Set{full}, 64)} {
		for _, k := range append([]int{64 * len(s), 64*len(s) + 1}, noNumbers...) {
			want(t, fmt.Sprintf("Add of %s, %d", told(s), k), bits.Add(s, k), s)
			want(t, fmt.Sprintf("Less of %s, %d", told(s), k), bits.Less(s, k), s)
		}
	}
}

func TestOrAndNot(t *testing.T) {
	a, b := bits.Set{5, 1 << 63}, bits.Set{6, 3, 9}
	for _, x := range []struct {
		a, b         bits.Set
		or, and, not bits.Set
	}{
		{a, b, bits.Set{7, 1<<63 | 3, 9}, bits.Set{4, 0, 0}, bits.Set{1, 1 << 63}},
		{b, a, bits.Set{7, 1<<63 | 3, 9}, bits.Set{4, 0, 0}, bits.Set{2, 3, 9}},
		{a, a, a, a, bits.Set{0, 0}},
		{a, nil, a, bits.Set{0, 0}, a},
		{nil, a, a, bits.Set{0, 0}, nil},
		{nil, nil, nil, nil, nil},
		{bits.Set{}, nil, nil, nil, nil},
		{bits.Set{0}, nil, bits.Set{0}, bits.Set{0}, bits.Set{0}},
		{bits.Set{full, full}, bits.Set{full}, bits.Set{full, full}, bits.Set{full, 0}, bits.Set{0, full}},
		{bits.Set{full}, bits.Set{full, full}, bits.Set{full, full}, bits.Set{full, 0}, bits.Set{0}},
		{bits.Set{0, 0, 0}, bits.Set{full}, bits.Set{full, 0, 0}, bits.Set{0, 0, 0}, bits.Set{0, 0, 0}},
		{bits.Set{1}, bits.Set{0, 0, 0}, bits.Set{1, 0, 0}, bits.Set{0, 0, 0}, bits.Set{1}},
	} {
		want(t, fmt.Sprintf("Or of %s, %s", told(x.a), told(x.b)), bits.Or(x.a, x.b), x.or)
		want(t, fmt.Sprintf("And of %s, %s", told(x.a), told(x.b)), bits.And(x.a, x.b), x.and)
		want(t, fmt.Sprintf("Not of %s, %s", told(x.a), told(x.b)), bits.Not(x.a, x.b), x.not)
	}
}

func TestCountAndList(t *testing.T) {
	for _, x := range []struct {
		s bits.Set
		l []int
	}{
		{nil, nil},
		{bits.Set{}, nil},
		{bits.Set{0}, nil},
		{make(bits.Set, 64), nil},
		{bits.Set{1}, []int{0}},
		{bits.Set{5}, []int{0, 2}}, // the document's example
		{bits.Set{1 << 63}, []int{63}},
		{bits.Set{0, 1}, []int{64}},
		{bits.Set{1<<63 | 1, 0, 1 << 63, 6}, []int{0, 63, 191, 193, 194}},
	} {
		if l := bits.List(x.s); !slices.Equal(l, x.l) {
			t.Errorf("List of %s is %v, want %v", told(x.s), l, x.l)
		}
		if n := bits.Count(x.s); n != len(x.l) {
			t.Errorf("Count of %s is %d, want %d", told(x.s), n, len(x.l))
		}
	}
	// More words than a venue's seats have.
	s := slices.Repeat(bits.Set{full}, 200)
	if n := bits.Count(s); n != 12800 {
		t.Errorf("Count of %s is %d", told(s), n)
	}
	for i, k := range bits.List(s) {
		if i != k {
			t.Fatalf("List of %s has %d at %d", told(s), k, i)
		}
	}
}

// Rules 2 and 3 of DOC.md.

func TestNothingIsChangedOrShared(t *testing.T) {
	// room behind them, which an answer could be laid into
	a, b, l := append(bits.Set{5, 1 << 63}, 77)[:2], append(bits.Set{6, 3, 9}, 77)[:3], append([]int{0, 9, 64}, 77)[:3]
	of := func() bits.Set { s, _ := bits.Of(l, 65); return s }
	calls := []func() bits.Set{
		of,
		func() bits.Set { return bits.Add(a, 1) },
		func() bits.Set { return bits.Add(a, 0) },
		func() bits.Set { return bits.Add(a, 128) },
		func() bits.Set { return bits.Add(a, -1) },
		func() bits.Set { return bits.Less(a, 0) },
		func() bits.Set { return bits.Less(a, 1) },
		func() bits.Set { return bits.Less(a, 128) },
		func() bits.Set { return bits.Less(a, -1) },
		func() bits.Set { return bits.Or(a, b) },
		func() bits.Set { return bits.Or(b, a) },
		func() bits.Set { return bits.Or(a, a) },
		func() bits.Set { return bits.Or(a, nil) },
		func() bits.Set { return bits.Or(nil, b) },
		func() bits.Set { return bits.And(a, b) },
		func() bits.Set { return bits.And(b, b) },
		func() bits.Set { return bits.Not(a, b) },
		func() bits.Set { return bits.Not(b, a) },
		func() bits.Set { return bits.Not(a, nil) },
		func() bits.Set { return bits.Not(a, bits.Set{}) },
	}
	for i, call := range calls {
		first := slices.Clone(call())
		got := call()
		clear(append(got, 78))
		clear(got)
		want(t, fmt.Sprintf("call %d, once more,", i), call(), first)
	}
	clear(append(bits.List(a), 78))
	want(t, "a", a[:3], bits.Set{5, 1 << 63, 77})
	want(t, "b", b[:4], bits.Set{6, 3, 9, 77})
	if !slices.Equal(l[:4], []int{0, 9, 64, 77}) {
		t.Errorf("what was handed in is %v", l[:4])
	}

	// What was handed in is not kept: it is other, and so are the answers.
	s := of()
	l[1] = 10
	want(t, "Of, then", s, bits.Set{1<<9 | 1, 1})
	want(t, "Of, now", of(), bits.Set{1<<10 | 1, 1})
}
