package party_test

import (
	"fmt"
	"math"
	"slices"
	"testing"

	"parterre/api"
	"parterre/party"
)

// told is l in words, without its parties if they are many.
func told(l []api.Party) string {
	if len(l) > 6 {
		return fmt.Sprintf("%d parties", len(l))
	}
	return fmt.Sprint(l)
}

// farOff are numbers that neither a Size nor Wheels may be.
var farOff = []int{
	math.MinInt, math.MinInt + 1, math.MinInt + 2, -1 << 62, -1 << 32, -9, -8, -2, -1,
	api.MaxSize + 1, 1 << 8, 1<<8 + 2, 1 << 16, 1<<32 + 1, 1<<32 + 2, 1 << 62, math.MaxInt - 1, math.MaxInt,
}

// Promise 10.1.

func TestMay(t *testing.T) {
	most := []int{0: -1, 1: 0, 2: 1, 3: 1, 4: 2, 5: 2, 6: 2, 7: 2, 8: 2, 9: -1} // wheelchairs of each Size
	for size, m := range most {
		for wheels := range 10 {
			p := api.Party{Size: size, Wheels: wheels}
			if party.May(p) != (wheels <= m) {
				t.Errorf("May of %v is %v", p, party.May(p))
			}
		}
	}
}

func TestMayOfWhatIsFarOff(t *testing.T) {
	check := func(size, wheels int) {
		t.Helper()
		if p := (api.Party{Size: size, Wheels: wheels}); party.May(p) || party.All([]api.Party{p}) {
			t.Errorf("May of %v", p)
		}
	}
	for _, a := range farOff {
		for k := range api.MaxSize + 2 {
			check(a, k)
			check(k, a)
		}
		for _, b := range farOff {
			check(a, b)
		}
	}
}

func TestAll(t *testing.T) {
	good, bad := api.Party{Size: 4, Wheels: 2}, api.Party{Size: 3, Wheels: 2}
	for _, x := range []struct {
		l   []api.Party
		all bool
	}{
		{nil, true},
		{[]api.Party{}, true},
		{[]api.Party{good}, true},
		{[]api.Party{good, good}, true},
		{[]api.Party{{}}, false},
		{[]api.Party{bad}, false},
		{[]api.Party{bad, good}, false},
		{[]api.Party{good, bad}, false},
		{[]api.Party{good, bad, good}, false},
		{[]api.Party{{Size: 1}, {Size: 8}, {Size: 2, Wheels: 1}, {Size: 8, Wheels: 2}}, true},
		{slices.Repeat([]api.Party{good}, api.MaxParties-1), true},
		{slices.Repeat([]api.Party{good}, api.MaxParties), true},
		{slices.Repeat([]api.Party{good}, api.MaxParties+1), false},
		{slices.Repeat([]api.Party{good}, 2*api.MaxParties), false},
		{slices.Repeat([]api.Party{good}, 1<<16), false},
		{slices.Repeat([]api.Party{bad}, api.MaxParties+1), false},
	} {
		if all := party.All(x.l); all != x.all {
			t.Errorf("All of %s is %v", told(x.l), all)
		}
	}
}

func TestAllFindsTheOne(t *testing.T) {
	l := slices.Repeat([]api.Party{{Size: 1}}, api.MaxParties)
	for i := range l {
		for _, p := range []api.Party{{}, {Size: 1, Wheels: 1}, {Size: 9}, {Size: 1, Wheels: -1}} {
			l[i] = p
			if party.All(l) || party.Sum(l) != 0 {
				t.Fatalf("All with %v at %d", p, i)
			}
		}
		l[i] = api.Party{Size: 1}
	}
	if !party.All(l) || party.Sum(l) != api.MaxParties {
		t.Errorf("All of %s is %v, Sum %d", told(l), party.All(l), party.Sum(l))
	}
}

func TestSum(t *testing.T) {
	for _, x := range []struct {
		l   []api.Party
		sum int
	}{
		{nil, 0},
		{[]api.Party{}, 0},
		{[]api.Party{{Size: 1}}, 1},
		{[]api.Party{{Size: 8}}, 8},
		{[]api.Party{{Size: 4, Wheels: 2}}, 4}, // who comes in a wheelchair is a person of Size
		{[]api.Party{{Size: 2, Wheels: 1}, {Size: 3}, {Size: 2, Wheels: 1}}, 7},
		{[]api.Party{{Size: 0}}, 0},
		{[]api.Party{{Size: 9}}, 0},
		{[]api.Party{{Size: -1}}, 0},
		{[]api.Party{{Size: 3}, {Size: 0}}, 0},
		{[]api.Party{{Size: 3}, {Size: 1, Wheels: 1}}, 0},
		{[]api.Party{{Size: 1, Wheels: 1}, {Size: 3}}, 0},
		{[]api.Party{{Size: 3}, {Size: -1}, {Size: 3}}, 0},
		{[]api.Party{{Size: math.MaxInt}, {Size: 3}}, 0},
		{slices.Repeat([]api.Party{{Size: 8}}, api.MaxParties), 8 * api.MaxParties},
		{slices.Repeat([]api.Party{{Size: 8}}, api.MaxParties+1), 0},
	} {
		if sum := party.Sum(x.l); sum != x.sum {
			t.Errorf("Sum of %s is %d, want %d", told(x.l), sum, x.sum)
		}
	}
}

func TestSame(t *testing.T) {
	a := []api.Party{{Size: 2, Wheels: 1}, {Size: 3}}
	for _, x := range []struct {
		a, b []api.Party
		same bool
	}{
		{nil, nil, true},
		{nil, []api.Party{}, true},
		{a, a, true},
		{a, []api.Party{{Size: 2, Wheels: 1}, {Size: 3}}, true},
		{a, nil, false},
		{a, a[:1], false},
		{a, a[1:], false},
		{a, []api.Party{{Size: 2, Wheels: 1}, {Size: 3}, {}}, false},
		{a, []api.Party{{Size: 3}, {Size: 2, Wheels: 1}}, false}, // in another order
		{a, []api.Party{{Size: 2}, {Size: 3}}, false},
		{a, []api.Party{{Size: 3, Wheels: 1}, {Size: 3}}, false},
		{a, []api.Party{{Size: 2, Wheels: 1}, {Size: 3, Wheels: 1}}, false},
		{a, []api.Party{{Size: 2, Wheels: 1}, {Size: 4}}, false},
		{[]api.Party{{}}, nil, false},
		// parties that may not be are held against each other, too
		{[]api.Party{{Size: -1, Wheels: math.MaxInt}}, []api.Party{{Size: -1, Wheels: math.MaxInt}}, true},
		{[]api.Party{{Size: -1}}, []api.Party{{Size: -2}}, false},
		{[]api.Party{{Size: 9}}, []api.Party{{}}, false},
		{slices.Repeat(a, api.MaxParties), slices.Repeat(a, api.MaxParties), true},
		{slices.Repeat(a, api.MaxParties), slices.Repeat(a, api.MaxParties-1), false},
	} {
		if party.Same(x.a, x.b) != x.same || party.Same(x.b, x.a) != x.same {
			t.Errorf("Same of %s, %s is not %v", told(x.a), told(x.b), x.same)
		}
	}
}

// Rules 2 and 3 of DOC.md.

func TestNothingIsChangedOrKept(t *testing.T) {
	l := append([]api.Party{{Size: 2, Wheels: 1}, {Size: 3}}, api.Party{Size: 7})[:2]
	for range 2 {
		if !party.All(l) || party.Sum(l) != 5 || !party.Same(l, l[:2:2]) {
			t.Errorf("of %s: All %v, Sum %d", told(l), party.All(l), party.Sum(l))
		}
	}
	if !slices.Equal(l[:3], []api.Party{{Size: 2, Wheels: 1}, {Size: 3}, {Size: 7}}) {
		t.Errorf("what was handed in is %v", l[:3])
	}
	l[1].Size = 8
	if !party.All(l) || party.Sum(l) != 10 {
		t.Errorf("of %s, then: All %v, Sum %d", told(l), party.All(l), party.Sum(l))
	}
	l[0].Size = 1
	if party.All(l) || party.Sum(l) != 0 {
		t.Errorf("of %s, then: All %v, Sum %d", told(l), party.All(l), party.Sum(l))
	}
}
