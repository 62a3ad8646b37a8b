package party_test

import (
	"math"
	"math/big"
	"math/rand"
	"slices"
	"testing"

	"parterre/api"
	"parterre/party"
)

// Promise 10.2: nobody comes alone in a wheelchair. What is answered is held
// against a second reading of the chapter: in numbers of any length, and by
// giving each in a wheelchair someone who sits in none.

// mayBe is May in numbers of any length.
func mayBe(p api.Party) bool {
	size, wheels := big.NewInt(int64(p.Size)), big.NewInt(int64(p.Wheels))
	others := new(big.Int).Sub(size, wheels)
	within := func(n *big.Int, low, high int64) bool {
		return n.Cmp(big.NewInt(low)) >= 0 && n.Cmp(big.NewInt(high)) <= 0
	}
	return within(size, 1, 8) && within(wheels, 0, 2) && wheels.Cmp(others) <= 0
}

// paired tells whether each in a wheelchair gets someone of their own.
func paired(p api.Party) bool {
	persons := make([]bool, p.Size) // whether they are in a wheelchair
	for i := range min(p.Wheels, p.Size) {
		persons[i] = true
	}
	free := 0
	for _, wheelchair := range persons {
		if !wheelchair {
			free++
		}
	}
	for _, wheelchair := range persons {
		if wheelchair {
			free--
		}
	}
	return free >= 0
}

func TestNobodyIsAlone(t *testing.T) {
	if party.May(api.Party{Size: 1, Wheels: 1}) { // the document's example
		t.Error("one comes alone in a wheelchair")
	}
	few := 0
	for size := 1; size <= api.MaxSize; size++ {
		for wheels := 0; wheels <= api.MaxWheels; wheels++ {
			p := api.Party{Size: size, Wheels: wheels}
			if party.May(p) != paired(p) {
				t.Errorf("May of %v is %v", p, party.May(p))
			}
			if party.May(p) {
				few++
			}
		}
	}
	if few != 8+7+5 {
		t.Errorf("%d parties may be", few)
	}
}

func TestMayAllAround(t *testing.T) {
	near := []int{math.MinInt, math.MinInt + 1, math.MinInt + 2, math.MinInt + 3, math.MaxInt - 2, math.MaxInt - 1, math.MaxInt, math.MaxInt / 2, math.MinInt / 2}
	for k := -40; k <= 40; k++ {
		near = append(near, k)
	}
	for e := range 63 {
		near = append(near, 1<<e, 1<<e+1, 1<<e+2, -1<<e, -1<<e+1, -1<<e+2)
	}
	for _, size := range near {
		for _, wheels := range near {
			if p := (api.Party{Size: size, Wheels: wheels}); party.May(p) != mayBe(p) {
				t.Fatalf("May of %v is %v", p, party.May(p))
			}
		}
	}
}

// checkList holds what is answered of l against the second reading.
func checkList(t *testing.T, l []api.Party) {
	t.Helper()
	all, sum := len(l) <= 512, 0
	for _, p := range l {
		if party.May(p) != mayBe(p) {
			t.Fatalf("May of %v is %v", p, party.May(p))
		}
		all = all && mayBe(p)
	}
	if all {
		for _, p := range l {
			sum += p.Size
		}
	}
	if party.All(l) != all || party.Sum(l) != sum {
		t.Fatalf("All of %s is %v, want %v; Sum %d, want %d", told(l), party.All(l), all, party.Sum(l), sum)
	}
}

// checkSame holds Same of a and b against a look at each party.
func checkSame(t *testing.T, a, b []api.Party) {
	t.Helper()
	same := len(a) == len(b)
	for i := 0; same && i < len(a); i++ {
		same = a[i].Size == b[i].Size && a[i].Wheels == b[i].Wheels
	}
	if party.Same(a, b) != same {
		t.Fatalf("Same of %s, %s is %v", told(a), told(b), party.Same(a, b))
	}
}

func TestSmallLists(t *testing.T) {
	var each []api.Party
	for size := -1; size <= 9; size++ {
		for wheels := -1; wheels <= 3; wheels++ {
			each = append(each, api.Party{Size: size, Wheels: wheels})
		}
	}
	lists := [][]api.Party{nil}
	for _, p := range each {
		lists = append(lists, []api.Party{p})
		for _, q := range each {
			lists = append(lists, []api.Party{p, q})
		}
	}
	for i, l := range lists {
		checkList(t, l)
		for _, p := range each {
			checkList(t, append(slices.Clone(l), p))
		}
		for _, k := range []int{0, i, i * 7 % len(lists), len(lists) - 1 - i} {
			checkSame(t, l, lists[k])
		}
	}
}

// drawn is a list of n parties, of which few may not be.
func drawn(r *rand.Rand, n int) []api.Party {
	l := make([]api.Party, n)
	for i := range l {
		l[i] = api.Party{Size: 1 + r.Intn(8), Wheels: r.Intn(3)}
		for r.Intn(2000) > 0 && !mayBe(l[i]) {
			l[i].Size++
		}
	}
	return l
}

func TestDrawnLists(t *testing.T) {
	r := rand.New(rand.NewSource(10))
	for range 3000 {
		l := drawn(r, []int{r.Intn(8), r.Intn(600), 511 + r.Intn(3)}[r.Intn(3)])
		checkList(t, l)
		other := slices.Clone(l)
		checkSame(t, l, other)
		if len(l) > 0 {
			p := &other[r.Intn(len(l))]
			*p = api.Party{Size: p.Size + r.Intn(3) - 1, Wheels: p.Wheels + r.Intn(3) - 1}
			checkList(t, other)
			checkSame(t, l, other)
			checkSame(t, l, l[:r.Intn(len(l))])
		}
	}
}

func FuzzParty(f *testing.F) {
	f.Add(2, 1, 3, 0, 1)
	f.Add(1, 1, 1, 0, 256)
	f.Add(math.MinInt, math.MaxInt, 8, 2, 257)
	f.Fuzz(func(t *testing.T, size, wheels, size2, wheels2, n int) {
		p, q := api.Party{Size: size, Wheels: wheels}, api.Party{Size: size2, Wheels: wheels2}
		l := slices.Repeat([]api.Party{p, q}, n&511)
		checkList(t, []api.Party{p})
		checkList(t, []api.Party{q})
		checkList(t, l)
		checkSame(t, []api.Party{p}, []api.Party{q})
		checkSame(t, l, slices.Repeat([]api.Party{q, p}, n&511))
		checkSame(t, l, slices.Clone(l))
	})
}
